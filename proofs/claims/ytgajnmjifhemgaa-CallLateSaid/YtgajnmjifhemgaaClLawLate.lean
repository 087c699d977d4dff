/-
  The walk of the statement CallLate: those that are late are closed, and no others. Conditions: those that each theorem names.
-/
import Derived.Test.YtgajnmjifhemgaaClWakes
import Derived.Test.YtgajnmjifhemgaaClRefC
namespace Go.Proofs.Ytgajnmjifhemgaa
open Go.RowKit Go.Shelf

theorem filter_at {l : List Cl} {p : Cl → Bool} {j : Nat} {x : Cl} (hx : l[j]? = some x) (hp : p x = true) : (l.filter p)[((l.take j).filter p).length]? = some x := by
  have hj := List.getElem?_eq_some_iff.1 hx
  have e : l = l.take j ++ x :: l.drop (j + 1) := by rw [← hj.2, ← List.drop_eq_getElem_cons hj.1, List.take_append_drop]
  rw [show l.filter p = (l.take j).filter p ++ (x :: l.drop (j + 1)).filter p by rw [← List.filter_append, ← e], List.filter_cons_of_pos hp]
  rw [List.getElem?_append_right (Nat.le_refl _), Nat.sub_self]
  rfl
theorem filter_grow {l : List Cl} {p : Cl → Bool} {j : Nat} {x : Cl} (hx : l[j]? = some x) : (l.take (j + 1)).filter p = (l.take j).filter p ++ (if p x then [x] else []) := by
  have hj := List.getElem?_eq_some_iff.1 hx
  rw [List.take_succ_eq_append_getElem hj.1, hj.2, List.filter_append]
  cases h : p x <;> simp [h]

set_option maxRecDepth 100000 in
set_option maxHeartbeats 4000000 in
theorem callLate_any (c : Cs) (A : Option Addr) (n k : Nat) (now timeout : Int) (w : World) (hr : RdC w w.heap.size A n c.l) (hid : ∀ x ∈ c.l, (Lit.int .i64 x.id).wf = true) : Calls Try.prog 5 #[.agg #[.int .i64 c.ep, .int .i64 c.nx, .slice A n k], .int .i64 now, .int .i64 timeout] w (TruePost w) := by
  have hl := hr.len
  have HR := Lib.hid hr
  have HL := Lib.hid hl
  have B0 := Lib.hid (Below.refl w.heap.size w)
  clear hr
  by_cases h60 : 60 < n
  · have hd : decide ((60 : Int) < (n : Int)) = true := decide_eq_true (by omega)
    clear h60 hl hid
    go_enter Try.func5, Try.ntmps5
    go_upto_region 1 with fail
    refine wp_at (fun V1 hV1 => ?_)
    have aV1 : Below w.heap.size w V1 := by rw [← hV1]; exact (Below.refl _ _).alloc (Nat.le_refl _) _
    have xV1 : Whole V1 w.heap.size 24 #[.int .i64 c.ep, .int .i64 c.nx, .slice A n k] := by rw [← hV1]; exact Whole.new _ _ _
    clear hV1
    have B0_ := Lib.hid (B0.out.trans (aV1.mono B0.out.size))
    clear B0
    have B0 := B0_
    clear B0_
    have X0 := Lib.hid xV1
    clear xV1
    clear aV1
    obtain ⟨c0, c1, c2⟩ := cells3 X0.out
    go_wp2_with fail
    refine (great_any c A n k V1).mono ?_
    rintro e w2 ⟨rfl, b1⟩
    clear c0 c1 c2
    have B0_ := Lib.hid (B0.out.trans (b1.mono B0.out.size))
    have X0_ := Lib.hid (X0.out.under b1)
    clear B0 X0
    have B0 := B0_
    have X0 := X0_
    clear B0_ X0_
    clear b1
    go_wp2_with fail
    refine (wakes_any w2).mono ?_
    rintro e w3 ⟨rfl, b9⟩
    have B0_ := Lib.hid (B0.out.trans (b9.mono B0.out.size))
    have X0_ := Lib.hid (X0.out.under b9)
    clear B0 X0
    have B0 := B0_
    have X0 := X0_
    clear B0_ X0_
    clear b9
    go_wp2_with fail
    go_ret
    exact ⟨rfl, B0.out⟩
  have hd : decide ((60 : Int) < (n : Int)) = false := decide_eq_false (by omega)
  have hn : n ≤ 60 := by omega
  clear h60
  have HRt := Lib.hid (fun W (hb : Below w.heap.size w W) => rright_any c A n k w.heap.size W (HR.out.below hb) hb.size (by omega) hid)
  cases hrc : rightC c with
  | false =>
    rw [hrc] at HRt
    clear hrc hl hid
    go_enter Try.func5, Try.ntmps5
    go_upto_region 1 with fail
    refine wp_at (fun V1 hV1 => ?_)
    have aV1 : Below w.heap.size w V1 := by rw [← hV1]; exact (Below.refl _ _).alloc (Nat.le_refl _) _
    have xV1 : Whole V1 w.heap.size 24 #[.int .i64 c.ep, .int .i64 c.nx, .slice A n k] := by rw [← hV1]; exact Whole.new _ _ _
    clear hV1
    have B0_ := Lib.hid (B0.out.trans (aV1.mono B0.out.size))
    clear B0
    have B0 := B0_
    clear B0_
    have X0 := Lib.hid xV1
    clear xV1
    clear aV1
    obtain ⟨c0, c1, c2⟩ := cells3 X0.out
    go_wp2_with fail
    refine (great_any c A n k V1).mono ?_
    rintro e w2 ⟨rfl, b1⟩
    clear c0 c1 c2
    have B0_ := Lib.hid (B0.out.trans (b1.mono B0.out.size))
    have X0_ := Lib.hid (X0.out.under b1)
    clear B0 X0
    have B0 := B0_
    have X0 := X0_
    clear B0_ X0_
    clear b1
    obtain ⟨c0, c1, c2⟩ := cells3 X0.out
    go_wp2_with fail
    refine (HRt.out w2 B0.out).mono ?_
    rintro e w3 ⟨rfl, b2⟩
    clear c0 c1 c2
    have B0_ := Lib.hid (B0.out.trans (b2.mono B0.out.size))
    have X0_ := Lib.hid (X0.out.under b2)
    clear B0 X0
    have B0 := B0_
    have X0 := X0_
    clear B0_ X0_
    clear b2
    go_wp2_with fail
    refine (wakes_any w3).mono ?_
    rintro e w4 ⟨rfl, b9⟩
    have B0_ := Lib.hid (B0.out.trans (b9.mono B0.out.size))
    have X0_ := Lib.hid (X0.out.under b9)
    clear B0 X0
    have B0 := B0_
    have X0 := X0_
    clear B0_ X0_
    clear b9
    go_wp2_with fail
    go_ret
    exact ⟨rfl, B0.out⟩
  | true =>
  rw [hrc] at HRt
  by_cases m0 : now < 0
  · have e0 : decide (now < 0) = true := decide_eq_true m0
    clear m0 hrc hl hid
    go_enter Try.func5, Try.ntmps5
    go_upto_region 1 with fail
    refine wp_at (fun V1 hV1 => ?_)
    have aV1 : Below w.heap.size w V1 := by rw [← hV1]; exact (Below.refl _ _).alloc (Nat.le_refl _) _
    have xV1 : Whole V1 w.heap.size 24 #[.int .i64 c.ep, .int .i64 c.nx, .slice A n k] := by rw [← hV1]; exact Whole.new _ _ _
    clear hV1
    have B0_ := Lib.hid (B0.out.trans (aV1.mono B0.out.size))
    clear B0
    have B0 := B0_
    clear B0_
    have X0 := Lib.hid xV1
    clear xV1
    clear aV1
    obtain ⟨c0, c1, c2⟩ := cells3 X0.out
    go_wp2_with fail
    refine (great_any c A n k V1).mono ?_
    rintro e w2 ⟨rfl, b1⟩
    clear c0 c1 c2
    have B0_ := Lib.hid (B0.out.trans (b1.mono B0.out.size))
    have X0_ := Lib.hid (X0.out.under b1)
    clear B0 X0
    have B0 := B0_
    have X0 := X0_
    clear B0_ X0_
    clear b1
    obtain ⟨c0, c1, c2⟩ := cells3 X0.out
    go_wp2_with fail
    refine (HRt.out w2 B0.out).mono ?_
    rintro e w3 ⟨rfl, b2⟩
    clear c0 c1 c2
    have B0_ := Lib.hid (B0.out.trans (b2.mono B0.out.size))
    have X0_ := Lib.hid (X0.out.under b2)
    clear B0 X0
    have B0 := B0_
    have X0 := X0_
    clear B0_ X0_
    clear b2
    go_wp2_with fail
    refine (wakes_any w3).mono ?_
    rintro e w4 ⟨rfl, b9⟩
    have B0_ := Lib.hid (B0.out.trans (b9.mono B0.out.size))
    have X0_ := Lib.hid (X0.out.under b9)
    clear B0 X0
    have B0 := B0_
    have X0 := X0_
    clear B0_ X0_
    clear b9
    go_wp2_with fail
    go_ret
    exact ⟨rfl, B0.out⟩
  have e0 : decide (now < 0) = false := decide_eq_false m0
  by_cases m1 : 1099511627776 < now
  · have e1 : decide ((1099511627776 : Int) < now) = true := decide_eq_true m1
    clear m1 hrc hl hid
    go_enter Try.func5, Try.ntmps5
    go_upto_region 1 with fail
    refine wp_at (fun V1 hV1 => ?_)
    have aV1 : Below w.heap.size w V1 := by rw [← hV1]; exact (Below.refl _ _).alloc (Nat.le_refl _) _
    have xV1 : Whole V1 w.heap.size 24 #[.int .i64 c.ep, .int .i64 c.nx, .slice A n k] := by rw [← hV1]; exact Whole.new _ _ _
    clear hV1
    have B0_ := Lib.hid (B0.out.trans (aV1.mono B0.out.size))
    clear B0
    have B0 := B0_
    clear B0_
    have X0 := Lib.hid xV1
    clear xV1
    clear aV1
    obtain ⟨c0, c1, c2⟩ := cells3 X0.out
    go_wp2_with fail
    refine (great_any c A n k V1).mono ?_
    rintro e w2 ⟨rfl, b1⟩
    clear c0 c1 c2
    have B0_ := Lib.hid (B0.out.trans (b1.mono B0.out.size))
    have X0_ := Lib.hid (X0.out.under b1)
    clear B0 X0
    have B0 := B0_
    have X0 := X0_
    clear B0_ X0_
    clear b1
    obtain ⟨c0, c1, c2⟩ := cells3 X0.out
    go_wp2_with fail
    refine (HRt.out w2 B0.out).mono ?_
    rintro e w3 ⟨rfl, b2⟩
    clear c0 c1 c2
    have B0_ := Lib.hid (B0.out.trans (b2.mono B0.out.size))
    have X0_ := Lib.hid (X0.out.under b2)
    clear B0 X0
    have B0 := B0_
    have X0 := X0_
    clear B0_ X0_
    clear b2
    go_wp2_with fail
    refine (wakes_any w3).mono ?_
    rintro e w4 ⟨rfl, b9⟩
    have B0_ := Lib.hid (B0.out.trans (b9.mono B0.out.size))
    have X0_ := Lib.hid (X0.out.under b9)
    clear B0 X0
    have B0 := B0_
    have X0 := X0_
    clear B0_ X0_
    clear b9
    go_wp2_with fail
    go_ret
    exact ⟨rfl, B0.out⟩
  have e1 : decide ((1099511627776 : Int) < now) = false := decide_eq_false m1
  by_cases m2 : timeout < 0
  · have e2 : decide (timeout < 0) = true := decide_eq_true m2
    clear m2 hrc hl hid
    go_enter Try.func5, Try.ntmps5
    go_upto_region 1 with fail
    refine wp_at (fun V1 hV1 => ?_)
    have aV1 : Below w.heap.size w V1 := by rw [← hV1]; exact (Below.refl _ _).alloc (Nat.le_refl _) _
    have xV1 : Whole V1 w.heap.size 24 #[.int .i64 c.ep, .int .i64 c.nx, .slice A n k] := by rw [← hV1]; exact Whole.new _ _ _
    clear hV1
    have B0_ := Lib.hid (B0.out.trans (aV1.mono B0.out.size))
    clear B0
    have B0 := B0_
    clear B0_
    have X0 := Lib.hid xV1
    clear xV1
    clear aV1
    obtain ⟨c0, c1, c2⟩ := cells3 X0.out
    go_wp2_with fail
    refine (great_any c A n k V1).mono ?_
    rintro e w2 ⟨rfl, b1⟩
    clear c0 c1 c2
    have B0_ := Lib.hid (B0.out.trans (b1.mono B0.out.size))
    have X0_ := Lib.hid (X0.out.under b1)
    clear B0 X0
    have B0 := B0_
    have X0 := X0_
    clear B0_ X0_
    clear b1
    obtain ⟨c0, c1, c2⟩ := cells3 X0.out
    go_wp2_with fail
    refine (HRt.out w2 B0.out).mono ?_
    rintro e w3 ⟨rfl, b2⟩
    clear c0 c1 c2
    have B0_ := Lib.hid (B0.out.trans (b2.mono B0.out.size))
    have X0_ := Lib.hid (X0.out.under b2)
    clear B0 X0
    have B0 := B0_
    have X0 := X0_
    clear B0_ X0_
    clear b2
    go_wp2_with fail
    refine (wakes_any w3).mono ?_
    rintro e w4 ⟨rfl, b9⟩
    have B0_ := Lib.hid (B0.out.trans (b9.mono B0.out.size))
    have X0_ := Lib.hid (X0.out.under b9)
    clear B0 X0
    have B0 := B0_
    have X0 := X0_
    clear B0_ X0_
    clear b9
    go_wp2_with fail
    go_ret
    exact ⟨rfl, B0.out⟩
  have e2 : decide (timeout < 0) = false := decide_eq_false m2
  by_cases m3 : 1099511627776 < timeout
  · have e3 : decide ((1099511627776 : Int) < timeout) = true := decide_eq_true m3
    clear m3 hrc hl hid
    go_enter Try.func5, Try.ntmps5
    go_upto_region 1 with fail
    refine wp_at (fun V1 hV1 => ?_)
    have aV1 : Below w.heap.size w V1 := by rw [← hV1]; exact (Below.refl _ _).alloc (Nat.le_refl _) _
    have xV1 : Whole V1 w.heap.size 24 #[.int .i64 c.ep, .int .i64 c.nx, .slice A n k] := by rw [← hV1]; exact Whole.new _ _ _
    clear hV1
    have B0_ := Lib.hid (B0.out.trans (aV1.mono B0.out.size))
    clear B0
    have B0 := B0_
    clear B0_
    have X0 := Lib.hid xV1
    clear xV1
    clear aV1
    obtain ⟨c0, c1, c2⟩ := cells3 X0.out
    go_wp2_with fail
    refine (great_any c A n k V1).mono ?_
    rintro e w2 ⟨rfl, b1⟩
    clear c0 c1 c2
    have B0_ := Lib.hid (B0.out.trans (b1.mono B0.out.size))
    have X0_ := Lib.hid (X0.out.under b1)
    clear B0 X0
    have B0 := B0_
    have X0 := X0_
    clear B0_ X0_
    clear b1
    obtain ⟨c0, c1, c2⟩ := cells3 X0.out
    go_wp2_with fail
    refine (HRt.out w2 B0.out).mono ?_
    rintro e w3 ⟨rfl, b2⟩
    clear c0 c1 c2
    have B0_ := Lib.hid (B0.out.trans (b2.mono B0.out.size))
    have X0_ := Lib.hid (X0.out.under b2)
    clear B0 X0
    have B0 := B0_
    have X0 := X0_
    clear B0_ X0_
    clear b2
    go_wp2_with fail
    refine (wakes_any w3).mono ?_
    rintro e w4 ⟨rfl, b9⟩
    have B0_ := Lib.hid (B0.out.trans (b9.mono B0.out.size))
    have X0_ := Lib.hid (X0.out.under b9)
    clear B0 X0
    have B0 := B0_
    have X0 := X0_
    clear B0_ X0_
    clear b9
    go_wp2_with fail
    go_ret
    exact ⟨rfl, B0.out⟩
  have e3 : decide ((1099511627776 : Int) < timeout) = false := decide_eq_false m3
  have n1 : isNum now = true := isNum_yes (by omega) (by omega)
  have n2 : isNum timeout = true := isNum_yes (by omega) (by omega)
  obtain ⟨d, hd'⟩ : ∃ d, lateR c now timeout = d := ⟨_, rfl⟩
  have hdl : d = ⟨c.ep, c.nx, c.l.filter (keepLate now timeout)⟩ := by rw [← hd', lateR, hrc, n1, n2]; rfl
  have hrg := rightC_iff.1 hrc
  have hdd : lateR d now timeout = d := by
    have h : rightC d = true := by rw [hdl]; exact rightC_iff.2 (hrg.filter _)
    rw [lateR, h, n1, n2, hdl]
    simp only [Bool.and_self, if_true, lateC]
    congr 1
    show List.filter (keepLate now timeout) (List.filter (keepLate now timeout) c.l) = _
    rw [List.filter_filter]
    simp
  have HDl := Lib.hid (show d.l = c.l.filter (keepLate now timeout) by rw [hdl])
  have HDe := Lib.hid (show d.nx = c.nx by rw [hdl])
  have hdn : d.l.length ≤ 1000 := by rw [hdl]; exact Nat.le_trans (List.length_filter_le _ _) (by omega)
  have HLt := Lib.hid (fun W (hb : Below w.heap.size w W) => late_any c A n k now timeout w.heap.size W (HR.out.below hb) hb.size (by omega))
  rw [hd'] at HLt
  have HLt2 := Lib.hid (fun A k W (h : RdC W W.heap.size A d.l.length d.l) => late_any d A d.l.length k now timeout W.heap.size W h (Nat.le_refl _) hdn)
  rw [hdd] at HLt2
  have HSm := Lib.hid (fun A k1 A' k1' W (h : RdC W W.heap.size A d.l.length d.l) (h' : RdC W W.heap.size A' d.l.length d.l) => same_any d d A d.l.length k1 A' d.l.length k1' W.heap.size W.heap.size W h h' (Nat.le_refl _) (Nat.le_refl _) hdn)
  have HNum := Lib.hid (fun x (hx : x ∈ c.l) => (hrg.ok x hx).sent)
  have hsm : 0 ≤ now ∧ now ≤ 1099511627776 := ⟨by omega, by omega⟩
  clear hd' hdl hdd hrg hrc n1 n2 m0 m1 m2 m3 hid
  go_enter Try.func5, Try.ntmps5
  go_upto_region 1 with fail
  refine wp_at (fun V1 hV1 => ?_)
  have aV1 : Below w.heap.size w V1 := by rw [← hV1]; exact (Below.refl _ _).alloc (Nat.le_refl _) _
  have xV1 : Whole V1 w.heap.size 24 #[.int .i64 c.ep, .int .i64 c.nx, .slice A n k] := by rw [← hV1]; exact Whole.new _ _ _
  clear hV1
  have B0_ := Lib.hid (B0.out.trans (aV1.mono B0.out.size))
  clear B0
  have B0 := B0_
  clear B0_
  have X0 := Lib.hid xV1
  clear xV1
  clear aV1
  obtain ⟨c0, c1, c2⟩ := cells3 X0.out
  go_wp2_with fail
  refine (great_any c A n k V1).mono ?_
  rintro e w2 ⟨rfl, b1⟩
  clear c0 c1 c2
  have B0_ := Lib.hid (B0.out.trans (b1.mono B0.out.size))
  have X0_ := Lib.hid (X0.out.under b1)
  clear B0 X0
  have B0 := B0_
  have X0 := X0_
  clear B0_ X0_
  clear b1
  obtain ⟨c0, c1, c2⟩ := cells3 X0.out
  go_wp2_with fail
  refine (HRt.out w2 B0.out).mono ?_
  rintro e w3 ⟨rfl, b2⟩
  clear c0 c1 c2
  have B0_ := Lib.hid (B0.out.trans (b2.mono B0.out.size))
  have X0_ := Lib.hid (X0.out.under b2)
  clear B0 X0
  have B0 := B0_
  have X0 := X0_
  clear B0_ X0_
  clear b2
  obtain ⟨c0, c1, c2⟩ := cells3 X0.out
  go_wp2_with fail
  refine (HLt.out w3 B0.out).mono ?_
  rintro e w4 ⟨A2, k2, rfl, o2, b2⟩
  clear c0 c1 c2
  have B0_ := Lib.hid (B0.out.trans (b2.mono B0.out.size))
  have X0_ := Lib.hid (X0.out.under b2)
  clear B0 X0
  have B0 := B0_
  have X0 := X0_
  clear B0_ X0_
  have O2 := Lib.hid (o2)
  clear b2
  clear o2
  go_upto_region 4 with fail
  refine wp_at (fun V5 hV5 => ?_)
  have aV5 : Below w4.heap.size w4 V5 := by rw [← hV5]; exact (Below.refl _ _).alloc (Nat.le_refl _) _
  have xV5 : Whole V5 w4.heap.size 24 #[.int .i64 d.ep, .int .i64 d.nx, .slice A2 d.l.length k2] := by rw [← hV5]; exact Whole.new _ _ _
  clear hV5
  have B0_ := Lib.hid (B0.out.trans (aV5.mono B0.out.size))
  have X0_ := Lib.hid (X0.out.under aV5)
  have O2_ := Lib.hid (O2.out.under aV5)
  clear B0 X0 O2
  have B0 := B0_
  have X0 := X0_
  have O2 := O2_
  clear B0_ X0_ O2_
  have X7 := Lib.hid xV5
  clear xV5
  clear aV5
  obtain ⟨c0, c1, c2⟩ := cells3 X0.out
  obtain ⟨d0, d1, d2⟩ := cells3 X7.out
  go_wp2_with fail
  go_loopw [8, 9] (fun kk i wr => ∃ j : Nat, i = .int .i64 (j : Int) ∧ j ≤ n ∧ kk = .int .i64 (((c.l.take j).filter (keepLate now timeout)).length : Int) ∧ ∃ q, wr = V5.drewN q) (fun _ i _ => n - (intOf i).toNat)
  case atStart => exact ⟨0, rfl, Nat.zero_le _, rfl, 0, rfl⟩
  case round =>
    obtain ⟨j, rfl, hj, rfl, qq, rfl⟩ := hrel
    by_cases hlt : j < n
    · obtain ⟨b, off, rfl, _, hc⟩ := RdC.at_ (HR.out.below B0.out) (by omega)
      obtain ⟨x, hx⟩ : ∃ x, c.l[j]? = some x := ⟨_, List.getElem?_eq_getElem (by rw [HL.out]; exact hlt)⟩
      obtain ⟨g0, g1, g2, g3⟩ := hc j x hx
      have hI : (j : Int) < (n : Int) := by omega
      have hnum := HNum.out x (List.mem_of_getElem? hx)
      unfold numC at hnum
      have hwi := wrapI_mid (n := now - x.sent) (by omega) (by omega)
      have hwi2 := wrap64_mid (n := now - x.sent) (by omega) (by omega)
      have HX := Lib.hid hx
      clear hc hx
      by_cases q0 : timeout ≤ now - x.sent
      · have q1 : decide (timeout ≤ now - x.sent) = true := decide_eq_true q0
        have HFn := Lib.hid (show (c.l.take (j + 1)).filter (keepLate now timeout) = (c.l.take j).filter (keepLate now timeout) by rw [filter_grow HX.out, if_neg (by intro h; have h2 := of_decide_eq_true (show decide (now < x.sent + timeout) = true from h); omega), List.append_nil])
        clear q0 hnum
        go_wp2_with fail
        go_roundw
        case rel => exact ⟨j + 1, by go_num, by omega, by rw [HFn.out], _, rfl⟩
        case measure => simp [intOf]; omega
      · have q1 : decide (timeout ≤ now - x.sent) = false := decide_eq_false q0
        have hp : keepLate now timeout x = true := decide_eq_true (by omega)
        have HFn := Lib.hid (show (c.l.take (j + 1)).filter (keepLate now timeout) = (c.l.take j).filter (keepLate now timeout) ++ [x] by rw [filter_grow HX.out, if_pos hp])
        have hat : d.l[((c.l.take j).filter (keepLate now timeout)).length]? = some x := by rw [HDl.out]; exact filter_at HX.out hp
        obtain ⟨m, hm⟩ : ∃ m, ((c.l.take j).filter (keepLate now timeout)).length = m := ⟨_, rfl⟩
        rw [hm] at hat ⊢
        have hml := (List.getElem?_eq_some_iff.1 hat).1
        obtain ⟨b2, off2, rfl, _, hc2⟩ := RdC.at_ O2.out.read (by omega)
        obtain ⟨p0, p1, p2, p3⟩ := hc2 m x hat
        have hI2 : (m : Int) < (d.l.length : Int) := by omega
        have hge : decide ((d.l.length : Int) ≤ (m : Int)) = false := decide_eq_false (by omega)
        have HM := Lib.hid hm
        clear q0 hp hat hm hc2 hnum
        go_wp2_with fail
        go_quiet (fail)
        go_wp2_with fail
        go_roundw
        case rel => exact ⟨j + 1, by go_num, by omega, by rw [HFn.out, List.length_append, HM.out, List.length_singleton]; go_num, _, rfl⟩
        case measure => simp [intOf]; omega
    · have HE := Lib.hid (show ((c.l.take j).filter (keepLate now timeout)).length = d.l.length by rw [HDl.out, List.take_of_length_le (by have := HL.out; omega)])
      rw [HE.out]
      have HT0 : Hid ((fun V' => Whole V' w.heap.size 24 #[.int .i64 c.ep, .int .i64 c.nx, .slice A n k] ∧ Whole V' w4.heap.size 24 #[.int .i64 d.ep, .int .i64 d.nx, .slice A2 d.l.length k2]) (V5.drewN (qq + 1))) := Lib.hid ⟨X0.out, X7.out⟩
      have HLL : Hid (∀ V', (fun V' => Whole V' w.heap.size 24 #[.int .i64 c.ep, .int .i64 c.nx, .slice A n k] ∧ Whole V' w4.heap.size 24 #[.int .i64 d.ep, .int .i64 d.nx, .slice A2 d.l.length k2]) V' → (V'.cell? ⟨w.heap.size, 0, none⟩ = some (.int .i64 c.ep) ∧ V'.cell? ⟨w.heap.size, 1, none⟩ = some (.int .i64 c.nx) ∧ V'.cell? ⟨w.heap.size, 2, none⟩ = some (.slice A n k)) ∧ V'.cell? ⟨w4.heap.size, 0, none⟩ = some (.int .i64 d.ep) ∧ V'.cell? ⟨w4.heap.size, 1, none⟩ = some (.int .i64 d.nx) ∧ V'.cell? ⟨w4.heap.size, 2, none⟩ = some (.slice A2 d.l.length k2)) := Lib.hid (fun V' h => ⟨cells3 h.1, cells3 h.2⟩)
      have HO2 := Lib.hid (show CallsAt _ (V5.drewN (qq + 1)) _ d.l from O2.out)
      have HB2 := Lib.hid (show Below w.heap.size w (V5.drewN (qq + 1)) from drewN_below B0.out _)
      have q9 : (d.nx == c.nx) = true := by simp [HDe.out]
      go_wp2_with fail
      refine wp_region_T (ls := []) (T := (fun V' => Whole V' w.heap.size 24 #[.int .i64 c.ep, .int .i64 c.nx, .slice A n k] ∧ Whole V' w4.heap.size 24 #[.int .i64 d.ep, .int .i64 d.nx, .slice A2 d.l.length k2])) (by kernel_rfl) ?_
      refine takeP (i := 0) (v := ?_) rfl (by kernel_rfl) (by kernel_rfl) (by kernel_rfl) (by kernel_rfl) (fun _ _ _ h => h) (by rfl) ?_ (fun _ => HT0.out) ?_
      rotate_left
      · intro V'; go_simp <;> with_reducible rfl
      simp only [Act.put, List.setIfInBounds_toArray, List.set_cons_zero, List.set_cons_succ]
      refine takeP (i := 1) (v := ?_) rfl (by kernel_rfl) (by kernel_rfl) (by kernel_rfl) (by kernel_rfl) (fun _ _ _ h => h) (by rfl) ?_ (fun _ => HT0.out) ?_
      rotate_left
      · intro V'; go_simp <;> with_reducible rfl
      simp only [Act.put, List.setIfInBounds_toArray, List.set_cons_zero, List.set_cons_succ]
      refine takeT (i := 2) (v := ?_) rfl (by kernel_rfl) (by kernel_rfl) (by kernel_rfl) (by kernel_rfl) (fun _ _ _ h => h) (by rfl) ?_ HT0.out ?_
      rotate_left
      · intro V' hV; obtain ⟨⟨y0, y1, y2⟩, y3, y4, y5⟩ := HLL.out V' hV; go_simp <;> with_reducible rfl
      simp only [Act.put, List.setIfInBounds_toArray, List.set_cons_zero, List.set_cons_succ]
      refine takeP (i := 3) (v := ?_) rfl (by kernel_rfl) (by kernel_rfl) (by kernel_rfl) (by kernel_rfl) (fun _ _ _ h => h) (by rfl) ?_ (fun _ => HT0.out) ?_
      rotate_left
      · intro V'; go_simp <;> with_reducible rfl
      simp only [Act.put, List.setIfInBounds_toArray, List.set_cons_zero, List.set_cons_succ]
      refine takeP (i := 4) (v := ?_) rfl (by kernel_rfl) (by kernel_rfl) (by kernel_rfl) (by kernel_rfl) (fun _ _ _ h => h) (by rfl) ?_ (fun _ => HT0.out) ?_
      rotate_left
      · intro V'; go_simp <;> with_reducible rfl
      simp only [Act.put, List.setIfInBounds_toArray, List.set_cons_zero, List.set_cons_succ]
      refine takeP (i := 5) (v := ?_) rfl (by kernel_rfl) (by kernel_rfl) (by kernel_rfl) (by kernel_rfl) (fun _ _ _ h => h) (by rfl) ?_ (fun _ => HT0.out) ?_
      rotate_left
      · intro V'; go_simp <;> with_reducible rfl
      simp only [Act.put, List.setIfInBounds_toArray, List.set_cons_zero, List.set_cons_succ]
      refine takeT (i := 6) (v := ?_) rfl (by kernel_rfl) (by kernel_rfl) (by kernel_rfl) (by kernel_rfl) (fun _ _ _ h => h) (by rfl) ?_ HT0.out ?_
      rotate_left
      · intro V' hV; obtain ⟨⟨y0, y1, y2⟩, y3, y4, y5⟩ := HLL.out V' hV; go_simp <;> with_reducible rfl
      simp only [Act.put, List.setIfInBounds_toArray, List.set_cons_zero, List.set_cons_succ]
      refine takeP (i := 7) (v := ?_) rfl (by kernel_rfl) (by kernel_rfl) (by kernel_rfl) (by kernel_rfl) (fun _ _ _ h => h) (by rfl) ?_ (fun _ => HT0.out) ?_
      rotate_left
      · intro V'; go_simp <;> with_reducible rfl
      simp only [Act.put, List.setIfInBounds_toArray, List.set_cons_zero, List.set_cons_succ]
      refine takeP (i := 8) (v := ?_) rfl (by kernel_rfl) (by kernel_rfl) (by kernel_rfl) (by kernel_rfl) (fun _ _ _ h => h) (by rfl) ?_ (fun _ => HT0.out) ?_
      rotate_left
      · intro V'; go_simp <;> with_reducible rfl
      simp only [Act.put, List.setIfInBounds_toArray, List.set_cons_zero, List.set_cons_succ]
      refine takeT (i := 10) (v := ?_) rfl (by kernel_rfl) (by kernel_rfl) (by kernel_rfl) (by kernel_rfl) (fun _ _ _ h => h) (by rfl) ?_ HT0.out ?_
      rotate_left
      · intro V' hV; obtain ⟨⟨y0, y1, y2⟩, y3, y4, y5⟩ := HLL.out V' hV; go_simp <;> with_reducible rfl
      simp only [Act.put, List.setIfInBounds_toArray, List.set_cons_zero, List.set_cons_succ]
      refine oneT (i := 9) rfl (by kernel_rfl) (by rfl) (fun K hK => ?_)
      go_simp
      go_at_call 23
      refine (HLt2.out A2 k2 _ HO2.out.read).mono ?_
      rintro e z9 ⟨A3, k3, rfl, o3, b3⟩
      have HT109 : Hid ((fun V' => Whole V' w.heap.size 24 #[.int .i64 c.ep, .int .i64 c.nx, .slice A n k] ∧ Whole V' w4.heap.size 24 #[.int .i64 d.ep, .int .i64 d.nx, .slice A2 d.l.length k2]) z9) := Lib.hid ⟨HT0.out.1.under b3, HT0.out.2.under b3⟩
      have HB109 := Lib.hid (HB2.out.trans (b3.mono HB2.out.size))
      have HO3 := Lib.hid o3
      have HO4 := Lib.hid (HO2.out.under b3)
      clear o3
      clear b3
      refine hK.out _ _ (fun _ => HT109.out) ?_
      clear hK K
      refine oneT (i := 11) rfl (by kernel_rfl) (by rfl) (fun K hK => ?_)
      go_simp
      go_at_call 25
      refine (HSm.out A3 k3 A2 k2 _ HO3.out.read HO4.out.read).mono ?_
      rintro e z11 ⟨rfl, b4⟩
      simp only [decide_true]
      have HT111 : Hid ((fun V' => Whole V' w.heap.size 24 #[.int .i64 c.ep, .int .i64 c.nx, .slice A n k] ∧ Whole V' w4.heap.size 24 #[.int .i64 d.ep, .int .i64 d.nx, .slice A2 d.l.length k2]) z11) := Lib.hid ⟨HT109.out.1.under b4, HT109.out.2.under b4⟩
      have HB111 := Lib.hid (HB109.out.trans (b4.mono HB109.out.size))
      clear b4
      refine hK.out _ _ (fun _ => HT111.out) ?_
      clear hK K
      refine takeP (i := 12) (v := ?_) rfl (by kernel_rfl) (by kernel_rfl) (by kernel_rfl) (by kernel_rfl) (fun _ _ _ h => h) (by rfl) ?_ (fun _ => HT111.out) ?_
      rotate_left
      · intro V'; go_simp <;> with_reducible rfl
      simp only [Act.put, List.setIfInBounds_toArray, List.set_cons_zero, List.set_cons_succ]
      refine takeP (i := 13) (v := ?_) rfl (by kernel_rfl) (by kernel_rfl) (by kernel_rfl) (by kernel_rfl) (fun _ _ _ h => h) (by rfl) ?_ (fun _ => HT111.out) ?_
      rotate_left
      · intro V'; go_simp <;> with_reducible rfl
      simp only [Act.put, List.setIfInBounds_toArray, List.set_cons_zero, List.set_cons_succ]
      refine takeP (i := 14) (v := ?_) rfl (by kernel_rfl) (by kernel_rfl) (by kernel_rfl) (by kernel_rfl) (fun _ _ _ h => h) (by rfl) ?_ (fun _ => HT111.out) ?_
      rotate_left
      · intro V'; go_simp <;> with_reducible rfl
      simp only [Act.put, List.setIfInBounds_toArray, List.set_cons_zero, List.set_cons_succ]
      refine takeT (i := 15) (v := ?_) rfl (by kernel_rfl) (by kernel_rfl) (by kernel_rfl) (by kernel_rfl) (fun _ _ _ h => h) (by rfl) ?_ HT111.out ?_
      rotate_left
      · intro V' hV; obtain ⟨⟨y0, y1, y2⟩, y3, y4, y5⟩ := HLL.out V' hV; go_simp <;> with_reducible rfl
      simp only [Act.put, List.setIfInBounds_toArray, List.set_cons_zero, List.set_cons_succ]
      refine takeP (i := 16) (v := ?_) rfl (by kernel_rfl) (by kernel_rfl) (by kernel_rfl) (by kernel_rfl) (fun _ _ _ h => h) (by rfl) ?_ (fun _ => HT111.out) ?_
      rotate_left
      · intro V'; go_simp <;> with_reducible rfl
      simp only [Act.put, List.setIfInBounds_toArray, List.set_cons_zero, List.set_cons_succ]
      refine takeT (i := 17) (v := ?_) rfl (by kernel_rfl) (by kernel_rfl) (by kernel_rfl) (by kernel_rfl) (fun _ _ _ h => h) (by rfl) ?_ HT111.out ?_
      rotate_left
      · intro V' hV; obtain ⟨⟨y0, y1, y2⟩, y3, y4, y5⟩ := HLL.out V' hV; go_simp <;> with_reducible rfl
      simp only [Act.put, List.setIfInBounds_toArray, List.set_cons_zero, List.set_cons_succ]
      refine takeP (i := 18) (v := ?_) rfl (by kernel_rfl) (by kernel_rfl) (by kernel_rfl) (by kernel_rfl) (fun _ _ _ h => h) (by rfl) ?_ (fun _ => HT111.out) ?_
      rotate_left
      · intro V'; go_simp <;> with_reducible rfl
      simp only [Act.put, List.setIfInBounds_toArray, List.set_cons_zero, List.set_cons_succ]
      refine takeP (i := 19) (v := ?_) rfl (by kernel_rfl) (by kernel_rfl) (by kernel_rfl) (by kernel_rfl) (fun _ _ _ h => h) (by rfl) ?_ (fun _ => HT111.out) ?_
      rotate_left
      · intro V'; go_simp <;> with_reducible rfl
      simp only [Act.put, List.setIfInBounds_toArray, List.set_cons_zero, List.set_cons_succ]
      refine takeP (i := 20) (v := ?_) rfl (by kernel_rfl) (by kernel_rfl) (by kernel_rfl) (by kernel_rfl) (fun _ _ _ h => h) (by rfl) ?_ (fun _ => HT111.out) ?_
      rotate_left
      · intro V'; go_simp <;> with_reducible rfl
      simp only [Act.put, List.setIfInBounds_toArray, List.set_cons_zero, List.set_cons_succ]
      refine oneT (i := 21) rfl (by kernel_rfl) (by rfl) (fun K hK => ?_)
      go_simp
      go_at_call 9
      refine (wakes_any _).mono ?_
      rintro e z21 ⟨rfl, b5⟩
      have HT121 : Hid ((fun V' => Whole V' w.heap.size 24 #[.int .i64 c.ep, .int .i64 c.nx, .slice A n k] ∧ Whole V' w4.heap.size 24 #[.int .i64 d.ep, .int .i64 d.nx, .slice A2 d.l.length k2]) z21) := Lib.hid ⟨HT111.out.1.under b5, HT111.out.2.under b5⟩
      have HB121 := Lib.hid (HB111.out.trans (b5.mono HB111.out.size))
      clear b5
      refine hK.out _ _ (fun _ => HT121.out) ?_
      clear hK K
      refine takeP (i := 22) (v := ?_) rfl (by kernel_rfl) (by kernel_rfl) (by kernel_rfl) (by kernel_rfl) (fun _ _ _ h => h) (by rfl) ?_ (fun _ => HT121.out) ?_
      rotate_left
      · intro V'; go_simp <;> with_reducible rfl
      simp only [Act.put, List.setIfInBounds_toArray, List.set_cons_zero, List.set_cons_succ]
      refine takeP (i := 23) (v := ?_) rfl (by kernel_rfl) (by kernel_rfl) (by kernel_rfl) (by kernel_rfl) (fun _ _ _ h => h) (by rfl) ?_ (fun _ => HT121.out) ?_
      rotate_left
      · intro V'; go_simp <;> with_reducible rfl
      simp only [Act.put, List.setIfInBounds_toArray, List.set_cons_zero, List.set_cons_succ]
      refine doneT (by kernel_rfl) ?_ _
      go_wp2_with fail
      go_ret
      exact ⟨rfl, HB121.out⟩

end Go.Proofs.Ytgajnmjifhemgaa
