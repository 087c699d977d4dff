/-
  The walk of the statement CallNumbers: no number is told twice; numbers rise. Conditions: those that each theorem names.
-/
import Derived.Test.YtgajnmjifhemgaaClNums
namespace Go.Proofs.Ytgajnmjifhemgaa
open Go.RowKit Go.Shelf

set_option maxRecDepth 100000 in
set_option maxHeartbeats 4000000 in
theorem callNumbers_any (z more : Int) (D : Option Addr) (n nc : Nat) (l : List Dd) (w : World) (hr : RdD w w.heap.size D n l) (hwf : ∀ x ∈ l, (Lit.int .u8 x.what).wf = true ∧ (Lit.int .i64 x.key).wf = true) : Calls Try.prog 4 #[.int .i64 z, .int .i64 more, .slice D n nc] w (TruePost w) := by
  have hl := hr.len
  have HR := Lib.hid hr
  have B0 := Lib.hid (Below.refl w.heap.size w)
  clear hr
  by_cases m0 : z < 0
  · have e0_0 : decide (z < 0) = true := decide_eq_true (by omega)
    clear m0 hl
    go_enter Try.func4, Try.ntmps4
    go_wp2_with fail
    refine (wakes_any w).mono ?_
    rintro e w1 ⟨rfl, b9⟩
    have B0_ := Lib.hid (B0.out.trans (b9.mono B0.out.size))
    clear B0
    have B0 := B0_
    clear B0_
    clear b9
    go_wp2_with fail
    go_ret
    exact ⟨rfl, B0.out⟩
  have e0_0 : decide (z < 0) = false := decide_eq_false (by omega)
  by_cases m1 : more < 1
  · have e1_0 : decide (more < 1) = true := decide_eq_true (by omega)
    clear m1 hl
    go_enter Try.func4, Try.ntmps4
    go_wp2_with fail
    refine (wakes_any w).mono ?_
    rintro e w1 ⟨rfl, b9⟩
    have B0_ := Lib.hid (B0.out.trans (b9.mono B0.out.size))
    clear B0
    have B0 := B0_
    clear B0_
    clear b9
    go_wp2_with fail
    go_ret
    exact ⟨rfl, B0.out⟩
  have e1_0 : decide (more < 1) = false := decide_eq_false (by omega)
  by_cases m2 : 262144 < z
  · have e2_0 : decide ((262144 : Int) < z) = true := decide_eq_true (by omega)
    clear m2 hl
    go_enter Try.func4, Try.ntmps4
    go_wp2_with fail
    refine (wakes_any w).mono ?_
    rintro e w1 ⟨rfl, b9⟩
    have B0_ := Lib.hid (B0.out.trans (b9.mono B0.out.size))
    clear B0
    have B0 := B0_
    clear B0_
    clear b9
    go_wp2_with fail
    go_ret
    exact ⟨rfl, B0.out⟩
  have e2_0 : decide ((262144 : Int) < z) = false := decide_eq_false (by omega)
  by_cases m3 : 262144 < more
  · have e3_0 : decide ((262144 : Int) < more) = true := decide_eq_true (by omega)
    clear m3 hl
    go_enter Try.func4, Try.ntmps4
    go_wp2_with fail
    refine (wakes_any w).mono ?_
    rintro e w1 ⟨rfl, b9⟩
    have B0_ := Lib.hid (B0.out.trans (b9.mono B0.out.size))
    clear B0
    have B0 := B0_
    clear B0_
    clear b9
    go_wp2_with fail
    go_ret
    exact ⟨rfl, B0.out⟩
  have e3_0 : decide ((262144 : Int) < more) = false := decide_eq_false (by omega)
  by_cases m4 : 40 < n
  · have e4_0 : decide (40 < n) = true := decide_eq_true (by omega)
    have e4_1 : decide ((40 : Int) < (n : Int)) = true := decide_eq_true (by omega)
    clear m4 hl
    go_enter Try.func4, Try.ntmps4
    go_wp2_with fail
    refine (wakes_any w).mono ?_
    rintro e w1 ⟨rfl, b9⟩
    have B0_ := Lib.hid (B0.out.trans (b9.mono B0.out.size))
    clear B0
    have B0 := B0_
    clear B0_
    clear b9
    go_wp2_with fail
    go_ret
    exact ⟨rfl, B0.out⟩
  have e4_0 : decide (40 < n) = false := decide_eq_false (by omega)
  have e4_1 : decide ((40 : Int) < (n : Int)) = false := decide_eq_false (by omega)
  have hn : n ≤ 40 := by omega
  have hz : 0 ≤ z ∧ z ≤ 262144 := ⟨by omega, by omega⟩
  have hmo : 1 ≤ more ∧ more ≤ 262144 := ⟨by omega, by omega⟩
  clear m0 m1 m2 m3 m4
  have HBg := Lib.hid (fun W => begin_any z W)
  rw [show beginC z = ⟨z, 1, []⟩ by simp [beginC, beginB, hz.1, show z ≤ 524288 by omega], show beginE z = 0 by simp [beginE, beginB, hz.1, show z ≤ 524288 by omega]] at HBg
  have HHa := Lib.hid (fun (c : Cs) A k kind key W (h : RdC W W.heap.size A c.l.length c.l) (hc : c.l.length ≤ 1000) => has_any c A c.l.length k kind key W.heap.size W h (Nat.le_refl _) hc)
  have HOp := Lib.hid (fun (c : Cs) A k kind key now W (h : RdC W W.heap.size A c.l.length c.l) (hc : c.l.length ≤ 1000) => open_any c A c.l.length k kind key now W.heap.size W h (Nat.le_refl _) hc)
  have HSm := Lib.hid (fun (c : Cs) A k1 A' k1' W (h : RdC W W.heap.size A c.l.length c.l) (h' : RdC W W.heap.size A' c.l.length c.l) (hc : c.l.length ≤ 1000) => same_any c c A c.l.length k1 A' c.l.length k1' W.heap.size W.heap.size W h h' (Nat.le_refl _) (Nat.le_refl _) hc)
  have HFi := Lib.hid (fun (c : Cs) A k id W (h : RdC W W.heap.size A c.l.length c.l) (hc : c.l.length ≤ 1000) => find_any c A c.l.length k id W.heap.size W h (Nat.le_refl _) hc)
  have HCl := Lib.hid (fun (c : Cs) A k id W (h : RdC W W.heap.size A c.l.length c.l) (hc : c.l.length ≤ 1000) => close_any c A c.l.length k id W.heap.size W h (Nat.le_refl _) hc)
  have HLa := Lib.hid (fun (c : Cs) A k now timeout W (h : RdC W W.heap.size A c.l.length c.l) (hc : c.l.length ≤ 1000) => late_any c A c.l.length k now timeout W.heap.size W h (Nat.le_refl _) hc)
  have HRi := Lib.hid (fun (c : Cs) A k W (h : RdC W W.heap.size A c.l.length c.l) (hc : c.l.length ≤ 1000) => rightc_any c A c.l.length k W.heap.size W h (Nat.le_refl _) hc)
  have HL := Lib.hid hl
  have HZ := Lib.hid hz
  have HMo := Lib.hid hmo
  have HWf := Lib.hid hwf
  clear hl hz hmo hwf
  go_enter Try.func4, Try.ntmps4
  go_wp2_with fail
  refine (HBg.out w).mono ?_
  rintro e w1 ⟨A1, k1, rfl, o1, b1⟩
  have B0_ := Lib.hid (B0.out.trans (b1.mono B0.out.size))
  clear B0
  have B0 := B0_
  clear B0_
  have O1 := Lib.hid (o1)
  clear b1
  clear o1
  have HBk := Lib.hid B0.out.size
  go_upto_region 4 with fail
  refine wp_at (fun V2 hV2 => ?_)
  have aV2 : Below w1.heap.size w1 V2 := by rw [← hV2]; exact (Below.refl _ _).alloc (Nat.le_refl _) _
  have xV2 : Whole V2 w1.heap.size 24 #[.int .i64 z, .int .i64 1, .slice A1 0 k1] := by rw [← hV2]; exact Whole.new _ _ _
  clear hV2
  have B0_ := Lib.hid (B0.out.trans (aV2.mono B0.out.size))
  have O1_ := Lib.hid (O1.out.under aV2)
  clear B0 O1
  have B0 := B0_
  have O1 := O1_
  clear B0_ O1_
  have X7 := Lib.hid xV2
  clear xV2
  clear aV2
  obtain ⟨c0, c1, c2⟩ := cells3 X7.out
  go_wp2_with fail
  clear c0 c1 c2
  go_loopw [9, 10, 11] (fun la td i wr => ∃ (j : Nat) (c : Cs) (A : Option Addr) (k : Nat) (L : Int) (B : Option Addr) (m kk : Nat) (ids : List Int), la = .int .i64 L ∧ td = .slice B m kk ∧ i = .int .i64 (j : Int) ∧ j ≤ n ∧ Whole wr w1.heap.size 24 #[.int .i64 c.ep, .int .i64 c.nx, .slice A c.l.length k] ∧ CallsAt w.heap.size wr (.slice A c.l.length k) c.l ∧ wr.ownsRow w.heap.size 3 1 (.slice B m kk) m (iv ids) ∧ Below w.heap.size w wr ∧ Nm z c L m j) (fun _ _ i _ => n - (intOf i).toNat)
  case atStart => exact ⟨0, ⟨z, 1, []⟩, A1, k1, 0, none, 0, 0, [], rfl, rfl, rfl, Nat.zero_le _, X7.out, O1.out, World.ownsRow_nil _ _ _ _, B0.out, Nm.begin HZ.out.1 HZ.out.2⟩
  case round =>
    obtain ⟨j, c, A, k, L, B, m, kk, ids, rfl, rfl, rfl, hj, x7, o7, t7, b0, hN⟩ := hrel
    clear X7 O1 B0
    have X7 := Lib.hid x7
    have O7 := Lib.hid o7
    have TO := Lib.hid t7
    have B0 := Lib.hid b0
    have HN := Lib.hid hN
    have hc40 : c.l.length ≤ 1000 := by have := hN.len; omega
    clear x7 o7 t7 b0 hN
    by_cases hlt : j < n
    · obtain ⟨b, off, hD, _, hc⟩ := RdD.cells_at (HR.out.below B0.out) (by omega)
      subst hD
      obtain ⟨x, hx⟩ : ∃ x, l[j]? = some x := ⟨_, List.getElem?_eq_getElem (by rw [HL.out]; exact hlt)⟩
      obtain ⟨d0, d1, d2, d3⟩ := hc j x hx
      have hI : (j : Int) < (n : Int) := by omega
      have hw0 := (HWf.out x (List.mem_of_getElem? hx)).1
      have hw1 := (HWf.out x (List.mem_of_getElem? hx)).2
      clear hc hx
      go_upto_region 12 with fail
      clear d0 d1 d2 d3
      refine wp_at (fun V101 hV101 => ?_)
      have aV101 : Below wr.heap.size wr V101 := by rw [← hV101]; exact (Below.refl _ _).alloc (Nat.le_refl _) _
      have xV101 : Whole V101 wr.heap.size 44 #[.int .u8 x.what, .int .u8 x.kind, .int .i64 x.key, .int .i64 x.now] := by rw [← hV101]; exact Whole.new _ _ _
      clear hV101
      have B0_ := Lib.hid (B0.out.trans (aV101.mono B0.out.size))
      have X7_ := Lib.hid (X7.out.under aV101)
      have O7_ := Lib.hid (O7.out.under aV101)
      have TO_ := Lib.hid (own_under TO.out aV101)
      clear B0 X7 O7 TO
      have B0 := B0_
      have X7 := X7_
      have O7 := O7_
      have TO := TO_
      clear B0_ X7_ O7_ TO_
      have X12 := Lib.hid xV101
      clear xV101
      clear aV101
      have hm3 : x.what.tmod 3 = 0 ∨ x.what.tmod 3 = 1 ∨ x.what.tmod 3 = 2 := tmod3_u8 hw0
      clear hw0
      rcases hm3 with hm3 | hm3 | hm3
      · cases hob : openB c x.kind x.key x.now with
        | false =>
          have HO := Lib.hid (fun W h => HOp.out c A k x.kind x.key x.now W h hc40)
          rw [show openC c x.kind x.key x.now = c by simp [openC, hob], show openI c x.kind x.key x.now = 0 by simp [openI, hob], show openE c x.kind x.key x.now = 2 by simp [openE, hob]] at HO
          clear hob hw1
          obtain ⟨d0, d1, d2, d3⟩ := cells4 X12.out
          obtain ⟨c0, c1, c2⟩ := cells3 X7.out
          go_wp2_with fail
          refine (HHa.out c A k x.kind x.key V101 O7.out.read hc40).mono ?_
          rintro e w112 ⟨rfl, b1⟩
          clear d0 d1 d2 d3 c0 c1 c2
          have B0_ := Lib.hid (B0.out.trans (b1.mono B0.out.size))
          have X7_ := Lib.hid (X7.out.under b1)
          have O7_ := Lib.hid (O7.out.under b1)
          have TO_ := Lib.hid (own_under TO.out b1)
          have X12_ := Lib.hid (X12.out.under b1)
          clear B0 X7 O7 TO X12
          have B0 := B0_
          have X7 := X7_
          have O7 := O7_
          have TO := TO_
          have X12 := X12_
          clear B0_ X7_ O7_ TO_ X12_
          clear b1
          obtain ⟨d0, d1, d2, d3⟩ := cells4 X12.out
          obtain ⟨c0, c1, c2⟩ := cells3 X7.out
          go_wp2_with fail
          refine (HO.out w112 O7.out.read).mono ?_
          rintro e w113 ⟨A2, k2, rfl, o2, b2⟩
          clear d0 d1 d2 d3 c0 c1 c2
          have B0_ := Lib.hid (B0.out.trans (b2.mono B0.out.size))
          have X7_ := Lib.hid (X7.out.under b2)
          have O7_ := Lib.hid (O7.out.under b2)
          have TO_ := Lib.hid (own_under TO.out b2)
          have X12_ := Lib.hid (X12.out.under b2)
          clear B0 X7 O7 TO X12
          have B0 := B0_
          have X7 := X7_
          have O7 := O7_
          have TO := TO_
          have X12 := X12_
          clear B0_ X7_ O7_ TO_ X12_
          have O2 := Lib.hid (o2)
          clear b2
          clear o2
          go_upto_region 16 with fail
          refine wp_at (fun V114 hV114 => ?_)
          have aV114 : Below w113.heap.size w113 V114 := by rw [← hV114]; exact (Below.refl _ _).alloc (Nat.le_refl _) _
          have xV114 : Whole V114 w113.heap.size 24 #[.int .i64 c.ep, .int .i64 c.nx, .slice A2 c.l.length k2] := by rw [← hV114]; exact Whole.new _ _ _
          clear hV114
          have B0_ := Lib.hid (B0.out.trans (aV114.mono B0.out.size))
          have X7_ := Lib.hid (X7.out.under aV114)
          have O7_ := Lib.hid (O7.out.under aV114)
          have TO_ := Lib.hid (own_under TO.out aV114)
          have X12_ := Lib.hid (X12.out.under aV114)
          have O2_ := Lib.hid (O2.out.under aV114)
          clear B0 X7 O7 TO X12 O2
          have B0 := B0_
          have X7 := X7_
          have O7 := O7_
          have TO := TO_
          have X12 := X12_
          have O2 := O2_
          clear B0_ X7_ O7_ TO_ X12_ O2_
          have X14 := Lib.hid xV114
          clear xV114
          clear aV114
          obtain ⟨e0, e1, e2⟩ := cells3 X14.out
          obtain ⟨c0, c1, c2⟩ := cells3 X7.out
          go_wp2_with fail
          refine (HSm.out c A k A2 k2 V114 O7.out.read O2.out.read hc40).mono ?_
          rintro e w115 ⟨rfl, b3⟩
          clear e0 e1 e2 c0 c1 c2
          have B0_ := Lib.hid (B0.out.trans (b3.mono B0.out.size))
          have X7_ := Lib.hid (X7.out.under b3)
          have O7_ := Lib.hid (O7.out.under b3)
          have TO_ := Lib.hid (own_under TO.out b3)
          have X12_ := Lib.hid (X12.out.under b3)
          have O2_ := Lib.hid (O2.out.under b3)
          have X14_ := Lib.hid (X14.out.under b3)
          clear B0 X7 O7 TO X12 O2 X14
          have B0 := B0_
          have X7 := X7_
          have O7 := O7_
          have TO := TO_
          have X12 := X12_
          have O2 := O2_
          have X14 := X14_
          clear B0_ X7_ O7_ TO_ X12_ O2_ X14_
          clear b3
          simp only [decide_true]
          go_wp2_with fail
          go_roundw
          case rel => exact ⟨j + 1, c, A, k, L, B, m, kk, ids, rfl, rfl, by go_num, by omega, X7.out, O7.out, TO.out, B0.out, HN.out.next⟩
          case measure => simp [intOf]; omega
        | true =>
          have hj40 : j ≤ 40 := by omega
          obtain ⟨o, id0, g1, g2, g3, hn2, hfo, hhc, hwn, qlt, hon⟩ := HN.out.opened hob hj40
          have HN2 := Lib.hid hn2
          have HO := Lib.hid (fun W h => HOp.out c A k x.kind x.key x.now W h hc40)
          rw [g1, g2, g3] at HO
          have HH := Lib.hid (fun W h => HHa.out c A k x.kind x.key W h hc40)
          rw [hhc] at HH
          have HF := Lib.hid (fun A k W h => HFi.out o A k id0 W h hon)
          rw [hfo] at HF
          clear hfo hhc g1 g2 g3 hn2 hob hw1
          have h34 := rightC_iff.2 HN2.out.right
          have h35 := HN2.out.same
          have h36 : o.l.length ≤ 1000 := by have := HN2.out.len; omega
          have q34 : (o.ep == z) = true := by simp [h35]
          have q35 : (o.ep != z) = false := by simp [h35]
          have HR34 := Lib.hid (fun A k W h => HRi.out o A k W h h36)
          rw [h34] at HR34
          clear h34 h35
          obtain ⟨d0, d1, d2, d3⟩ := cells4 X12.out
          obtain ⟨c0, c1, c2⟩ := cells3 X7.out
          go_wp2_with fail
          refine (HH.out V101 O7.out.read).mono ?_
          rintro e w112 ⟨rfl, b1⟩
          clear d0 d1 d2 d3 c0 c1 c2
          have B0_ := Lib.hid (B0.out.trans (b1.mono B0.out.size))
          have X7_ := Lib.hid (X7.out.under b1)
          have O7_ := Lib.hid (O7.out.under b1)
          have TO_ := Lib.hid (own_under TO.out b1)
          have X12_ := Lib.hid (X12.out.under b1)
          clear B0 X7 O7 TO X12
          have B0 := B0_
          have X7 := X7_
          have O7 := O7_
          have TO := TO_
          have X12 := X12_
          clear B0_ X7_ O7_ TO_ X12_
          clear b1
          obtain ⟨d0, d1, d2, d3⟩ := cells4 X12.out
          obtain ⟨c0, c1, c2⟩ := cells3 X7.out
          go_wp2_with fail
          have O2b := Lib.hid B0.out.size
          refine (HO.out w112 O7.out.read).mono ?_
          rintro e w113 ⟨A2, k2, rfl, o2, b2⟩
          clear d0 d1 d2 d3 c0 c1 c2
          have B0_ := Lib.hid (B0.out.trans (b2.mono B0.out.size))
          have X7_ := Lib.hid (X7.out.under b2)
          have O7_ := Lib.hid (O7.out.under b2)
          have TO_ := Lib.hid (own_under TO.out b2)
          have X12_ := Lib.hid (X12.out.under b2)
          clear B0 X7 O7 TO X12
          have B0 := B0_
          have X7 := X7_
          have O7 := O7_
          have TO := TO_
          have X12 := X12_
          clear B0_ X7_ O7_ TO_ X12_
          have O2 := Lib.hid (o2)
          clear b2
          clear o2
          go_upto_region 16 with fail
          refine wp_at (fun V114 hV114 => ?_)
          have aV114 : Below w113.heap.size w113 V114 := by rw [← hV114]; exact (Below.refl _ _).alloc (Nat.le_refl _) _
          have xV114 : Whole V114 w113.heap.size 24 #[.int .i64 o.ep, .int .i64 o.nx, .slice A2 o.l.length k2] := by rw [← hV114]; exact Whole.new _ _ _
          clear hV114
          have B0_ := Lib.hid (B0.out.trans (aV114.mono B0.out.size))
          have X7_ := Lib.hid (X7.out.under aV114)
          have O7_ := Lib.hid (O7.out.under aV114)
          have TO_ := Lib.hid (own_under TO.out aV114)
          have X12_ := Lib.hid (X12.out.under aV114)
          have O2_ := Lib.hid (O2.out.under aV114)
          clear B0 X7 O7 TO X12 O2
          have B0 := B0_
          have X7 := X7_
          have O7 := O7_
          have TO := TO_
          have X12 := X12_
          have O2 := O2_
          clear B0_ X7_ O7_ TO_ X12_ O2_
          have X14 := Lib.hid xV114
          clear xV114
          clear aV114
          obtain ⟨e0, e1, e2⟩ := cells3 X14.out
          obtain ⟨c0, c1, c2⟩ := cells3 X7.out
          go_wp2_with fail
          refine (HF.out A2 k2 V114 O2.out.read).mono ?_
          rintro e w115 ⟨rfl, b3⟩
          clear e0 e1 e2 c0 c1 c2
          have B0_ := Lib.hid (B0.out.trans (b3.mono B0.out.size))
          have X7_ := Lib.hid (X7.out.under b3)
          have O7_ := Lib.hid (O7.out.under b3)
          have TO_ := Lib.hid (own_under TO.out b3)
          have X12_ := Lib.hid (X12.out.under b3)
          have O2_ := Lib.hid (O2.out.under b3)
          have X14_ := Lib.hid (X14.out.under b3)
          clear B0 X7 O7 TO X12 O2 X14
          have B0 := B0_
          have X7 := X7_
          have O7 := O7_
          have TO := TO_
          have X12 := X12_
          have O2 := O2_
          have X14 := X14_
          clear B0_ X7_ O7_ TO_ X12_ O2_ X14_
          clear b3
          simp only [Option.getD_some, Option.isSome_some]
          go_upto_region 20 with fail
          refine wp_at (fun V116 hV116 => ?_)
          have aV116 : Below w115.heap.size w115 V116 := by rw [← hV116]; exact (Below.refl _ _).alloc (Nat.le_refl _) _
          have xV116 : Whole V116 w115.heap.size 31 #[.int .i64 id0, .int .u8 x.kind, .int .i64 x.key, .int .i64 x.now] := by rw [← hV116]; exact Whole.new _ _ _
          clear hV116
          have B0_ := Lib.hid (B0.out.trans (aV116.mono B0.out.size))
          have X7_ := Lib.hid (X7.out.under aV116)
          have O7_ := Lib.hid (O7.out.under aV116)
          have TO_ := Lib.hid (own_under TO.out aV116)
          have X12_ := Lib.hid (X12.out.under aV116)
          have O2_ := Lib.hid (O2.out.under aV116)
          have X14_ := Lib.hid (X14.out.under aV116)
          clear B0 X7 O7 TO X12 O2 X14
          have B0 := B0_
          have X7 := X7_
          have O7 := O7_
          have TO := TO_
          have X12 := X12_
          have O2 := O2_
          have X14 := X14_
          clear B0_ X7_ O7_ TO_ X12_ O2_ X14_
          have X17 := Lib.hid xV116
          clear xV116
          clear aV116
          obtain ⟨e0, e1, e2⟩ := cells3 X14.out
          obtain ⟨c0, c1, c2⟩ := cells3 X7.out
          obtain ⟨d0, d1, d2, d3⟩ := cells4 X12.out
          obtain ⟨f0, f1, f2, f3⟩ := cells4 X17.out
          go_upto_region 23 with fail
          clear e0 e1 e2 c0 c1 c2 d0 d1 d2 d3 f0 f1 f2 f3
          obtain ⟨B2, kk2, W3, hrun, t3, b3, hwh, hca⟩ := told_app w V116 (.slice B m kk) m ids id0 TO.out B0.out (by have := HN.out.few; omega)
          have HRun := Lib.hid hrun
          have x3 := Lib.hid (hwh _ _ _ (by decide) X7.out)
          have e3 := hwh _ _ _ (by decide) X14.out
          have o3 := Lib.hid (hca _ _ _ O2.out)
          have b4 := Lib.hid b3
          have t4 := Lib.hid t3
          obtain ⟨e0, e1, e2⟩ := cells3 e3
          obtain ⟨c0, c1, c2⟩ := cells3 x3.out
          have y0 := x3.out.frozen 0
          have y1 := x3.out.frozen 1
          have y2 := x3.out.frozen 2
          clear hrun t3 hwh hca e3 b3
          go_upto_region 34 with (at_builtin; refine wpList_app (by rfl) _ _ 42 rfl _ _ _ W3 (by rfl) (by rfl) HRun.out ?_)
          obtain ⟨p3, k3⟩ := put3 x3.out (.int .i64 o.ep) (.int .i64 o.nx) (.slice A2 o.l.length k2)
          have p4 := CallsAt.weaker (base := w.heap.size) (CallsAt.only o3.out k3 x3.out (by decide)) O2b.out
          have p5 := k3.own t4.out x3.out (by decide)
          have p6 := k3.bel b4.out HBk.out
          refine wp_at (fun V117 hV117 => ?_)
          rw [hV117] at p3 p4 p5 p6
          clear k3 hV117 X7 O7 TO B0 O2 O2b x3 o3 t4 b4 y0 y1 y2 e0 e1 e2 c0 c1 c2 HRun 
          clear X12
          clear X14
          clear X17
          have X7 := Lib.hid p3
          have O7 := Lib.hid p4
          have TO := Lib.hid p5
          have B0 := Lib.hid p6
          clear p3 p4 p5 p6
          obtain ⟨c0, c1, c2⟩ := cells3 X7.out
          go_wp2_with fail
          refine (HR34.out A2 k2 V117 O7.out.read).mono ?_
          rintro e w118 ⟨rfl, b34⟩
          clear c0 c1 c2
          have B0_ := Lib.hid (B0.out.trans (b34.mono B0.out.size))
          have X7_ := Lib.hid (X7.out.under b34)
          have O7_ := Lib.hid (O7.out.under b34)
          have TO_ := Lib.hid (own_under TO.out b34)
          clear B0 X7 O7 TO
          have B0 := B0_
          have X7 := X7_
          have O7 := O7_
          have TO := TO_
          clear B0_ X7_ O7_ TO_
          clear b34
          obtain ⟨c0, c1, c2⟩ := cells3 X7.out
          go_wp2_with fail
          go_roundw
          case rel => exact ⟨j + 1, o, A2, k2, id0, B2, (m + 1), kk2, (ids ++ [id0]), rfl, rfl, by go_num, by omega, X7.out, O7.out, TO.out, B0.out, HN2.out⟩
          case measure => simp [intOf]; omega
      · by_cases hm0 : m = 0
        · have f0 : decide (0 < m) = false := decide_eq_false (by omega)
          have f1 : decide ((0 : Int) < (m : Int)) = false := decide_eq_false (by omega)
          clear hm0 hw1
          have h34 := rightC_iff.2 HN.out.right
          have h35 := HN.out.same
          have h36 : c.l.length ≤ 1000 := by have := HN.out.len; omega
          have q34 : (c.ep == z) = true := by simp [h35]
          have q35 : (c.ep != z) = false := by simp [h35]
          have HR34 := Lib.hid (fun A k W h => HRi.out c A k W h h36)
          rw [h34] at HR34
          clear h34 h35
          obtain ⟨d0, d1, d2, d3⟩ := cells4 X12.out
          obtain ⟨c0, c1, c2⟩ := cells3 X7.out
          go_upto_region 34 with fail
          clear d0 d1 d2 d3 c0 c1 c2
          obtain ⟨c0, c1, c2⟩ := cells3 X7.out
          go_wp2_with fail
          refine (HR34.out A k V101 O7.out.read).mono ?_
          rintro e w112 ⟨rfl, b34⟩
          clear c0 c1 c2
          have B0_ := Lib.hid (B0.out.trans (b34.mono B0.out.size))
          have X7_ := Lib.hid (X7.out.under b34)
          have O7_ := Lib.hid (O7.out.under b34)
          have TO_ := Lib.hid (own_under TO.out b34)
          have X12_ := Lib.hid (X12.out.under b34)
          clear B0 X7 O7 TO X12
          have B0 := B0_
          have X7 := X7_
          have O7 := O7_
          have TO := TO_
          have X12 := X12_
          clear B0_ X7_ O7_ TO_ X12_
          clear b34
          obtain ⟨c0, c1, c2⟩ := cells3 X7.out
          go_wp2_with fail
          go_roundw
          case rel => exact ⟨j + 1, c, A, k, L, B, m, kk, ids, rfl, rfl, by go_num, by omega, X7.out, O7.out, TO.out, B0.out, HN.out.next⟩
          case measure => simp [intOf]; omega
        · have f0 : decide (0 < m) = true := decide_eq_true (by omega)
          have f1 : decide ((0 : Int) < (m : Int)) = true := decide_eq_true (by omega)
          have h0 : 0 < m := by omega
          have f2 : ((m : Int) == 0) = false := by simp; omega
          have hmf := HN.out.few
          have hw0 : wrap64 (x.key.tmod m + m) = x.key.tmod m + m := by
            obtain ⟨h1, h2⟩ := tmod_bounds h0 x.key
            exact wrap64_mid (by omega) (by omega)
          have hpl := placeN_twice h0 x.key
          have hjn := placeN_lt h0 x.key
          obtain ⟨p, hp⟩ : ∃ p, placeN x.key m = p := ⟨_, rfl⟩
          rw [hp] at hpl hjn
          have hI2 : (p : Int) < (m : Int) := by omega
          obtain ⟨b3, off3, id, hB, t0⟩ := told_at TO.out hjn
          subst hB
          obtain ⟨d, hd⟩ : ∃ d, closeR c id = d := ⟨_, rfl⟩
          have hn2 := HN.out.close id
          have hfi := HN.out.find id
          rw [hd] at hn2 hfi
          have HN2 := Lib.hid hn2
          have hdn : d.l.length ≤ 1000 := by have := hn2.len; omega
          have HC := Lib.hid (fun W h => HCl.out c A k id W h hc40)
          rw [hd] at HC
          have HF := Lib.hid (fun A k W h => HFi.out d A k id W h hdn)
          rw [hfi] at HF
          clear hm0 hw1 hmf hp hd hn2 hfi
          have h34 := rightC_iff.2 HN2.out.right
          have h35 := HN2.out.same
          have h36 : d.l.length ≤ 1000 := by have := HN2.out.len; omega
          have q34 : (d.ep == z) = true := by simp [h35]
          have q35 : (d.ep != z) = false := by simp [h35]
          have HR34 := Lib.hid (fun A k W h => HRi.out d A k W h h36)
          rw [h34] at HR34
          clear h34 h35
          obtain ⟨d0, d1, d2, d3⟩ := cells4 X12.out
          obtain ⟨c0, c1, c2⟩ := cells3 X7.out
          go_upto_region 28 with fail
          go_wp2_with fail
          have O2b := Lib.hid B0.out.size
          refine (HC.out V101 O7.out.read).mono ?_
          rintro e w112 ⟨A2, k2, rfl, o2, b2⟩
          clear d0 d1 d2 d3 c0 c1 c2 t0
          have B0_ := Lib.hid (B0.out.trans (b2.mono B0.out.size))
          have X7_ := Lib.hid (X7.out.under b2)
          have O7_ := Lib.hid (O7.out.under b2)
          have TO_ := Lib.hid (own_under TO.out b2)
          have X12_ := Lib.hid (X12.out.under b2)
          clear B0 X7 O7 TO X12
          have B0 := B0_
          have X7 := X7_
          have O7 := O7_
          have TO := TO_
          have X12 := X12_
          clear B0_ X7_ O7_ TO_ X12_
          have O2 := Lib.hid (o2)
          clear b2
          clear o2
          obtain ⟨c0, c1, c2⟩ := cells3 X7.out
          have y0 := X7.out.frozen 0
          have y1 := X7.out.frozen 1
          have y2 := X7.out.frozen 2
          go_upto_region 29 with fail
          clear c0 c1 c2
          obtain ⟨p3, k3⟩ := put3 X7.out (.int .i64 d.ep) (.int .i64 d.nx) (.slice A2 d.l.length k2)
          have p4 := CallsAt.weaker (base := w.heap.size) (CallsAt.only O2.out k3 X7.out (by decide)) O2b.out
          have p5 := k3.own TO.out X7.out (by decide)
          have p6 := k3.bel B0.out HBk.out
          refine wp_at (fun V113 hV113 => ?_)
          rw [hV113] at p3 p4 p5 p6
          clear k3 hV113 X7 O7 TO B0 O2 O2b y0 y1 y2 
          clear X12
          have X7 := Lib.hid p3
          have O7 := Lib.hid p4
          have TO := Lib.hid p5
          have B0 := Lib.hid p6
          clear p3 p4 p5 p6
          obtain ⟨c0, c1, c2⟩ := cells3 X7.out
          go_wp2_with fail
          refine (HF.out A2 k2 V113 O7.out.read).mono ?_
          rintro e w114 ⟨rfl, b3⟩
          clear c0 c1 c2
          have B0_ := Lib.hid (B0.out.trans (b3.mono B0.out.size))
          have X7_ := Lib.hid (X7.out.under b3)
          have O7_ := Lib.hid (O7.out.under b3)
          have TO_ := Lib.hid (own_under TO.out b3)
          clear B0 X7 O7 TO
          have B0 := B0_
          have X7 := X7_
          have O7 := O7_
          have TO := TO_
          clear B0_ X7_ O7_ TO_
          clear b3
          simp only [Option.getD_none, Option.isSome_none]
          go_upto_region 30 with fail
          refine wp_at (fun V115 hV115 => ?_)
          have aV115 : Below w114.heap.size w114 V115 := by rw [← hV115]; exact (Below.refl _ _).alloc (Nat.le_refl _) _
          clear hV115
          have B0_ := Lib.hid (B0.out.trans (aV115.mono B0.out.size))
          have X7_ := Lib.hid (X7.out.under aV115)
          have O7_ := Lib.hid (O7.out.under aV115)
          have TO_ := Lib.hid (own_under TO.out aV115)
          clear B0 X7 O7 TO
          have B0 := B0_
          have X7 := X7_
          have O7 := O7_
          have TO := TO_
          clear B0_ X7_ O7_ TO_
          clear aV115
          go_upto_region 34 with fail
          obtain ⟨c0, c1, c2⟩ := cells3 X7.out
          go_wp2_with fail
          refine (HR34.out A2 k2 V115 O7.out.read).mono ?_
          rintro e w116 ⟨rfl, b34⟩
          clear c0 c1 c2
          have B0_ := Lib.hid (B0.out.trans (b34.mono B0.out.size))
          have X7_ := Lib.hid (X7.out.under b34)
          have O7_ := Lib.hid (O7.out.under b34)
          have TO_ := Lib.hid (own_under TO.out b34)
          clear B0 X7 O7 TO
          have B0 := B0_
          have X7 := X7_
          have O7 := O7_
          have TO := TO_
          clear B0_ X7_ O7_ TO_
          clear b34
          obtain ⟨c0, c1, c2⟩ := cells3 X7.out
          go_wp2_with fail
          go_roundw
          case rel => exact ⟨j + 1, d, A2, k2, L, _, m, kk, ids, rfl, rfl, by go_num, by omega, X7.out, O7.out, TO.out, B0.out, HN2.out⟩
          case measure => simp [intOf]; omega
      · obtain ⟨d, hd⟩ : ∃ d, lateR c x.now x.key = d := ⟨_, rfl⟩
        have hn2 := HN.out.late x.now x.key
        rw [hd] at hn2
        have HN2 := Lib.hid hn2
        have HC := Lib.hid (fun W h => HLa.out c A k x.now x.key W h hc40)
        rw [hd] at HC
        clear hw1 hd hn2
        have h34 := rightC_iff.2 HN2.out.right
        have h35 := HN2.out.same
        have h36 : d.l.length ≤ 1000 := by have := HN2.out.len; omega
        have q34 : (d.ep == z) = true := by simp [h35]
        have q35 : (d.ep != z) = false := by simp [h35]
        have HR34 := Lib.hid (fun A k W h => HRi.out d A k W h h36)
        rw [h34] at HR34
        clear h34 h35
        obtain ⟨d0, d1, d2, d3⟩ := cells4 X12.out
        obtain ⟨c0, c1, c2⟩ := cells3 X7.out
        go_wp2_with fail
        have O2b := Lib.hid B0.out.size
        refine (HC.out V101 O7.out.read).mono ?_
        rintro e w112 ⟨A2, k2, rfl, o2, b2⟩
        clear d0 d1 d2 d3 c0 c1 c2
        have B0_ := Lib.hid (B0.out.trans (b2.mono B0.out.size))
        have X7_ := Lib.hid (X7.out.under b2)
        have O7_ := Lib.hid (O7.out.under b2)
        have TO_ := Lib.hid (own_under TO.out b2)
        have X12_ := Lib.hid (X12.out.under b2)
        clear B0 X7 O7 TO X12
        have B0 := B0_
        have X7 := X7_
        have O7 := O7_
        have TO := TO_
        have X12 := X12_
        clear B0_ X7_ O7_ TO_ X12_
        have O2 := Lib.hid (o2)
        clear b2
        clear o2
        obtain ⟨c0, c1, c2⟩ := cells3 X7.out
        have y0 := X7.out.frozen 0
        have y1 := X7.out.frozen 1
        have y2 := X7.out.frozen 2
        go_upto_region 34 with fail
        clear c0 c1 c2
        obtain ⟨p3, k3⟩ := put3 X7.out (.int .i64 d.ep) (.int .i64 d.nx) (.slice A2 d.l.length k2)
        have p4 := CallsAt.weaker (base := w.heap.size) (CallsAt.only O2.out k3 X7.out (by decide)) O2b.out
        have p5 := k3.own TO.out X7.out (by decide)
        have p6 := k3.bel B0.out HBk.out
        refine wp_at (fun V113 hV113 => ?_)
        rw [hV113] at p3 p4 p5 p6
        clear k3 hV113 X7 O7 TO B0 O2 O2b y0 y1 y2 
        clear X12
        have X7 := Lib.hid p3
        have O7 := Lib.hid p4
        have TO := Lib.hid p5
        have B0 := Lib.hid p6
        clear p3 p4 p5 p6
        obtain ⟨c0, c1, c2⟩ := cells3 X7.out
        go_wp2_with fail
        refine (HR34.out A2 k2 V113 O7.out.read).mono ?_
        rintro e w114 ⟨rfl, b34⟩
        clear c0 c1 c2
        have B0_ := Lib.hid (B0.out.trans (b34.mono B0.out.size))
        have X7_ := Lib.hid (X7.out.under b34)
        have O7_ := Lib.hid (O7.out.under b34)
        have TO_ := Lib.hid (own_under TO.out b34)
        clear B0 X7 O7 TO
        have B0 := B0_
        have X7 := X7_
        have O7 := O7_
        have TO := TO_
        clear B0_ X7_ O7_ TO_
        clear b34
        obtain ⟨c0, c1, c2⟩ := cells3 X7.out
        go_wp2_with fail
        go_roundw
        case rel => exact ⟨j + 1, d, A2, k2, L, B, m, kk, ids, rfl, rfl, by go_num, by omega, X7.out, O7.out, TO.out, B0.out, HN2.out⟩
        case measure => simp [intOf]; omega
    · have hN := HN.out
      have hnn : (j : Int) = (n : Int) := by omega
      obtain ⟨s, hs⟩ : ∃ s, z + more = s := ⟨_, rfl⟩
      have hsr : 0 ≤ s ∧ s ≤ 524288 := by have := HZ.out; have := HMo.out; omega
      have hws : wrap64 (z + more) = s := by rw [wrap64_mid (by omega) (by omega)]; exact hs
      have HB2 := Lib.hid (fun W => begin_any s W)
      rw [show beginC s = ⟨s, 1, []⟩ by simp [beginC, beginB, hsr.1, hsr.2], show beginE s = 0 by simp [beginE, beginB, hsr.1, hsr.2]] at HB2
      have hro : RightC 8 (⟨s, 1, []⟩ : Cs) := ⟨hsr.1, hsr.2, by simp, by simp, by simp, by simp⟩
      have hob : openB ⟨s, 1, []⟩ 7 0 0 = true := openB_iff.2 ⟨hro, ⟨⟨by omega, by omega⟩, by unfold numC; omega, by unfold numC; omega⟩, by simp [hasC]⟩
      obtain ⟨id1, hi1⟩ : ∃ i : Int, s * 1048576 + 1 = i := ⟨_, rfl⟩
      obtain ⟨o, ho⟩ : ∃ o, openC ⟨s, 1, []⟩ 7 0 0 = o := ⟨_, rfl⟩
      have HO2 := Lib.hid (fun A k W (h : RdC W W.heap.size A 0 []) => open_any ⟨s, 1, []⟩ A 0 k 7 0 0 W.heap.size W h (Nat.le_refl _) (by omega))
      rw [show openI ⟨s, 1, []⟩ 7 0 0 = id1 by simp [openI, hob, hi1], show openE ⟨s, 1, []⟩ 7 0 0 = 0 by simp [openE, hob], ho] at HO2
      have qlt : decide (L < id1) = true := decide_eq_true (by have h1 := hN.lt; have h2 := hN.nx; have h3 := HMo.out.1; omega)
      clear hN hsr hro hob hi1 ho hs
      go_wp2_with fail
      refine (HB2.out wr).mono ?_
      rintro e w201 ⟨A2, k2, rfl, o2, b2⟩
      have B0_ := Lib.hid (B0.out.trans (b2.mono B0.out.size))
      clear B0
      have B0 := B0_
      clear B0_
      have O2 := Lib.hid (o2)
      clear b2
      clear o2
      go_upto_region 37 with fail
      refine wp_at (fun V202 hV202 => ?_)
      have aV202 : Below w201.heap.size w201 V202 := by rw [← hV202]; exact (Below.refl _ _).alloc (Nat.le_refl _) _
      have xV202 : Whole V202 w201.heap.size 24 #[.int .i64 s, .int .i64 1, .slice A2 0 k2] := by rw [← hV202]; exact Whole.new _ _ _
      clear hV202
      have B0_ := Lib.hid (B0.out.trans (aV202.mono B0.out.size))
      have O2_ := Lib.hid (O2.out.under aV202)
      clear B0 O2
      have B0 := B0_
      have O2 := O2_
      clear B0_ O2_
      have X22 := Lib.hid xV202
      clear xV202
      clear aV202
      obtain ⟨e0, e1, e2⟩ := cells3 X22.out
      go_wp2_with fail
      refine (HO2.out A2 k2 V202 O2.out.read).mono ?_
      rintro e w203 ⟨A3, k3, rfl, o3, b3⟩
      clear e0 e1 e2
      have B0_ := Lib.hid (B0.out.trans (b3.mono B0.out.size))
      have O2_ := Lib.hid (O2.out.under b3)
      have X22_ := Lib.hid (X22.out.under b3)
      clear B0 O2 X22
      have B0 := B0_
      have O2 := O2_
      have X22 := X22_
      clear B0_ O2_ X22_
      clear b3
      clear o3
      go_upto_region 38 with fail
      refine wp_at (fun V204 hV204 => ?_)
      have aV204 : Below w203.heap.size w203 V204 := by rw [← hV204]; exact (Below.refl _ _).alloc (Nat.le_refl _) _
      clear hV204
      have B0_ := Lib.hid (B0.out.trans (aV204.mono B0.out.size))
      have O2_ := Lib.hid (O2.out.under aV204)
      have X22_ := Lib.hid (X22.out.under aV204)
      clear B0 O2 X22
      have B0 := B0_
      have O2 := O2_
      have X22 := X22_
      clear B0_ O2_ X22_
      clear aV204
      go_wp2_with fail
      refine (wakes_any V204).mono ?_
      rintro e w205 ⟨rfl, b4⟩
      have B0_ := Lib.hid (B0.out.trans (b4.mono B0.out.size))
      have O2_ := Lib.hid (O2.out.under b4)
      have X22_ := Lib.hid (X22.out.under b4)
      clear B0 O2 X22
      have B0 := B0_
      have O2 := O2_
      have X22 := X22_
      clear B0_ O2_ X22_
      clear b4
      go_wp2_with fail
      go_ret
      exact ⟨rfl, B0.out⟩

end Go.Proofs.Ytgajnmjifhemgaa
