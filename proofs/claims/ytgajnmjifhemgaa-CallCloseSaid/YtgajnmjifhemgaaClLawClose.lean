/-
  The walk of the statement CallClose: what is closed is that call alone. Conditions: those that each theorem names.
-/
import Derived.Test.YtgajnmjifhemgaaClWakes
import Derived.Test.YtgajnmjifhemgaaClRefC
import Derived.Test.YtgajnmjifhemgaaClPlace
namespace Go.Proofs.Ytgajnmjifhemgaa
open Go.RowKit Go.Shelf

set_option maxRecDepth 100000 in
set_option maxHeartbeats 4000000 in
theorem callClose_any (c : Cs) (A : Option Addr) (n k : Nat) (z now : Int) (w : World) (hr : RdC w w.heap.size A n c.l) (hid : ∀ x ∈ c.l, (Lit.int .i64 x.id).wf = true) : Calls Try.prog 7 #[.agg #[.int .i64 c.ep, .int .i64 c.nx, .slice A n k], .int .i64 z, .int .i64 now] w (TruePost w) := by
  have hl := hr.len
  have HR := Lib.hid hr
  have HL := Lib.hid hl
  have B0 := Lib.hid (Below.refl w.heap.size w)
  clear hr
  by_cases h60 : 60 < n
  · have hd : decide ((60 : Int) < (n : Int)) = true := decide_eq_true (by omega)
    clear h60 hl hid
    go_enter Try.func7, Try.ntmps7
    go_upto_region 1 with fail
    refine wp_at (fun V1 hV1 => ?_)
    have aV1 : Below w.heap.size w V1 := by rw [← hV1]; exact (Below.refl _ _).alloc (Nat.le_refl _) _
    have xV1 : Whole V1 w.heap.size 24 #[.int .i64 c.ep, .int .i64 c.nx, .slice A n k] := by rw [← hV1]; exact Whole.new _ _ _
    clear hV1
    have B0_ := Lib.hid (B0.out.trans (aV1.mono B0.out.size))
    clear B0
    have B0 := B0_
    clear B0_
    have X0 := Lib.hid xV1
    clear xV1
    clear aV1
    obtain ⟨c0, c1, c2⟩ := cells3 X0.out
    go_wp2_with fail
    refine (great_any c A n k V1).mono ?_
    rintro e w2 ⟨rfl, b1⟩
    clear c0 c1 c2
    have B0_ := Lib.hid (B0.out.trans (b1.mono B0.out.size))
    have X0_ := Lib.hid (X0.out.under b1)
    clear B0 X0
    have B0 := B0_
    have X0 := X0_
    clear B0_ X0_
    clear b1
    go_wp2_with fail
    refine (wakes_any w2).mono ?_
    rintro e w3 ⟨rfl, b9⟩
    have B0_ := Lib.hid (B0.out.trans (b9.mono B0.out.size))
    have X0_ := Lib.hid (X0.out.under b9)
    clear B0 X0
    have B0 := B0_
    have X0 := X0_
    clear B0_ X0_
    clear b9
    go_wp2_with fail
    go_ret
    exact ⟨rfl, B0.out⟩
  have hd : decide ((60 : Int) < (n : Int)) = false := decide_eq_false (by omega)
  have hn : n ≤ 60 := by omega
  clear h60
  have HRt := Lib.hid (fun W (hb : Below w.heap.size w W) => rright_any c A n k w.heap.size W (HR.out.below hb) hb.size (by omega) hid)
  cases hrc : rightC c with
  | false =>
    rw [hrc] at HRt
    clear hrc hl hid
    go_enter Try.func7, Try.ntmps7
    go_upto_region 1 with fail
    refine wp_at (fun V1 hV1 => ?_)
    have aV1 : Below w.heap.size w V1 := by rw [← hV1]; exact (Below.refl _ _).alloc (Nat.le_refl _) _
    have xV1 : Whole V1 w.heap.size 24 #[.int .i64 c.ep, .int .i64 c.nx, .slice A n k] := by rw [← hV1]; exact Whole.new _ _ _
    clear hV1
    have B0_ := Lib.hid (B0.out.trans (aV1.mono B0.out.size))
    clear B0
    have B0 := B0_
    clear B0_
    have X0 := Lib.hid xV1
    clear xV1
    clear aV1
    obtain ⟨c0, c1, c2⟩ := cells3 X0.out
    go_wp2_with fail
    refine (great_any c A n k V1).mono ?_
    rintro e w2 ⟨rfl, b1⟩
    clear c0 c1 c2
    have B0_ := Lib.hid (B0.out.trans (b1.mono B0.out.size))
    have X0_ := Lib.hid (X0.out.under b1)
    clear B0 X0
    have B0 := B0_
    have X0 := X0_
    clear B0_ X0_
    clear b1
    obtain ⟨c0, c1, c2⟩ := cells3 X0.out
    go_wp2_with fail
    refine (HRt.out w2 B0.out).mono ?_
    rintro e w3 ⟨rfl, b2⟩
    clear c0 c1 c2
    have B0_ := Lib.hid (B0.out.trans (b2.mono B0.out.size))
    have X0_ := Lib.hid (X0.out.under b2)
    clear B0 X0
    have B0 := B0_
    have X0 := X0_
    clear B0_ X0_
    clear b2
    go_wp2_with fail
    refine (wakes_any w3).mono ?_
    rintro e w4 ⟨rfl, b9⟩
    have B0_ := Lib.hid (B0.out.trans (b9.mono B0.out.size))
    have X0_ := Lib.hid (X0.out.under b9)
    clear B0 X0
    have B0 := B0_
    have X0 := X0_
    clear B0_ X0_
    clear b9
    go_wp2_with fail
    go_ret
    exact ⟨rfl, B0.out⟩
  | true =>
  rw [hrc] at HRt
  by_cases m0 : n = 0
  · have e0 : ((n : Int) == 0) = true := by simp; omega
    clear m0 hrc hl hid
    go_enter Try.func7, Try.ntmps7
    go_upto_region 1 with fail
    refine wp_at (fun V1 hV1 => ?_)
    have aV1 : Below w.heap.size w V1 := by rw [← hV1]; exact (Below.refl _ _).alloc (Nat.le_refl _) _
    have xV1 : Whole V1 w.heap.size 24 #[.int .i64 c.ep, .int .i64 c.nx, .slice A n k] := by rw [← hV1]; exact Whole.new _ _ _
    clear hV1
    have B0_ := Lib.hid (B0.out.trans (aV1.mono B0.out.size))
    clear B0
    have B0 := B0_
    clear B0_
    have X0 := Lib.hid xV1
    clear xV1
    clear aV1
    obtain ⟨c0, c1, c2⟩ := cells3 X0.out
    go_wp2_with fail
    refine (great_any c A n k V1).mono ?_
    rintro e w2 ⟨rfl, b1⟩
    clear c0 c1 c2
    have B0_ := Lib.hid (B0.out.trans (b1.mono B0.out.size))
    have X0_ := Lib.hid (X0.out.under b1)
    clear B0 X0
    have B0 := B0_
    have X0 := X0_
    clear B0_ X0_
    clear b1
    obtain ⟨c0, c1, c2⟩ := cells3 X0.out
    go_wp2_with fail
    refine (HRt.out w2 B0.out).mono ?_
    rintro e w3 ⟨rfl, b2⟩
    clear c0 c1 c2
    have B0_ := Lib.hid (B0.out.trans (b2.mono B0.out.size))
    have X0_ := Lib.hid (X0.out.under b2)
    clear B0 X0
    have B0 := B0_
    have X0 := X0_
    clear B0_ X0_
    clear b2
    obtain ⟨c0, c1, c2⟩ := cells3 X0.out
    go_wp2_with fail
    refine (wakes_any w3).mono ?_
    rintro e w4 ⟨rfl, b9⟩
    clear c0 c1 c2
    have B0_ := Lib.hid (B0.out.trans (b9.mono B0.out.size))
    have X0_ := Lib.hid (X0.out.under b9)
    clear B0 X0
    have B0 := B0_
    have X0 := X0_
    clear B0_ X0_
    clear b9
    go_wp2_with fail
    go_ret
    exact ⟨rfl, B0.out⟩
  have e0 : ((n : Int) == 0) = false := by simp; omega
  by_cases m1 : 1048576 ≤ c.nx
  · have e1 : decide ((1048576 : Int) ≤ c.nx) = true := decide_eq_true m1
    clear m1 hrc hl hid
    go_enter Try.func7, Try.ntmps7
    go_upto_region 1 with fail
    refine wp_at (fun V1 hV1 => ?_)
    have aV1 : Below w.heap.size w V1 := by rw [← hV1]; exact (Below.refl _ _).alloc (Nat.le_refl _) _
    have xV1 : Whole V1 w.heap.size 24 #[.int .i64 c.ep, .int .i64 c.nx, .slice A n k] := by rw [← hV1]; exact Whole.new _ _ _
    clear hV1
    have B0_ := Lib.hid (B0.out.trans (aV1.mono B0.out.size))
    clear B0
    have B0 := B0_
    clear B0_
    have X0 := Lib.hid xV1
    clear xV1
    clear aV1
    obtain ⟨c0, c1, c2⟩ := cells3 X0.out
    go_wp2_with fail
    refine (great_any c A n k V1).mono ?_
    rintro e w2 ⟨rfl, b1⟩
    clear c0 c1 c2
    have B0_ := Lib.hid (B0.out.trans (b1.mono B0.out.size))
    have X0_ := Lib.hid (X0.out.under b1)
    clear B0 X0
    have B0 := B0_
    have X0 := X0_
    clear B0_ X0_
    clear b1
    obtain ⟨c0, c1, c2⟩ := cells3 X0.out
    go_wp2_with fail
    refine (HRt.out w2 B0.out).mono ?_
    rintro e w3 ⟨rfl, b2⟩
    clear c0 c1 c2
    have B0_ := Lib.hid (B0.out.trans (b2.mono B0.out.size))
    have X0_ := Lib.hid (X0.out.under b2)
    clear B0 X0
    have B0 := B0_
    have X0 := X0_
    clear B0_ X0_
    clear b2
    obtain ⟨c0, c1, c2⟩ := cells3 X0.out
    go_wp2_with fail
    refine (wakes_any w3).mono ?_
    rintro e w4 ⟨rfl, b9⟩
    clear c0 c1 c2
    have B0_ := Lib.hid (B0.out.trans (b9.mono B0.out.size))
    have X0_ := Lib.hid (X0.out.under b9)
    clear B0 X0
    have B0 := B0_
    have X0 := X0_
    clear B0_ X0_
    clear b9
    go_wp2_with fail
    go_ret
    exact ⟨rfl, B0.out⟩
  have e1 : decide ((1048576 : Int) ≤ c.nx) = false := decide_eq_false m1
  by_cases m2 : now < 0
  · have e2 : decide (now < 0) = true := decide_eq_true m2
    clear m2 hrc hl hid
    go_enter Try.func7, Try.ntmps7
    go_upto_region 1 with fail
    refine wp_at (fun V1 hV1 => ?_)
    have aV1 : Below w.heap.size w V1 := by rw [← hV1]; exact (Below.refl _ _).alloc (Nat.le_refl _) _
    have xV1 : Whole V1 w.heap.size 24 #[.int .i64 c.ep, .int .i64 c.nx, .slice A n k] := by rw [← hV1]; exact Whole.new _ _ _
    clear hV1
    have B0_ := Lib.hid (B0.out.trans (aV1.mono B0.out.size))
    clear B0
    have B0 := B0_
    clear B0_
    have X0 := Lib.hid xV1
    clear xV1
    clear aV1
    obtain ⟨c0, c1, c2⟩ := cells3 X0.out
    go_wp2_with fail
    refine (great_any c A n k V1).mono ?_
    rintro e w2 ⟨rfl, b1⟩
    clear c0 c1 c2
    have B0_ := Lib.hid (B0.out.trans (b1.mono B0.out.size))
    have X0_ := Lib.hid (X0.out.under b1)
    clear B0 X0
    have B0 := B0_
    have X0 := X0_
    clear B0_ X0_
    clear b1
    obtain ⟨c0, c1, c2⟩ := cells3 X0.out
    go_wp2_with fail
    refine (HRt.out w2 B0.out).mono ?_
    rintro e w3 ⟨rfl, b2⟩
    clear c0 c1 c2
    have B0_ := Lib.hid (B0.out.trans (b2.mono B0.out.size))
    have X0_ := Lib.hid (X0.out.under b2)
    clear B0 X0
    have B0 := B0_
    have X0 := X0_
    clear B0_ X0_
    clear b2
    obtain ⟨c0, c1, c2⟩ := cells3 X0.out
    go_wp2_with fail
    refine (wakes_any w3).mono ?_
    rintro e w4 ⟨rfl, b9⟩
    clear c0 c1 c2
    have B0_ := Lib.hid (B0.out.trans (b9.mono B0.out.size))
    have X0_ := Lib.hid (X0.out.under b9)
    clear B0 X0
    have B0 := B0_
    have X0 := X0_
    clear B0_ X0_
    clear b9
    go_wp2_with fail
    go_ret
    exact ⟨rfl, B0.out⟩
  have e2 : decide (now < 0) = false := decide_eq_false m2
  by_cases m3 : 1099511627776 < now
  · have e3 : decide ((1099511627776 : Int) < now) = true := decide_eq_true m3
    clear m3 hrc hl hid
    go_enter Try.func7, Try.ntmps7
    go_upto_region 1 with fail
    refine wp_at (fun V1 hV1 => ?_)
    have aV1 : Below w.heap.size w V1 := by rw [← hV1]; exact (Below.refl _ _).alloc (Nat.le_refl _) _
    have xV1 : Whole V1 w.heap.size 24 #[.int .i64 c.ep, .int .i64 c.nx, .slice A n k] := by rw [← hV1]; exact Whole.new _ _ _
    clear hV1
    have B0_ := Lib.hid (B0.out.trans (aV1.mono B0.out.size))
    clear B0
    have B0 := B0_
    clear B0_
    have X0 := Lib.hid xV1
    clear xV1
    clear aV1
    obtain ⟨c0, c1, c2⟩ := cells3 X0.out
    go_wp2_with fail
    refine (great_any c A n k V1).mono ?_
    rintro e w2 ⟨rfl, b1⟩
    clear c0 c1 c2
    have B0_ := Lib.hid (B0.out.trans (b1.mono B0.out.size))
    have X0_ := Lib.hid (X0.out.under b1)
    clear B0 X0
    have B0 := B0_
    have X0 := X0_
    clear B0_ X0_
    clear b1
    obtain ⟨c0, c1, c2⟩ := cells3 X0.out
    go_wp2_with fail
    refine (HRt.out w2 B0.out).mono ?_
    rintro e w3 ⟨rfl, b2⟩
    clear c0 c1 c2
    have B0_ := Lib.hid (B0.out.trans (b2.mono B0.out.size))
    have X0_ := Lib.hid (X0.out.under b2)
    clear B0 X0
    have B0 := B0_
    have X0 := X0_
    clear B0_ X0_
    clear b2
    obtain ⟨c0, c1, c2⟩ := cells3 X0.out
    go_wp2_with fail
    refine (wakes_any w3).mono ?_
    rintro e w4 ⟨rfl, b9⟩
    clear c0 c1 c2
    have B0_ := Lib.hid (B0.out.trans (b9.mono B0.out.size))
    have X0_ := Lib.hid (X0.out.under b9)
    clear B0 X0
    have B0 := B0_
    have X0 := X0_
    clear B0_ X0_
    clear b9
    go_wp2_with fail
    go_ret
    exact ⟨rfl, B0.out⟩
  have e3 : decide ((1099511627776 : Int) < now) = false := decide_eq_false m3
  have h0 : 0 < n := by omega
  have hw0 : wrap64 (z.tmod n + n) = z.tmod n + n := by
    obtain ⟨h1, h2⟩ := tmod_bounds h0 z
    exact wrap64_mid (by omega) (by omega)
  have hpl := placeN_twice h0 z
  have hjn := placeN_lt h0 z
  obtain ⟨j, hj⟩ : ∃ j, placeN z n = j := ⟨_, rfl⟩
  rw [hj] at hpl hjn
  obtain ⟨x, hx⟩ : ∃ x, c.l[j]? = some x := ⟨_, List.getElem?_eq_getElem (by omega)⟩
  have hrg := rightC_iff.1 hrc
  have hxm := List.mem_of_getElem? hx
  obtain ⟨L, hL⟩ : ∃ L, (closeC c x.id).l = L := ⟨_, rfl⟩
  have hcl : closeC c x.id = ⟨c.ep, c.nx, L⟩ := by rw [← hL]; rfl
  have hLe : L = c.l.eraseIdx j := by rw [← hL, close_at hrg hx]
  have hLn : L.length + 1 = n := by rw [hLe, List.length_eraseIdx, if_pos (by omega)]; omega
  obtain ⟨hh1, hh2⟩ := has_close hrg hxm
  rw [hcl] at hh1
  have hrd : RightC 8 ⟨c.ep, c.nx, L⟩ := by rw [← hcl]; exact hrg.close _
  have hok := hrg.ok x hxm
  have hnow : numC now := ⟨by omega, by omega⟩
  have hob : openB ⟨c.ep, c.nx, L⟩ x.kind x.key now = true := openB_iff.2 ⟨hrd, ⟨⟨hok.kl, hok.kh⟩, hok.key, hnow⟩, hh1⟩
  have hob2 : openB c x.kind x.key now = false := by simp [openB, hh2]
  have hnx : ¬ c.nx = 1048576 := by omega
  obtain ⟨o, ho⟩ : ∃ o, moreC ⟨c.ep, c.nx, L⟩ x.kind x.key now = o := ⟨_, rfl⟩
  obtain ⟨id0, hi0⟩ : ∃ i : Int, c.ep * 1048576 + c.nx = i := ⟨_, rfl⟩
  have hro : rightC o = true := by rw [← ho]; exact rightC_iff.2 (hrd.more (by have := hrg.nh; show c.nx < 1048576; omega) hok.kl hok.kh hok.key hnow hh1)
  have hfo : findC o id0 = some ⟨id0, x.kind, x.key, now⟩ := by rw [← ho, ← hi0]; exact find_more hrd _ _ _
  have hne : id0 ≠ x.id := by have := hok.hi; omega
  have q1 : (id0 == x.id) = false := by simp [hne]
  have q2 : (id0 != x.id) = true := by simp [hne]
  have hon : o.l.length ≤ 1000 := by rw [← ho]; simp [moreC]; omega
  have HCl := Lib.hid (fun W (hb : Below w.heap.size w W) => close_any c A n k x.id w.heap.size W (HR.out.below hb) hb.size (by omega))
  rw [show closeR c x.id = ⟨c.ep, c.nx, L⟩ by rw [closeR, hrc]; exact hcl] at HCl
  have HHd := Lib.hid (fun A k W (h : RdC W W.heap.size A L.length L) => has_any ⟨c.ep, c.nx, L⟩ A L.length k x.kind x.key W.heap.size W h (Nat.le_refl _) (by omega))
  rw [hh1] at HHd
  have HHc := Lib.hid (fun W (hb : Below w.heap.size w W) => has_any c A n k x.kind x.key w.heap.size W (HR.out.below hb) hb.size (by omega))
  rw [hh2] at HHc
  have HOd := Lib.hid (fun A k W (h : RdC W W.heap.size A L.length L) => open_any ⟨c.ep, c.nx, L⟩ A L.length k x.kind x.key now W.heap.size W h (Nat.le_refl _) (by omega))
  rw [show openC ⟨c.ep, c.nx, L⟩ x.kind x.key now = o by simp [openC, hob, hnx, ho], show openI ⟨c.ep, c.nx, L⟩ x.kind x.key now = id0 by simp [openI, hob, hnx, hi0], show openE ⟨c.ep, c.nx, L⟩ x.kind x.key now = 0 by simp [openE, hob, hnx]] at HOd
  have HOc := Lib.hid (fun W (hb : Below w.heap.size w W) => open_any c A n k x.kind x.key now w.heap.size W (HR.out.below hb) hb.size (by omega))
  rw [show openC c x.kind x.key now = c by simp [openC, hob2], show openI c x.kind x.key now = 0 by simp [openI, hob2], show openE c x.kind x.key now = 2 by simp [openE, hob2]] at HOc
  have HFo := Lib.hid (fun A k W (h : RdC W W.heap.size A o.l.length o.l) => find_any o A o.l.length k id0 W.heap.size W h (Nat.le_refl _) hon)
  rw [hfo] at HFo
  have HRo := Lib.hid (fun A k W (h : RdC W W.heap.size A o.l.length o.l) => rightc_any o A o.l.length k W.heap.size W h (Nat.le_refl _) hon)
  rw [hro] at HRo
  have HLe := Lib.hid hLe
  have HLn := Lib.hid hLn
  have HX := Lib.hid hx
  have HJ := Lib.hid hjn
  have hwn : wrap64 ((n : Int) - 1) = (L.length : Int) := by rw [wrap64_mid (by omega) (by omega)]; omega
  clear hrc hL hcl hLe hh1 hh2 hrd hok hnow hob hob2 hnx hro hfo hne hon hrg hxm ho hi0 hid m0 m1 m2 m3 hj hx hjn
  go_enter Try.func7, Try.ntmps7
  go_upto_region 1 with fail
  refine wp_at (fun V1 hV1 => ?_)
  have aV1 : Below w.heap.size w V1 := by rw [← hV1]; exact (Below.refl _ _).alloc (Nat.le_refl _) _
  have xV1 : Whole V1 w.heap.size 24 #[.int .i64 c.ep, .int .i64 c.nx, .slice A n k] := by rw [← hV1]; exact Whole.new _ _ _
  clear hV1
  have B0_ := Lib.hid (B0.out.trans (aV1.mono B0.out.size))
  clear B0
  have B0 := B0_
  clear B0_
  have X0 := Lib.hid xV1
  clear xV1
  clear aV1
  obtain ⟨c0, c1, c2⟩ := cells3 X0.out
  go_wp2_with fail
  refine (great_any c A n k V1).mono ?_
  rintro e w2 ⟨rfl, b1⟩
  clear c0 c1 c2
  have B0_ := Lib.hid (B0.out.trans (b1.mono B0.out.size))
  have X0_ := Lib.hid (X0.out.under b1)
  clear B0 X0
  have B0 := B0_
  have X0 := X0_
  clear B0_ X0_
  clear b1
  obtain ⟨c0, c1, c2⟩ := cells3 X0.out
  go_wp2_with fail
  refine (HRt.out w2 B0.out).mono ?_
  rintro e w3 ⟨rfl, b2⟩
  clear c0 c1 c2
  have B0_ := Lib.hid (B0.out.trans (b2.mono B0.out.size))
  have X0_ := Lib.hid (X0.out.under b2)
  clear B0 X0
  have B0 := B0_
  have X0 := X0_
  clear B0_ X0_
  clear b2
  obtain ⟨c0, c1, c2⟩ := cells3 X0.out
  go_upto_region 3 with fail
  go_quiet (fail)
  clear c0 c1 c2
  go_upto_region 4 with fail
  refine wp_at (fun V4 hV4 => ?_)
  have aV4 : Below w3.heap.size w3 V4 := by rw [← hV4]; exact drewN_below (Below.refl _ _) _
  clear hV4
  have B0_ := Lib.hid (B0.out.trans (aV4.mono B0.out.size))
  have X0_ := Lib.hid (X0.out.under aV4)
  clear B0 X0
  have B0 := B0_
  have X0 := X0_
  clear B0_ X0_
  clear aV4
  obtain ⟨c0, c1, c2⟩ := cells3 X0.out
  obtain ⟨b, off, rfl, _, hc⟩ := RdC.at_ (HR.out.below B0.out) h0
  obtain ⟨g0, g1, g2, g3⟩ := hc j x HX.out
  have hI : (j : Int) < (n : Int) := by have := HJ.out; omega
  clear hc
  go_upto_region 5 with fail
  clear c0 c1 c2 g0 g1 g2 g3
  refine wp_at (fun V5 hV5 => ?_)
  have aV5 : Below V4.heap.size V4 V5 := by rw [← hV5]; exact (Below.refl _ _).alloc (Nat.le_refl _) _
  have xV5 : Whole V5 V4.heap.size 31 #[.int .i64 x.id, .int .u8 x.kind, .int .i64 x.key, .int .i64 x.sent] := by rw [← hV5]; exact Whole.new _ _ _
  clear hV5
  have B0_ := Lib.hid (B0.out.trans (aV5.mono B0.out.size))
  have X0_ := Lib.hid (X0.out.under aV5)
  clear B0 X0
  have B0 := B0_
  have X0 := X0_
  clear B0_ X0_
  have X7 := Lib.hid xV5
  clear xV5
  clear aV5
  obtain ⟨c0, c1, c2⟩ := cells3 X0.out
  obtain ⟨x0, x1, x2, x3⟩ := cells4 X7.out
  go_wp2_with fail
  refine (HCl.out V5 B0.out).mono ?_
  rintro e w6 ⟨A2, k2, rfl, o2, b2⟩
  clear c0 c1 c2 x0 x1 x2 x3
  have B0_ := Lib.hid (B0.out.trans (b2.mono B0.out.size))
  have X0_ := Lib.hid (X0.out.under b2)
  have X7_ := Lib.hid (X7.out.under b2)
  clear B0 X0 X7
  have B0 := B0_
  have X0 := X0_
  have X7 := X7_
  clear B0_ X0_ X7_
  have O2 := Lib.hid (o2)
  clear b2
  clear o2
  go_upto_region 6 with fail
  refine wp_at (fun V7 hV7 => ?_)
  have aV7 : Below w6.heap.size w6 V7 := by rw [← hV7]; exact (Below.refl _ _).alloc (Nat.le_refl _) _
  have xV7 : Whole V7 w6.heap.size 24 #[.int .i64 c.ep, .int .i64 c.nx, .slice A2 L.length k2] := by rw [← hV7]; exact Whole.new _ _ _
  clear hV7
  have B0_ := Lib.hid (B0.out.trans (aV7.mono B0.out.size))
  have X0_ := Lib.hid (X0.out.under aV7)
  have X7_ := Lib.hid (X7.out.under aV7)
  have O2_ := Lib.hid (O2.out.under aV7)
  clear B0 X0 X7 O2
  have B0 := B0_
  have X0 := X0_
  have X7 := X7_
  have O2 := O2_
  clear B0_ X0_ X7_ O2_
  have X8 := Lib.hid xV7
  clear xV7
  clear aV7
  obtain ⟨c0, c1, c2⟩ := cells3 X0.out
  obtain ⟨x0, x1, x2, x3⟩ := cells4 X7.out
  obtain ⟨d0, d1, d2⟩ := cells3 X8.out
  go_wp2_with fail
  refine (HHd.out A2 k2 V7 O2.out.read).mono ?_
  rintro e w8 ⟨rfl, b3⟩
  clear c0 c1 c2 x0 x1 x2 x3 d0 d1 d2
  have B0_ := Lib.hid (B0.out.trans (b3.mono B0.out.size))
  have X0_ := Lib.hid (X0.out.under b3)
  have X7_ := Lib.hid (X7.out.under b3)
  have O2_ := Lib.hid (O2.out.under b3)
  have X8_ := Lib.hid (X8.out.under b3)
  clear B0 X0 X7 O2 X8
  have B0 := B0_
  have X0 := X0_
  have X7 := X7_
  have O2 := O2_
  have X8 := X8_
  clear B0_ X0_ X7_ O2_ X8_
  clear b3
  obtain ⟨c0, c1, c2⟩ := cells3 X0.out
  obtain ⟨x0, x1, x2, x3⟩ := cells4 X7.out
  obtain ⟨d0, d1, d2⟩ := cells3 X8.out
  go_wp2_with fail
  refine (HHc.out w8 B0.out).mono ?_
  rintro e w9 ⟨rfl, b4⟩
  clear c0 c1 c2 x0 x1 x2 x3 d0 d1 d2
  have B0_ := Lib.hid (B0.out.trans (b4.mono B0.out.size))
  have X0_ := Lib.hid (X0.out.under b4)
  have X7_ := Lib.hid (X7.out.under b4)
  have O2_ := Lib.hid (O2.out.under b4)
  have X8_ := Lib.hid (X8.out.under b4)
  clear B0 X0 X7 O2 X8
  have B0 := B0_
  have X0 := X0_
  have X7 := X7_
  have O2 := O2_
  have X8 := X8_
  clear B0_ X0_ X7_ O2_ X8_
  clear b4
  obtain ⟨c0, c1, c2⟩ := cells3 X0.out
  obtain ⟨x0, x1, x2, x3⟩ := cells4 X7.out
  obtain ⟨d0, d1, d2⟩ := cells3 X8.out
  go_wp2_with fail
  go_loopw [9, 10] (fun i kk wr => ∃ j2 : Nat, i = .int .i64 (j2 : Int) ∧ j2 ≤ L.length ∧ ∃ q, wr = w9.drewN q) (fun i _ _ => L.length - (intOf i).toNat)
  case atStart => exact ⟨0, rfl, Nat.zero_le _, 0, rfl⟩
  case round =>
    obtain ⟨j2, rfl, hj2, qq, rfl⟩ := hrel
    by_cases hlt : j2 < L.length
    · obtain ⟨b5, off5, hA2, _, hc5⟩ := RdC.at_ O2.out.read (by omega)
      subst hA2
      obtain ⟨b6, off6, hA6, _, hc6⟩ := RdC.at_ (HR.out.below B0.out) h0
      cases hA6
      obtain ⟨y, hy⟩ : ∃ y, L[j2]? = some y := ⟨_, List.getElem?_eq_getElem hlt⟩
      have hI2 : (j2 : Int) < (L.length : Int) := by omega
      obtain ⟨g0, g1, g2, g3⟩ := hc5 j2 y hy
      clear hc5
      by_cases q0 : j ≤ j2
      · have q5 : decide (j ≤ j2) = true := decide_eq_true q0
        have hI3 : ((j2 : Int) + 1) < (n : Int) := by have := HLn.out; omega
        have hy2 : c.l[j2 + 1]? = some y := by rw [← hy, HLe.out, List.getElem?_eraseIdx_of_ge q0]
        obtain ⟨f0, f1, f2, f3⟩ := hc6 (j2 + 1) y hy2
        clear hc6 q0 hy hy2
        go_wp2_with fail
        go_quiet (fail)
        go_wp2_with fail
        go_roundw
        case rel => exact ⟨j2 + 1, by go_num, by omega, _, rfl⟩
        case measure => simp [intOf]; omega
      · have q5 : decide (j ≤ j2) = false := decide_eq_false q0
        have hI3 : (j2 : Int) < (n : Int) := by have := HLn.out; omega
        have hy2 : c.l[j2]? = some y := by rw [← hy, HLe.out, List.getElem?_eraseIdx_of_lt (by omega)]
        obtain ⟨f0, f1, f2, f3⟩ := hc6 j2 y hy2
        clear hc6 q0 hy hy2
        go_wp2_with fail
        go_quiet (fail)
        go_wp2_with fail
        go_roundw
        case rel => exact ⟨j2 + 1, by go_num, by omega, _, rfl⟩
        case measure => simp [intOf]; omega
    · have hI2 : decide ((j2 : Int) < (L.length : Int)) = false := decide_eq_false (by omega)
      go_upto_region 16 with fail
      clear c0 c1 c2 x0 x1 x2 x3 d0 d1 d2
      refine wp_at (fun V10 hV10 => ?_)
      have aV10 : Below w9.heap.size w9 V10 := by rw [← hV10]; exact drewN_below (Below.refl _ _) _
      clear hV10
      have B0_ := Lib.hid (B0.out.trans (aV10.mono B0.out.size))
      have X0_ := Lib.hid (X0.out.under aV10)
      have X7_ := Lib.hid (X7.out.under aV10)
      have O2_ := Lib.hid (O2.out.under aV10)
      have X8_ := Lib.hid (X8.out.under aV10)
      clear B0 X0 X7 O2 X8
      have B0 := B0_
      have X0 := X0_
      have X7 := X7_
      have O2 := O2_
      have X8 := X8_
      clear B0_ X0_ X7_ O2_ X8_
      clear aV10
      obtain ⟨c0, c1, c2⟩ := cells3 X0.out
      obtain ⟨x0, x1, x2, x3⟩ := cells4 X7.out
      obtain ⟨d0, d1, d2⟩ := cells3 X8.out
      go_wp2_with fail
      refine (HOd.out A2 k2 V10 O2.out.read).mono ?_
      rintro e w11 ⟨A3, k3, rfl, o3, b3⟩
      clear c0 c1 c2 x0 x1 x2 x3 d0 d1 d2
      have B0_ := Lib.hid (B0.out.trans (b3.mono B0.out.size))
      have X0_ := Lib.hid (X0.out.under b3)
      have X7_ := Lib.hid (X7.out.under b3)
      have O2_ := Lib.hid (O2.out.under b3)
      have X8_ := Lib.hid (X8.out.under b3)
      clear B0 X0 X7 O2 X8
      have B0 := B0_
      have X0 := X0_
      have X7 := X7_
      have O2 := O2_
      have X8 := X8_
      clear B0_ X0_ X7_ O2_ X8_
      have O3 := Lib.hid (o3)
      clear b3
      clear o3
      go_upto_region 17 with fail
      refine wp_at (fun V12 hV12 => ?_)
      have aV12 : Below w11.heap.size w11 V12 := by rw [← hV12]; exact (Below.refl _ _).alloc (Nat.le_refl _) _
      have xV12 : Whole V12 w11.heap.size 24 #[.int .i64 o.ep, .int .i64 o.nx, .slice A3 o.l.length k3] := by rw [← hV12]; exact Whole.new _ _ _
      clear hV12
      have B0_ := Lib.hid (B0.out.trans (aV12.mono B0.out.size))
      have X0_ := Lib.hid (X0.out.under aV12)
      have X7_ := Lib.hid (X7.out.under aV12)
      have O2_ := Lib.hid (O2.out.under aV12)
      have X8_ := Lib.hid (X8.out.under aV12)
      have O3_ := Lib.hid (O3.out.under aV12)
      clear B0 X0 X7 O2 X8 O3
      have B0 := B0_
      have X0 := X0_
      have X7 := X7_
      have O2 := O2_
      have X8 := X8_
      have O3 := O3_
      clear B0_ X0_ X7_ O2_ X8_ O3_
      have X9 := Lib.hid xV12
      clear xV12
      clear aV12
      obtain ⟨c0, c1, c2⟩ := cells3 X0.out
      obtain ⟨x0, x1, x2, x3⟩ := cells4 X7.out
      go_wp2_with fail
      refine (HOc.out V12 B0.out).mono ?_
      rintro e w13 ⟨A4, k4, rfl, o4, b4⟩
      clear c0 c1 c2 x0 x1 x2 x3
      have B0_ := Lib.hid (B0.out.trans (b4.mono B0.out.size))
      have X0_ := Lib.hid (X0.out.under b4)
      have X7_ := Lib.hid (X7.out.under b4)
      have O2_ := Lib.hid (O2.out.under b4)
      have X8_ := Lib.hid (X8.out.under b4)
      have O3_ := Lib.hid (O3.out.under b4)
      have X9_ := Lib.hid (X9.out.under b4)
      clear B0 X0 X7 O2 X8 O3 X9
      have B0 := B0_
      have X0 := X0_
      have X7 := X7_
      have O2 := O2_
      have X8 := X8_
      have O3 := O3_
      have X9 := X9_
      clear B0_ X0_ X7_ O2_ X8_ O3_ X9_
      clear b4
      clear o4
      go_upto_region 18 with fail
      refine wp_at (fun V14 hV14 => ?_)
      have aV14 : Below w13.heap.size w13 V14 := by rw [← hV14]; exact (Below.refl _ _).alloc (Nat.le_refl _) _
      clear hV14
      have B0_ := Lib.hid (B0.out.trans (aV14.mono B0.out.size))
      have X0_ := Lib.hid (X0.out.under aV14)
      have X7_ := Lib.hid (X7.out.under aV14)
      have O2_ := Lib.hid (O2.out.under aV14)
      have X8_ := Lib.hid (X8.out.under aV14)
      have O3_ := Lib.hid (O3.out.under aV14)
      have X9_ := Lib.hid (X9.out.under aV14)
      clear B0 X0 X7 O2 X8 O3 X9
      have B0 := B0_
      have X0 := X0_
      have X7 := X7_
      have O2 := O2_
      have X8 := X8_
      have O3 := O3_
      have X9 := X9_
      clear B0_ X0_ X7_ O2_ X8_ O3_ X9_
      clear aV14
      obtain ⟨d0, d1, d2⟩ := cells3 X9.out
      go_wp2_with fail
      refine (HFo.out A3 k3 V14 O3.out.read).mono ?_
      rintro e w15 ⟨rfl, b5⟩
      clear d0 d1 d2
      have B0_ := Lib.hid (B0.out.trans (b5.mono B0.out.size))
      have X0_ := Lib.hid (X0.out.under b5)
      have X7_ := Lib.hid (X7.out.under b5)
      have O2_ := Lib.hid (O2.out.under b5)
      have X8_ := Lib.hid (X8.out.under b5)
      have O3_ := Lib.hid (O3.out.under b5)
      have X9_ := Lib.hid (X9.out.under b5)
      clear B0 X0 X7 O2 X8 O3 X9
      have B0 := B0_
      have X0 := X0_
      have X7 := X7_
      have O2 := O2_
      have X8 := X8_
      have O3 := O3_
      have X9 := X9_
      clear B0_ X0_ X7_ O2_ X8_ O3_ X9_
      clear b5
      simp only [Option.getD_some, Option.isSome_some]
      go_upto_region 19 with fail
      refine wp_at (fun V16 hV16 => ?_)
      have aV16 : Below w15.heap.size w15 V16 := by rw [← hV16]; exact (Below.refl _ _).alloc (Nat.le_refl _) _
      have xV16 : Whole V16 w15.heap.size 31 #[.int .i64 id0, .int .u8 x.kind, .int .i64 x.key, .int .i64 now] := by rw [← hV16]; exact Whole.new _ _ _
      clear hV16
      have B0_ := Lib.hid (B0.out.trans (aV16.mono B0.out.size))
      have X0_ := Lib.hid (X0.out.under aV16)
      have X7_ := Lib.hid (X7.out.under aV16)
      have O2_ := Lib.hid (O2.out.under aV16)
      have X8_ := Lib.hid (X8.out.under aV16)
      have O3_ := Lib.hid (O3.out.under aV16)
      have X9_ := Lib.hid (X9.out.under aV16)
      clear B0 X0 X7 O2 X8 O3 X9
      have B0 := B0_
      have X0 := X0_
      have X7 := X7_
      have O2 := O2_
      have X8 := X8_
      have O3 := O3_
      have X9 := X9_
      clear B0_ X0_ X7_ O2_ X8_ O3_ X9_
      have X10 := Lib.hid xV16
      clear xV16
      clear aV16
      obtain ⟨y0, y1, y2, y3⟩ := cells4 X10.out
      obtain ⟨x0, x1, x2, x3⟩ := cells4 X7.out
      obtain ⟨d0, d1, d2⟩ := cells3 X9.out
      go_wp2_with fail
      refine (HRo.out A3 k3 V16 O3.out.read).mono ?_
      rintro e w17 ⟨rfl, b6⟩
      clear y0 y1 y2 y3 x0 x1 x2 x3 d0 d1 d2
      have B0_ := Lib.hid (B0.out.trans (b6.mono B0.out.size))
      have X0_ := Lib.hid (X0.out.under b6)
      have X7_ := Lib.hid (X7.out.under b6)
      have O2_ := Lib.hid (O2.out.under b6)
      have X8_ := Lib.hid (X8.out.under b6)
      have O3_ := Lib.hid (O3.out.under b6)
      have X9_ := Lib.hid (X9.out.under b6)
      have X10_ := Lib.hid (X10.out.under b6)
      clear B0 X0 X7 O2 X8 O3 X9 X10
      have B0 := B0_
      have X0 := X0_
      have X7 := X7_
      have O2 := O2_
      have X8 := X8_
      have O3 := O3_
      have X9 := X9_
      have X10 := X10_
      clear B0_ X0_ X7_ O2_ X8_ O3_ X9_ X10_
      clear b6
      go_wp2_with fail
      refine (wakes_any w17).mono ?_
      rintro e w18 ⟨rfl, b7⟩
      have B0_ := Lib.hid (B0.out.trans (b7.mono B0.out.size))
      have X0_ := Lib.hid (X0.out.under b7)
      have X7_ := Lib.hid (X7.out.under b7)
      have O2_ := Lib.hid (O2.out.under b7)
      have X8_ := Lib.hid (X8.out.under b7)
      have O3_ := Lib.hid (O3.out.under b7)
      have X9_ := Lib.hid (X9.out.under b7)
      have X10_ := Lib.hid (X10.out.under b7)
      clear B0 X0 X7 O2 X8 O3 X9 X10
      have B0 := B0_
      have X0 := X0_
      have X7 := X7_
      have O2 := O2_
      have X8 := X8_
      have O3 := O3_
      have X9 := X9_
      have X10 := X10_
      clear B0_ X0_ X7_ O2_ X8_ O3_ X9_ X10_
      clear b7
      go_wp2_with fail
      go_ret
      exact ⟨rfl, B0.out⟩

end Go.Proofs.Ytgajnmjifhemgaa
