/-
  A case of the walk of the statement ConfBack. Conditions: those that the theorem names.
-/
import Derived.Test.YtjfhdlemhopjoaaDoorCfLawKit
namespace Go.Proofs.YtjfhdlemhopjoaaDoor
open Go.RowKit Go.Shelf

set_option maxRecDepth 100000 in
set_option maxHeartbeats 8000000 in
theorem confBack_no_none (x : Cf) (A : Option Addr) (n c : Nat) (l : List Int) (w : World) (h : Has x w) (hr : Rd w w.heap.size A n (iv l)) (hc : n ≤ c) (hcm : c ≤ maxLen) (hx : x.n ≤ 60) (hn : n ≤ 60) (hm : may x = false) (hi : isRow l = false) : Calls Tryd.prog 4 #[x.v, .slice A n c] w (TruePost w) := by
  have HI := Lib.hid (In1.new h)
  have HR := Lib.hid hr
  have HM := Lib.hid hm
  have HW := Lib.hid hi
  have HX := Lib.hid hx
  have HN := Lib.hid hn
  have HC := Lib.hid (And.intro hc hcm)
  have d1 : decide ((60 : Int) < (x.n : Int)) = false := by simp; omega
  have d2 : decide ((60 : Int) < (n : Int)) = false := by simp; omega
  clear h hr hm hi hx hn hc hcm
  go_enter Tryd.func4, Tryd.ntmps4
  obtain ⟨c0, c1, c2, c3, c4, c5, c6, c7, c8, c9, c10, c11, c12, c13, c14⟩ := HI.out.box.1.conf
  go_wp2_with fail
  refine (rowC_no HI.out.has HM.out).mono ?_
  as_aux_lemma =>
    rintro e w1 ⟨P1, j1, rfl, b⟩
    clear c0 c1 c2 c3 c4 c5 c6 c7 c8 c9 c10 c11 c12 c13 c14
    have HI_1 := Lib.hid (HI.out.under b)
    clear HI
    clear b
    obtain ⟨c0, c1, c2, c3, c4, c5, c6, c7, c8, c9, c10, c11, c12, c13, c14⟩ := HI_1.out.box.1.conf
    go_wp2_with fail
    refine (refCk_yes HI_1.out.has (by have := HX.out; omega) (v := 70) (by rw [HM.out]; rfl)).mono ?_
    as_aux_lemma =>
      rintro e w2 ⟨rfl, b⟩
      clear c0 c1 c2 c3 c4 c5 c6 c7 c8 c9 c10 c11 c12 c13 c14
      have HI_2 := Lib.hid (HI_1.out.under b)
      clear HI_1
      clear b
      obtain ⟨c0, c1, c2, c3, c4, c5, c6, c7, c8, c9, c10, c11, c12, c13, c14⟩ := HI_2.out.box.1.conf
      go_wp2_with fail
      refine (of_no (HI_2.out.rd HR.out) HC.out.1 HC.out.2 (by have := HN.out; omega) HI_2.out.tab HW.out).mono ?_
      as_aux_lemma =>
        rintro e w3 ⟨u, rfl, hy, b⟩
        clear c0 c1 c2 c3 c4 c5 c6 c7 c8 c9 c10 c11 c12 c13 c14
        have HI_3 := Lib.hid (HI_2.out.under b)
        clear HI_2
        clear b
        have HY := Lib.hid hy
        clear hy
        obtain ⟨V3, hV3⟩ : ∃ V, w3.alloc (.cells u.cells 24) = V := ⟨_, rfl⟩
        have hwV3 : Whole V3 w3.heap.size 24 u.cells ∧ Below w3.heap.size w3 V3 := by rw [← hV3]; exact box_new w3 u
        obtain ⟨ww, bv⟩ := hwV3
        have HI_4 := Lib.hid (HI_3.out.under bv)
        clear HI_3
        have HB_4 := Lib.hid (ww)
        clear ww bv
        have h0 : w3.alloc (.cells #[.int .i64 u.f0, .int .i64 u.f1, .int .i64 u.f2, .int .i64 u.f3, .int .i64 u.f4, .int .i64 u.f5, .int .i64 u.f6, .int .i64 u.f7, .int .i64 u.f8, .int .i64 u.f9, .int .i64 u.f10, .int .i64 u.f11, .int .i64 u.f12, .bool u.sk, .slice u.A u.n u.c] 24) = V3 := hV3
        clear hV3
        obtain ⟨e0, e1, e2, e3, e4, e5, e6, e7, e8, e9, e10, e11, e12, e13, e14⟩ := HB_4.out.conf
        go_wp2_with fail
        refine (refSame_yes (x := u) (y := cf0) (by rw [HY.out]; exact lies0 _) (lies0 _) (by rw [HY.out]; show 0 ≤ 1000; omega) (b := true) (by rw [HY.out]; exact sameC_refl cf0)).mono ?_
        as_aux_lemma =>
          rintro e w5 ⟨rfl, b⟩
          clear e0 e1 e2 e3 e4 e5 e6 e7 e8 e9 e10 e11 e12 e13 e14
          clear h0
          have HI_5 := Lib.hid (HI_4.out.under b)
          have HB_5 := Lib.hid (HB_4.out.under b)
          clear HI_4 HB_4
          clear b
          clear HY
          clear HB_5
          go_wp2_with fail
          refine (wakes_any _ HI_5.out.tab).mono ?_
          as_aux_lemma =>
            rintro e w6 ⟨rfl, b⟩
            have HI_6 := Lib.hid (HI_5.out.under b)
            clear HI_5
            clear b
            go_wp2_with fail
            go_ret
            exact ⟨rfl, HI_6.out.box.2⟩


end Go.Proofs.YtjfhdlemhopjoaaDoor
