/-
  A case of the walk of the statement ConfBack. Conditions: those that the theorem names.
-/
import Derived.Test.YtjfhdlemhopjoaaDoorCfLawKit
namespace Go.Proofs.YtjfhdlemhopjoaaDoor
open Go.RowKit Go.Shelf

set_option maxRecDepth 100000 in
set_option maxHeartbeats 8000000 in
theorem confBack_may_none (x : Cf) (A : Option Addr) (n c : Nat) (l : List Int) (w : World) (h : Has x w) (hr : Rd w w.heap.size A n (iv l)) (hc : n ≤ c) (hcm : c ≤ maxLen) (hx : x.n ≤ 60) (hn : n ≤ 60) (hm : may x = true) (hi : isRow l = false) : Calls Tryd.prog 4 #[x.v, .slice A n c] w (TruePost w) := by
  have HI := Lib.hid (In1.new h)
  have HR := Lib.hid hr
  have HM := Lib.hid hm
  have HW := Lib.hid hi
  have HX := Lib.hid hx
  have HN := Lib.hid hn
  have HC := Lib.hid (And.intro hc hcm)
  have d1 : decide ((60 : Int) < (x.n : Int)) = false := by simp; omega
  have d2 : decide ((60 : Int) < (n : Int)) = false := by simp; omega
  have hx4 : x.n ≤ 4 := by have := (may_marks hm).2; rw [h.lies.len] at this; exact this
  obtain ⟨m, hk⟩ : ∃ m, 14 + x.n = m := ⟨_, rfl⟩
  have HK := Lib.hid hk
  have HX4 := Lib.hid hx4
  have e1 : IntKind.i64.wrap (14 + (x.n : Int)) = 14 + (x.n : Int) := IntWalk.i64_in _ ⟨by omega, by omega⟩
  have q1 : ((m : Int) != 14 + (x.n : Int)) = false := by simp; omega
  have q2 : decide ((m : Int) = 14 + (x.n : Int)) = true := by simp; omega
  have d3 : decide ((40 : Int) < (m : Int)) = false := by simp; omega
  clear hx4 hk
  clear h hr hm hi hx hn hc hcm
  go_enter Tryd.func4, Tryd.ntmps4
  obtain ⟨c0, c1, c2, c3, c4, c5, c6, c7, c8, c9, c10, c11, c12, c13, c14⟩ := HI.out.box.1.conf
  go_wp2_with fail
  refine (rowC_yes HI.out.has HM.out HK.out).mono ?_
  as_aux_lemma =>
    rintro e w1 ⟨P1, j1, rfl, o1, b⟩
    clear c0 c1 c2 c3 c4 c5 c6 c7 c8 c9 c10 c11 c12 c13 c14
    have HI_1 := Lib.hid (HI.out.under b)
    clear HI
    clear b
    have HO_1 := Lib.hid (o1)
    clear o1
    obtain ⟨c0, c1, c2, c3, c4, c5, c6, c7, c8, c9, c10, c11, c12, c13, c14⟩ := HI_1.out.box.1.conf
    go_wp2_with fail
    refine (refCk_yes HI_1.out.has (by have := HX.out; omega) (v := 0) (by rw [HM.out]; rfl)).mono ?_
    as_aux_lemma =>
      rintro e w2 ⟨rfl, b⟩
      clear c0 c1 c2 c3 c4 c5 c6 c7 c8 c9 c10 c11 c12 c13 c14
      have HI_2 := Lib.hid (HI_1.out.under b)
      have HO_2 := Lib.hid (own_under HO_1.out b)
      clear HI_1 HO_1
      clear b
      obtain ⟨c0, c1, c2, c3, c4, c5, c6, c7, c8, c9, c10, c11, c12, c13, c14⟩ := HI_2.out.box.1.conf
      go_wp2_with fail
      refine (of_yes (Rd.of_own HO_2.out) (own_cap HO_2.out) (own_maxC HO_2.out) (by have := HK.out; have := HX.out; omega) HI_2.out.tab (isRow_of HM.out)).mono ?_
      as_aux_lemma =>
        rintro e w3 ⟨y, rfl, hy, hl, b⟩
        clear c0 c1 c2 c3 c4 c5 c6 c7 c8 c9 c10 c11 c12 c13 c14
        have HI_3 := Lib.hid (HI_2.out.under b)
        have HO_3 := Lib.hid (own_under HO_2.out b)
        clear HI_2 HO_2
        clear b
        have HLy_3 := Lib.hid (hl)
        have HS := Lib.hid (same_of hy)
        have HYn : Hid (y.n ≤ 1000) := Lib.hid (by
          have h1 := hl.len
          have h2 := (sameC_iff.1 (same_of hy)).2.2
          rw [h2, HI_3.out.has.lies.len] at h1
          have := HX.out
          omega)
        clear hy hl
        clear HO_3
        obtain ⟨V3, hV3⟩ : ∃ V, w3.alloc (.cells y.cells 24) = V := ⟨_, rfl⟩
        have hwV3 : Whole V3 w3.heap.size 24 y.cells ∧ Below w3.heap.size w3 V3 := by rw [← hV3]; exact box_new w3 y
        obtain ⟨ww, bv⟩ := hwV3
        have HI_4 := Lib.hid (HI_3.out.under bv)
        have HLy_4 := Lib.hid ((HLy_3.out.below bv).more bv.size)
        clear HI_3 HLy_3
        have HB_4 := Lib.hid (ww)
        clear ww bv
        have h0 : w3.alloc (.cells #[.int .i64 y.f0, .int .i64 y.f1, .int .i64 y.f2, .int .i64 y.f3, .int .i64 y.f4, .int .i64 y.f5, .int .i64 y.f6, .int .i64 y.f7, .int .i64 y.f8, .int .i64 y.f9, .int .i64 y.f10, .int .i64 y.f11, .int .i64 y.f12, .bool y.sk, .slice y.A y.n y.c] 24) = V3 := hV3
        clear hV3
        obtain ⟨c0, c1, c2, c3, c4, c5, c6, c7, c8, c9, c10, c11, c12, c13, c14⟩ := HI_4.out.box.1.conf
        obtain ⟨e0, e1, e2, e3, e4, e5, e6, e7, e8, e9, e10, e11, e12, e13, e14⟩ := HB_4.out.conf
        go_wp2_with fail
        refine (refSame_yes HLy_4.out HI_4.out.has.lies HYn.out HS.out).mono ?_
        as_aux_lemma =>
          rintro e w5 ⟨rfl, b⟩
          clear c0 c1 c2 c3 c4 c5 c6 c7 c8 c9 c10 c11 c12 c13 c14
          clear e0 e1 e2 e3 e4 e5 e6 e7 e8 e9 e10 e11 e12 e13 e14
          clear h0
          have HI_5 := Lib.hid (HI_4.out.under b)
          have HLy_5 := Lib.hid ((HLy_4.out.below b).more b.size)
          have HB_5 := Lib.hid (HB_4.out.under b)
          clear HI_4 HLy_4 HB_4
          clear b
          clear HB_5
          clear HLy_5
          clear HS HYn
          obtain ⟨c0, c1, c2, c3, c4, c5, c6, c7, c8, c9, c10, c11, c12, c13, c14⟩ := HI_5.out.box.1.conf
          go_wp2_with fail
          refine (of_no (HI_5.out.rd HR.out) HC.out.1 HC.out.2 (by have := HN.out; omega) HI_5.out.tab HW.out).mono ?_
          as_aux_lemma =>
            rintro e w6 ⟨u, rfl, hy, b⟩
            clear c0 c1 c2 c3 c4 c5 c6 c7 c8 c9 c10 c11 c12 c13 c14
            have HI_6 := Lib.hid (HI_5.out.under b)
            clear HI_5
            clear b
            have HY := Lib.hid hy
            clear hy
            obtain ⟨V6, hV6⟩ : ∃ V, w6.alloc (.cells u.cells 24) = V := ⟨_, rfl⟩
            have hwV6 : Whole V6 w6.heap.size 24 u.cells ∧ Below w6.heap.size w6 V6 := by rw [← hV6]; exact box_new w6 u
            obtain ⟨ww, bv⟩ := hwV6
            have HI_7 := Lib.hid (HI_6.out.under bv)
            clear HI_6
            have HB_7 := Lib.hid (ww)
            clear ww bv
            have h0 : w6.alloc (.cells #[.int .i64 u.f0, .int .i64 u.f1, .int .i64 u.f2, .int .i64 u.f3, .int .i64 u.f4, .int .i64 u.f5, .int .i64 u.f6, .int .i64 u.f7, .int .i64 u.f8, .int .i64 u.f9, .int .i64 u.f10, .int .i64 u.f11, .int .i64 u.f12, .bool u.sk, .slice u.A u.n u.c] 24) = V6 := hV6
            clear hV6
            obtain ⟨e0, e1, e2, e3, e4, e5, e6, e7, e8, e9, e10, e11, e12, e13, e14⟩ := HB_7.out.conf
            go_wp2_with fail
            refine (refSame_yes (x := u) (y := cf0) (by rw [HY.out]; exact lies0 _) (lies0 _) (by rw [HY.out]; show 0 ≤ 1000; omega) (b := true) (by rw [HY.out]; exact sameC_refl cf0)).mono ?_
            as_aux_lemma =>
              rintro e w8 ⟨rfl, b⟩
              clear e0 e1 e2 e3 e4 e5 e6 e7 e8 e9 e10 e11 e12 e13 e14
              clear h0
              have HI_8 := Lib.hid (HI_7.out.under b)
              have HB_8 := Lib.hid (HB_7.out.under b)
              clear HI_7 HB_7
              clear b
              clear HY
              clear HB_8
              go_wp2_with fail
              refine (wakes_any _ HI_8.out.tab).mono ?_
              as_aux_lemma =>
                rintro e w9 ⟨rfl, b⟩
                have HI_9 := Lib.hid (HI_8.out.under b)
                clear HI_8
                clear b
                go_wp2_with fail
                go_ret
                exact ⟨rfl, HI_9.out.box.2⟩


end Go.Proofs.YtjfhdlemhopjoaaDoor
