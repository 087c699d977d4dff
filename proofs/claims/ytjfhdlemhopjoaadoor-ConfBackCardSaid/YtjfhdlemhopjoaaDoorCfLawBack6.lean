/-
  A case of the walk of the statement ConfBack. Conditions: those that the theorem names.
-/
import Derived.Test.YtjfhdlemhopjoaaDoorCfLawKit
namespace Go.Proofs.YtjfhdlemhopjoaaDoor
open Go.RowKit Go.Shelf

set_option maxRecDepth 100000 in
set_option maxHeartbeats 8000000 in
theorem confBack_may_row (x : Cf) (A : Option Addr) (n c : Nat) (l : List Int) (w : World) (h : Has x w) (hr : Rd w w.heap.size A n (iv l)) (hc : n ≤ c) (hcm : c ≤ maxLen) (hx : x.n ≤ 60) (hn : n ≤ 60) (hm : may x = true) (hi : isRow l = true) : Calls Tryd.prog 4 #[x.v, .slice A n c] w (TruePost w) := by
  have HI := Lib.hid (In1.new h)
  have HR := Lib.hid hr
  have HM := Lib.hid hm
  have HW := Lib.hid hi
  have HX := Lib.hid hx
  have HN := Lib.hid hn
  have HC := Lib.hid (And.intro hc hcm)
  have d1 : decide ((60 : Int) < (x.n : Int)) = false := by simp; omega
  have d2 : decide ((60 : Int) < (n : Int)) = false := by simp; omega
  have hx4 : x.n ≤ 4 := by have := (may_marks hm).2; rw [h.lies.len] at this; exact this
  obtain ⟨m, hk⟩ : ∃ m, 14 + x.n = m := ⟨_, rfl⟩
  have HK := Lib.hid hk
  have HX4 := Lib.hid hx4
  have e1 : IntKind.i64.wrap (14 + (x.n : Int)) = 14 + (x.n : Int) := IntWalk.i64_in _ ⟨by omega, by omega⟩
  have q1 : ((m : Int) != 14 + (x.n : Int)) = false := by simp; omega
  have q2 : decide ((m : Int) = 14 + (x.n : Int)) = true := by simp; omega
  have d3 : decide ((40 : Int) < (m : Int)) = false := by simp; omega
  clear hx4 hk
  have hl : l.length = n := by have := hr.1; rwa [iv_length] at this
  have HL := Lib.hid hl
  clear hl
  clear h hr hm hi hx hn hc hcm
  go_enter Tryd.func4, Tryd.ntmps4
  obtain ⟨c0, c1, c2, c3, c4, c5, c6, c7, c8, c9, c10, c11, c12, c13, c14⟩ := HI.out.box.1.conf
  go_wp2_with fail
  refine (rowC_yes HI.out.has HM.out HK.out).mono ?_
  as_aux_lemma =>
    rintro e w1 ⟨P1, j1, rfl, o1, b⟩
    clear c0 c1 c2 c3 c4 c5 c6 c7 c8 c9 c10 c11 c12 c13 c14
    have HI_1 := Lib.hid (HI.out.under b)
    clear HI
    clear b
    have HO_1 := Lib.hid (o1)
    clear o1
    obtain ⟨c0, c1, c2, c3, c4, c5, c6, c7, c8, c9, c10, c11, c12, c13, c14⟩ := HI_1.out.box.1.conf
    go_wp2_with fail
    refine (refCk_yes HI_1.out.has (by have := HX.out; omega) (v := 0) (by rw [HM.out]; rfl)).mono ?_
    as_aux_lemma =>
      rintro e w2 ⟨rfl, b⟩
      clear c0 c1 c2 c3 c4 c5 c6 c7 c8 c9 c10 c11 c12 c13 c14
      have HI_2 := Lib.hid (HI_1.out.under b)
      have HO_2 := Lib.hid (own_under HO_1.out b)
      clear HI_1 HO_1
      clear b
      obtain ⟨c0, c1, c2, c3, c4, c5, c6, c7, c8, c9, c10, c11, c12, c13, c14⟩ := HI_2.out.box.1.conf
      go_wp2_with fail
      refine (of_yes (Rd.of_own HO_2.out) (own_cap HO_2.out) (own_maxC HO_2.out) (by have := HK.out; have := HX.out; omega) HI_2.out.tab (isRow_of HM.out)).mono ?_
      as_aux_lemma =>
        rintro e w3 ⟨y, rfl, hy, hl, b⟩
        clear c0 c1 c2 c3 c4 c5 c6 c7 c8 c9 c10 c11 c12 c13 c14
        have HI_3 := Lib.hid (HI_2.out.under b)
        have HO_3 := Lib.hid (own_under HO_2.out b)
        clear HI_2 HO_2
        clear b
        have HLy_3 := Lib.hid (hl)
        have HS := Lib.hid (same_of hy)
        have HYn : Hid (y.n ≤ 1000) := Lib.hid (by
          have h1 := hl.len
          have h2 := (sameC_iff.1 (same_of hy)).2.2
          rw [h2, HI_3.out.has.lies.len] at h1
          have := HX.out
          omega)
        clear hy hl
        clear HO_3
        obtain ⟨V3, hV3⟩ : ∃ V, w3.alloc (.cells y.cells 24) = V := ⟨_, rfl⟩
        have hwV3 : Whole V3 w3.heap.size 24 y.cells ∧ Below w3.heap.size w3 V3 := by rw [← hV3]; exact box_new w3 y
        obtain ⟨ww, bv⟩ := hwV3
        have HI_4 := Lib.hid (HI_3.out.under bv)
        have HLy_4 := Lib.hid ((HLy_3.out.below bv).more bv.size)
        clear HI_3 HLy_3
        have HB_4 := Lib.hid (ww)
        clear ww bv
        have h0 : w3.alloc (.cells #[.int .i64 y.f0, .int .i64 y.f1, .int .i64 y.f2, .int .i64 y.f3, .int .i64 y.f4, .int .i64 y.f5, .int .i64 y.f6, .int .i64 y.f7, .int .i64 y.f8, .int .i64 y.f9, .int .i64 y.f10, .int .i64 y.f11, .int .i64 y.f12, .bool y.sk, .slice y.A y.n y.c] 24) = V3 := hV3
        clear hV3
        obtain ⟨c0, c1, c2, c3, c4, c5, c6, c7, c8, c9, c10, c11, c12, c13, c14⟩ := HI_4.out.box.1.conf
        obtain ⟨e0, e1, e2, e3, e4, e5, e6, e7, e8, e9, e10, e11, e12, e13, e14⟩ := HB_4.out.conf
        go_wp2_with fail
        refine (refSame_yes HLy_4.out HI_4.out.has.lies HYn.out HS.out).mono ?_
        as_aux_lemma =>
          rintro e w5 ⟨rfl, b⟩
          clear c0 c1 c2 c3 c4 c5 c6 c7 c8 c9 c10 c11 c12 c13 c14
          clear e0 e1 e2 e3 e4 e5 e6 e7 e8 e9 e10 e11 e12 e13 e14
          clear h0
          have HI_5 := Lib.hid (HI_4.out.under b)
          have HLy_5 := Lib.hid ((HLy_4.out.below b).more b.size)
          have HB_5 := Lib.hid (HB_4.out.under b)
          clear HI_4 HLy_4 HB_4
          clear b
          clear HB_5
          clear HLy_5
          clear HS HYn
          obtain ⟨c0, c1, c2, c3, c4, c5, c6, c7, c8, c9, c10, c11, c12, c13, c14⟩ := HI_5.out.box.1.conf
          go_wp2_with fail
          refine (of_yes (HI_5.out.rd HR.out) HC.out.1 HC.out.2 (by have := HN.out; omega) HI_5.out.tab HW.out).mono ?_
          as_aux_lemma =>
            rintro e w6 ⟨z, rfl, hz, hl, b⟩
            clear c0 c1 c2 c3 c4 c5 c6 c7 c8 c9 c10 c11 c12 c13 c14
            have HI_6 := Lib.hid (HI_5.out.under b)
            clear HI_5
            clear b
            have HLz_6 := Lib.hid (hl)
            have HM2 := Lib.hid (isRow_may HW.out hz)
            have HK2 : Hid (14 + z.n = n) := Lib.hid (by
              have h1 := hl.len
              have h2 := congrArg List.length (isRow_may HW.out hz).2
              rw [rowOf_len, HL.out] at h2
              omega)
            clear hz hl
            obtain ⟨V6, hV6⟩ : ∃ V, w6.alloc (.cells z.cells 24) = V := ⟨_, rfl⟩
            have hwV6 : Whole V6 w6.heap.size 24 z.cells ∧ Below w6.heap.size w6 V6 := by rw [← hV6]; exact box_new w6 z
            obtain ⟨ww, bv⟩ := hwV6
            have HI_7 := Lib.hid (HI_6.out.under bv)
            have HLz_7 := Lib.hid ((HLz_6.out.below bv).more bv.size)
            clear HI_6 HLz_6
            have HB_7 := Lib.hid (ww)
            clear ww bv
            have h0 : w6.alloc (.cells #[.int .i64 z.f0, .int .i64 z.f1, .int .i64 z.f2, .int .i64 z.f3, .int .i64 z.f4, .int .i64 z.f5, .int .i64 z.f6, .int .i64 z.f7, .int .i64 z.f8, .int .i64 z.f9, .int .i64 z.f10, .int .i64 z.f11, .int .i64 z.f12, .bool z.sk, .slice z.A z.n z.c] 24) = V6 := hV6
            clear hV6
            obtain ⟨c0, c1, c2, c3, c4, c5, c6, c7, c8, c9, c10, c11, c12, c13, c14⟩ := HI_7.out.box.1.conf
            obtain ⟨e0, e1, e2, e3, e4, e5, e6, e7, e8, e9, e10, e11, e12, e13, e14⟩ := HB_7.out.conf
            have HZ := Lib.hid (Has.mk HLz_7.out HI_7.out.tab)
            go_wp2_with fail
            refine (rowC_yes HZ.out HM2.out.1 HK2.out).mono ?_
            as_aux_lemma =>
              rintro e w8 ⟨P2, j2, rfl, o2, b⟩
              clear c0 c1 c2 c3 c4 c5 c6 c7 c8 c9 c10 c11 c12 c13 c14
              clear e0 e1 e2 e3 e4 e5 e6 e7 e8 e9 e10 e11 e12 e13 e14
              clear h0
              have HI_8 := Lib.hid (HI_7.out.under b)
              have HLz_8 := Lib.hid ((HLz_7.out.below b).more b.size)
              have HB_8 := Lib.hid (HB_7.out.under b)
              clear HI_7 HLz_7 HB_7
              clear b
              rw [HM2.out.2] at o2
              have HO2_8 := Lib.hid (o2)
              clear o2 HZ
              obtain ⟨c0, c1, c2, c3, c4, c5, c6, c7, c8, c9, c10, c11, c12, c13, c14⟩ := HI_8.out.box.1.conf
              obtain ⟨e0, e1, e2, e3, e4, e5, e6, e7, e8, e9, e10, e11, e12, e13, e14⟩ := HB_8.out.conf
              go_wp2_with fail
              refine (ints_yes (Rd.of_own HO2_8.out) (HI_8.out.rd HR.out) (by have := HN.out; omega) (b := true) (by simp)).mono ?_
              as_aux_lemma =>
                rintro e w9 ⟨rfl, b⟩
                clear c0 c1 c2 c3 c4 c5 c6 c7 c8 c9 c10 c11 c12 c13 c14
                clear e0 e1 e2 e3 e4 e5 e6 e7 e8 e9 e10 e11 e12 e13 e14
                have HI_9 := Lib.hid (HI_8.out.under b)
                have HLz_9 := Lib.hid ((HLz_8.out.below b).more b.size)
                have HB_9 := Lib.hid (HB_8.out.under b)
                have HO2_9 := Lib.hid (own_under HO2_8.out b)
                clear HI_8 HLz_8 HB_8 HO2_8
                clear b
                obtain ⟨c0, c1, c2, c3, c4, c5, c6, c7, c8, c9, c10, c11, c12, c13, c14⟩ := HI_9.out.box.1.conf
                obtain ⟨e0, e1, e2, e3, e4, e5, e6, e7, e8, e9, e10, e11, e12, e13, e14⟩ := HB_9.out.conf
                go_wp2_with fail
                refine (ck_yes (Has.mk HLz_9.out HI_9.out.tab) (v := 0) (by rw [HM2.out.1]; rfl)).mono ?_
                as_aux_lemma =>
                  rintro e w10 ⟨rfl, b⟩
                  clear c0 c1 c2 c3 c4 c5 c6 c7 c8 c9 c10 c11 c12 c13 c14
                  clear e0 e1 e2 e3 e4 e5 e6 e7 e8 e9 e10 e11 e12 e13 e14
                  have HI_10 := Lib.hid (HI_9.out.under b)
                  have HLz_10 := Lib.hid ((HLz_9.out.below b).more b.size)
                  have HB_10 := Lib.hid (HB_9.out.under b)
                  have HO2_10 := Lib.hid (own_under HO2_9.out b)
                  clear HI_9 HLz_9 HB_9 HO2_9
                  clear b
                  clear HB_10
                  clear HLz_10
                  clear HO2_10
                  go_wp2_with fail
                  refine (wakes_any _ HI_10.out.tab).mono ?_
                  as_aux_lemma =>
                    rintro e w11 ⟨rfl, b⟩
                    have HI_11 := Lib.hid (HI_10.out.under b)
                    clear HI_10
                    clear b
                    go_wp2_with fail
                    go_ret
                    exact ⟨rfl, HI_11.out.box.2⟩


end Go.Proofs.YtjfhdlemhopjoaaDoor
