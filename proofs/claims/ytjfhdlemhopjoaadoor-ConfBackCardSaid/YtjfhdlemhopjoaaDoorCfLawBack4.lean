/-
  A case of the walk of the statement ConfBack. Conditions: those that the theorem names.
-/
import Derived.Test.YtjfhdlemhopjoaaDoorCfLawKit
namespace Go.Proofs.YtjfhdlemhopjoaaDoor
open Go.RowKit Go.Shelf

set_option maxRecDepth 100000 in
set_option maxHeartbeats 8000000 in
theorem confBack_no_row (x : Cf) (A : Option Addr) (n c : Nat) (l : List Int) (w : World) (h : Has x w) (hr : Rd w w.heap.size A n (iv l)) (hc : n ≤ c) (hcm : c ≤ maxLen) (hx : x.n ≤ 60) (hn : n ≤ 60) (hm : may x = false) (hi : isRow l = true) : Calls Tryd.prog 4 #[x.v, .slice A n c] w (TruePost w) := by
  have HI := Lib.hid (In1.new h)
  have HR := Lib.hid hr
  have HM := Lib.hid hm
  have HW := Lib.hid hi
  have HX := Lib.hid hx
  have HN := Lib.hid hn
  have HC := Lib.hid (And.intro hc hcm)
  have d1 : decide ((60 : Int) < (x.n : Int)) = false := by simp; omega
  have d2 : decide ((60 : Int) < (n : Int)) = false := by simp; omega
  have hl : l.length = n := by have := hr.1; rwa [iv_length] at this
  have HL := Lib.hid hl
  clear hl
  clear h hr hm hi hx hn hc hcm
  go_enter Tryd.func4, Tryd.ntmps4
  obtain ⟨c0, c1, c2, c3, c4, c5, c6, c7, c8, c9, c10, c11, c12, c13, c14⟩ := HI.out.box.1.conf
  go_wp2_with fail
  refine (rowC_no HI.out.has HM.out).mono ?_
  as_aux_lemma =>
    rintro e w1 ⟨P1, j1, rfl, b⟩
    clear c0 c1 c2 c3 c4 c5 c6 c7 c8 c9 c10 c11 c12 c13 c14
    have HI_1 := Lib.hid (HI.out.under b)
    clear HI
    clear b
    obtain ⟨c0, c1, c2, c3, c4, c5, c6, c7, c8, c9, c10, c11, c12, c13, c14⟩ := HI_1.out.box.1.conf
    go_wp2_with fail
    refine (refCk_yes HI_1.out.has (by have := HX.out; omega) (v := 70) (by rw [HM.out]; rfl)).mono ?_
    as_aux_lemma =>
      rintro e w2 ⟨rfl, b⟩
      clear c0 c1 c2 c3 c4 c5 c6 c7 c8 c9 c10 c11 c12 c13 c14
      have HI_2 := Lib.hid (HI_1.out.under b)
      clear HI_1
      clear b
      obtain ⟨c0, c1, c2, c3, c4, c5, c6, c7, c8, c9, c10, c11, c12, c13, c14⟩ := HI_2.out.box.1.conf
      go_wp2_with fail
      refine (of_yes (HI_2.out.rd HR.out) HC.out.1 HC.out.2 (by have := HN.out; omega) HI_2.out.tab HW.out).mono ?_
      as_aux_lemma =>
        rintro e w3 ⟨z, rfl, hz, hl, b⟩
        clear c0 c1 c2 c3 c4 c5 c6 c7 c8 c9 c10 c11 c12 c13 c14
        have HI_3 := Lib.hid (HI_2.out.under b)
        clear HI_2
        clear b
        have HLz_3 := Lib.hid (hl)
        have HM2 := Lib.hid (isRow_may HW.out hz)
        have HK2 : Hid (14 + z.n = n) := Lib.hid (by
          have h1 := hl.len
          have h2 := congrArg List.length (isRow_may HW.out hz).2
          rw [rowOf_len, HL.out] at h2
          omega)
        clear hz hl
        obtain ⟨V3, hV3⟩ : ∃ V, w3.alloc (.cells z.cells 24) = V := ⟨_, rfl⟩
        have hwV3 : Whole V3 w3.heap.size 24 z.cells ∧ Below w3.heap.size w3 V3 := by rw [← hV3]; exact box_new w3 z
        obtain ⟨ww, bv⟩ := hwV3
        have HI_4 := Lib.hid (HI_3.out.under bv)
        have HLz_4 := Lib.hid ((HLz_3.out.below bv).more bv.size)
        clear HI_3 HLz_3
        have HB_4 := Lib.hid (ww)
        clear ww bv
        have h0 : w3.alloc (.cells #[.int .i64 z.f0, .int .i64 z.f1, .int .i64 z.f2, .int .i64 z.f3, .int .i64 z.f4, .int .i64 z.f5, .int .i64 z.f6, .int .i64 z.f7, .int .i64 z.f8, .int .i64 z.f9, .int .i64 z.f10, .int .i64 z.f11, .int .i64 z.f12, .bool z.sk, .slice z.A z.n z.c] 24) = V3 := hV3
        clear hV3
        obtain ⟨c0, c1, c2, c3, c4, c5, c6, c7, c8, c9, c10, c11, c12, c13, c14⟩ := HI_4.out.box.1.conf
        obtain ⟨e0, e1, e2, e3, e4, e5, e6, e7, e8, e9, e10, e11, e12, e13, e14⟩ := HB_4.out.conf
        have HZ := Lib.hid (Has.mk HLz_4.out HI_4.out.tab)
        go_wp2_with fail
        refine (rowC_yes HZ.out HM2.out.1 HK2.out).mono ?_
        as_aux_lemma =>
          rintro e w5 ⟨P2, j2, rfl, o2, b⟩
          clear c0 c1 c2 c3 c4 c5 c6 c7 c8 c9 c10 c11 c12 c13 c14
          clear e0 e1 e2 e3 e4 e5 e6 e7 e8 e9 e10 e11 e12 e13 e14
          clear h0
          have HI_5 := Lib.hid (HI_4.out.under b)
          have HLz_5 := Lib.hid ((HLz_4.out.below b).more b.size)
          have HB_5 := Lib.hid (HB_4.out.under b)
          clear HI_4 HLz_4 HB_4
          clear b
          rw [HM2.out.2] at o2
          have HO2_5 := Lib.hid (o2)
          clear o2 HZ
          obtain ⟨c0, c1, c2, c3, c4, c5, c6, c7, c8, c9, c10, c11, c12, c13, c14⟩ := HI_5.out.box.1.conf
          obtain ⟨e0, e1, e2, e3, e4, e5, e6, e7, e8, e9, e10, e11, e12, e13, e14⟩ := HB_5.out.conf
          go_wp2_with fail
          refine (ints_yes (Rd.of_own HO2_5.out) (HI_5.out.rd HR.out) (by have := HN.out; omega) (b := true) (by simp)).mono ?_
          as_aux_lemma =>
            rintro e w6 ⟨rfl, b⟩
            clear c0 c1 c2 c3 c4 c5 c6 c7 c8 c9 c10 c11 c12 c13 c14
            clear e0 e1 e2 e3 e4 e5 e6 e7 e8 e9 e10 e11 e12 e13 e14
            have HI_6 := Lib.hid (HI_5.out.under b)
            have HLz_6 := Lib.hid ((HLz_5.out.below b).more b.size)
            have HB_6 := Lib.hid (HB_5.out.under b)
            have HO2_6 := Lib.hid (own_under HO2_5.out b)
            clear HI_5 HLz_5 HB_5 HO2_5
            clear b
            obtain ⟨c0, c1, c2, c3, c4, c5, c6, c7, c8, c9, c10, c11, c12, c13, c14⟩ := HI_6.out.box.1.conf
            obtain ⟨e0, e1, e2, e3, e4, e5, e6, e7, e8, e9, e10, e11, e12, e13, e14⟩ := HB_6.out.conf
            go_wp2_with fail
            refine (ck_yes (Has.mk HLz_6.out HI_6.out.tab) (v := 0) (by rw [HM2.out.1]; rfl)).mono ?_
            as_aux_lemma =>
              rintro e w7 ⟨rfl, b⟩
              clear c0 c1 c2 c3 c4 c5 c6 c7 c8 c9 c10 c11 c12 c13 c14
              clear e0 e1 e2 e3 e4 e5 e6 e7 e8 e9 e10 e11 e12 e13 e14
              have HI_7 := Lib.hid (HI_6.out.under b)
              have HLz_7 := Lib.hid ((HLz_6.out.below b).more b.size)
              have HB_7 := Lib.hid (HB_6.out.under b)
              have HO2_7 := Lib.hid (own_under HO2_6.out b)
              clear HI_6 HLz_6 HB_6 HO2_6
              clear b
              clear HB_7
              clear HLz_7
              clear HO2_7
              go_wp2_with fail
              refine (wakes_any _ HI_7.out.tab).mono ?_
              as_aux_lemma =>
                rintro e w8 ⟨rfl, b⟩
                have HI_8 := Lib.hid (HI_7.out.under b)
                clear HI_7
                clear b
                go_wp2_with fail
                go_ret
                exact ⟨rfl, HI_8.out.box.2⟩


end Go.Proofs.YtjfhdlemhopjoaaDoor
