/-
  A case of the walk of the statement ConfTells. Conditions: those that the theorem names.
-/
import Derived.Test.YtjfhdlemhopjoaaDoorCfLawTwo
namespace Go.Proofs.YtjfhdlemhopjoaaDoor
open Go.RowKit Go.Shelf

set_option maxRecDepth 100000 in
set_option maxHeartbeats 8000000 in
theorem confTells_less (x y : Cf) (A : Option Addr) (n c : Nat) (l : List Int) (w : World) (h : Has x w) (h2 : Lies y w w.heap.size) (hr : Rd w w.heap.size A n (iv l)) (hc : n ≤ c) (hcm : c ≤ maxLen) (hx : x.n ≤ 60) (hy : y.n ≤ 60) (hn : n ≤ 60) : Calls Tryd.prog 3 #[x.v, y.v, .slice A n c] w (TruePost w) := by
  have HI := Lib.hid (In2.new h h2)
  have HR := Lib.hid hr
  have HX := Lib.hid hx
  have HN := Lib.hid hn
  have HC0 := Lib.hid (And.intro hc hcm)
  have d1 : decide ((60 : Int) < (x.n : Int)) = false := by simp; omega
  have d2 : decide ((60 : Int) < (y.n : Int)) = false := by simp; omega
  have d3 : decide ((60 : Int) < (n : Int)) = false := by simp; omega
  obtain ⟨R, hR⟩ : ∃ R, (if may x = true then rowOf x else []) = R := ⟨_, rfl⟩
  obtain ⟨m, hm⟩ : ∃ m, R.length = m := ⟨_, rfl⟩
  have HM : Hid (m ≤ 1000) := Lib.hid (by
    have h1 := h.lies.len
    rw [← hm, ← hR]
    by_cases h : may x = true
    · rw [if_pos h, rowOf_len]; omega
    · rw [if_neg h]; simp)
  obtain ⟨v, hv⟩ : ∃ v, er (may x) = v := ⟨_, rfl⟩
  obtain ⟨u, hu⟩ : ∃ u, er (isRow l) = u := ⟨_, rfl⟩
  obtain ⟨f, hf⟩ : ∃ f, floorOf x = f := ⟨_, rfl⟩
  obtain ⟨g, hg⟩ : ∃ g, boundOf x = g := ⟨_, rfl⟩
  obtain ⟨s, hs⟩ : ∃ s, sameC x y = s := ⟨_, rfl⟩
  have HF := Lib.hid (And.intro hR (And.intro hm (And.intro hv (And.intro hu (And.intro hf (And.intro hg hs))))))
  clear h h2 hr hx hy hn hc hcm hR hm hv hu hf hg hs
  go_enter Tryd.func3, Tryd.ntmps3
  obtain ⟨c0, c1, c2, c3, c4, c5, c6, c7, c8, c9, c10, c11, c12, c13, c14⟩ := HI.out.two.1.conf
  obtain ⟨d0, d1, d2, d3, d4, d5, d6, d7, d8, d9, d10, d11, d12, d13, d14⟩ := HI.out.two.2.1.conf
  go_wp2_with fail
  refine (rowN HI.out.hasx HF.out.1 HF.out.2.1 HF.out.2.2.1).mono ?_
  as_aux_lemma =>
    rintro e w1 ⟨P1, j1, rfl, o1, b⟩
    clear c0 c1 c2 c3 c4 c5 c6 c7 c8 c9 c10 c11 c12 c13 c14
    clear d0 d1 d2 d3 d4 d5 d6 d7 d8 d9 d10 d11 d12 d13 d14
    have HI_1 := Lib.hid (HI.out.under b)
    clear HI
    clear b
    have HO_1 := Lib.hid (o1)
    clear o1
    obtain ⟨c0, c1, c2, c3, c4, c5, c6, c7, c8, c9, c10, c11, c12, c13, c14⟩ := HI_1.out.two.1.conf
    go_wp2_with fail
    refine (refRowN HI_1.out.hasx (by have := HX.out; omega) HF.out.1 HF.out.2.1 HF.out.2.2.1).mono ?_
    as_aux_lemma =>
      rintro e w2 ⟨P2, j2, rfl, o2, b⟩
      clear c0 c1 c2 c3 c4 c5 c6 c7 c8 c9 c10 c11 c12 c13 c14
      have HI_2 := Lib.hid (HI_1.out.under b)
      have HO_2 := Lib.hid (own_under HO_1.out b)
      clear HI_1 HO_1
      clear b
      have HP_2 := Lib.hid (o2)
      clear o2
      go_wp2_with fail
      refine (ofN (HI_2.out.rd HR.out) HC0.out.1 HC0.out.2 (by have := HN.out; omega) HI_2.out.tab HF.out.2.2.2.1).mono ?_
      as_aux_lemma =>
        rintro e w3 ⟨y1, rfl, t1, b⟩
        have HI_3 := Lib.hid (HI_2.out.under b)
        have HO_3 := Lib.hid (own_under HO_2.out b)
        have HP_3 := Lib.hid (own_under HP_2.out b)
        clear HI_2 HO_2 HP_2
        clear b
        have HT_3 := Lib.hid (t1)
        clear t1
        obtain ⟨V3, hV3⟩ : ∃ V, w3.alloc (.cells y1.cells 24) = V := ⟨_, rfl⟩
        have hwV3 : Whole V3 w3.heap.size 24 y1.cells ∧ Below w3.heap.size w3 V3 := by rw [← hV3]; exact box_new w3 y1
        obtain ⟨ww, bv⟩ := hwV3
        have HI_4 := Lib.hid (HI_3.out.under bv)
        have HO_4 := Lib.hid (own_under HO_3.out bv)
        have HP_4 := Lib.hid (own_under HP_3.out bv)
        have HT_4 := Lib.hid (HT_3.out.under bv)
        clear HI_3 HO_3 HP_3 HT_3
        have HB_4 := Lib.hid (ww)
        clear ww bv
        have h0 : w3.alloc (.cells #[.int .i64 y1.f0, .int .i64 y1.f1, .int .i64 y1.f2, .int .i64 y1.f3, .int .i64 y1.f4, .int .i64 y1.f5, .int .i64 y1.f6, .int .i64 y1.f7, .int .i64 y1.f8, .int .i64 y1.f9, .int .i64 y1.f10, .int .i64 y1.f11, .int .i64 y1.f12, .bool y1.sk, .slice y1.A y1.n y1.c] 24) = V3 := hV3
        clear hV3
        go_wp2_with fail
        refine (refOfN (HI_4.out.rd HR.out) HC0.out.1 HC0.out.2 (by have := HN.out; omega) HF.out.2.2.2.1).mono ?_
        as_aux_lemma =>
          rintro e w5 ⟨y2, rfl, t2, b⟩
          clear h0
          have HI_5 := Lib.hid (HI_4.out.under b)
          have HO_5 := Lib.hid (own_under HO_4.out b)
          have HP_5 := Lib.hid (own_under HP_4.out b)
          have HT_5 := Lib.hid (HT_4.out.under b)
          have HB_5 := Lib.hid (HB_4.out.under b)
          clear HI_4 HO_4 HP_4 HT_4 HB_4
          clear b
          have HU_5 := Lib.hid (t2)
          clear t2
          obtain ⟨V5, hV5⟩ : ∃ V, w5.alloc (.cells y2.cells 24) = V := ⟨_, rfl⟩
          have hwV5 : Whole V5 w5.heap.size 24 y2.cells ∧ Below w5.heap.size w5 V5 := by rw [← hV5]; exact box_new w5 y2
          obtain ⟨ww, bv⟩ := hwV5
          have HI_6 := Lib.hid (HI_5.out.under bv)
          have HO_6 := Lib.hid (own_under HO_5.out bv)
          have HP_6 := Lib.hid (own_under HP_5.out bv)
          have HT_6 := Lib.hid (HT_5.out.under bv)
          have HB_6 := Lib.hid (HB_5.out.under bv)
          have HU_6 := Lib.hid (HU_5.out.under bv)
          clear HI_5 HO_5 HP_5 HT_5 HB_5 HU_5
          have HD_6 := Lib.hid (ww)
          clear ww bv
          have h0 : w5.alloc (.cells #[.int .i64 y2.f0, .int .i64 y2.f1, .int .i64 y2.f2, .int .i64 y2.f3, .int .i64 y2.f4, .int .i64 y2.f5, .int .i64 y2.f6, .int .i64 y2.f7, .int .i64 y2.f8, .int .i64 y2.f9, .int .i64 y2.f10, .int .i64 y2.f11, .int .i64 y2.f12, .bool y2.sk, .slice y2.A y2.n y2.c] 24) = V5 := hV5
          clear hV5
          go_wp2_with fail
          have HC := Lib.hid ((Below.refl V5.heap.size V5).drew)
          clear h0
          have HL := Lib.hid (fun W (hW : Below V5.heap.size V5 W) => (And.intro (HI_6.out.under hW).two.1.conf (And.intro (HB_6.out.under hW).conf (HD_6.out.under hW).conf)))
          refine wp_region_held_drew (S := fun W => Below V5.heap.size V5 W) (by kernel_rfl) HC.out (fun _ => ?_)
          refine takeH (i := 0) (v := ?_) rfl (by kernel_rfl) (by kernel_rfl) (by kernel_rfl) (fun _ _ _ h => h) (by rfl) ?_ HC.out ?_
          rotate_left
          · intro W hW; obtain ⟨⟨c0, c1, c2, c3, c4, c5, c6, c7, c8, c9, c10, c11, c12, c13, c14⟩, ⟨e0, e1, e2, e3, e4, e5, e6, e7, e8, e9, e10, e11, e12, e13, e14⟩, ⟨g0, g1, g2, g3, g4, g5, g6, g7, g8, g9, g10, g11, g12, g13, g14⟩⟩ := HL.out W hW; go_simp <;> with_reducible rfl
          simp only [Act.put, List.setIfInBounds_toArray, List.set_cons_zero, List.set_cons_succ]
          refine takeH (i := 1) (v := ?_) rfl (by kernel_rfl) (by kernel_rfl) (by kernel_rfl) (fun _ _ _ h => h) (by rfl) ?_ HC.out ?_
          rotate_left
          · intro W hW; obtain ⟨⟨c0, c1, c2, c3, c4, c5, c6, c7, c8, c9, c10, c11, c12, c13, c14⟩, ⟨e0, e1, e2, e3, e4, e5, e6, e7, e8, e9, e10, e11, e12, e13, e14⟩, ⟨g0, g1, g2, g3, g4, g5, g6, g7, g8, g9, g10, g11, g12, g13, g14⟩⟩ := HL.out W hW; go_simp <;> with_reducible rfl
          simp only [Act.put, List.setIfInBounds_toArray, List.set_cons_zero, List.set_cons_succ]
          refine oneH (i := 2) rfl (by kernel_rfl) (by rfl) (fun K hK => ?_)
          go_simp
          go_at_call 13
          refine (ints_yes (b := true) (Rd.of_own (own_under HO_6.out HC.out)) (Rd.of_own (own_under HP_6.out HC.out)) (by have := HM.out; omega) (by simp)).mono ?_
          rintro e y6_1 ⟨rfl, b9⟩
          have HC2 := Lib.hid (HC.out.trans (b9.mono HC.out.size))
          clear HC b9
          have HC := HC2
          clear HC2
          refine hK.out _ _ HC.out (fun _ => ?_)
          clear hK K
          as_aux_lemma =>
            refine takeH (i := 3) (v := ?_) rfl (by kernel_rfl) (by kernel_rfl) (by kernel_rfl) (fun _ _ _ h => h) (by rfl) ?_ HC.out ?_
            rotate_left
            · intro W hW; obtain ⟨⟨c0, c1, c2, c3, c4, c5, c6, c7, c8, c9, c10, c11, c12, c13, c14⟩, ⟨e0, e1, e2, e3, e4, e5, e6, e7, e8, e9, e10, e11, e12, e13, e14⟩, ⟨g0, g1, g2, g3, g4, g5, g6, g7, g8, g9, g10, g11, g12, g13, g14⟩⟩ := HL.out W hW; go_simp <;> with_reducible rfl
            simp only [Act.put, List.setIfInBounds_toArray, List.set_cons_zero, List.set_cons_succ]
            refine takeH (i := 4) (v := ?_) rfl (by kernel_rfl) (by kernel_rfl) (by kernel_rfl) (fun _ _ _ h => h) (by rfl) ?_ HC.out ?_
            rotate_left
            · intro W hW; obtain ⟨⟨c0, c1, c2, c3, c4, c5, c6, c7, c8, c9, c10, c11, c12, c13, c14⟩, ⟨e0, e1, e2, e3, e4, e5, e6, e7, e8, e9, e10, e11, e12, e13, e14⟩, ⟨g0, g1, g2, g3, g4, g5, g6, g7, g8, g9, g10, g11, g12, g13, g14⟩⟩ := HL.out W hW; go_simp <;> with_reducible rfl
            simp only [Act.put, List.setIfInBounds_toArray, List.set_cons_zero, List.set_cons_succ]
            refine takeH (i := 5) (v := ?_) rfl (by kernel_rfl) (by kernel_rfl) (by kernel_rfl) (fun _ _ _ h => h) (by rfl) ?_ HC.out ?_
            rotate_left
            · intro W hW; obtain ⟨⟨c0, c1, c2, c3, c4, c5, c6, c7, c8, c9, c10, c11, c12, c13, c14⟩, ⟨e0, e1, e2, e3, e4, e5, e6, e7, e8, e9, e10, e11, e12, e13, e14⟩, ⟨g0, g1, g2, g3, g4, g5, g6, g7, g8, g9, g10, g11, g12, g13, g14⟩⟩ := HL.out W hW; go_simp <;> with_reducible rfl
            simp only [Act.put, List.setIfInBounds_toArray, List.set_cons_zero, List.set_cons_succ]
            refine takeH (i := 6) (v := ?_) rfl (by kernel_rfl) (by kernel_rfl) (by kernel_rfl) (fun _ _ _ h => h) (by rfl) ?_ HC.out ?_
            rotate_left
            · intro W hW; obtain ⟨⟨c0, c1, c2, c3, c4, c5, c6, c7, c8, c9, c10, c11, c12, c13, c14⟩, ⟨e0, e1, e2, e3, e4, e5, e6, e7, e8, e9, e10, e11, e12, e13, e14⟩, ⟨g0, g1, g2, g3, g4, g5, g6, g7, g8, g9, g10, g11, g12, g13, g14⟩⟩ := HL.out W hW; go_simp <;> with_reducible rfl
            simp only [Act.put, List.setIfInBounds_toArray, List.set_cons_zero, List.set_cons_succ]
            refine takeH (i := 7) (v := ?_) rfl (by kernel_rfl) (by kernel_rfl) (by kernel_rfl) (fun _ _ _ h => h) (by rfl) ?_ HC.out ?_
            rotate_left
            · intro W hW; obtain ⟨⟨c0, c1, c2, c3, c4, c5, c6, c7, c8, c9, c10, c11, c12, c13, c14⟩, ⟨e0, e1, e2, e3, e4, e5, e6, e7, e8, e9, e10, e11, e12, e13, e14⟩, ⟨g0, g1, g2, g3, g4, g5, g6, g7, g8, g9, g10, g11, g12, g13, g14⟩⟩ := HL.out W hW; go_simp <;> with_reducible rfl
            simp only [Act.put, List.setIfInBounds_toArray, List.set_cons_zero, List.set_cons_succ]
            refine takeH (i := 8) (v := ?_) rfl (by kernel_rfl) (by kernel_rfl) (by kernel_rfl) (fun _ _ _ h => h) (by rfl) ?_ HC.out ?_
            rotate_left
            · intro W hW; obtain ⟨⟨c0, c1, c2, c3, c4, c5, c6, c7, c8, c9, c10, c11, c12, c13, c14⟩, ⟨e0, e1, e2, e3, e4, e5, e6, e7, e8, e9, e10, e11, e12, e13, e14⟩, ⟨g0, g1, g2, g3, g4, g5, g6, g7, g8, g9, g10, g11, g12, g13, g14⟩⟩ := HL.out W hW; go_simp <;> with_reducible rfl
            simp only [Act.put, List.setIfInBounds_toArray, List.set_cons_zero, List.set_cons_succ]
            refine takeH (i := 9) (v := ?_) rfl (by kernel_rfl) (by kernel_rfl) (by kernel_rfl) (fun _ _ _ h => h) (by rfl) ?_ HC.out ?_
            rotate_left
            · intro W hW; obtain ⟨⟨c0, c1, c2, c3, c4, c5, c6, c7, c8, c9, c10, c11, c12, c13, c14⟩, ⟨e0, e1, e2, e3, e4, e5, e6, e7, e8, e9, e10, e11, e12, e13, e14⟩, ⟨g0, g1, g2, g3, g4, g5, g6, g7, g8, g9, g10, g11, g12, g13, g14⟩⟩ := HL.out W hW; go_simp <;> with_reducible rfl
            simp only [Act.put, List.setIfInBounds_toArray, List.set_cons_zero, List.set_cons_succ]
            refine takeH (i := 10) (v := ?_) rfl (by kernel_rfl) (by kernel_rfl) (by kernel_rfl) (fun _ _ _ h => h) (by rfl) ?_ HC.out ?_
            rotate_left
            · intro W hW; obtain ⟨⟨c0, c1, c2, c3, c4, c5, c6, c7, c8, c9, c10, c11, c12, c13, c14⟩, ⟨e0, e1, e2, e3, e4, e5, e6, e7, e8, e9, e10, e11, e12, e13, e14⟩, ⟨g0, g1, g2, g3, g4, g5, g6, g7, g8, g9, g10, g11, g12, g13, g14⟩⟩ := HL.out W hW; go_simp <;> with_reducible rfl
            simp only [Act.put, List.setIfInBounds_toArray, List.set_cons_zero, List.set_cons_succ]
            refine takeH (i := 11) (v := ?_) rfl (by kernel_rfl) (by kernel_rfl) (by kernel_rfl) (fun _ _ _ h => h) (by rfl) ?_ HC.out ?_
            rotate_left
            · intro W hW; obtain ⟨⟨c0, c1, c2, c3, c4, c5, c6, c7, c8, c9, c10, c11, c12, c13, c14⟩, ⟨e0, e1, e2, e3, e4, e5, e6, e7, e8, e9, e10, e11, e12, e13, e14⟩, ⟨g0, g1, g2, g3, g4, g5, g6, g7, g8, g9, g10, g11, g12, g13, g14⟩⟩ := HL.out W hW; go_simp <;> with_reducible rfl
            simp only [Act.put, List.setIfInBounds_toArray, List.set_cons_zero, List.set_cons_succ]
            refine oneH (i := 12) rfl (by kernel_rfl) (by rfl) (fun K hK => ?_)
            go_simp
            go_at_call 14
            refine (refSame_yes (b := true) (HT_6.out.under HC.out).lies (HU_6.out.under HC.out).lies (HT_6.out.under HC.out).few ((HT_6.out.under HC.out).same (HU_6.out.under HC.out))).mono ?_
            rintro e y6_2 ⟨rfl, b9⟩
            have HC2 := Lib.hid (HC.out.trans (b9.mono HC.out.size))
            clear HC b9
            have HC := HC2
            clear HC2
            refine hK.out _ _ HC.out (fun _ => ?_)
            clear hK K
            as_aux_lemma =>
              refine takeH (i := 13) (v := ?_) rfl (by kernel_rfl) (by kernel_rfl) (by kernel_rfl) (fun _ _ _ h => h) (by rfl) ?_ HC.out ?_
              rotate_left
              · intro W hW; obtain ⟨⟨c0, c1, c2, c3, c4, c5, c6, c7, c8, c9, c10, c11, c12, c13, c14⟩, ⟨e0, e1, e2, e3, e4, e5, e6, e7, e8, e9, e10, e11, e12, e13, e14⟩, ⟨g0, g1, g2, g3, g4, g5, g6, g7, g8, g9, g10, g11, g12, g13, g14⟩⟩ := HL.out W hW; go_simp <;> with_reducible rfl
              simp only [Act.put, List.setIfInBounds_toArray, List.set_cons_zero, List.set_cons_succ]
              refine takeH (i := 14) (v := ?_) rfl (by kernel_rfl) (by kernel_rfl) (by kernel_rfl) (fun _ _ _ h => h) (by rfl) ?_ HC.out ?_
              rotate_left
              · intro W hW; obtain ⟨⟨c0, c1, c2, c3, c4, c5, c6, c7, c8, c9, c10, c11, c12, c13, c14⟩, ⟨e0, e1, e2, e3, e4, e5, e6, e7, e8, e9, e10, e11, e12, e13, e14⟩, ⟨g0, g1, g2, g3, g4, g5, g6, g7, g8, g9, g10, g11, g12, g13, g14⟩⟩ := HL.out W hW; go_simp <;> with_reducible rfl
              simp only [Act.put, List.setIfInBounds_toArray, List.set_cons_zero, List.set_cons_succ]
              refine takeH (i := 15) (v := ?_) rfl (by kernel_rfl) (by kernel_rfl) (by kernel_rfl) (fun _ _ _ h => h) (by rfl) ?_ HC.out ?_
              rotate_left
              · intro W hW; obtain ⟨⟨c0, c1, c2, c3, c4, c5, c6, c7, c8, c9, c10, c11, c12, c13, c14⟩, ⟨e0, e1, e2, e3, e4, e5, e6, e7, e8, e9, e10, e11, e12, e13, e14⟩, ⟨g0, g1, g2, g3, g4, g5, g6, g7, g8, g9, g10, g11, g12, g13, g14⟩⟩ := HL.out W hW; go_simp <;> with_reducible rfl
              simp only [Act.put, List.setIfInBounds_toArray, List.set_cons_zero, List.set_cons_succ]
              refine takeH (i := 16) (v := ?_) rfl (by kernel_rfl) (by kernel_rfl) (by kernel_rfl) (fun _ _ _ h => h) (by rfl) ?_ HC.out ?_
              rotate_left
              · intro W hW; obtain ⟨⟨c0, c1, c2, c3, c4, c5, c6, c7, c8, c9, c10, c11, c12, c13, c14⟩, ⟨e0, e1, e2, e3, e4, e5, e6, e7, e8, e9, e10, e11, e12, e13, e14⟩, ⟨g0, g1, g2, g3, g4, g5, g6, g7, g8, g9, g10, g11, g12, g13, g14⟩⟩ := HL.out W hW; go_simp <;> with_reducible rfl
              simp only [Act.put, List.setIfInBounds_toArray, List.set_cons_zero, List.set_cons_succ]
              refine takeH (i := 17) (v := ?_) rfl (by kernel_rfl) (by kernel_rfl) (by kernel_rfl) (fun _ _ _ h => h) (by rfl) ?_ HC.out ?_
              rotate_left
              · intro W hW; obtain ⟨⟨c0, c1, c2, c3, c4, c5, c6, c7, c8, c9, c10, c11, c12, c13, c14⟩, ⟨e0, e1, e2, e3, e4, e5, e6, e7, e8, e9, e10, e11, e12, e13, e14⟩, ⟨g0, g1, g2, g3, g4, g5, g6, g7, g8, g9, g10, g11, g12, g13, g14⟩⟩ := HL.out W hW; go_simp <;> with_reducible rfl
              simp only [Act.put, List.setIfInBounds_toArray, List.set_cons_zero, List.set_cons_succ]
              refine takeH (i := 18) (v := ?_) rfl (by kernel_rfl) (by kernel_rfl) (by kernel_rfl) (fun _ _ _ h => h) (by rfl) ?_ HC.out ?_
              rotate_left
              · intro W hW; obtain ⟨⟨c0, c1, c2, c3, c4, c5, c6, c7, c8, c9, c10, c11, c12, c13, c14⟩, ⟨e0, e1, e2, e3, e4, e5, e6, e7, e8, e9, e10, e11, e12, e13, e14⟩, ⟨g0, g1, g2, g3, g4, g5, g6, g7, g8, g9, g10, g11, g12, g13, g14⟩⟩ := HL.out W hW; go_simp <;> with_reducible rfl
              simp only [Act.put, List.setIfInBounds_toArray, List.set_cons_zero, List.set_cons_succ]
              refine takeH (i := 19) (v := ?_) rfl (by kernel_rfl) (by kernel_rfl) (by kernel_rfl) (fun _ _ _ h => h) (by rfl) ?_ HC.out ?_
              rotate_left
              · intro W hW; obtain ⟨⟨c0, c1, c2, c3, c4, c5, c6, c7, c8, c9, c10, c11, c12, c13, c14⟩, ⟨e0, e1, e2, e3, e4, e5, e6, e7, e8, e9, e10, e11, e12, e13, e14⟩, ⟨g0, g1, g2, g3, g4, g5, g6, g7, g8, g9, g10, g11, g12, g13, g14⟩⟩ := HL.out W hW; go_simp <;> with_reducible rfl
              simp only [Act.put, List.setIfInBounds_toArray, List.set_cons_zero, List.set_cons_succ]
              refine takeH (i := 20) (v := ?_) rfl (by kernel_rfl) (by kernel_rfl) (by kernel_rfl) (fun _ _ _ h => h) (by rfl) ?_ HC.out ?_
              rotate_left
              · intro W hW; obtain ⟨⟨c0, c1, c2, c3, c4, c5, c6, c7, c8, c9, c10, c11, c12, c13, c14⟩, ⟨e0, e1, e2, e3, e4, e5, e6, e7, e8, e9, e10, e11, e12, e13, e14⟩, ⟨g0, g1, g2, g3, g4, g5, g6, g7, g8, g9, g10, g11, g12, g13, g14⟩⟩ := HL.out W hW; go_simp <;> with_reducible rfl
              simp only [Act.put, List.setIfInBounds_toArray, List.set_cons_zero, List.set_cons_succ]
              refine takeH (i := 21) (v := ?_) rfl (by kernel_rfl) (by kernel_rfl) (by kernel_rfl) (fun _ _ _ h => h) (by rfl) ?_ HC.out ?_
              rotate_left
              · intro W hW; obtain ⟨⟨c0, c1, c2, c3, c4, c5, c6, c7, c8, c9, c10, c11, c12, c13, c14⟩, ⟨e0, e1, e2, e3, e4, e5, e6, e7, e8, e9, e10, e11, e12, e13, e14⟩, ⟨g0, g1, g2, g3, g4, g5, g6, g7, g8, g9, g10, g11, g12, g13, g14⟩⟩ := HL.out W hW; go_simp <;> with_reducible rfl
              simp only [Act.put, List.setIfInBounds_toArray, List.set_cons_zero, List.set_cons_succ]
              refine takeH (i := 23) (v := ?_) rfl (by kernel_rfl) (by kernel_rfl) (by kernel_rfl) (fun _ _ _ h => h) (by rfl) ?_ HC.out ?_
              rotate_left
              · intro W hW; obtain ⟨⟨c0, c1, c2, c3, c4, c5, c6, c7, c8, c9, c10, c11, c12, c13, c14⟩, ⟨e0, e1, e2, e3, e4, e5, e6, e7, e8, e9, e10, e11, e12, e13, e14⟩, ⟨g0, g1, g2, g3, g4, g5, g6, g7, g8, g9, g10, g11, g12, g13, g14⟩⟩ := HL.out W hW; go_simp <;> with_reducible rfl
              simp only [Act.put, List.setIfInBounds_toArray, List.set_cons_zero, List.set_cons_succ]
              refine oneH (i := 22) rfl (by kernel_rfl) (by rfl) (fun K hK => ?_)
              go_simp
              go_at_call 15
              refine (ck_yes (HI_6.out.under HC.out).hasx HF.out.2.2.1).mono ?_
              rintro e y6_3 ⟨rfl, b9⟩
              have HC2 := Lib.hid (HC.out.trans (b9.mono HC.out.size))
              clear HC b9
              have HC := HC2
              clear HC2
              refine hK.out _ _ HC.out (fun _ => ?_)
              clear hK K
              as_aux_lemma =>
                refine oneH (i := 24) rfl (by kernel_rfl) (by rfl) (fun K hK => ?_)
                go_simp
                go_at_call 16
                refine (refCk_yes (HI_6.out.under HC.out).hasx (by have := HX.out; omega) HF.out.2.2.1).mono ?_
                rintro e y6_4 ⟨rfl, b9⟩
                have HC2 := Lib.hid (HC.out.trans (b9.mono HC.out.size))
                clear HC b9
                have HC := HC2
                clear HC2
                refine hK.out _ _ HC.out (fun _ => ?_)
                clear hK K
                as_aux_lemma =>
                  refine takeH (i := 25) (v := ?_) rfl (by kernel_rfl) (by kernel_rfl) (by kernel_rfl) (fun _ _ _ h => h) (by rfl) ?_ HC.out ?_
                  rotate_left
                  · intro W hW; obtain ⟨⟨c0, c1, c2, c3, c4, c5, c6, c7, c8, c9, c10, c11, c12, c13, c14⟩, ⟨e0, e1, e2, e3, e4, e5, e6, e7, e8, e9, e10, e11, e12, e13, e14⟩, ⟨g0, g1, g2, g3, g4, g5, g6, g7, g8, g9, g10, g11, g12, g13, g14⟩⟩ := HL.out W hW; go_simp <;> with_reducible rfl
                  simp only [Act.put, List.setIfInBounds_toArray, List.set_cons_zero, List.set_cons_succ]
                  refine takeH (i := 26) (v := ?_) rfl (by kernel_rfl) (by kernel_rfl) (by kernel_rfl) (fun _ _ _ h => h) (by rfl) ?_ HC.out ?_
                  rotate_left
                  · intro W hW; obtain ⟨⟨c0, c1, c2, c3, c4, c5, c6, c7, c8, c9, c10, c11, c12, c13, c14⟩, ⟨e0, e1, e2, e3, e4, e5, e6, e7, e8, e9, e10, e11, e12, e13, e14⟩, ⟨g0, g1, g2, g3, g4, g5, g6, g7, g8, g9, g10, g11, g12, g13, g14⟩⟩ := HL.out W hW; go_simp <;> with_reducible rfl
                  simp only [Act.put, List.setIfInBounds_toArray, List.set_cons_zero, List.set_cons_succ]
                  refine wpAnyH_done (by kernel_rfl) ?_ _
                  have b := HC.out
                  clear HO_6
                  clear HP_6
                  clear HT_6
                  clear HB_6
                  clear HU_6
                  clear HD_6
                  have HI_7 := Lib.hid (HI_6.out.under b)
                  clear HI_6
                  clear b HC HL
                  go_wp2_with fail
                  have HC := Lib.hid ((Below.refl y6_4.heap.size y6_4).drew)
                  have HL := Lib.hid (fun W (hW : Below y6_4.heap.size y6_4 W) => (And.intro (HI_7.out.under hW).two.1.conf (HI_7.out.under hW).two.2.1.conf))
                  refine wp_region_held_drew (S := fun W => Below y6_4.heap.size y6_4 W) (by kernel_rfl) HC.out (fun _ => ?_)
                  refine takeH (i := 0) (v := ?_) rfl (by kernel_rfl) (by kernel_rfl) (by kernel_rfl) (fun _ _ _ h => h) (by rfl) ?_ HC.out ?_
                  rotate_left
                  · intro W hW; obtain ⟨⟨c0, c1, c2, c3, c4, c5, c6, c7, c8, c9, c10, c11, c12, c13, c14⟩, ⟨d0, d1, d2, d3, d4, d5, d6, d7, d8, d9, d10, d11, d12, d13, d14⟩⟩ := HL.out W hW; go_simp <;> with_reducible rfl
                  simp only [Act.put, List.setIfInBounds_toArray, List.set_cons_zero, List.set_cons_succ]
                  refine takeH (i := 2) (v := ?_) rfl (by kernel_rfl) (by kernel_rfl) (by kernel_rfl) (fun _ _ _ h => h) (by rfl) ?_ HC.out ?_
                  rotate_left
                  · intro W hW; obtain ⟨⟨c0, c1, c2, c3, c4, c5, c6, c7, c8, c9, c10, c11, c12, c13, c14⟩, ⟨d0, d1, d2, d3, d4, d5, d6, d7, d8, d9, d10, d11, d12, d13, d14⟩⟩ := HL.out W hW; go_simp <;> with_reducible rfl
                  simp only [Act.put, List.setIfInBounds_toArray, List.set_cons_zero, List.set_cons_succ]
                  refine oneH (i := 1) rfl (by kernel_rfl) (by rfl) (fun K hK => ?_)
                  go_simp
                  go_at_call 17
                  refine (floorN (HI_7.out.under HC.out).hasx HF.out.2.2.2.2.1).mono ?_
                  rintro e y7_1 ⟨rfl, b9⟩
                  have HC2 := Lib.hid (HC.out.trans (b9.mono HC.out.size))
                  clear HC b9
                  have HC := HC2
                  clear HC2
                  refine hK.out _ _ HC.out (fun _ => ?_)
                  clear hK K
                  as_aux_lemma =>
                    refine oneH (i := 3) rfl (by kernel_rfl) (by rfl) (fun K hK => ?_)
                    go_simp
                    go_at_call 18
                    refine (refFloorN (HI_7.out.under HC.out).hasx (by have := HX.out; omega) HF.out.2.2.2.2.1).mono ?_
                    rintro e y7_2 ⟨rfl, b9⟩
                    have HC2 := Lib.hid (HC.out.trans (b9.mono HC.out.size))
                    clear HC b9
                    have HC := HC2
                    clear HC2
                    refine hK.out _ _ HC.out (fun _ => ?_)
                    clear hK K
                    as_aux_lemma =>
                      refine takeH (i := 4) (v := ?_) rfl (by kernel_rfl) (by kernel_rfl) (by kernel_rfl) (fun _ _ _ h => h) (by rfl) ?_ HC.out ?_
                      rotate_left
                      · intro W hW; obtain ⟨⟨c0, c1, c2, c3, c4, c5, c6, c7, c8, c9, c10, c11, c12, c13, c14⟩, ⟨d0, d1, d2, d3, d4, d5, d6, d7, d8, d9, d10, d11, d12, d13, d14⟩⟩ := HL.out W hW; go_simp <;> with_reducible rfl
                      simp only [Act.put, List.setIfInBounds_toArray, List.set_cons_zero, List.set_cons_succ]
                      refine takeH (i := 5) (v := ?_) rfl (by kernel_rfl) (by kernel_rfl) (by kernel_rfl) (fun _ _ _ h => h) (by rfl) ?_ HC.out ?_
                      rotate_left
                      · intro W hW; obtain ⟨⟨c0, c1, c2, c3, c4, c5, c6, c7, c8, c9, c10, c11, c12, c13, c14⟩, ⟨d0, d1, d2, d3, d4, d5, d6, d7, d8, d9, d10, d11, d12, d13, d14⟩⟩ := HL.out W hW; go_simp <;> with_reducible rfl
                      simp only [Act.put, List.setIfInBounds_toArray, List.set_cons_zero, List.set_cons_succ]
                      refine takeH (i := 6) (v := ?_) rfl (by kernel_rfl) (by kernel_rfl) (by kernel_rfl) (fun _ _ _ h => h) (by rfl) ?_ HC.out ?_
                      rotate_left
                      · intro W hW; obtain ⟨⟨c0, c1, c2, c3, c4, c5, c6, c7, c8, c9, c10, c11, c12, c13, c14⟩, ⟨d0, d1, d2, d3, d4, d5, d6, d7, d8, d9, d10, d11, d12, d13, d14⟩⟩ := HL.out W hW; go_simp <;> with_reducible rfl
                      simp only [Act.put, List.setIfInBounds_toArray, List.set_cons_zero, List.set_cons_succ]
                      refine takeH (i := 8) (v := ?_) rfl (by kernel_rfl) (by kernel_rfl) (by kernel_rfl) (fun _ _ _ h => h) (by rfl) ?_ HC.out ?_
                      rotate_left
                      · intro W hW; obtain ⟨⟨c0, c1, c2, c3, c4, c5, c6, c7, c8, c9, c10, c11, c12, c13, c14⟩, ⟨d0, d1, d2, d3, d4, d5, d6, d7, d8, d9, d10, d11, d12, d13, d14⟩⟩ := HL.out W hW; go_simp <;> with_reducible rfl
                      simp only [Act.put, List.setIfInBounds_toArray, List.set_cons_zero, List.set_cons_succ]
                      refine oneH (i := 7) rfl (by kernel_rfl) (by rfl) (fun K hK => ?_)
                      go_simp
                      go_at_call 19
                      refine (boundN (HI_7.out.under HC.out).hasx HF.out.2.2.2.2.2.1).mono ?_
                      rintro e y7_3 ⟨rfl, b9⟩
                      have HC2 := Lib.hid (HC.out.trans (b9.mono HC.out.size))
                      clear HC b9
                      have HC := HC2
                      clear HC2
                      refine hK.out _ _ HC.out (fun _ => ?_)
                      clear hK K
                      as_aux_lemma =>
                        refine oneH (i := 9) rfl (by kernel_rfl) (by rfl) (fun K hK => ?_)
                        go_simp
                        go_at_call 20
                        refine (refBoundN (HI_7.out.under HC.out).hasx (by have := HX.out; omega) HF.out.2.2.2.2.2.1).mono ?_
                        rintro e y7_4 ⟨rfl, b9⟩
                        have HC2 := Lib.hid (HC.out.trans (b9.mono HC.out.size))
                        clear HC b9
                        have HC := HC2
                        clear HC2
                        refine hK.out _ _ HC.out (fun _ => ?_)
                        clear hK K
                        as_aux_lemma =>
                          refine takeH (i := 10) (v := ?_) rfl (by kernel_rfl) (by kernel_rfl) (by kernel_rfl) (fun _ _ _ h => h) (by rfl) ?_ HC.out ?_
                          rotate_left
                          · intro W hW; obtain ⟨⟨c0, c1, c2, c3, c4, c5, c6, c7, c8, c9, c10, c11, c12, c13, c14⟩, ⟨d0, d1, d2, d3, d4, d5, d6, d7, d8, d9, d10, d11, d12, d13, d14⟩⟩ := HL.out W hW; go_simp <;> with_reducible rfl
                          simp only [Act.put, List.setIfInBounds_toArray, List.set_cons_zero, List.set_cons_succ]
                          refine takeH (i := 11) (v := ?_) rfl (by kernel_rfl) (by kernel_rfl) (by kernel_rfl) (fun _ _ _ h => h) (by rfl) ?_ HC.out ?_
                          rotate_left
                          · intro W hW; obtain ⟨⟨c0, c1, c2, c3, c4, c5, c6, c7, c8, c9, c10, c11, c12, c13, c14⟩, ⟨d0, d1, d2, d3, d4, d5, d6, d7, d8, d9, d10, d11, d12, d13, d14⟩⟩ := HL.out W hW; go_simp <;> with_reducible rfl
                          simp only [Act.put, List.setIfInBounds_toArray, List.set_cons_zero, List.set_cons_succ]
                          refine takeH (i := 12) (v := ?_) rfl (by kernel_rfl) (by kernel_rfl) (by kernel_rfl) (fun _ _ _ h => h) (by rfl) ?_ HC.out ?_
                          rotate_left
                          · intro W hW; obtain ⟨⟨c0, c1, c2, c3, c4, c5, c6, c7, c8, c9, c10, c11, c12, c13, c14⟩, ⟨d0, d1, d2, d3, d4, d5, d6, d7, d8, d9, d10, d11, d12, d13, d14⟩⟩ := HL.out W hW; go_simp <;> with_reducible rfl
                          simp only [Act.put, List.setIfInBounds_toArray, List.set_cons_zero, List.set_cons_succ]
                          refine takeH (i := 13) (v := ?_) rfl (by kernel_rfl) (by kernel_rfl) (by kernel_rfl) (fun _ _ _ h => h) (by rfl) ?_ HC.out ?_
                          rotate_left
                          · intro W hW; obtain ⟨⟨c0, c1, c2, c3, c4, c5, c6, c7, c8, c9, c10, c11, c12, c13, c14⟩, ⟨d0, d1, d2, d3, d4, d5, d6, d7, d8, d9, d10, d11, d12, d13, d14⟩⟩ := HL.out W hW; go_simp <;> with_reducible rfl
                          simp only [Act.put, List.setIfInBounds_toArray, List.set_cons_zero, List.set_cons_succ]
                          refine takeH (i := 14) (v := ?_) rfl (by kernel_rfl) (by kernel_rfl) (by kernel_rfl) (fun _ _ _ h => h) (by rfl) ?_ HC.out ?_
                          rotate_left
                          · intro W hW; obtain ⟨⟨c0, c1, c2, c3, c4, c5, c6, c7, c8, c9, c10, c11, c12, c13, c14⟩, ⟨d0, d1, d2, d3, d4, d5, d6, d7, d8, d9, d10, d11, d12, d13, d14⟩⟩ := HL.out W hW; go_simp <;> with_reducible rfl
                          simp only [Act.put, List.setIfInBounds_toArray, List.set_cons_zero, List.set_cons_succ]
                          refine takeH (i := 16) (v := ?_) rfl (by kernel_rfl) (by kernel_rfl) (by kernel_rfl) (fun _ _ _ h => h) (by rfl) ?_ HC.out ?_
                          rotate_left
                          · intro W hW; obtain ⟨⟨c0, c1, c2, c3, c4, c5, c6, c7, c8, c9, c10, c11, c12, c13, c14⟩, ⟨d0, d1, d2, d3, d4, d5, d6, d7, d8, d9, d10, d11, d12, d13, d14⟩⟩ := HL.out W hW; go_simp <;> with_reducible rfl
                          simp only [Act.put, List.setIfInBounds_toArray, List.set_cons_zero, List.set_cons_succ]
                          refine takeH (i := 17) (v := ?_) rfl (by kernel_rfl) (by kernel_rfl) (by kernel_rfl) (fun _ _ _ h => h) (by rfl) ?_ HC.out ?_
                          rotate_left
                          · intro W hW; obtain ⟨⟨c0, c1, c2, c3, c4, c5, c6, c7, c8, c9, c10, c11, c12, c13, c14⟩, ⟨d0, d1, d2, d3, d4, d5, d6, d7, d8, d9, d10, d11, d12, d13, d14⟩⟩ := HL.out W hW; go_simp <;> with_reducible rfl
                          simp only [Act.put, List.setIfInBounds_toArray, List.set_cons_zero, List.set_cons_succ]
                          refine oneH (i := 15) rfl (by kernel_rfl) (by rfl) (fun K hK => ?_)
                          go_simp
                          go_at_call 21
                          refine (same_yes (HI_7.out.under HC.out).hasx.lies (HI_7.out.under HC.out).liesy (by have := HX.out; omega) HF.out.2.2.2.2.2.2).mono ?_
                          rintro e y7_5 ⟨rfl, b9⟩
                          have HC2 := Lib.hid (HC.out.trans (b9.mono HC.out.size))
                          clear HC b9
                          have HC := HC2
                          clear HC2
                          refine hK.out _ _ HC.out (fun _ => ?_)
                          clear hK K
                          as_aux_lemma =>
                            refine oneH (i := 18) rfl (by kernel_rfl) (by rfl) (fun K hK => ?_)
                            go_simp
                            go_at_call 14
                            refine (refSame_yes (HI_7.out.under HC.out).hasx.lies (HI_7.out.under HC.out).liesy (by have := HX.out; omega) HF.out.2.2.2.2.2.2).mono ?_
                            rintro e y7_6 ⟨rfl, b9⟩
                            have HC2 := Lib.hid (HC.out.trans (b9.mono HC.out.size))
                            clear HC b9
                            have HC := HC2
                            clear HC2
                            refine hK.out _ _ HC.out (fun _ => ?_)
                            clear hK K
                            as_aux_lemma =>
                              refine takeH (i := 19) (v := ?_) rfl (by kernel_rfl) (by kernel_rfl) (by kernel_rfl) (fun _ _ _ h => h) (by rfl) ?_ HC.out ?_
                              rotate_left
                              · intro W hW; obtain ⟨⟨c0, c1, c2, c3, c4, c5, c6, c7, c8, c9, c10, c11, c12, c13, c14⟩, ⟨d0, d1, d2, d3, d4, d5, d6, d7, d8, d9, d10, d11, d12, d13, d14⟩⟩ := HL.out W hW; go_simp <;> with_reducible rfl
                              simp only [Act.put, List.setIfInBounds_toArray, List.set_cons_zero, List.set_cons_succ]
                              refine takeH (i := 20) (v := ?_) rfl (by kernel_rfl) (by kernel_rfl) (by kernel_rfl) (fun _ _ _ h => h) (by rfl) ?_ HC.out ?_
                              rotate_left
                              · intro W hW; obtain ⟨⟨c0, c1, c2, c3, c4, c5, c6, c7, c8, c9, c10, c11, c12, c13, c14⟩, ⟨d0, d1, d2, d3, d4, d5, d6, d7, d8, d9, d10, d11, d12, d13, d14⟩⟩ := HL.out W hW; go_simp <;> with_reducible rfl
                              simp only [Act.put, List.setIfInBounds_toArray, List.set_cons_zero, List.set_cons_succ]
                              refine takeH (i := 21) (v := ?_) rfl (by kernel_rfl) (by kernel_rfl) (by kernel_rfl) (fun _ _ _ h => h) (by rfl) ?_ HC.out ?_
                              rotate_left
                              · intro W hW; obtain ⟨⟨c0, c1, c2, c3, c4, c5, c6, c7, c8, c9, c10, c11, c12, c13, c14⟩, ⟨d0, d1, d2, d3, d4, d5, d6, d7, d8, d9, d10, d11, d12, d13, d14⟩⟩ := HL.out W hW; go_simp <;> with_reducible rfl
                              simp only [Act.put, List.setIfInBounds_toArray, List.set_cons_zero, List.set_cons_succ]
                              refine oneH (i := 22) rfl (by kernel_rfl) (by rfl) (fun K hK => ?_)
                              go_simp
                              go_at_call 8
                              refine (wakes_any _ (HI_7.out.under HC.out).tab).mono ?_
                              rintro e y7_7 ⟨rfl, b9⟩
                              have HC2 := Lib.hid (HC.out.trans (b9.mono HC.out.size))
                              clear HC b9
                              have HC := HC2
                              clear HC2
                              refine hK.out _ _ HC.out (fun _ => ?_)
                              clear hK K
                              as_aux_lemma =>
                                refine takeH (i := 23) (v := ?_) rfl (by kernel_rfl) (by kernel_rfl) (by kernel_rfl) (fun _ _ _ h => h) (by rfl) ?_ HC.out ?_
                                rotate_left
                                · intro W hW; obtain ⟨⟨c0, c1, c2, c3, c4, c5, c6, c7, c8, c9, c10, c11, c12, c13, c14⟩, ⟨d0, d1, d2, d3, d4, d5, d6, d7, d8, d9, d10, d11, d12, d13, d14⟩⟩ := HL.out W hW; go_simp <;> with_reducible rfl
                                simp only [Act.put, List.setIfInBounds_toArray, List.set_cons_zero, List.set_cons_succ]
                                refine takeH (i := 24) (v := ?_) rfl (by kernel_rfl) (by kernel_rfl) (by kernel_rfl) (fun _ _ _ h => h) (by rfl) ?_ HC.out ?_
                                rotate_left
                                · intro W hW; obtain ⟨⟨c0, c1, c2, c3, c4, c5, c6, c7, c8, c9, c10, c11, c12, c13, c14⟩, ⟨d0, d1, d2, d3, d4, d5, d6, d7, d8, d9, d10, d11, d12, d13, d14⟩⟩ := HL.out W hW; go_simp <;> with_reducible rfl
                                simp only [Act.put, List.setIfInBounds_toArray, List.set_cons_zero, List.set_cons_succ]
                                refine wpAnyH_done (by kernel_rfl) ?_ _
                                have b := HC.out
                                have HI_8 := Lib.hid (HI_7.out.under b)
                                clear HI_7
                                clear b HC HL
                                go_wp2_with fail
                                go_ret
                                exact ⟨rfl, HI_8.out.two.2.2⟩


end Go.Proofs.YtjfhdlemhopjoaaDoor
