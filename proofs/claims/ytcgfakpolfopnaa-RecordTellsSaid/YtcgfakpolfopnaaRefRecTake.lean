/-
  The walk of the document's own 'Take' of a record. Conditions: those that each theorem names.
-/
import Derived.Test.YtcgfakpolfopnaaRefRec
namespace Go.Proofs.Ytcgfakpolfopnaa
open Go.RowKit Go.Shelf

/-- What holds of the result's cell, at each return. -/
theorem noRec_end {w w' : World} (h : Whole w' w.heap.size 24 #[.int .u8 0, .slice none 0 0]) (hb : Below w.heap.size w w') :
    ((w'.setCell ⟨w.heap.size, 0, none⟩ (.int .u8 0)).setCell ⟨w.heap.size, 1, none⟩ (.slice none 0 0)).cell? ⟨w.heap.size, 0, none⟩ = some (.int .u8 0) ∧ ((w'.setCell ⟨w.heap.size, 0, none⟩ (.int .u8 0)).setCell ⟨w.heap.size, 1, none⟩ (.slice none 0 0)).cell? ⟨w.heap.size, 1, none⟩ = some (.slice none 0 0) ∧
      Below w.heap.size w ((w'.setCell ⟨w.heap.size, 0, none⟩ (.int .u8 0)).setCell ⟨w.heap.size, 1, none⟩ (.slice none 0 0)) := by
  have hw2 := (h.set 0 (.int .u8 0)).set 1 (.slice none 0 0)
  have p0 := hw2.cell 0
  have p1 := hw2.cell 1
  simp at p0 p1
  exact ⟨p0, p1, (hb.setCell (p := ⟨w.heap.size, 0, none⟩) (Nat.le_refl _) _).setCell (p := ⟨w.heap.size, 1, none⟩) (Nat.le_refl _) _⟩

set_option maxRecDepth 100000 in
set_option maxHeartbeats 1000000 in
theorem refTakeRec_is (A : Option Addr) (n c : Nat) (bs : List Nat) (B : Nat) (w : World) (hr : Rd w B A n (bv bs)) (hB : B ≤ w.heap.size) (hb : ∀ x ∈ bs, x < 256) (hn : n ≤ 1000000) (hc : n ≤ c) {r : Option (Nat × List Nat)} (hR : takenRec bs = r) :
    Calls Try.prog 14 #[.slice A n c] w (TakeRecIs r w) := by
  obtain ⟨L, hL⟩ : ∃ L, (takeRow bs).2.1 = L := ⟨_, rfl⟩
  obtain ⟨E, hE⟩ : ∃ E, (takeRow bs).2.2 = E := ⟨_, rfl⟩
  obtain ⟨R, hRR⟩ : ∃ R, behindRow bs = R := ⟨_, rfl⟩
  have hb1 : Below w.heap.size w (w.alloc (.cells #[.int .u8 0, .slice none 0 0] 24)) := (Below.refl _ w).alloc (Nat.le_refl _) _
  have HT : Hid (Calls Try.prog 30 #[.slice A n c] (w.alloc (.cells #[.int .u8 0, .slice none 0 0] 24)) (RowIs L R E (w.alloc (.cells #[.int .u8 0, .slice none 0 0] 24)))) :=
    refTakeRow_is A n c bs w.heap.size _ ((hr.more hB).below hb1) hb1.size hb hn hc hL hE hRR
  have hLen : E = 0 → L.length ≤ 40 := fun h => by have := (takeRow_only hb (hE.trans h)).2.1; rwa [hL] at this
  rw [takenRec, hL, hE, hRR] at hR
  have HR := Lib.hid hR
  have HLen := Lib.hid hLen
  clear hL hE hRR hr hB hb hn hc hR hLen
  have X0 := Lib.hid (Whole.new w 24 #[.int .u8 0, .slice none 0 0])
  have HB1 := Lib.hid hb1
  clear hb1
  go_enter Try.func14, Try.ntmps14
  go_wp2_with fail
  refine (HT.out).mono ?_
  rintro e w1 ⟨A1, c1, A2, c2, rfl, o1, o2, b1⟩
  have Y0 := Lib.hid (X0.out.under b1)
  have B1 := Lib.hid (HB1.out.trans (b1.mono HB1.out.size))
  have O1 := Lib.hid o1
  have q0 := Y0.out.cell 0
  have q1 := Y0.out.cell 1
  have f0 := Y0.out.frozen 0
  have f1 := Y0.out.frozen 1
  simp only [List.getElem?_toArray, List.getElem?_cons_zero, List.getElem?_cons_succ] at q0 q1
  clear b1 o1 o2
  by_cases hE : E = 0
  · subst hE
    cases R with
    | cons x R =>
      have HrN := Lib.hid (show r = none by rw [← HR.out, if_neg (fun h => by cases h.2)])
      have hlt : (0 : Int) < ((R.length + 1 : Nat) : Int) := by omega
      clear HR
      go_wp2_with fail
      obtain ⟨p0, p1, p2⟩ := noRec_end Y0.out B1.out
      rw [HrN.out]
      exact bodyPost_ret (v := .tuple #[.agg #[.int .u8 0, .slice none 0 0], .int .i64 11]) (by simp [results, Try.results14, go_sem, p0, p1]) rfl ⟨rfl, p2⟩
    | nil =>
      cases L with
      | nil =>
        have HrN := Lib.hid (show r = none by rw [← HR.out, if_pos ⟨rfl, rfl⟩]; rfl)
        clear HR
        go_wp2_with fail
        obtain ⟨p0, p1, p2⟩ := noRec_end Y0.out B1.out
        rw [HrN.out]
        exact bodyPost_ret (v := .tuple #[.agg #[.int .u8 0, .slice none 0 0], .int .i64 11]) (by simp [results, Try.results14, go_sem, p0, p1]) rfl ⟨rfl, p2⟩
      | cons k t =>
        have hne : (((t.length + 1 : Nat) : Int) == 0) = false := by rw [beq_eq_false_iff_ne]; omega
        obtain ⟨g, cap, hv, hg1, hg2⟩ := O1.out.form (by simp)
        injection hv with hA _ hcap
        subst hA
        have hcell : w1.cell? ⟨g, 0, none⟩ = some (.int .i64 (k : Int)) := by
          rw [O1.out.cellAt 0 (by simp)]
          simp [iv, ints]
        have htl : t.length ≤ 39 := by have := HLen.out rfl; simp at this; omega
        by_cases hk : k < 17
        · obtain ⟨A', hA1, hA2⟩ := run_restI (some ⟨g, 0, none⟩) (t.length + 1) c1 1 (by omega)
          have e1 : ((1 : Nat) : Int) = 1 := rfl
          rw [e1] at hA1
          rw [Nat.add_sub_cancel] at hA1
          have hwf : IntKind.u8.wrap (k : Int) = k := by rw [IntKind.wrap_u8]; omega
          have hge : decide ((17 : Int) ≤ (k : Int)) = false := by simp; omega
          have hRd : Rd w1 w1.heap.size A' t.length (iv (ints t)) := by
            have h1 := (Rd.of_own O1.out).cut (k := 1) (by simp) A' (fun h => hA2 ⟨by simpa using h, by have := own_cap O1.out; simpa using this⟩)
            simpa [iv, ints] using h1
          have HOf : Hid (∀ W : World, Below w1.heap.size w1 W → Calls Try.prog 24 #[.int .u8 (k : Int), .slice A' t.length (c1 - 1)] W (RecIs k (ints t) W)) := fun W hW => refOf_any k A' t.length (c1 - 1) (ints t) w1.heap.size W (hRd.below hW) hW.size (by omega)
          have HL6 : Hid (∀ W : World, Below w1.heap.size w1 W → W.cell? ⟨g, 0, none⟩ = some (.int .i64 (k : Int))) := fun W hW => (hW.cell (p := ⟨g, 0, none⟩) hg2).trans hcell
          have hne1 : ¬ w1.heap.size = g := by omega
          have HOfA := Lib.hid (HOf.out (w1.alloc (.cells #[.int .u8 0, .slice none 0 0] 24)).drew ((Below.refl _ w1).alloc (Nat.le_refl _) _).drew)
          have HOfB := Lib.hid (HOf.out w1.drew (Below.refl _ w1).drew)
          clear hRd hA2 hcap htl e1
          go_wp2_with fail
          go_region_held3 (fun W => W.cell? ⟨g, 0, none⟩ = some (.int .i64 (k : Int))) (first | (with_reducible exact S3.out) | (with_reducible exact S4.out) | (with_reducible exact S5.out) | (with_reducible exact S6.out) | go_keep)
            (first | (go_at_call 24; ((with_reducible refine (HOfA.out).mono ?_); rintro e w3 ⟨A3, c3, rfl, o3, b3⟩); have tokA := Lib.hid True.intro; have b4 : Below w1.heap.size w1 w3 := (((Below.refl _ w1).alloc (Nat.le_refl _) _).drew).trans (b3.mono (by simp)); have Y3 := Lib.hid (Whole.under (w := (w1.alloc (.cells #[.int .u8 0, .slice none 0 0] 24)).drew) (Whole.new w1 _ _) b3); have m0 := Y3.out.cell 0; have m1 := Y3.out.cell 1; have m2 := Y3.out.frozen 0; have m3 := Y3.out.frozen 1; have S3 := Lib.hid (HL6.out w3 b4); have hg3 : g < w3.heap.size := Nat.lt_of_lt_of_le hg2 b4.size; have S4 := Lib.hid ((World.cell?_alloc_lt w3 (.cells #[.int .u8 0, .slice none 0 0] 24) ⟨g, 0, none⟩ hg3).trans S3.out); have S5 := Lib.hid ((World.cell?_alloc_lt w3 (.cells #[.int .u8 (k : Int), .slice A3 (ints t).length c3] 24) ⟨g, 0, none⟩ hg3).trans S3.out); have S6 := Lib.hid ((World.cell?_setCell_other (w3.setCell ⟨w1.heap.size, 0, none⟩ (.int .u8 (k : Int))) ⟨w1.heap.size, 1, none⟩ ⟨g, 0, none⟩ (.slice A3 (ints t).length c3) (fun e => hne1 (by injection e))).trans ((World.cell?_setCell_other w3 ⟨w1.heap.size, 0, none⟩ ⟨g, 0, none⟩ (.int .u8 (k : Int)) (fun e => hne1 (by injection e))).trans S3.out))) | (go_at_call 24; ((with_reducible refine (HOfB.out).mono ?_); rintro e w3 ⟨A3, c3, rfl, o3, b3⟩); have b4 : Below w1.heap.size w1 w3 := ((Below.refl _ w1).drew).trans b3; have S3 := Lib.hid (HL6.out w3 b4); have hg3 : g < w3.heap.size := Nat.lt_of_lt_of_le hg2 b4.size; have S4 := Lib.hid ((World.cell?_alloc_lt w3 (.cells #[.int .u8 0, .slice none 0 0] 24) ⟨g, 0, none⟩ hg3).trans S3.out); have S5 := Lib.hid ((World.cell?_alloc_lt w3 (.cells #[.int .u8 (k : Int), .slice A3 (ints t).length c3] 24) ⟨g, 0, none⟩ hg3).trans S3.out); have S6 := Lib.hid ((World.cell?_setCell_other (w3.setCell ⟨w1.heap.size, 0, none⟩ (.int .u8 (k : Int))) ⟨w1.heap.size, 1, none⟩ ⟨g, 0, none⟩ (.slice A3 (ints t).length c3) (fun e => hne1 (by injection e))).trans ((World.cell?_setCell_other w3 ⟨w1.heap.size, 0, none⟩ ⟨g, 0, none⟩ (.int .u8 (k : Int)) (fun e => hne1 (by injection e))).trans S3.out))))
          · rename_i hHeld
            have z0 := (Y0.out.under b4).alloc (.cells #[.int .u8 (k : Int), .slice A3 (ints t).length c3] 24)
            have z1 := Whole.new w3 24 #[.int .u8 (k : Int), .slice A3 (ints t).length c3]
            have z3 : (w3.alloc (.cells #[.int .u8 (k : Int), .slice A3 (ints t).length c3] 24)).ownsRow w1.heap.size 3 1 (.slice A3 (ints t).length c3) (ints t).length (iv (ints t)) := World.ownsRow.alloc (show w3.ownsRow w1.heap.size 3 1 (.slice A3 (ints t).length c3) (ints t).length (iv (ints t)) from o3) _
            have zb := (B1.out.trans (b4.mono B1.out.size)).alloc (B1.out.trans (b4.mono B1.out.size)).size (.cells #[.int .u8 (k : Int), .slice A3 (ints t).length c3] 24)
            obtain ⟨W4, hW4⟩ : ∃ W4, w3.alloc (.cells #[.int .u8 (k : Int), .slice A3 (ints t).length c3] 24) = W4 := ⟨_, rfl⟩
            rw [hW4] at z0 z1 z3 zb ⊢
            clear hW4 S3 S4 S5 S6 o3 b3 b4 f0 f1 q0 q1 hHeld
            have p0 := z1.cell 0
            have p1 := z1.cell 1
            simp only [List.getElem?_toArray, List.getElem?_cons_zero, List.getElem?_cons_succ] at p0 p1
            have HRt := Lib.hid (refRight_any k A3 (ints t).length c3 (ints t) _ W4 (Rd.of_own z3) (Nat.le_refl _))
            have Z0 := Lib.hid z0
            have Z1 := Lib.hid z1
            have Z3 := Lib.hid z3
            have ZB := Lib.hid zb
            clear z0 z1 z3 zb
            by_cases hm : mayB k (ints t) = true
            · have HrY := Lib.hid (show r = some (k, t) by rw [← HR.out, if_pos (by simp)]; exact if_pos ⟨hk, hm⟩)
              rw [hm] at HRt
              clear hm HR
              go_wp2_with fail
              refine (HRt.out).mono ?_
              rintro e w5 ⟨rfl, b5⟩
              have Y5 := Lib.hid (Z0.out.under b5)
              have Y6 := Lib.hid (Z1.out.under b5)
              have B5 := Lib.hid (ZB.out.trans (b5.mono ZB.out.size))
              have O5 := Lib.hid (own_under Z3.out b5)
              have r0 := Y5.out.cell 0
              have r1 := Y5.out.cell 1
              have f0 := Y5.out.frozen 0
              have f1 := Y5.out.frozen 1
              have s0 := Y6.out.cell 0
              have s1 := Y6.out.cell 1
              simp only [List.getElem?_toArray, List.getElem?_cons_zero, List.getElem?_cons_succ] at r0 r1 s0 s1
              clear b5
              go_wp2_with fail
              have hw2 := (Y5.out.set 0 (.int .u8 (k : Int))).set 1 (.slice A3 (ints t).length c3)
              have t0 := hw2.cell 0
              have t1 := hw2.cell 1
              simp at t0 t1
              have hne5 : (Value.slice A3 (ints t).length c3).ownBlock ≠ some w.heap.size := fun e => by have h1 := (O5.out.lt _ e).1; have h3 := Y0.out.lt; omega
              rw [HrY.out]
              refine bodyPost_ret (v := .tuple #[.agg #[.int .u8 (k : Int), .slice A3 (ints t).length c3], .int .i64 0]) (by simp [results, Try.results14, go_sem, t0, t1]) rfl ⟨A3, c3, rfl, ?_, ?_⟩
              · exact own_weaker (ownsRow_setCell_other (ownsRow_setCell_other (a := ⟨w.heap.size, 0, none⟩) O5.out hne5 _) (a := ⟨w.heap.size, 1, none⟩) hne5 _) B1.out.size
              · exact (B5.out.setCell (p := ⟨w.heap.size, 0, none⟩) (Nat.le_refl _) _).setCell (p := ⟨w.heap.size, 1, none⟩) (Nat.le_refl _) _
            · have hmf : mayB k (ints t) = false := by simpa using hm
              have HrN := Lib.hid (show r = none by rw [← HR.out, if_pos (by simp)]; exact if_neg (fun h => hm h.2))
              rw [hmf] at HRt
              clear hm hmf HR
              go_wp2_with fail
              refine (HRt.out).mono ?_
              rintro e w5 ⟨rfl, b5⟩
              have Y5 := Lib.hid (Z0.out.under b5)
              have B5 := Lib.hid (ZB.out.trans (b5.mono ZB.out.size))
              have r0 := Y5.out.cell 0
              have r1 := Y5.out.cell 1
              have f0 := Y5.out.frozen 0
              have f1 := Y5.out.frozen 1
              simp only [List.getElem?_toArray, List.getElem?_cons_zero, List.getElem?_cons_succ] at r0 r1
              clear b5
              go_wp2_with fail
              obtain ⟨t0, t1, t2⟩ := noRec_end Y5.out B5.out
              rw [HrN.out]
              exact bodyPost_ret (v := .tuple #[.agg #[.int .u8 0, .slice none 0 0], .int .i64 11]) (by simp [results, Try.results14, go_sem, t0, t1]) rfl ⟨rfl, t2⟩
          · rename_i hHeld
            have hlt0 := Y0.out.lt
            have z0 := ((Y0.out.under b4).far (p := ⟨w1.heap.size, 0, none⟩) (by simp; omega) (.int .u8 (k : Int))).far (p := ⟨w1.heap.size, 1, none⟩) (by simp; omega) (.slice A3 (ints t).length c3)
            have z1 := (Y3.out.set 0 (.int .u8 (k : Int))).set 1 (.slice A3 (ints t).length c3)
            have hfin : (#[Value.int .u8 0, Value.slice none 0 0].setIfInBounds 0 (.int .u8 (k : Int))).setIfInBounds 1 (.slice A3 (ints t).length c3) = #[.int .u8 (k : Int), .slice A3 (ints t).length c3] := rfl
            rw [hfin] at z1
            have hne3 : (Value.slice A3 (ints t).length c3).ownBlock ≠ some w1.heap.size := fun e => by have h1 := (o3.lt _ e).1; have h2 : (w1.alloc (.cells #[.int .u8 0, .slice none 0 0] 24)).heap.size ≤ w1.heap.size := h1; rw [World.size_alloc] at h2; omega
            have z3 := own_weaker (base := w1.heap.size) (ownsRow_setCell_other (ownsRow_setCell_other (a := ⟨w1.heap.size, 0, none⟩) o3 hne3 (.int .u8 (k : Int))) (a := ⟨w1.heap.size, 1, none⟩) hne3 (.slice A3 (ints t).length c3)) (by simp)
            have zb := ((B1.out.trans (b4.mono B1.out.size)).setCell (p := ⟨w1.heap.size, 0, none⟩) B1.out.size (.int .u8 (k : Int))).setCell (p := ⟨w1.heap.size, 1, none⟩) B1.out.size (.slice A3 (ints t).length c3)
            clear hfin hne3 Y3 m0 m1 m2 m3 tokA
            obtain ⟨W4, hW4⟩ : ∃ W4, (w3.setCell ⟨w1.heap.size, 0, none⟩ (.int .u8 (k : Int))).setCell ⟨w1.heap.size, 1, none⟩ (.slice A3 (ints t).length c3) = W4 := ⟨_, rfl⟩
            rw [hW4] at z0 z1 z3 zb ⊢
            clear hW4 S3 S4 S5 S6 o3 b3 b4 f0 f1 q0 q1 hHeld
            have p0 := z1.cell 0
            have p1 := z1.cell 1
            simp only [List.getElem?_toArray, List.getElem?_cons_zero, List.getElem?_cons_succ] at p0 p1
            have HRt := Lib.hid (refRight_any k A3 (ints t).length c3 (ints t) _ W4 (Rd.of_own z3) (Nat.le_refl _))
            have Z0 := Lib.hid z0
            have Z1 := Lib.hid z1
            have Z3 := Lib.hid z3
            have ZB := Lib.hid zb
            clear z0 z1 z3 zb
            by_cases hm : mayB k (ints t) = true
            · have HrY := Lib.hid (show r = some (k, t) by rw [← HR.out, if_pos (by simp)]; exact if_pos ⟨hk, hm⟩)
              rw [hm] at HRt
              clear hm HR
              go_wp2_with fail
              refine (HRt.out).mono ?_
              rintro e w5 ⟨rfl, b5⟩
              have Y5 := Lib.hid (Z0.out.under b5)
              have Y6 := Lib.hid (Z1.out.under b5)
              have B5 := Lib.hid (ZB.out.trans (b5.mono ZB.out.size))
              have O5 := Lib.hid (own_under Z3.out b5)
              have r0 := Y5.out.cell 0
              have r1 := Y5.out.cell 1
              have f0 := Y5.out.frozen 0
              have f1 := Y5.out.frozen 1
              have s0 := Y6.out.cell 0
              have s1 := Y6.out.cell 1
              simp only [List.getElem?_toArray, List.getElem?_cons_zero, List.getElem?_cons_succ] at r0 r1 s0 s1
              clear b5
              go_wp2_with fail
              have hw2 := (Y5.out.set 0 (.int .u8 (k : Int))).set 1 (.slice A3 (ints t).length c3)
              have t0 := hw2.cell 0
              have t1 := hw2.cell 1
              simp at t0 t1
              have hne5 : (Value.slice A3 (ints t).length c3).ownBlock ≠ some w.heap.size := fun e => by have h1 := (O5.out.lt _ e).1; have h3 := Y0.out.lt; omega
              rw [HrY.out]
              refine bodyPost_ret (v := .tuple #[.agg #[.int .u8 (k : Int), .slice A3 (ints t).length c3], .int .i64 0]) (by simp [results, Try.results14, go_sem, t0, t1]) rfl ⟨A3, c3, rfl, ?_, ?_⟩
              · exact own_weaker (ownsRow_setCell_other (ownsRow_setCell_other (a := ⟨w.heap.size, 0, none⟩) O5.out hne5 _) (a := ⟨w.heap.size, 1, none⟩) hne5 _) B1.out.size
              · exact (B5.out.setCell (p := ⟨w.heap.size, 0, none⟩) (Nat.le_refl _) _).setCell (p := ⟨w.heap.size, 1, none⟩) (Nat.le_refl _) _
            · have hmf : mayB k (ints t) = false := by simpa using hm
              have HrN := Lib.hid (show r = none by rw [← HR.out, if_pos (by simp)]; exact if_neg (fun h => hm h.2))
              rw [hmf] at HRt
              clear hm hmf HR
              go_wp2_with fail
              refine (HRt.out).mono ?_
              rintro e w5 ⟨rfl, b5⟩
              have Y5 := Lib.hid (Z0.out.under b5)
              have B5 := Lib.hid (ZB.out.trans (b5.mono ZB.out.size))
              have r0 := Y5.out.cell 0
              have r1 := Y5.out.cell 1
              have f0 := Y5.out.frozen 0
              have f1 := Y5.out.frozen 1
              simp only [List.getElem?_toArray, List.getElem?_cons_zero, List.getElem?_cons_succ] at r0 r1
              clear b5
              go_wp2_with fail
              obtain ⟨t0, t1, t2⟩ := noRec_end Y5.out B5.out
              rw [HrN.out]
              exact bodyPost_ret (v := .tuple #[.agg #[.int .u8 0, .slice none 0 0], .int .i64 11]) (by simp [results, Try.results14, go_sem, t0, t1]) rfl ⟨rfl, t2⟩
        · have HrN := Lib.hid (show r = none by rw [← HR.out, if_pos ⟨rfl, rfl⟩]; exact if_neg (fun h => hk h.1))
          have hge : (17 : Int) ≤ (k : Int) := by omega
          clear HR hk
          go_wp2_with fail
          obtain ⟨p0, p1, p2⟩ := noRec_end Y0.out B1.out
          rw [HrN.out]
          exact bodyPost_ret (v := .tuple #[.agg #[.int .u8 0, .slice none 0 0], .int .i64 11]) (by simp [results, Try.results14, go_sem, p0, p1]) rfl ⟨rfl, p2⟩
  · have hEb : ((E : Int) != 0) = true := by simp; exact hE
    have HrN := Lib.hid (show r = none by rw [← HR.out, if_neg (fun h => hE h.1)])
    clear hE
    go_wp2_with fail
    obtain ⟨p0, p1, p2⟩ := noRec_end Y0.out B1.out
    rw [HrN.out]
    exact bodyPost_ret (v := .tuple #[.agg #[.int .u8 0, .slice none 0 0], .int .i64 11]) (by simp [results, Try.results14, go_sem, p0, p1]) rfl ⟨rfl, p2⟩

end Go.Proofs.Ytcgfakpolfopnaa
