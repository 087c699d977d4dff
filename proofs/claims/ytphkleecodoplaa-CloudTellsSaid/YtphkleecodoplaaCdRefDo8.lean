/-
  The walk of the document's own 'Do' (layer 8): what is done to a box. Conditions: those that each theorem names.
-/
import Derived.Test.YtphkleecodoplaaCdRefDo4
namespace Go.Proofs.Ytphkleecodoplaa
open Go.RowKit Go.Shelf

section
variable {x : Cw} {q : Ak} {A : Option Addr} {n c : Nat} {w : World}
set_option maxRecDepth 100000 in
set_option maxHeartbeats 8000000 in
theorem rdo_k (hr : RdX w w.heap.size A n x.l) (hn : n ≤ 1000) (hR : right x = true) (hk1 : ¬ q.kind = 1) (hko : q.kind = 2 ∨ q.kind = 3 ∨ q.kind = 4 ∨ q.kind = 5 ∨ q.kind = 6) {L : List Bx} {K : Int} (hl : oneP x q = (L, K)) :
    Calls Try.prog 10 #[.agg #[.slice A n c, .int .i64 x.fl, .int .i64 x.dr, .int .i64 x.nw, .bool x.tg], .agg #[.int .u8 q.kind, .int .i64 q.call, .int .i64 q.a, .int .i64 q.b, .int .i64 q.c, .int .i64 q.d]] w (DoPost x q L K q.a w) := by
  have two := whole_two (W := w) (t := 24) (u := 26) (x := #[.slice A n c, .int .i64 x.fl, .int .i64 x.dr, .int .i64 x.nw, .bool x.tg]) (y := #[.int .u8 q.kind, .int .i64 q.call, .int .i64 q.a, .int .i64 q.b, .int .i64 q.c, .int .i64 q.d])
  have tw2 := whole_two (W := (w.alloc (.cells #[.slice A n c, .int .i64 x.fl, .int .i64 x.dr, .int .i64 x.nw, .bool x.tg] 24)).alloc (.cells #[.int .u8 q.kind, .int .i64 q.call, .int .i64 q.a, .int .i64 q.b, .int .i64 q.c, .int .i64 q.d] 26)) (t := 24) (u := 30) (x := #[.slice none 0 0, .int .i64 0, .int .i64 0, .int .i64 0, .bool false]) (y := #[.int .i64 0, .int .u8 0, .int .u8 0, .int .i64 0, .slice none 0 0, .bool false])
  obtain ⟨V, hV⟩ : ∃ V, ((((w.alloc (.cells #[.slice A n c, .int .i64 x.fl, .int .i64 x.dr, .int .i64 x.nw, .bool x.tg] 24)).alloc (.cells #[.int .u8 q.kind, .int .i64 q.call, .int .i64 q.a, .int .i64 q.b, .int .i64 q.c, .int .i64 q.d] 26)).alloc (.cells #[.slice none 0 0, .int .i64 0, .int .i64 0, .int .i64 0, .bool false] 24)).alloc (.cells #[.int .i64 0, .int .u8 0, .int .u8 0, .int .i64 0, .slice none 0 0, .bool false] 30)) = V := ⟨_, rfl⟩
  rw [hV] at tw2
  have C := Lib.hid (two.1.under tw2.2.2)
  have Q := Lib.hid (two.2.1.under tw2.2.2)
  have Z4 := Lib.hid (show Whole V (w.heap.size + 1 + 1) 24 #[.slice none 0 0, .int .i64 0, .int .i64 0, .int .i64 0, .bool false] from by have := tw2.1; rwa [World.size_alloc, World.size_alloc] at this)
  have Z5 := Lib.hid (show Whole V (w.heap.size + 1 + 1 + 1) 30 #[.int .i64 0, .int .u8 0, .int .u8 0, .int .i64 0, .slice none 0 0, .bool false] from by have := tw2.2.1; rwa [World.size_alloc, World.size_alloc] at this)
  have BS := Lib.hid (two.2.2.trans (tw2.2.2.mono two.2.2.size))
  have R := Lib.hid (hr.up BS.out)
  have HSV := Lib.hid (show w.heap.size + 1 + 1 + 1 < V.heap.size from Z5.out.ltS)
  clear two tw2 hr
  have HL : Hid (∀ (W : World) (A : Option Addr) (c base : Nat), W.ownsRow base 40 11 (.slice A n c) n (flat x.l) → base ≤ W.heap.size → Calls Try.prog 26 #[.agg #[.slice A n c, .int .i64 x.fl, .int .i64 x.dr, .int .i64 x.nw, .bool x.tg], .agg #[.int .u8 q.kind, .int .i64 q.call, .int .i64 q.a, .int .i64 q.b, .int .i64 q.c, .int .i64 q.d]] W (RO base x L K W)) := Lib.hid (fun W A c base ho hb => by
    have h := rone_any (q := q) ho hb hn hR hko
    rw [hl] at h
    exact h)
  clear hl
  have d1 : (q.kind == 1) = false := by simp [hk1]
  have HOw := Lib.hid (fun W A c hr => ownO (l := x.l) (fl := x.fl) (dr := x.dr) (nw := x.nw) (tg := x.tg) (n := n) hn W A c hr)
  have HRt := Lib.hid (rightL (l := x.l) (fl := x.fl) (dr := x.dr) (nw := x.nw) (tg := x.tg) (n := n) (b := true) hR)
  go_enter Try.func10, Try.ntmps10
  have vC_0 := C.out.cell 0
  have vC_1 := C.out.cell 1
  have vC_2 := C.out.cell 2
  have vC_3 := C.out.cell 3
  have vC_4 := C.out.cell 4
  simp only [List.getElem?_toArray, List.getElem?_cons_zero, List.getElem?_cons_succ] at vC_0 vC_1 vC_2 vC_3 vC_4
  go_wp2_with fail
  clear hV
  refine (HOw.out _ _ _ R.out).mono ?_
  rintro e y1 ⟨A1, c1, rfl, o1, b⟩
  clear vC_0 vC_1 vC_2 vC_3 vC_4
  have C_ := Lib.hid (C.out.under b)
  have Q_ := Lib.hid (Q.out.under b)
  have Z4_ := Lib.hid (Z4.out.under b)
  have Z5_ := Lib.hid (Z5.out.under b)
  have BS_ := Lib.hid (BS.out.trans (b.mono BS.out.size))
  clear C Q Z4 Z5 BS
  have C := C_
  have Q := Q_
  have Z4 := Z4_
  have Z5 := Z5_
  have BS := BS_
  clear C_ Q_ Z4_ Z5_ BS_
  have HV1 := Lib.hid b.size
  clear HOw R b
  have vC_0 := C.out.cell 0
  have vC_1 := C.out.cell 1
  have vC_2 := C.out.cell 2
  have vC_3 := C.out.cell 3
  have vC_4 := C.out.cell 4
  simp only [List.getElem?_toArray, List.getElem?_cons_zero, List.getElem?_cons_succ] at vC_0 vC_1 vC_2 vC_3 vC_4
  have f0 := C.out.frozen 0
  have f1 := C.out.frozen 1
  have f2 := C.out.frozen 2
  have f3 := C.out.frozen 3
  have f4 := C.out.frozen 4
  go_upto_region 2 with fail
  clear vC_0 vC_1 vC_2 vC_3 vC_4
  clear f0 f1 f2 f3 f4
  have HO1 := Lib.hid (show ∀ k, (Value.slice A1 n c1).ownBlock = some k → V.heap.size ≤ k from fun k e => (o1.lt k e).1)
  have kp := kept5 C.out (.slice A1 n c1) (.int .i64 x.fl) (.int .i64 x.dr) (.int .i64 x.nw) (.bool x.tg)
  have hne : ∀ k, (Value.slice A1 n c1).ownBlock = some k → k ≠ w.heap.size := fun k e => by have := HO1.out k e; have := HSV.out; omega
  have o2 := own_off (own_off (own_off (own_off (own_off o1 hne 0 (.slice A1 n c1)) hne 1 (.int .i64 x.fl)) hne 2 (.int .i64 x.dr)) hne 3 (.int .i64 x.nw)) hne 4 (.bool x.tg)
  have Q2 := kp.2.far _ _ _ (by omega) Q.out
  have Z42 := kp.2.far _ _ _ (by omega) Z4.out
  have Z52 := kp.2.far _ _ _ (by omega) Z5.out
  have BS2 := kp.2.bel _ _ (Nat.le_refl _) BS.out
  have C2 := kp.1
  have hsz := kp.2.size
  have hb0 := o1
  obtain ⟨W1, hW1⟩ : ∃ W1, (((((y1.setCell ⟨w.heap.size, 0, none⟩ (.slice A1 n c1)).setCell ⟨w.heap.size, 1, none⟩ (.int .i64 x.fl)).setCell ⟨w.heap.size, 2, none⟩ (.int .i64 x.dr)).setCell ⟨w.heap.size, 3, none⟩ (.int .i64 x.nw)).setCell ⟨w.heap.size, 4, none⟩ (.bool x.tg)) = W1 := ⟨_, rfl⟩
  rw [hW1] at o2 Q2 Z42 Z52 BS2 C2 hsz ⊢
  clear hW1 kp hne o1 hb0
  have HVs := Lib.hid (show V.heap.size ≤ W1.heap.size from by rw [hsz]; exact HV1.out)
  clear hsz
  clear C Q Z4 Z5 BS
  have C := Lib.hid C2
  clear C2
  have Q := Lib.hid Q2
  clear Q2
  have Z4 := Lib.hid Z42
  clear Z42
  have Z5 := Lib.hid Z52
  clear Z52
  have O := Lib.hid o2
  clear o2
  have BS := Lib.hid BS2
  clear BS2
  have one := whole_one (W := W1) (t := 30) (x := #[.int .i64 q.call, .int .u8 q.kind, .int .u8 3, .int .i64 q.a, .slice none 0 0, .bool false])
  have vQ_0 := Q.out.cell 0
  have vQ_1 := Q.out.cell 1
  have vQ_2 := Q.out.cell 2
  have vQ_3 := Q.out.cell 3
  have vQ_4 := Q.out.cell 4
  have vQ_5 := Q.out.cell 5
  simp only [List.getElem?_toArray, List.getElem?_cons_zero, List.getElem?_cons_succ] at vQ_0 vQ_1 vQ_2 vQ_3 vQ_4 vQ_5
  have C_ := Lib.hid (C.out.under one.2)
  have Q_ := Lib.hid (Q.out.under one.2)
  have Z4_ := Lib.hid (Z4.out.under one.2)
  have Z5_ := Lib.hid (Z5.out.under one.2)
  have O_ := Lib.hid (own_under O.out one.2)
  have BS_ := Lib.hid (BS.out.trans (one.2.mono BS.out.size))
  clear C Q Z4 Z5 O BS
  have C := C_
  have Q := Q_
  have Z4 := Z4_
  have Z5 := Z5_
  have O := O_
  have BS := BS_
  clear C_ Q_ Z4_ Z5_ O_ BS_
  have T := Lib.hid one.1
  clear one
  have vQ_0b := Q.out.cell 0
  have vQ_1b := Q.out.cell 1
  have vQ_2b := Q.out.cell 2
  have vQ_3b := Q.out.cell 3
  have vQ_4b := Q.out.cell 4
  have vQ_5b := Q.out.cell 5
  simp only [List.getElem?_toArray, List.getElem?_cons_zero, List.getElem?_cons_succ] at vQ_0b vQ_1b vQ_2b vQ_3b vQ_4b vQ_5b
  have vC_0 := C.out.cell 0
  have vC_1 := C.out.cell 1
  have vC_2 := C.out.cell 2
  have vC_3 := C.out.cell 3
  have vC_4 := C.out.cell 4
  simp only [List.getElem?_toArray, List.getElem?_cons_zero, List.getElem?_cons_succ] at vC_0 vC_1 vC_2 vC_3 vC_4
  go_wp2_with fail
  refine (HRt.out _ _ _ (RdX.of_own O.out)).mono ?_
  rintro e y2 ⟨rfl, b⟩
  clear vQ_0 vQ_1 vQ_2 vQ_3 vQ_4 vQ_5 vQ_0b vQ_1b vQ_2b vQ_3b vQ_4b vQ_5b vC_0 vC_1 vC_2 vC_3 vC_4
  have C_ := Lib.hid (C.out.under b)
  have Q_ := Lib.hid (Q.out.under b)
  have Z4_ := Lib.hid (Z4.out.under b)
  have Z5_ := Lib.hid (Z5.out.under b)
  have O_ := Lib.hid (own_under O.out b)
  have BS_ := Lib.hid (BS.out.trans (b.mono BS.out.size))
  have T_ := Lib.hid (T.out.under b)
  clear C Q Z4 Z5 O BS T
  have C := C_
  have Q := Q_
  have Z4 := Z4_
  have Z5 := Z5_
  have O := O_
  have BS := BS_
  have T := T_
  clear C_ Q_ Z4_ Z5_ O_ BS_ T_
  clear b HRt
  clear d1
  by_cases h2 : q.kind = 2
  ·
    have e1 : (q.kind == 1) = false := by rw [beq_eq_false_iff_ne]; omega
    have e2 : (q.kind == 2) = true := by rw [beq_iff_eq]; omega
    clear hk1 hko h2
    have HgT := Lib.hid (show w.heap.size + 1 + 1 + 1 < W1.heap.size from by have := HSV.out; have := HVs.out; omega)
    have vQ_0 := Q.out.cell 0
    have vQ_1 := Q.out.cell 1
    have vQ_2 := Q.out.cell 2
    have vQ_3 := Q.out.cell 3
    have vQ_4 := Q.out.cell 4
    have vQ_5 := Q.out.cell 5
    simp only [List.getElem?_toArray, List.getElem?_cons_zero, List.getElem?_cons_succ] at vQ_0 vQ_1 vQ_2 vQ_3 vQ_4 vQ_5
    have vC_0 := C.out.cell 0
    have vC_1 := C.out.cell 1
    have vC_2 := C.out.cell 2
    have vC_3 := C.out.cell 3
    have vC_4 := C.out.cell 4
    simp only [List.getElem?_toArray, List.getElem?_cons_zero, List.getElem?_cons_succ] at vC_0 vC_1 vC_2 vC_3 vC_4
    go_wp2_with fail
    have HVy := Lib.hid (Nat.le_trans HVs.out (by have := T.out.ltS; omega : W1.heap.size ≤ y2.heap.size))
    refine (HL.out y2 A1 c1 V.heap.size O.out HVy.out).mono ?_
    rintro e y3 ⟨A3, n3, c3, rfl, o3, b3, fz⟩
    clear vQ_0 vQ_1 vQ_2 vQ_3 vQ_4 vQ_5 vC_0 vC_1 vC_2 vC_3 vC_4
    have HO3 := Lib.hid (show ∀ k, (Value.slice A3 n3 c3).ownBlock = some k → V.heap.size ≤ k from fun k e => (o3.lt k e).1)
    have apT := own_apartX (show 40 ≠ 30 by decide) o3 (fz _ _ _ (by decide) T.out)
    have C2 := fz _ _ _ (by decide) C.out
    have Z42 := fz _ _ _ (by decide) Z4.out
    have Z52 := fz _ _ _ (by decide) Z5.out
    have T2 := fz _ _ _ (by decide) T.out
    have BS2 := BS.out.trans (b3.mono (by have := HSV.out; omega))
    clear C Q Z4 Z5 T BS O fz HL HVy
    have C := Lib.hid C2
    clear C2
    have Z4 := Lib.hid Z42
    clear Z42
    have Z5 := Lib.hid Z52
    clear Z52
    have O := Lib.hid o3
    clear o3
    have BS := Lib.hid BS2
    clear BS2
    have T := Lib.hid T2
    clear T2
    clear b3
    have vC_0 := C.out.cell 0
    have vC_1 := C.out.cell 1
    have vC_2 := C.out.cell 2
    have vC_3 := C.out.cell 3
    have vC_4 := C.out.cell 4
    simp only [List.getElem?_toArray, List.getElem?_cons_zero, List.getElem?_cons_succ] at vC_0 vC_1 vC_2 vC_3 vC_4
    have f0 := C.out.frozen 0
    have f1 := C.out.frozen 1
    have f2 := C.out.frozen 2
    have f3 := C.out.frozen 3
    have f4 := C.out.frozen 4
    have kpA := kept5 C.out (.slice A3 n3 c3) (.int .i64 x.fl) (.int .i64 x.dr) (.int .i64 x.nw) (.bool x.tg)
    have TA := kpA.2.far _ _ _ (by have := HgT.out; omega) T.out
    have t2 := TA.cell 2
    have t3 := TA.cell 3
    have g2 := TA.frozen 2
    have g3 := TA.frozen 3
    simp only [List.getElem?_toArray, List.getElem?_cons_zero, List.getElem?_cons_succ] at t2 t3
    clear kpA TA
    go_upto_region 16 with fail
    clear vC_0 vC_1 vC_2 vC_3 vC_4
    clear f0 f1 f2 f3 f4 g2 g3 t2 t3
    have kp := kept5 C.out (.slice A3 n3 c3) (.int .i64 x.fl) (.int .i64 x.dr) (.int .i64 x.nw) (.bool x.tg)
    have T1 := kp.2.far _ _ _ (by have := HgT.out; omega) T.out
    have hne : ∀ k, (Value.slice A3 n3 c3).ownBlock = some k → k ≠ w.heap.size := fun k e => by have := HO3.out k e; have := HSV.out; omega
    have hnT : ∀ k, (Value.slice A3 n3 c3).ownBlock = some k → k ≠ W1.heap.size := fun k e hk => apT (hk ▸ e)
    have k0 := keptB_one (w := (((((y3.setCell ⟨w.heap.size, 0, none⟩ (.slice A3 n3 c3)).setCell ⟨w.heap.size, 1, none⟩ (.int .i64 x.fl)).setCell ⟨w.heap.size, 2, none⟩ (.int .i64 x.dr)).setCell ⟨w.heap.size, 3, none⟩ (.int .i64 x.nw)).setCell ⟨w.heap.size, 4, none⟩ (.bool x.tg))) (g := W1.heap.size) 2 (.int .u8 K)
    have kk := k0
    have T2 := (T1.set 2 (.int .u8 K))
    simp only [List.setIfInBounds_toArray, List.set_cons_zero, List.set_cons_succ] at T2
    have o4 := (own_off (own_off (own_off (own_off (own_off (own_off O.out hne 0 (.slice A3 n3 c3)) hne 1 (.int .i64 x.fl)) hne 2 (.int .i64 x.dr)) hne 3 (.int .i64 x.nw)) hne 4 (.bool x.tg)) hnT 2 (.int .u8 K))
    have C2 := kk.far _ _ _ (by have := HgT.out; omega) kp.1
    have Z42 := kk.far _ _ _ (by have := HgT.out; omega) (kp.2.far _ _ _ (by omega) Z4.out)
    have Z52 := kk.far _ _ _ (by have := HgT.out; omega) (kp.2.far _ _ _ (by omega) Z5.out)
    have BS2 := kk.bel w.heap.size w (by have := HgT.out; omega) (kp.2.bel _ _ (Nat.le_refl _) BS.out)
    obtain ⟨W5, hW5⟩ : ∃ W5, ((((((y3.setCell ⟨w.heap.size, 0, none⟩ (.slice A3 n3 c3)).setCell ⟨w.heap.size, 1, none⟩ (.int .i64 x.fl)).setCell ⟨w.heap.size, 2, none⟩ (.int .i64 x.dr)).setCell ⟨w.heap.size, 3, none⟩ (.int .i64 x.nw)).setCell ⟨w.heap.size, 4, none⟩ (.bool x.tg)).setCell ⟨W1.heap.size, 2, none⟩ (.int .u8 K)) = W5 := ⟨_, rfl⟩
    rw [hW5] at T2 o4 C2 Z42 Z52 BS2 ⊢
    clear hW5 kp kk T1 hne hnT apT k0 C Z4 Z5 T BS O HO1
    have C := Lib.hid C2
    clear C2
    have Z4 := Lib.hid Z42
    clear Z42
    have Z5 := Lib.hid Z52
    clear Z52
    have O := Lib.hid o4
    clear o4
    have BS := Lib.hid BS2
    clear BS2
    have T := Lib.hid T2
    clear T2
    have HO1 := HO3
    have vC_0 := C.out.cell 0
    have vC_1 := C.out.cell 1
    have vC_2 := C.out.cell 2
    have vC_3 := C.out.cell 3
    have vC_4 := C.out.cell 4
    simp only [List.getElem?_toArray, List.getElem?_cons_zero, List.getElem?_cons_succ] at vC_0 vC_1 vC_2 vC_3 vC_4
    have vT_0 := T.out.cell 0
    have vT_1 := T.out.cell 1
    have vT_2 := T.out.cell 2
    have vT_3 := T.out.cell 3
    have vT_4 := T.out.cell 4
    have vT_5 := T.out.cell 5
    simp only [List.getElem?_toArray, List.getElem?_cons_zero, List.getElem?_cons_succ] at vT_0 vT_1 vT_2 vT_3 vT_4 vT_5
    have vZ4_0 := Z4.out.cell 0
    have vZ4_1 := Z4.out.cell 1
    have vZ4_2 := Z4.out.cell 2
    have vZ4_3 := Z4.out.cell 3
    have vZ4_4 := Z4.out.cell 4
    simp only [List.getElem?_toArray, List.getElem?_cons_zero, List.getElem?_cons_succ] at vZ4_0 vZ4_1 vZ4_2 vZ4_3 vZ4_4
    have vZ5_0 := Z5.out.cell 0
    have vZ5_1 := Z5.out.cell 1
    have vZ5_2 := Z5.out.cell 2
    have vZ5_3 := Z5.out.cell 3
    have vZ5_4 := Z5.out.cell 4
    have vZ5_5 := Z5.out.cell 5
    simp only [List.getElem?_toArray, List.getElem?_cons_zero, List.getElem?_cons_succ] at vZ5_0 vZ5_1 vZ5_2 vZ5_3 vZ5_4 vZ5_5
    have f0 := Z4.out.frozen 0
    have f1 := Z4.out.frozen 1
    have f2 := Z4.out.frozen 2
    have f3 := Z4.out.frozen 3
    have f4 := Z4.out.frozen 4
    have g0 := Z5.out.frozen 0
    have g1 := Z5.out.frozen 1
    have g2 := Z5.out.frozen 2
    have g3 := Z5.out.frozen 3
    have g4 := Z5.out.frozen 4
    have g5 := Z5.out.frozen 5
    go_wp2_with fail
    have kp := kept5 Z4.out (.slice A3 n3 c3) (.int .i64 x.fl) (.int .i64 x.dr) (.int .i64 x.nw) (.bool x.tg)
    obtain ⟨t0, t1, t2, t3, t4, t5⟩ := cells6 (kp.2.far _ _ _ (by have := HgT.out; omega) T.out)
    clear kp
    go_region
    obtain ⟨W9, hW9, p1, p2, p3, p4⟩ := rdo_fin (w := w) (fl := x.fl) (dr := x.dr) (nw := x.nw) (tg := x.tg) (a0 := q.call) (a1 := q.kind) (a2 := K) (a3 := q.a) (show w.heap.size + 1 + 1 ≠ w.heap.size + 1 + 1 + 1 by omega) Z4.out Z5.out O.out (fun k e => by have := HO1.out k e; have := HSV.out; omega) (fun k e => by have := HO1.out k e; have := HSV.out; omega) BS.out (by omega) (by omega)
    rw [hW9]
    clear hW9
    have p1' : Whole W9.drew _ 24 _ := p1
    have p2' : Whole W9.drew _ 30 _ := p2
    obtain ⟨y0, y1, y2, y3, y4⟩ := cells5 p1'
    obtain ⟨i0, i1, i2, i3, i4, i5⟩ := cells6 p2'
    have p3' := p3.up (Below.refl _ W9).drew
    have p4' := p4.drew
    clear p1 p1' p2 p2' p3 p4
    go_wp2_with fail
    refine bodyPost_ret (v := .tuple #[.agg #[.slice A3 n3 c3, .int .i64 x.fl, .int .i64 x.dr, .int .i64 x.nw, .bool x.tg], .agg #[.int .i64 q.call, .int .u8 q.kind, .int .u8 K, .int .i64 q.a, .slice none 0 0, .bool false]]) (by simp [results, Try.results10, go_sem, y0, y1, y2, y3, y4, i0, i1, i2, i3, i4, i5]) rfl ⟨A3, n3, c3, rfl, p3', p4'⟩
  by_cases h3 : q.kind = 3
  ·
    have e1 : (q.kind == 1) = false := by rw [beq_eq_false_iff_ne]; omega
    have e2 : (q.kind == 2) = false := by rw [beq_eq_false_iff_ne]; omega
    have e3 : (q.kind == 3) = true := by rw [beq_iff_eq]; omega
    clear hk1 hko h2 h3
    have HgT := Lib.hid (show w.heap.size + 1 + 1 + 1 < W1.heap.size from by have := HSV.out; have := HVs.out; omega)
    have vQ_0 := Q.out.cell 0
    have vQ_1 := Q.out.cell 1
    have vQ_2 := Q.out.cell 2
    have vQ_3 := Q.out.cell 3
    have vQ_4 := Q.out.cell 4
    have vQ_5 := Q.out.cell 5
    simp only [List.getElem?_toArray, List.getElem?_cons_zero, List.getElem?_cons_succ] at vQ_0 vQ_1 vQ_2 vQ_3 vQ_4 vQ_5
    have vC_0 := C.out.cell 0
    have vC_1 := C.out.cell 1
    have vC_2 := C.out.cell 2
    have vC_3 := C.out.cell 3
    have vC_4 := C.out.cell 4
    simp only [List.getElem?_toArray, List.getElem?_cons_zero, List.getElem?_cons_succ] at vC_0 vC_1 vC_2 vC_3 vC_4
    go_wp2_with fail
    have HVy := Lib.hid (Nat.le_trans HVs.out (by have := T.out.ltS; omega : W1.heap.size ≤ y2.heap.size))
    refine (HL.out y2 A1 c1 V.heap.size O.out HVy.out).mono ?_
    rintro e y3 ⟨A3, n3, c3, rfl, o3, b3, fz⟩
    clear vQ_0 vQ_1 vQ_2 vQ_3 vQ_4 vQ_5 vC_0 vC_1 vC_2 vC_3 vC_4
    have HO3 := Lib.hid (show ∀ k, (Value.slice A3 n3 c3).ownBlock = some k → V.heap.size ≤ k from fun k e => (o3.lt k e).1)
    have apT := own_apartX (show 40 ≠ 30 by decide) o3 (fz _ _ _ (by decide) T.out)
    have C2 := fz _ _ _ (by decide) C.out
    have Z42 := fz _ _ _ (by decide) Z4.out
    have Z52 := fz _ _ _ (by decide) Z5.out
    have T2 := fz _ _ _ (by decide) T.out
    have BS2 := BS.out.trans (b3.mono (by have := HSV.out; omega))
    clear C Q Z4 Z5 T BS O fz HL HVy
    have C := Lib.hid C2
    clear C2
    have Z4 := Lib.hid Z42
    clear Z42
    have Z5 := Lib.hid Z52
    clear Z52
    have O := Lib.hid o3
    clear o3
    have BS := Lib.hid BS2
    clear BS2
    have T := Lib.hid T2
    clear T2
    clear b3
    have vC_0 := C.out.cell 0
    have vC_1 := C.out.cell 1
    have vC_2 := C.out.cell 2
    have vC_3 := C.out.cell 3
    have vC_4 := C.out.cell 4
    simp only [List.getElem?_toArray, List.getElem?_cons_zero, List.getElem?_cons_succ] at vC_0 vC_1 vC_2 vC_3 vC_4
    have f0 := C.out.frozen 0
    have f1 := C.out.frozen 1
    have f2 := C.out.frozen 2
    have f3 := C.out.frozen 3
    have f4 := C.out.frozen 4
    have kpA := kept5 C.out (.slice A3 n3 c3) (.int .i64 x.fl) (.int .i64 x.dr) (.int .i64 x.nw) (.bool x.tg)
    have TA := kpA.2.far _ _ _ (by have := HgT.out; omega) T.out
    have t2 := TA.cell 2
    have t3 := TA.cell 3
    have g2 := TA.frozen 2
    have g3 := TA.frozen 3
    simp only [List.getElem?_toArray, List.getElem?_cons_zero, List.getElem?_cons_succ] at t2 t3
    clear kpA TA
    go_upto_region 16 with fail
    clear vC_0 vC_1 vC_2 vC_3 vC_4
    clear f0 f1 f2 f3 f4 g2 g3 t2 t3
    have kp := kept5 C.out (.slice A3 n3 c3) (.int .i64 x.fl) (.int .i64 x.dr) (.int .i64 x.nw) (.bool x.tg)
    have T1 := kp.2.far _ _ _ (by have := HgT.out; omega) T.out
    have hne : ∀ k, (Value.slice A3 n3 c3).ownBlock = some k → k ≠ w.heap.size := fun k e => by have := HO3.out k e; have := HSV.out; omega
    have hnT : ∀ k, (Value.slice A3 n3 c3).ownBlock = some k → k ≠ W1.heap.size := fun k e hk => apT (hk ▸ e)
    have k0 := keptB_one (w := (((((y3.setCell ⟨w.heap.size, 0, none⟩ (.slice A3 n3 c3)).setCell ⟨w.heap.size, 1, none⟩ (.int .i64 x.fl)).setCell ⟨w.heap.size, 2, none⟩ (.int .i64 x.dr)).setCell ⟨w.heap.size, 3, none⟩ (.int .i64 x.nw)).setCell ⟨w.heap.size, 4, none⟩ (.bool x.tg))) (g := W1.heap.size) 2 (.int .u8 K)
    have kk := k0
    have T2 := (T1.set 2 (.int .u8 K))
    simp only [List.setIfInBounds_toArray, List.set_cons_zero, List.set_cons_succ] at T2
    have o4 := (own_off (own_off (own_off (own_off (own_off (own_off O.out hne 0 (.slice A3 n3 c3)) hne 1 (.int .i64 x.fl)) hne 2 (.int .i64 x.dr)) hne 3 (.int .i64 x.nw)) hne 4 (.bool x.tg)) hnT 2 (.int .u8 K))
    have C2 := kk.far _ _ _ (by have := HgT.out; omega) kp.1
    have Z42 := kk.far _ _ _ (by have := HgT.out; omega) (kp.2.far _ _ _ (by omega) Z4.out)
    have Z52 := kk.far _ _ _ (by have := HgT.out; omega) (kp.2.far _ _ _ (by omega) Z5.out)
    have BS2 := kk.bel w.heap.size w (by have := HgT.out; omega) (kp.2.bel _ _ (Nat.le_refl _) BS.out)
    obtain ⟨W5, hW5⟩ : ∃ W5, ((((((y3.setCell ⟨w.heap.size, 0, none⟩ (.slice A3 n3 c3)).setCell ⟨w.heap.size, 1, none⟩ (.int .i64 x.fl)).setCell ⟨w.heap.size, 2, none⟩ (.int .i64 x.dr)).setCell ⟨w.heap.size, 3, none⟩ (.int .i64 x.nw)).setCell ⟨w.heap.size, 4, none⟩ (.bool x.tg)).setCell ⟨W1.heap.size, 2, none⟩ (.int .u8 K)) = W5 := ⟨_, rfl⟩
    rw [hW5] at T2 o4 C2 Z42 Z52 BS2 ⊢
    clear hW5 kp kk T1 hne hnT apT k0 C Z4 Z5 T BS O HO1
    have C := Lib.hid C2
    clear C2
    have Z4 := Lib.hid Z42
    clear Z42
    have Z5 := Lib.hid Z52
    clear Z52
    have O := Lib.hid o4
    clear o4
    have BS := Lib.hid BS2
    clear BS2
    have T := Lib.hid T2
    clear T2
    have HO1 := HO3
    have vC_0 := C.out.cell 0
    have vC_1 := C.out.cell 1
    have vC_2 := C.out.cell 2
    have vC_3 := C.out.cell 3
    have vC_4 := C.out.cell 4
    simp only [List.getElem?_toArray, List.getElem?_cons_zero, List.getElem?_cons_succ] at vC_0 vC_1 vC_2 vC_3 vC_4
    have vT_0 := T.out.cell 0
    have vT_1 := T.out.cell 1
    have vT_2 := T.out.cell 2
    have vT_3 := T.out.cell 3
    have vT_4 := T.out.cell 4
    have vT_5 := T.out.cell 5
    simp only [List.getElem?_toArray, List.getElem?_cons_zero, List.getElem?_cons_succ] at vT_0 vT_1 vT_2 vT_3 vT_4 vT_5
    have vZ4_0 := Z4.out.cell 0
    have vZ4_1 := Z4.out.cell 1
    have vZ4_2 := Z4.out.cell 2
    have vZ4_3 := Z4.out.cell 3
    have vZ4_4 := Z4.out.cell 4
    simp only [List.getElem?_toArray, List.getElem?_cons_zero, List.getElem?_cons_succ] at vZ4_0 vZ4_1 vZ4_2 vZ4_3 vZ4_4
    have vZ5_0 := Z5.out.cell 0
    have vZ5_1 := Z5.out.cell 1
    have vZ5_2 := Z5.out.cell 2
    have vZ5_3 := Z5.out.cell 3
    have vZ5_4 := Z5.out.cell 4
    have vZ5_5 := Z5.out.cell 5
    simp only [List.getElem?_toArray, List.getElem?_cons_zero, List.getElem?_cons_succ] at vZ5_0 vZ5_1 vZ5_2 vZ5_3 vZ5_4 vZ5_5
    have f0 := Z4.out.frozen 0
    have f1 := Z4.out.frozen 1
    have f2 := Z4.out.frozen 2
    have f3 := Z4.out.frozen 3
    have f4 := Z4.out.frozen 4
    have g0 := Z5.out.frozen 0
    have g1 := Z5.out.frozen 1
    have g2 := Z5.out.frozen 2
    have g3 := Z5.out.frozen 3
    have g4 := Z5.out.frozen 4
    have g5 := Z5.out.frozen 5
    go_wp2_with fail
    have kp := kept5 Z4.out (.slice A3 n3 c3) (.int .i64 x.fl) (.int .i64 x.dr) (.int .i64 x.nw) (.bool x.tg)
    obtain ⟨t0, t1, t2, t3, t4, t5⟩ := cells6 (kp.2.far _ _ _ (by have := HgT.out; omega) T.out)
    clear kp
    go_region
    obtain ⟨W9, hW9, p1, p2, p3, p4⟩ := rdo_fin (w := w) (fl := x.fl) (dr := x.dr) (nw := x.nw) (tg := x.tg) (a0 := q.call) (a1 := q.kind) (a2 := K) (a3 := q.a) (show w.heap.size + 1 + 1 ≠ w.heap.size + 1 + 1 + 1 by omega) Z4.out Z5.out O.out (fun k e => by have := HO1.out k e; have := HSV.out; omega) (fun k e => by have := HO1.out k e; have := HSV.out; omega) BS.out (by omega) (by omega)
    rw [hW9]
    clear hW9
    have p1' : Whole W9.drew _ 24 _ := p1
    have p2' : Whole W9.drew _ 30 _ := p2
    obtain ⟨y0, y1, y2, y3, y4⟩ := cells5 p1'
    obtain ⟨i0, i1, i2, i3, i4, i5⟩ := cells6 p2'
    have p3' := p3.up (Below.refl _ W9).drew
    have p4' := p4.drew
    clear p1 p1' p2 p2' p3 p4
    go_wp2_with fail
    refine bodyPost_ret (v := .tuple #[.agg #[.slice A3 n3 c3, .int .i64 x.fl, .int .i64 x.dr, .int .i64 x.nw, .bool x.tg], .agg #[.int .i64 q.call, .int .u8 q.kind, .int .u8 K, .int .i64 q.a, .slice none 0 0, .bool false]]) (by simp [results, Try.results10, go_sem, y0, y1, y2, y3, y4, i0, i1, i2, i3, i4, i5]) rfl ⟨A3, n3, c3, rfl, p3', p4'⟩
  by_cases h4 : q.kind = 4
  ·
    have e1 : (q.kind == 1) = false := by rw [beq_eq_false_iff_ne]; omega
    have e2 : (q.kind == 2) = false := by rw [beq_eq_false_iff_ne]; omega
    have e3 : (q.kind == 3) = false := by rw [beq_eq_false_iff_ne]; omega
    have e4 : (q.kind == 4) = true := by rw [beq_iff_eq]; omega
    clear hk1 hko h2 h3 h4
    have HgT := Lib.hid (show w.heap.size + 1 + 1 + 1 < W1.heap.size from by have := HSV.out; have := HVs.out; omega)
    have vQ_0 := Q.out.cell 0
    have vQ_1 := Q.out.cell 1
    have vQ_2 := Q.out.cell 2
    have vQ_3 := Q.out.cell 3
    have vQ_4 := Q.out.cell 4
    have vQ_5 := Q.out.cell 5
    simp only [List.getElem?_toArray, List.getElem?_cons_zero, List.getElem?_cons_succ] at vQ_0 vQ_1 vQ_2 vQ_3 vQ_4 vQ_5
    have vC_0 := C.out.cell 0
    have vC_1 := C.out.cell 1
    have vC_2 := C.out.cell 2
    have vC_3 := C.out.cell 3
    have vC_4 := C.out.cell 4
    simp only [List.getElem?_toArray, List.getElem?_cons_zero, List.getElem?_cons_succ] at vC_0 vC_1 vC_2 vC_3 vC_4
    go_wp2_with fail
    have HVy := Lib.hid (Nat.le_trans HVs.out (by have := T.out.ltS; omega : W1.heap.size ≤ y2.heap.size))
    refine (HL.out y2 A1 c1 V.heap.size O.out HVy.out).mono ?_
    rintro e y3 ⟨A3, n3, c3, rfl, o3, b3, fz⟩
    clear vQ_0 vQ_1 vQ_2 vQ_3 vQ_4 vQ_5 vC_0 vC_1 vC_2 vC_3 vC_4
    have HO3 := Lib.hid (show ∀ k, (Value.slice A3 n3 c3).ownBlock = some k → V.heap.size ≤ k from fun k e => (o3.lt k e).1)
    have apT := own_apartX (show 40 ≠ 30 by decide) o3 (fz _ _ _ (by decide) T.out)
    have C2 := fz _ _ _ (by decide) C.out
    have Z42 := fz _ _ _ (by decide) Z4.out
    have Z52 := fz _ _ _ (by decide) Z5.out
    have T2 := fz _ _ _ (by decide) T.out
    have BS2 := BS.out.trans (b3.mono (by have := HSV.out; omega))
    clear C Q Z4 Z5 T BS O fz HL HVy
    have C := Lib.hid C2
    clear C2
    have Z4 := Lib.hid Z42
    clear Z42
    have Z5 := Lib.hid Z52
    clear Z52
    have O := Lib.hid o3
    clear o3
    have BS := Lib.hid BS2
    clear BS2
    have T := Lib.hid T2
    clear T2
    clear b3
    have vC_0 := C.out.cell 0
    have vC_1 := C.out.cell 1
    have vC_2 := C.out.cell 2
    have vC_3 := C.out.cell 3
    have vC_4 := C.out.cell 4
    simp only [List.getElem?_toArray, List.getElem?_cons_zero, List.getElem?_cons_succ] at vC_0 vC_1 vC_2 vC_3 vC_4
    have f0 := C.out.frozen 0
    have f1 := C.out.frozen 1
    have f2 := C.out.frozen 2
    have f3 := C.out.frozen 3
    have f4 := C.out.frozen 4
    have kpA := kept5 C.out (.slice A3 n3 c3) (.int .i64 x.fl) (.int .i64 x.dr) (.int .i64 x.nw) (.bool x.tg)
    have TA := kpA.2.far _ _ _ (by have := HgT.out; omega) T.out
    have t2 := TA.cell 2
    have t3 := TA.cell 3
    have g2 := TA.frozen 2
    have g3 := TA.frozen 3
    simp only [List.getElem?_toArray, List.getElem?_cons_zero, List.getElem?_cons_succ] at t2 t3
    clear kpA TA
    go_upto_region 16 with fail
    clear vC_0 vC_1 vC_2 vC_3 vC_4
    clear f0 f1 f2 f3 f4 g2 g3 t2 t3
    have kp := kept5 C.out (.slice A3 n3 c3) (.int .i64 x.fl) (.int .i64 x.dr) (.int .i64 x.nw) (.bool x.tg)
    have T1 := kp.2.far _ _ _ (by have := HgT.out; omega) T.out
    have hne : ∀ k, (Value.slice A3 n3 c3).ownBlock = some k → k ≠ w.heap.size := fun k e => by have := HO3.out k e; have := HSV.out; omega
    have hnT : ∀ k, (Value.slice A3 n3 c3).ownBlock = some k → k ≠ W1.heap.size := fun k e hk => apT (hk ▸ e)
    have k0 := keptB_one (w := (((((y3.setCell ⟨w.heap.size, 0, none⟩ (.slice A3 n3 c3)).setCell ⟨w.heap.size, 1, none⟩ (.int .i64 x.fl)).setCell ⟨w.heap.size, 2, none⟩ (.int .i64 x.dr)).setCell ⟨w.heap.size, 3, none⟩ (.int .i64 x.nw)).setCell ⟨w.heap.size, 4, none⟩ (.bool x.tg))) (g := W1.heap.size) 2 (.int .u8 K)
    have kk := k0
    have T2 := (T1.set 2 (.int .u8 K))
    simp only [List.setIfInBounds_toArray, List.set_cons_zero, List.set_cons_succ] at T2
    have o4 := (own_off (own_off (own_off (own_off (own_off (own_off O.out hne 0 (.slice A3 n3 c3)) hne 1 (.int .i64 x.fl)) hne 2 (.int .i64 x.dr)) hne 3 (.int .i64 x.nw)) hne 4 (.bool x.tg)) hnT 2 (.int .u8 K))
    have C2 := kk.far _ _ _ (by have := HgT.out; omega) kp.1
    have Z42 := kk.far _ _ _ (by have := HgT.out; omega) (kp.2.far _ _ _ (by omega) Z4.out)
    have Z52 := kk.far _ _ _ (by have := HgT.out; omega) (kp.2.far _ _ _ (by omega) Z5.out)
    have BS2 := kk.bel w.heap.size w (by have := HgT.out; omega) (kp.2.bel _ _ (Nat.le_refl _) BS.out)
    obtain ⟨W5, hW5⟩ : ∃ W5, ((((((y3.setCell ⟨w.heap.size, 0, none⟩ (.slice A3 n3 c3)).setCell ⟨w.heap.size, 1, none⟩ (.int .i64 x.fl)).setCell ⟨w.heap.size, 2, none⟩ (.int .i64 x.dr)).setCell ⟨w.heap.size, 3, none⟩ (.int .i64 x.nw)).setCell ⟨w.heap.size, 4, none⟩ (.bool x.tg)).setCell ⟨W1.heap.size, 2, none⟩ (.int .u8 K)) = W5 := ⟨_, rfl⟩
    rw [hW5] at T2 o4 C2 Z42 Z52 BS2 ⊢
    clear hW5 kp kk T1 hne hnT apT k0 C Z4 Z5 T BS O HO1
    have C := Lib.hid C2
    clear C2
    have Z4 := Lib.hid Z42
    clear Z42
    have Z5 := Lib.hid Z52
    clear Z52
    have O := Lib.hid o4
    clear o4
    have BS := Lib.hid BS2
    clear BS2
    have T := Lib.hid T2
    clear T2
    have HO1 := HO3
    have vC_0 := C.out.cell 0
    have vC_1 := C.out.cell 1
    have vC_2 := C.out.cell 2
    have vC_3 := C.out.cell 3
    have vC_4 := C.out.cell 4
    simp only [List.getElem?_toArray, List.getElem?_cons_zero, List.getElem?_cons_succ] at vC_0 vC_1 vC_2 vC_3 vC_4
    have vT_0 := T.out.cell 0
    have vT_1 := T.out.cell 1
    have vT_2 := T.out.cell 2
    have vT_3 := T.out.cell 3
    have vT_4 := T.out.cell 4
    have vT_5 := T.out.cell 5
    simp only [List.getElem?_toArray, List.getElem?_cons_zero, List.getElem?_cons_succ] at vT_0 vT_1 vT_2 vT_3 vT_4 vT_5
    have vZ4_0 := Z4.out.cell 0
    have vZ4_1 := Z4.out.cell 1
    have vZ4_2 := Z4.out.cell 2
    have vZ4_3 := Z4.out.cell 3
    have vZ4_4 := Z4.out.cell 4
    simp only [List.getElem?_toArray, List.getElem?_cons_zero, List.getElem?_cons_succ] at vZ4_0 vZ4_1 vZ4_2 vZ4_3 vZ4_4
    have vZ5_0 := Z5.out.cell 0
    have vZ5_1 := Z5.out.cell 1
    have vZ5_2 := Z5.out.cell 2
    have vZ5_3 := Z5.out.cell 3
    have vZ5_4 := Z5.out.cell 4
    have vZ5_5 := Z5.out.cell 5
    simp only [List.getElem?_toArray, List.getElem?_cons_zero, List.getElem?_cons_succ] at vZ5_0 vZ5_1 vZ5_2 vZ5_3 vZ5_4 vZ5_5
    have f0 := Z4.out.frozen 0
    have f1 := Z4.out.frozen 1
    have f2 := Z4.out.frozen 2
    have f3 := Z4.out.frozen 3
    have f4 := Z4.out.frozen 4
    have g0 := Z5.out.frozen 0
    have g1 := Z5.out.frozen 1
    have g2 := Z5.out.frozen 2
    have g3 := Z5.out.frozen 3
    have g4 := Z5.out.frozen 4
    have g5 := Z5.out.frozen 5
    go_wp2_with fail
    have kp := kept5 Z4.out (.slice A3 n3 c3) (.int .i64 x.fl) (.int .i64 x.dr) (.int .i64 x.nw) (.bool x.tg)
    obtain ⟨t0, t1, t2, t3, t4, t5⟩ := cells6 (kp.2.far _ _ _ (by have := HgT.out; omega) T.out)
    clear kp
    go_region
    obtain ⟨W9, hW9, p1, p2, p3, p4⟩ := rdo_fin (w := w) (fl := x.fl) (dr := x.dr) (nw := x.nw) (tg := x.tg) (a0 := q.call) (a1 := q.kind) (a2 := K) (a3 := q.a) (show w.heap.size + 1 + 1 ≠ w.heap.size + 1 + 1 + 1 by omega) Z4.out Z5.out O.out (fun k e => by have := HO1.out k e; have := HSV.out; omega) (fun k e => by have := HO1.out k e; have := HSV.out; omega) BS.out (by omega) (by omega)
    rw [hW9]
    clear hW9
    have p1' : Whole W9.drew _ 24 _ := p1
    have p2' : Whole W9.drew _ 30 _ := p2
    obtain ⟨y0, y1, y2, y3, y4⟩ := cells5 p1'
    obtain ⟨i0, i1, i2, i3, i4, i5⟩ := cells6 p2'
    have p3' := p3.up (Below.refl _ W9).drew
    have p4' := p4.drew
    clear p1 p1' p2 p2' p3 p4
    go_wp2_with fail
    refine bodyPost_ret (v := .tuple #[.agg #[.slice A3 n3 c3, .int .i64 x.fl, .int .i64 x.dr, .int .i64 x.nw, .bool x.tg], .agg #[.int .i64 q.call, .int .u8 q.kind, .int .u8 K, .int .i64 q.a, .slice none 0 0, .bool false]]) (by simp [results, Try.results10, go_sem, y0, y1, y2, y3, y4, i0, i1, i2, i3, i4, i5]) rfl ⟨A3, n3, c3, rfl, p3', p4'⟩
  by_cases h5 : q.kind = 5
  ·
    have e1 : (q.kind == 1) = false := by rw [beq_eq_false_iff_ne]; omega
    have e2 : (q.kind == 2) = false := by rw [beq_eq_false_iff_ne]; omega
    have e3 : (q.kind == 3) = false := by rw [beq_eq_false_iff_ne]; omega
    have e4 : (q.kind == 4) = false := by rw [beq_eq_false_iff_ne]; omega
    have e5 : (q.kind == 5) = true := by rw [beq_iff_eq]; omega
    clear hk1 hko h2 h3 h4 h5
    have HgT := Lib.hid (show w.heap.size + 1 + 1 + 1 < W1.heap.size from by have := HSV.out; have := HVs.out; omega)
    have vQ_0 := Q.out.cell 0
    have vQ_1 := Q.out.cell 1
    have vQ_2 := Q.out.cell 2
    have vQ_3 := Q.out.cell 3
    have vQ_4 := Q.out.cell 4
    have vQ_5 := Q.out.cell 5
    simp only [List.getElem?_toArray, List.getElem?_cons_zero, List.getElem?_cons_succ] at vQ_0 vQ_1 vQ_2 vQ_3 vQ_4 vQ_5
    have vC_0 := C.out.cell 0
    have vC_1 := C.out.cell 1
    have vC_2 := C.out.cell 2
    have vC_3 := C.out.cell 3
    have vC_4 := C.out.cell 4
    simp only [List.getElem?_toArray, List.getElem?_cons_zero, List.getElem?_cons_succ] at vC_0 vC_1 vC_2 vC_3 vC_4
    go_wp2_with fail
    have HVy := Lib.hid (Nat.le_trans HVs.out (by have := T.out.ltS; omega : W1.heap.size ≤ y2.heap.size))
    refine (HL.out y2 A1 c1 V.heap.size O.out HVy.out).mono ?_
    rintro e y3 ⟨A3, n3, c3, rfl, o3, b3, fz⟩
    clear vQ_0 vQ_1 vQ_2 vQ_3 vQ_4 vQ_5 vC_0 vC_1 vC_2 vC_3 vC_4
    have HO3 := Lib.hid (show ∀ k, (Value.slice A3 n3 c3).ownBlock = some k → V.heap.size ≤ k from fun k e => (o3.lt k e).1)
    have apT := own_apartX (show 40 ≠ 30 by decide) o3 (fz _ _ _ (by decide) T.out)
    have C2 := fz _ _ _ (by decide) C.out
    have Z42 := fz _ _ _ (by decide) Z4.out
    have Z52 := fz _ _ _ (by decide) Z5.out
    have T2 := fz _ _ _ (by decide) T.out
    have BS2 := BS.out.trans (b3.mono (by have := HSV.out; omega))
    clear C Q Z4 Z5 T BS O fz HL HVy
    have C := Lib.hid C2
    clear C2
    have Z4 := Lib.hid Z42
    clear Z42
    have Z5 := Lib.hid Z52
    clear Z52
    have O := Lib.hid o3
    clear o3
    have BS := Lib.hid BS2
    clear BS2
    have T := Lib.hid T2
    clear T2
    clear b3
    have vC_0 := C.out.cell 0
    have vC_1 := C.out.cell 1
    have vC_2 := C.out.cell 2
    have vC_3 := C.out.cell 3
    have vC_4 := C.out.cell 4
    simp only [List.getElem?_toArray, List.getElem?_cons_zero, List.getElem?_cons_succ] at vC_0 vC_1 vC_2 vC_3 vC_4
    have f0 := C.out.frozen 0
    have f1 := C.out.frozen 1
    have f2 := C.out.frozen 2
    have f3 := C.out.frozen 3
    have f4 := C.out.frozen 4
    have kpA := kept5 C.out (.slice A3 n3 c3) (.int .i64 x.fl) (.int .i64 x.dr) (.int .i64 x.nw) (.bool x.tg)
    have TA := kpA.2.far _ _ _ (by have := HgT.out; omega) T.out
    have t2 := TA.cell 2
    have t3 := TA.cell 3
    have g2 := TA.frozen 2
    have g3 := TA.frozen 3
    simp only [List.getElem?_toArray, List.getElem?_cons_zero, List.getElem?_cons_succ] at t2 t3
    clear kpA TA
    go_upto_region 16 with fail
    clear vC_0 vC_1 vC_2 vC_3 vC_4
    clear f0 f1 f2 f3 f4 g2 g3 t2 t3
    have kp := kept5 C.out (.slice A3 n3 c3) (.int .i64 x.fl) (.int .i64 x.dr) (.int .i64 x.nw) (.bool x.tg)
    have T1 := kp.2.far _ _ _ (by have := HgT.out; omega) T.out
    have hne : ∀ k, (Value.slice A3 n3 c3).ownBlock = some k → k ≠ w.heap.size := fun k e => by have := HO3.out k e; have := HSV.out; omega
    have hnT : ∀ k, (Value.slice A3 n3 c3).ownBlock = some k → k ≠ W1.heap.size := fun k e hk => apT (hk ▸ e)
    have k0 := keptB_one (w := (((((y3.setCell ⟨w.heap.size, 0, none⟩ (.slice A3 n3 c3)).setCell ⟨w.heap.size, 1, none⟩ (.int .i64 x.fl)).setCell ⟨w.heap.size, 2, none⟩ (.int .i64 x.dr)).setCell ⟨w.heap.size, 3, none⟩ (.int .i64 x.nw)).setCell ⟨w.heap.size, 4, none⟩ (.bool x.tg))) (g := W1.heap.size) 2 (.int .u8 K)
    have kk := k0
    have T2 := (T1.set 2 (.int .u8 K))
    simp only [List.setIfInBounds_toArray, List.set_cons_zero, List.set_cons_succ] at T2
    have o4 := (own_off (own_off (own_off (own_off (own_off (own_off O.out hne 0 (.slice A3 n3 c3)) hne 1 (.int .i64 x.fl)) hne 2 (.int .i64 x.dr)) hne 3 (.int .i64 x.nw)) hne 4 (.bool x.tg)) hnT 2 (.int .u8 K))
    have C2 := kk.far _ _ _ (by have := HgT.out; omega) kp.1
    have Z42 := kk.far _ _ _ (by have := HgT.out; omega) (kp.2.far _ _ _ (by omega) Z4.out)
    have Z52 := kk.far _ _ _ (by have := HgT.out; omega) (kp.2.far _ _ _ (by omega) Z5.out)
    have BS2 := kk.bel w.heap.size w (by have := HgT.out; omega) (kp.2.bel _ _ (Nat.le_refl _) BS.out)
    obtain ⟨W5, hW5⟩ : ∃ W5, ((((((y3.setCell ⟨w.heap.size, 0, none⟩ (.slice A3 n3 c3)).setCell ⟨w.heap.size, 1, none⟩ (.int .i64 x.fl)).setCell ⟨w.heap.size, 2, none⟩ (.int .i64 x.dr)).setCell ⟨w.heap.size, 3, none⟩ (.int .i64 x.nw)).setCell ⟨w.heap.size, 4, none⟩ (.bool x.tg)).setCell ⟨W1.heap.size, 2, none⟩ (.int .u8 K)) = W5 := ⟨_, rfl⟩
    rw [hW5] at T2 o4 C2 Z42 Z52 BS2 ⊢
    clear hW5 kp kk T1 hne hnT apT k0 C Z4 Z5 T BS O HO1
    have C := Lib.hid C2
    clear C2
    have Z4 := Lib.hid Z42
    clear Z42
    have Z5 := Lib.hid Z52
    clear Z52
    have O := Lib.hid o4
    clear o4
    have BS := Lib.hid BS2
    clear BS2
    have T := Lib.hid T2
    clear T2
    have HO1 := HO3
    have vC_0 := C.out.cell 0
    have vC_1 := C.out.cell 1
    have vC_2 := C.out.cell 2
    have vC_3 := C.out.cell 3
    have vC_4 := C.out.cell 4
    simp only [List.getElem?_toArray, List.getElem?_cons_zero, List.getElem?_cons_succ] at vC_0 vC_1 vC_2 vC_3 vC_4
    have vT_0 := T.out.cell 0
    have vT_1 := T.out.cell 1
    have vT_2 := T.out.cell 2
    have vT_3 := T.out.cell 3
    have vT_4 := T.out.cell 4
    have vT_5 := T.out.cell 5
    simp only [List.getElem?_toArray, List.getElem?_cons_zero, List.getElem?_cons_succ] at vT_0 vT_1 vT_2 vT_3 vT_4 vT_5
    have vZ4_0 := Z4.out.cell 0
    have vZ4_1 := Z4.out.cell 1
    have vZ4_2 := Z4.out.cell 2
    have vZ4_3 := Z4.out.cell 3
    have vZ4_4 := Z4.out.cell 4
    simp only [List.getElem?_toArray, List.getElem?_cons_zero, List.getElem?_cons_succ] at vZ4_0 vZ4_1 vZ4_2 vZ4_3 vZ4_4
    have vZ5_0 := Z5.out.cell 0
    have vZ5_1 := Z5.out.cell 1
    have vZ5_2 := Z5.out.cell 2
    have vZ5_3 := Z5.out.cell 3
    have vZ5_4 := Z5.out.cell 4
    have vZ5_5 := Z5.out.cell 5
    simp only [List.getElem?_toArray, List.getElem?_cons_zero, List.getElem?_cons_succ] at vZ5_0 vZ5_1 vZ5_2 vZ5_3 vZ5_4 vZ5_5
    have f0 := Z4.out.frozen 0
    have f1 := Z4.out.frozen 1
    have f2 := Z4.out.frozen 2
    have f3 := Z4.out.frozen 3
    have f4 := Z4.out.frozen 4
    have g0 := Z5.out.frozen 0
    have g1 := Z5.out.frozen 1
    have g2 := Z5.out.frozen 2
    have g3 := Z5.out.frozen 3
    have g4 := Z5.out.frozen 4
    have g5 := Z5.out.frozen 5
    go_wp2_with fail
    have kp := kept5 Z4.out (.slice A3 n3 c3) (.int .i64 x.fl) (.int .i64 x.dr) (.int .i64 x.nw) (.bool x.tg)
    obtain ⟨t0, t1, t2, t3, t4, t5⟩ := cells6 (kp.2.far _ _ _ (by have := HgT.out; omega) T.out)
    clear kp
    go_region
    obtain ⟨W9, hW9, p1, p2, p3, p4⟩ := rdo_fin (w := w) (fl := x.fl) (dr := x.dr) (nw := x.nw) (tg := x.tg) (a0 := q.call) (a1 := q.kind) (a2 := K) (a3 := q.a) (show w.heap.size + 1 + 1 ≠ w.heap.size + 1 + 1 + 1 by omega) Z4.out Z5.out O.out (fun k e => by have := HO1.out k e; have := HSV.out; omega) (fun k e => by have := HO1.out k e; have := HSV.out; omega) BS.out (by omega) (by omega)
    rw [hW9]
    clear hW9
    have p1' : Whole W9.drew _ 24 _ := p1
    have p2' : Whole W9.drew _ 30 _ := p2
    obtain ⟨y0, y1, y2, y3, y4⟩ := cells5 p1'
    obtain ⟨i0, i1, i2, i3, i4, i5⟩ := cells6 p2'
    have p3' := p3.up (Below.refl _ W9).drew
    have p4' := p4.drew
    clear p1 p1' p2 p2' p3 p4
    go_wp2_with fail
    refine bodyPost_ret (v := .tuple #[.agg #[.slice A3 n3 c3, .int .i64 x.fl, .int .i64 x.dr, .int .i64 x.nw, .bool x.tg], .agg #[.int .i64 q.call, .int .u8 q.kind, .int .u8 K, .int .i64 q.a, .slice none 0 0, .bool false]]) (by simp [results, Try.results10, go_sem, y0, y1, y2, y3, y4, i0, i1, i2, i3, i4, i5]) rfl ⟨A3, n3, c3, rfl, p3', p4'⟩
  have e1 : (q.kind == 1) = false := by rw [beq_eq_false_iff_ne]; omega
  have e2 : (q.kind == 2) = false := by rw [beq_eq_false_iff_ne]; omega
  have e3 : (q.kind == 3) = false := by rw [beq_eq_false_iff_ne]; omega
  have e4 : (q.kind == 4) = false := by rw [beq_eq_false_iff_ne]; omega
  have e5 : (q.kind == 5) = false := by rw [beq_eq_false_iff_ne]; omega
  have e6 : (q.kind == 6) = true := by rw [beq_iff_eq]; omega
  clear hk1 hko h2 h3 h4 h5
  have HgT := Lib.hid (show w.heap.size + 1 + 1 + 1 < W1.heap.size from by have := HSV.out; have := HVs.out; omega)
  have vQ_0 := Q.out.cell 0
  have vQ_1 := Q.out.cell 1
  have vQ_2 := Q.out.cell 2
  have vQ_3 := Q.out.cell 3
  have vQ_4 := Q.out.cell 4
  have vQ_5 := Q.out.cell 5
  simp only [List.getElem?_toArray, List.getElem?_cons_zero, List.getElem?_cons_succ] at vQ_0 vQ_1 vQ_2 vQ_3 vQ_4 vQ_5
  have vC_0 := C.out.cell 0
  have vC_1 := C.out.cell 1
  have vC_2 := C.out.cell 2
  have vC_3 := C.out.cell 3
  have vC_4 := C.out.cell 4
  simp only [List.getElem?_toArray, List.getElem?_cons_zero, List.getElem?_cons_succ] at vC_0 vC_1 vC_2 vC_3 vC_4
  go_wp2_with fail
  have HVy := Lib.hid (Nat.le_trans HVs.out (by have := T.out.ltS; omega : W1.heap.size ≤ y2.heap.size))
  refine (HL.out y2 A1 c1 V.heap.size O.out HVy.out).mono ?_
  rintro e y3 ⟨A3, n3, c3, rfl, o3, b3, fz⟩
  clear vQ_0 vQ_1 vQ_2 vQ_3 vQ_4 vQ_5 vC_0 vC_1 vC_2 vC_3 vC_4
  have HO3 := Lib.hid (show ∀ k, (Value.slice A3 n3 c3).ownBlock = some k → V.heap.size ≤ k from fun k e => (o3.lt k e).1)
  have apT := own_apartX (show 40 ≠ 30 by decide) o3 (fz _ _ _ (by decide) T.out)
  have C2 := fz _ _ _ (by decide) C.out
  have Z42 := fz _ _ _ (by decide) Z4.out
  have Z52 := fz _ _ _ (by decide) Z5.out
  have T2 := fz _ _ _ (by decide) T.out
  have BS2 := BS.out.trans (b3.mono (by have := HSV.out; omega))
  clear C Q Z4 Z5 T BS O fz HL HVy
  have C := Lib.hid C2
  clear C2
  have Z4 := Lib.hid Z42
  clear Z42
  have Z5 := Lib.hid Z52
  clear Z52
  have O := Lib.hid o3
  clear o3
  have BS := Lib.hid BS2
  clear BS2
  have T := Lib.hid T2
  clear T2
  clear b3
  have vC_0 := C.out.cell 0
  have vC_1 := C.out.cell 1
  have vC_2 := C.out.cell 2
  have vC_3 := C.out.cell 3
  have vC_4 := C.out.cell 4
  simp only [List.getElem?_toArray, List.getElem?_cons_zero, List.getElem?_cons_succ] at vC_0 vC_1 vC_2 vC_3 vC_4
  have f0 := C.out.frozen 0
  have f1 := C.out.frozen 1
  have f2 := C.out.frozen 2
  have f3 := C.out.frozen 3
  have f4 := C.out.frozen 4
  have kpA := kept5 C.out (.slice A3 n3 c3) (.int .i64 x.fl) (.int .i64 x.dr) (.int .i64 x.nw) (.bool x.tg)
  have TA := kpA.2.far _ _ _ (by have := HgT.out; omega) T.out
  have t2 := TA.cell 2
  have t3 := TA.cell 3
  have g2 := TA.frozen 2
  have g3 := TA.frozen 3
  simp only [List.getElem?_toArray, List.getElem?_cons_zero, List.getElem?_cons_succ] at t2 t3
  clear kpA TA
  go_upto_region 16 with fail
  clear vC_0 vC_1 vC_2 vC_3 vC_4
  clear f0 f1 f2 f3 f4 g2 g3 t2 t3
  have kp := kept5 C.out (.slice A3 n3 c3) (.int .i64 x.fl) (.int .i64 x.dr) (.int .i64 x.nw) (.bool x.tg)
  have T1 := kp.2.far _ _ _ (by have := HgT.out; omega) T.out
  have hne : ∀ k, (Value.slice A3 n3 c3).ownBlock = some k → k ≠ w.heap.size := fun k e => by have := HO3.out k e; have := HSV.out; omega
  have hnT : ∀ k, (Value.slice A3 n3 c3).ownBlock = some k → k ≠ W1.heap.size := fun k e hk => apT (hk ▸ e)
  have k0 := keptB_one (w := (((((y3.setCell ⟨w.heap.size, 0, none⟩ (.slice A3 n3 c3)).setCell ⟨w.heap.size, 1, none⟩ (.int .i64 x.fl)).setCell ⟨w.heap.size, 2, none⟩ (.int .i64 x.dr)).setCell ⟨w.heap.size, 3, none⟩ (.int .i64 x.nw)).setCell ⟨w.heap.size, 4, none⟩ (.bool x.tg))) (g := W1.heap.size) 2 (.int .u8 K)
  have kk := k0
  have T2 := (T1.set 2 (.int .u8 K))
  simp only [List.setIfInBounds_toArray, List.set_cons_zero, List.set_cons_succ] at T2
  have o4 := (own_off (own_off (own_off (own_off (own_off (own_off O.out hne 0 (.slice A3 n3 c3)) hne 1 (.int .i64 x.fl)) hne 2 (.int .i64 x.dr)) hne 3 (.int .i64 x.nw)) hne 4 (.bool x.tg)) hnT 2 (.int .u8 K))
  have C2 := kk.far _ _ _ (by have := HgT.out; omega) kp.1
  have Z42 := kk.far _ _ _ (by have := HgT.out; omega) (kp.2.far _ _ _ (by omega) Z4.out)
  have Z52 := kk.far _ _ _ (by have := HgT.out; omega) (kp.2.far _ _ _ (by omega) Z5.out)
  have BS2 := kk.bel w.heap.size w (by have := HgT.out; omega) (kp.2.bel _ _ (Nat.le_refl _) BS.out)
  obtain ⟨W5, hW5⟩ : ∃ W5, ((((((y3.setCell ⟨w.heap.size, 0, none⟩ (.slice A3 n3 c3)).setCell ⟨w.heap.size, 1, none⟩ (.int .i64 x.fl)).setCell ⟨w.heap.size, 2, none⟩ (.int .i64 x.dr)).setCell ⟨w.heap.size, 3, none⟩ (.int .i64 x.nw)).setCell ⟨w.heap.size, 4, none⟩ (.bool x.tg)).setCell ⟨W1.heap.size, 2, none⟩ (.int .u8 K)) = W5 := ⟨_, rfl⟩
  rw [hW5] at T2 o4 C2 Z42 Z52 BS2 ⊢
  clear hW5 kp kk T1 hne hnT apT k0 C Z4 Z5 T BS O HO1
  have C := Lib.hid C2
  clear C2
  have Z4 := Lib.hid Z42
  clear Z42
  have Z5 := Lib.hid Z52
  clear Z52
  have O := Lib.hid o4
  clear o4
  have BS := Lib.hid BS2
  clear BS2
  have T := Lib.hid T2
  clear T2
  have HO1 := HO3
  have vC_0 := C.out.cell 0
  have vC_1 := C.out.cell 1
  have vC_2 := C.out.cell 2
  have vC_3 := C.out.cell 3
  have vC_4 := C.out.cell 4
  simp only [List.getElem?_toArray, List.getElem?_cons_zero, List.getElem?_cons_succ] at vC_0 vC_1 vC_2 vC_3 vC_4
  have vT_0 := T.out.cell 0
  have vT_1 := T.out.cell 1
  have vT_2 := T.out.cell 2
  have vT_3 := T.out.cell 3
  have vT_4 := T.out.cell 4
  have vT_5 := T.out.cell 5
  simp only [List.getElem?_toArray, List.getElem?_cons_zero, List.getElem?_cons_succ] at vT_0 vT_1 vT_2 vT_3 vT_4 vT_5
  have vZ4_0 := Z4.out.cell 0
  have vZ4_1 := Z4.out.cell 1
  have vZ4_2 := Z4.out.cell 2
  have vZ4_3 := Z4.out.cell 3
  have vZ4_4 := Z4.out.cell 4
  simp only [List.getElem?_toArray, List.getElem?_cons_zero, List.getElem?_cons_succ] at vZ4_0 vZ4_1 vZ4_2 vZ4_3 vZ4_4
  have vZ5_0 := Z5.out.cell 0
  have vZ5_1 := Z5.out.cell 1
  have vZ5_2 := Z5.out.cell 2
  have vZ5_3 := Z5.out.cell 3
  have vZ5_4 := Z5.out.cell 4
  have vZ5_5 := Z5.out.cell 5
  simp only [List.getElem?_toArray, List.getElem?_cons_zero, List.getElem?_cons_succ] at vZ5_0 vZ5_1 vZ5_2 vZ5_3 vZ5_4 vZ5_5
  have f0 := Z4.out.frozen 0
  have f1 := Z4.out.frozen 1
  have f2 := Z4.out.frozen 2
  have f3 := Z4.out.frozen 3
  have f4 := Z4.out.frozen 4
  have g0 := Z5.out.frozen 0
  have g1 := Z5.out.frozen 1
  have g2 := Z5.out.frozen 2
  have g3 := Z5.out.frozen 3
  have g4 := Z5.out.frozen 4
  have g5 := Z5.out.frozen 5
  go_wp2_with fail
  have kp := kept5 Z4.out (.slice A3 n3 c3) (.int .i64 x.fl) (.int .i64 x.dr) (.int .i64 x.nw) (.bool x.tg)
  obtain ⟨t0, t1, t2, t3, t4, t5⟩ := cells6 (kp.2.far _ _ _ (by have := HgT.out; omega) T.out)
  clear kp
  go_region
  obtain ⟨W9, hW9, p1, p2, p3, p4⟩ := rdo_fin (w := w) (fl := x.fl) (dr := x.dr) (nw := x.nw) (tg := x.tg) (a0 := q.call) (a1 := q.kind) (a2 := K) (a3 := q.a) (show w.heap.size + 1 + 1 ≠ w.heap.size + 1 + 1 + 1 by omega) Z4.out Z5.out O.out (fun k e => by have := HO1.out k e; have := HSV.out; omega) (fun k e => by have := HO1.out k e; have := HSV.out; omega) BS.out (by omega) (by omega)
  rw [hW9]
  clear hW9
  have p1' : Whole W9.drew _ 24 _ := p1
  have p2' : Whole W9.drew _ 30 _ := p2
  obtain ⟨y0, y1, y2, y3, y4⟩ := cells5 p1'
  obtain ⟨i0, i1, i2, i3, i4, i5⟩ := cells6 p2'
  have p3' := p3.up (Below.refl _ W9).drew
  have p4' := p4.drew
  clear p1 p1' p2 p2' p3 p4
  go_wp2_with fail
  refine bodyPost_ret (v := .tuple #[.agg #[.slice A3 n3 c3, .int .i64 x.fl, .int .i64 x.dr, .int .i64 x.nw, .bool x.tg], .agg #[.int .i64 q.call, .int .u8 q.kind, .int .u8 K, .int .i64 q.a, .slice none 0 0, .bool false]]) (by simp [results, Try.results10, go_sem, y0, y1, y2, y3, y4, i0, i1, i2, i3, i4, i5]) rfl ⟨A3, n3, c3, rfl, p3', p4'⟩

end

end Go.Proofs.Ytphkleecodoplaa
