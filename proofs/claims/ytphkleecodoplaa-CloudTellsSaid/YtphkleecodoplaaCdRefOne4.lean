/-
  The walk of the document's own 'one': a join (layer 8). Conditions: those that each theorem names.
-/
import Derived.Test.YtphkleecodoplaaCdRefOne0
import Derived.BigQuiet
import Derived.Test.YtphkleecodoplaaHand
import Derived.Deep.DeepCutAuto
namespace Go.Proofs.Ytphkleecodoplaa
open Go.RowKit Go.Shelf

section
variable {x : Cw} {q : Ak} {A : Option Addr} {n c base : Nat} {w : World}

set_option maxRecDepth 100000 in
set_option maxHeartbeats 4000000 in
theorem ro_joinoff (ho : w.ownsRow base 40 11 (.slice A n c) n (flat x.l)) (hb : base ≤ w.heap.size) (hn : n ≤ 1000) {j : Nat} {y : Bx} (hf : find x.l q.a = some j) (hy : x.l[j]? = some y) (hs : ¬ q.call < y.fen) (ho2 : y.on = false) :
    Calls Try.prog 26 #[.agg #[.slice A n c, .int .i64 x.fl, .int .i64 x.dr, .int .i64 x.nw, .bool x.tg], .agg #[.int .u8 4, .int .i64 q.call, .int .i64 q.a, .int .i64 q.b, .int .i64 q.c, .int .i64 q.d]] w (RO base x x.l 2 w) := by
  have three := whole_three (W := w) (t := 24) (u := 26) (v := 24) (x := #[.slice A n c, .int .i64 x.fl, .int .i64 x.dr, .int .i64 x.nw, .bool x.tg]) (y := #[.int .u8 4, .int .i64 q.call, .int .i64 q.a, .int .i64 q.b, .int .i64 q.c, .int .i64 q.d]) (z := #[.slice none 0 0, .int .i64 0, .int .i64 0, .int .i64 0, .bool false])
  have hlt : ∀ k, (Value.slice A n c).ownBlock = some k → k < w.heap.size := fun k e => (ho.lt k e).2
  obtain ⟨V, hV⟩ : ∃ V, ((w.alloc (.cells #[.slice A n c, .int .i64 x.fl, .int .i64 x.dr, .int .i64 x.nw, .bool x.tg] 24)).alloc (.cells #[.int .u8 4, .int .i64 q.call, .int .i64 q.a, .int .i64 q.b, .int .i64 q.c, .int .i64 q.d] 26)).alloc (.cells #[.slice none 0 0, .int .i64 0, .int .i64 0, .int .i64 0, .bool false] 24) = V := ⟨_, rfl⟩
  rw [hV] at three
  have C := Lib.hid three.1
  have Q := Lib.hid three.2.1
  have Z := Lib.hid three.2.2.1
  have O := Lib.hid (own_under ho three.2.2.2)
  have BS := Lib.hid three.2.2.2
  have hV3 := Z.out.ltS
  have HLt := Lib.hid hlt
  have Hb := Lib.hid hb
  have hl := (RdX.of_own ho).len
  clear three ho hb hlt
  have hrr : placeI (find x.l q.a) = (j : Int) := by rw [hf]; rfl
  have HFi := Lib.hid (fun W A c hr => findL (l := x.l) (fl := x.fl) (dr := x.dr) (nw := x.nw) (tg := x.tg) (n := n) (id := q.a) hrr hn W A c hr)
  clear hrr hf
  have hj : j < n := by have := (List.getElem?_eq_some_iff.1 hy).1; omega
  have hji : (j : Int) < (n : Int) := by omega
  have hj0 : decide ((j : Int) < 0) = false := decide_eq_false (by omega)
  obtain ⟨g, cap, hv, hbg, hg1⟩ := O.out.form (by omega)
  injection hv with hA _ hc
  subst hA
  subst hc
  have hgw := HLt.out g rfl
  have HG := Lib.hid (And.intro hgw hbg)
  have HY := Lib.hid hy
  have HN := Lib.hid hn
  clear hg1 hgw hbg hy hj hn
  have ds : decide (q.call < y.fen) = false := decide_eq_false hs
  clear hs
  have HON := Lib.hid ho2
  clear ho2
  go_enter Try.func26, Try.ntmps26
  have vC_0 := C.out.cell 0
  have vC_1 := C.out.cell 1
  have vC_2 := C.out.cell 2
  have vC_3 := C.out.cell 3
  have vC_4 := C.out.cell 4
  simp only [List.getElem?_toArray, List.getElem?_cons_zero, List.getElem?_cons_succ] at vC_0 vC_1 vC_2 vC_3 vC_4
  have vQ_2 := Q.out.cell 2
  simp only [List.getElem?_toArray, List.getElem?_cons_zero, List.getElem?_cons_succ] at vQ_2
  go_wp2_with fail
  clear hV
  refine (HFi.out _ _ _ (RdX.of_own O.out)).mono ?_
  rintro e y1 ⟨rfl, b⟩
  clear vC_0 vC_1 vC_2 vC_3 vC_4 vQ_2
  have C_ := Lib.hid (C.out.under b)
  have Q_ := Lib.hid (Q.out.under b)
  have Z_ := Lib.hid (Z.out.under b)
  have O_ := Lib.hid (own_under O.out b)
  have BS_ := Lib.hid (BS.out.trans (b.mono BS.out.size))
  clear C Q Z O BS
  have C := C_
  have Q := Q_
  have Z := Z_
  have O := O_
  have BS := BS_
  clear C_ Q_ Z_ O_ BS_
  clear b HFi
  have HS1 := Lib.hid Z.out.ltS
  obtain ⟨b7, off7, e7, _, hc7⟩ := (RdX.of_own O.out).2 (by omega)
  rw [Option.some.injEq, Addr.mk.injEq] at e7
  obtain ⟨e8, e9, _⟩ := e7
  subst e8 e9
  obtain ⟨c0, c1, c2, c3, c4, c5, c6, c7, c8, c9, c10⟩ := hc7 j y HY.out
  rw [Nat.zero_add] at c0 c1 c2 c3 c4 c5 c6 c7 c8 c9 c10
  clear hc7
  have one := whole_one (W := y1) (t := 40) (x := #[.int .i64 y.id, .int .i64 y.tok, .int .i64 y.ver, .int .i64 y.zone, .bool y.tag, .bool y.on, .bool y.gone, .bool y.well, .int .u8 y.lb, .int .i64 y.unt, .int .i64 y.fen])
  have vC_0 := C.out.cell 0
  simp only [List.getElem?_toArray, List.getElem?_cons_zero] at vC_0
  have vC0o := vC_0
  clear vC_0
  have C_ := Lib.hid (C.out.under one.2)
  have Q_ := Lib.hid (Q.out.under one.2)
  have Z_ := Lib.hid (Z.out.under one.2)
  have O_ := Lib.hid (own_under O.out one.2)
  have BS_ := Lib.hid (BS.out.trans (one.2.mono BS.out.size))
  clear C Q Z O BS
  have C := C_
  have Q := Q_
  have Z := Z_
  have O := O_
  have BS := BS_
  clear C_ Q_ Z_ O_ BS_
  have X := Lib.hid one.1
  clear one
  have vX_10 := X.out.cell 10
  simp only [List.getElem?_toArray, List.getElem?_cons_zero, List.getElem?_cons_succ] at vX_10
  have vQ_0 := Q.out.cell 0
  have vQ_1 := Q.out.cell 1
  simp only [List.getElem?_toArray, List.getElem?_cons_zero, List.getElem?_cons_succ] at vQ_0 vQ_1
  go_wp2_with fail
  clear vC0o c0 c1 c2 c3 c4 c5 c6 c7 c8 c9 c10 vX_10 vQ_0 vQ_1
  clear ds
  have HC := Lib.hid ((Below.refl (y1.alloc (.cells #[.int .i64 y.id, .int .i64 y.tok, .int .i64 y.ver, .int .i64 y.zone, .bool y.tag, .bool y.on, .bool y.gone, .bool y.well, .int .u8 y.lb, .int .i64 y.unt, .int .i64 y.fen] 40)).heap.size (y1.alloc (.cells #[.int .i64 y.id, .int .i64 y.tok, .int .i64 y.ver, .int .i64 y.zone, .bool y.tag, .bool y.on, .bool y.gone, .bool y.well, .int .u8 y.lb, .int .i64 y.unt, .int .i64 y.fen] 40))).drew)
  have HL := Lib.hid (fun W (hW : Below (y1.alloc (.cells #[.int .i64 y.id, .int .i64 y.tok, .int .i64 y.ver, .int .i64 y.zone, .bool y.tag, .bool y.on, .bool y.gone, .bool y.well, .int .u8 y.lb, .int .i64 y.unt, .int .i64 y.fen] 40)).heap.size (y1.alloc (.cells #[.int .i64 y.id, .int .i64 y.tok, .int .i64 y.ver, .int .i64 y.zone, .bool y.tag, .bool y.on, .bool y.gone, .bool y.well, .int .u8 y.lb, .int .i64 y.unt, .int .i64 y.fen] 40)) W) => And.intro (cells11x (X.out.under hW)) (cells5 (C.out.under hW)))
  refine wp_region_held_drew (S := fun W => Below (y1.alloc (.cells #[.int .i64 y.id, .int .i64 y.tok, .int .i64 y.ver, .int .i64 y.zone, .bool y.tag, .bool y.on, .bool y.gone, .bool y.well, .int .u8 y.lb, .int .i64 y.unt, .int .i64 y.fen] 40)).heap.size (y1.alloc (.cells #[.int .i64 y.id, .int .i64 y.tok, .int .i64 y.ver, .int .i64 y.zone, .bool y.tag, .bool y.on, .bool y.gone, .bool y.well, .int .u8 y.lb, .int .i64 y.unt, .int .i64 y.fen] 40)) W) (by kernel_rfl) HC.out (fun _ => ?_)
  refine takeH (i := 0) (v := ?_) rfl (by kernel_rfl) (by kernel_rfl) (by kernel_rfl) (fun _ _ _ h => h) (by rfl) ?_ HC.out ?_
  rotate_left
  · intro W hW; obtain ⟨⟨x0, x1, x2, x3, x4, x5, x6, x7, x8, x9, x10⟩, ⟨d0, d1, d2, d3, d4⟩⟩ := HL.out W hW; go_simp <;> with_reducible rfl
  simp only [Act.put, List.setIfInBounds_toArray, List.set_cons_zero, List.set_cons_succ]
  refine takeH (i := 1) (v := ?_) rfl (by kernel_rfl) (by kernel_rfl) (by kernel_rfl) (fun _ _ _ h => h) (by rfl) ?_ HC.out ?_
  rotate_left
  · intro W hW; obtain ⟨⟨x0, x1, x2, x3, x4, x5, x6, x7, x8, x9, x10⟩, ⟨d0, d1, d2, d3, d4⟩⟩ := HL.out W hW; go_simp <;> with_reducible rfl
  simp only [Act.put, List.setIfInBounds_toArray, List.set_cons_zero, List.set_cons_succ]
  refine skipH (i := 2) rfl (by kernel_rfl) (by kernel_rfl) (by kernel_rfl) (fun _ _ _ h => h) (by rfl) HC.out ?_
  simp only [Act.put, List.setIfInBounds_toArray, List.set_cons_zero, List.set_cons_succ]
  refine skipH (i := 3) rfl (by kernel_rfl) (by kernel_rfl) (by kernel_rfl) (fun _ _ _ h => h) (by rfl) HC.out ?_
  simp only [Act.put, List.setIfInBounds_toArray, List.set_cons_zero, List.set_cons_succ]
  refine takeH (i := 4) (v := ?_) rfl (by kernel_rfl) (by kernel_rfl) (by kernel_rfl) (fun _ _ _ h => h) (by rfl) ?_ HC.out ?_
  rotate_left
  · intro W hW; obtain ⟨⟨x0, x1, x2, x3, x4, x5, x6, x7, x8, x9, x10⟩, ⟨d0, d1, d2, d3, d4⟩⟩ := HL.out W hW; go_simp <;> with_reducible rfl
  simp only [Act.put, List.setIfInBounds_toArray, List.set_cons_zero, List.set_cons_succ]
  refine takeH (i := 5) (v := ?_) rfl (by kernel_rfl) (by kernel_rfl) (by kernel_rfl) (fun _ _ _ h => h) (by rfl) ?_ HC.out ?_
  rotate_left
  · intro W hW; obtain ⟨⟨x0, x1, x2, x3, x4, x5, x6, x7, x8, x9, x10⟩, ⟨d0, d1, d2, d3, d4⟩⟩ := HL.out W hW; go_simp <;> with_reducible rfl
  simp only [Act.put, List.setIfInBounds_toArray, List.set_cons_zero, List.set_cons_succ]
  refine skipH (i := 6) rfl (by kernel_rfl) (by kernel_rfl) (by kernel_rfl) (fun _ _ _ h => h) (by rfl) HC.out ?_
  simp only [Act.put, List.setIfInBounds_toArray, List.set_cons_zero, List.set_cons_succ]
  refine skipH (i := 7) rfl (by kernel_rfl) (by kernel_rfl) (by kernel_rfl) (fun _ _ _ h => h) (by rfl) HC.out ?_
  simp only [Act.put, List.setIfInBounds_toArray, List.set_cons_zero, List.set_cons_succ]
  refine skipH (i := 8) rfl (by kernel_rfl) (by kernel_rfl) (by kernel_rfl) (fun _ _ _ h => h) (by rfl) HC.out ?_
  simp only [Act.put, List.setIfInBounds_toArray, List.set_cons_zero, List.set_cons_succ]
  refine skipH (i := 9) rfl (by kernel_rfl) (by kernel_rfl) (by kernel_rfl) (fun _ _ _ h => h) (by rfl) HC.out ?_
  simp only [Act.put, List.setIfInBounds_toArray, List.set_cons_zero, List.set_cons_succ]
  refine skipH (i := 10) rfl (by kernel_rfl) (by kernel_rfl) (by kernel_rfl) (fun _ _ _ h => h) (by rfl) HC.out ?_
  simp only [Act.put, List.setIfInBounds_toArray, List.set_cons_zero, List.set_cons_succ]
  refine skipH (i := 11) rfl (by kernel_rfl) (by kernel_rfl) (by kernel_rfl) (fun _ _ _ h => h) (by rfl) HC.out ?_
  simp only [Act.put, List.setIfInBounds_toArray, List.set_cons_zero, List.set_cons_succ]
  refine takeH (i := 12) (v := ?_) rfl (by kernel_rfl) (by kernel_rfl) (by kernel_rfl) (fun _ _ _ h => h) (by rfl) ?_ HC.out ?_
  rotate_left
  · intro W hW; obtain ⟨⟨x0, x1, x2, x3, x4, x5, x6, x7, x8, x9, x10⟩, ⟨d0, d1, d2, d3, d4⟩⟩ := HL.out W hW; go_simp <;> with_reducible rfl
  simp only [Act.put, List.setIfInBounds_toArray, List.set_cons_zero, List.set_cons_succ]
  refine wpAnyH_done (by kernel_rfl) ?_ _
  obtain ⟨u1, hu1⟩ : ∃ u1, (y1.alloc (.cells #[.int .i64 y.id, .int .i64 y.tok, .int .i64 y.ver, .int .i64 y.zone, .bool y.tag, .bool y.on, .bool y.gone, .bool y.well, .int .u8 y.lb, .int .i64 y.unt, .int .i64 y.fen] 40)).drew = u1 := ⟨_, rfl⟩
  rw [hu1] at HC ⊢
  clear hu1
  have b := HC.out
  have C_ := Lib.hid (C.out.under b)
  have Q_ := Lib.hid (Q.out.under b)
  have Z_ := Lib.hid (Z.out.under b)
  have O_ := Lib.hid (own_under O.out b)
  have BS_ := Lib.hid (BS.out.trans (b.mono BS.out.size))
  have X_ := Lib.hid (X.out.under b)
  clear C Q Z O BS X
  have C := C_
  have Q := Q_
  have Z := Z_
  have O := O_
  have BS := BS_
  have X := X_
  clear C_ Q_ Z_ O_ BS_ X_
  clear b HC HL
  have vX_5 := X.out.cell 5
  simp only [List.getElem?_toArray, List.getElem?_cons_zero, List.getElem?_cons_succ] at vX_5
  have vQ_0 := Q.out.cell 0
  simp only [List.getElem?_toArray, List.getElem?_cons_zero] at vQ_0
  rw [HON.out] at vX_5
  have vC_0 := C.out.cell 0
  have vC_1 := C.out.cell 1
  have vC_2 := C.out.cell 2
  have vC_3 := C.out.cell 3
  have vC_4 := C.out.cell 4
  simp only [List.getElem?_toArray, List.getElem?_cons_zero, List.getElem?_cons_succ] at vC_0 vC_1 vC_2 vC_3 vC_4
  have vZ_0 := Z.out.cell 0
  have vZ_1 := Z.out.cell 1
  have vZ_2 := Z.out.cell 2
  have vZ_3 := Z.out.cell 3
  have vZ_4 := Z.out.cell 4
  simp only [List.getElem?_toArray, List.getElem?_cons_zero, List.getElem?_cons_succ] at vZ_0 vZ_1 vZ_2 vZ_3 vZ_4
  have f0 := Z.out.frozen 0
  have f1 := Z.out.frozen 1
  have f2 := Z.out.frozen 2
  have f3 := Z.out.frozen 3
  have f4 := Z.out.frozen 4
  go_wp2_with fail
  obtain ⟨W9, hW9, p1, p2, p3, p4⟩ := rl_fin (fl := x.fl) (dr := x.dr) (nw := x.nw) (tg := x.tg) Z.out O.out (fun k e => by have h1 := HLt.out k e; omega) (by have := Hb.out; omega) (BS.out.mono Hb.out) (frz_below BS.out) (by omega)
  rw [hW9]
  clear hW9
  obtain ⟨y0, y1, y2, y3, y4⟩ := cells5 p1
  refine bodyPost_ret (v := .tuple #[.agg #[.slice (some ⟨g, 0, none⟩) n c, .int .i64 x.fl, .int .i64 x.dr, .int .i64 x.nw, .bool x.tg], .int .u8 2]) (by simp [results, Try.results26, go_sem, y0, y1, y2, y3, y4]) rfl ⟨_, n, c, rfl, p2, p3, p4⟩

set_option maxRecDepth 100000 in
set_option maxHeartbeats 4000000 in
theorem ro_join (ho : w.ownsRow base 40 11 (.slice A n c) n (flat x.l)) (hb : base ≤ w.heap.size) (hn : n ≤ 1000) {j : Nat} {y : Bx} (hf : find x.l q.a = some j) (hy : x.l[j]? = some y) (hk : q.kind = 4) (hs : ¬ q.call < y.fen) (ho2 : y.on = true) :
    Calls Try.prog 26 #[.agg #[.slice A n c, .int .i64 x.fl, .int .i64 x.dr, .int .i64 x.nw, .bool x.tg], .agg #[.int .u8 4, .int .i64 q.call, .int .i64 q.a, .int .i64 q.b, .int .i64 q.c, .int .i64 q.d]] w (RO base x (x.l.set j (doneB x q y)) 1 w) := by
  have three := whole_three (W := w) (t := 24) (u := 26) (v := 24) (x := #[.slice A n c, .int .i64 x.fl, .int .i64 x.dr, .int .i64 x.nw, .bool x.tg]) (y := #[.int .u8 4, .int .i64 q.call, .int .i64 q.a, .int .i64 q.b, .int .i64 q.c, .int .i64 q.d]) (z := #[.slice none 0 0, .int .i64 0, .int .i64 0, .int .i64 0, .bool false])
  have hlt : ∀ k, (Value.slice A n c).ownBlock = some k → k < w.heap.size := fun k e => (ho.lt k e).2
  obtain ⟨V, hV⟩ : ∃ V, ((w.alloc (.cells #[.slice A n c, .int .i64 x.fl, .int .i64 x.dr, .int .i64 x.nw, .bool x.tg] 24)).alloc (.cells #[.int .u8 4, .int .i64 q.call, .int .i64 q.a, .int .i64 q.b, .int .i64 q.c, .int .i64 q.d] 26)).alloc (.cells #[.slice none 0 0, .int .i64 0, .int .i64 0, .int .i64 0, .bool false] 24) = V := ⟨_, rfl⟩
  rw [hV] at three
  have C := Lib.hid three.1
  have Q := Lib.hid three.2.1
  have Z := Lib.hid three.2.2.1
  have O := Lib.hid (own_under ho three.2.2.2)
  have BS := Lib.hid three.2.2.2
  have hV3 := Z.out.ltS
  have HLt := Lib.hid hlt
  have Hb := Lib.hid hb
  have hl := (RdX.of_own ho).len
  clear three ho hb hlt
  have hrr : placeI (find x.l q.a) = (j : Int) := by rw [hf]; rfl
  have HFi := Lib.hid (fun W A c hr => findL (l := x.l) (fl := x.fl) (dr := x.dr) (nw := x.nw) (tg := x.tg) (n := n) (id := q.a) hrr hn W A c hr)
  clear hrr hf
  have hj : j < n := by have := (List.getElem?_eq_some_iff.1 hy).1; omega
  have hji : (j : Int) < (n : Int) := by omega
  have hj0 : decide ((j : Int) < 0) = false := decide_eq_false (by omega)
  obtain ⟨g, cap, hv, hbg, hg1⟩ := O.out.form (by omega)
  injection hv with hA _ hc
  subst hA
  subst hc
  have hgw := HLt.out g rfl
  have HG := Lib.hid (And.intro hgw hbg)
  have HY := Lib.hid hy
  have HN := Lib.hid hn
  clear hg1 hgw hbg hy hj hn
  have ds : decide (q.call < y.fen) = false := decide_eq_false hs
  clear hs
  have HON := Lib.hid ho2
  clear ho2
  go_enter Try.func26, Try.ntmps26
  have vC_0 := C.out.cell 0
  have vC_1 := C.out.cell 1
  have vC_2 := C.out.cell 2
  have vC_3 := C.out.cell 3
  have vC_4 := C.out.cell 4
  simp only [List.getElem?_toArray, List.getElem?_cons_zero, List.getElem?_cons_succ] at vC_0 vC_1 vC_2 vC_3 vC_4
  have vQ_2 := Q.out.cell 2
  simp only [List.getElem?_toArray, List.getElem?_cons_zero, List.getElem?_cons_succ] at vQ_2
  go_wp2_with fail
  clear hV
  refine (HFi.out _ _ _ (RdX.of_own O.out)).mono ?_
  rintro e y1 ⟨rfl, b⟩
  clear vC_0 vC_1 vC_2 vC_3 vC_4 vQ_2
  have C_ := Lib.hid (C.out.under b)
  have Q_ := Lib.hid (Q.out.under b)
  have Z_ := Lib.hid (Z.out.under b)
  have O_ := Lib.hid (own_under O.out b)
  have BS_ := Lib.hid (BS.out.trans (b.mono BS.out.size))
  clear C Q Z O BS
  have C := C_
  have Q := Q_
  have Z := Z_
  have O := O_
  have BS := BS_
  clear C_ Q_ Z_ O_ BS_
  clear b HFi
  have HS1 := Lib.hid Z.out.ltS
  obtain ⟨b7, off7, e7, _, hc7⟩ := (RdX.of_own O.out).2 (by omega)
  rw [Option.some.injEq, Addr.mk.injEq] at e7
  obtain ⟨e8, e9, _⟩ := e7
  subst e8 e9
  obtain ⟨c0, c1, c2, c3, c4, c5, c6, c7, c8, c9, c10⟩ := hc7 j y HY.out
  rw [Nat.zero_add] at c0 c1 c2 c3 c4 c5 c6 c7 c8 c9 c10
  clear hc7
  have one := whole_one (W := y1) (t := 40) (x := #[.int .i64 y.id, .int .i64 y.tok, .int .i64 y.ver, .int .i64 y.zone, .bool y.tag, .bool y.on, .bool y.gone, .bool y.well, .int .u8 y.lb, .int .i64 y.unt, .int .i64 y.fen])
  have vC_0 := C.out.cell 0
  simp only [List.getElem?_toArray, List.getElem?_cons_zero] at vC_0
  have vC0o := vC_0
  clear vC_0
  have C_ := Lib.hid (C.out.under one.2)
  have Q_ := Lib.hid (Q.out.under one.2)
  have Z_ := Lib.hid (Z.out.under one.2)
  have O_ := Lib.hid (own_under O.out one.2)
  have BS_ := Lib.hid (BS.out.trans (one.2.mono BS.out.size))
  clear C Q Z O BS
  have C := C_
  have Q := Q_
  have Z := Z_
  have O := O_
  have BS := BS_
  clear C_ Q_ Z_ O_ BS_
  have X := Lib.hid one.1
  clear one
  have vX_10 := X.out.cell 10
  simp only [List.getElem?_toArray, List.getElem?_cons_zero, List.getElem?_cons_succ] at vX_10
  have vQ_0 := Q.out.cell 0
  have vQ_1 := Q.out.cell 1
  simp only [List.getElem?_toArray, List.getElem?_cons_zero, List.getElem?_cons_succ] at vQ_0 vQ_1
  go_wp2_with fail
  clear vC0o c0 c1 c2 c3 c4 c5 c6 c7 c8 c9 c10 vX_10 vQ_0 vQ_1
  clear ds
  have HC := Lib.hid ((Below.refl (y1.alloc (.cells #[.int .i64 y.id, .int .i64 y.tok, .int .i64 y.ver, .int .i64 y.zone, .bool y.tag, .bool y.on, .bool y.gone, .bool y.well, .int .u8 y.lb, .int .i64 y.unt, .int .i64 y.fen] 40)).heap.size (y1.alloc (.cells #[.int .i64 y.id, .int .i64 y.tok, .int .i64 y.ver, .int .i64 y.zone, .bool y.tag, .bool y.on, .bool y.gone, .bool y.well, .int .u8 y.lb, .int .i64 y.unt, .int .i64 y.fen] 40))).drew)
  have HL := Lib.hid (fun W (hW : Below (y1.alloc (.cells #[.int .i64 y.id, .int .i64 y.tok, .int .i64 y.ver, .int .i64 y.zone, .bool y.tag, .bool y.on, .bool y.gone, .bool y.well, .int .u8 y.lb, .int .i64 y.unt, .int .i64 y.fen] 40)).heap.size (y1.alloc (.cells #[.int .i64 y.id, .int .i64 y.tok, .int .i64 y.ver, .int .i64 y.zone, .bool y.tag, .bool y.on, .bool y.gone, .bool y.well, .int .u8 y.lb, .int .i64 y.unt, .int .i64 y.fen] 40)) W) => And.intro (cells11x (X.out.under hW)) (cells5 (C.out.under hW)))
  refine wp_region_held_drew (S := fun W => Below (y1.alloc (.cells #[.int .i64 y.id, .int .i64 y.tok, .int .i64 y.ver, .int .i64 y.zone, .bool y.tag, .bool y.on, .bool y.gone, .bool y.well, .int .u8 y.lb, .int .i64 y.unt, .int .i64 y.fen] 40)).heap.size (y1.alloc (.cells #[.int .i64 y.id, .int .i64 y.tok, .int .i64 y.ver, .int .i64 y.zone, .bool y.tag, .bool y.on, .bool y.gone, .bool y.well, .int .u8 y.lb, .int .i64 y.unt, .int .i64 y.fen] 40)) W) (by kernel_rfl) HC.out (fun _ => ?_)
  refine takeH (i := 0) (v := ?_) rfl (by kernel_rfl) (by kernel_rfl) (by kernel_rfl) (fun _ _ _ h => h) (by rfl) ?_ HC.out ?_
  rotate_left
  · intro W hW; obtain ⟨⟨x0, x1, x2, x3, x4, x5, x6, x7, x8, x9, x10⟩, ⟨d0, d1, d2, d3, d4⟩⟩ := HL.out W hW; go_simp <;> with_reducible rfl
  simp only [Act.put, List.setIfInBounds_toArray, List.set_cons_zero, List.set_cons_succ]
  refine takeH (i := 1) (v := ?_) rfl (by kernel_rfl) (by kernel_rfl) (by kernel_rfl) (fun _ _ _ h => h) (by rfl) ?_ HC.out ?_
  rotate_left
  · intro W hW; obtain ⟨⟨x0, x1, x2, x3, x4, x5, x6, x7, x8, x9, x10⟩, ⟨d0, d1, d2, d3, d4⟩⟩ := HL.out W hW; go_simp <;> with_reducible rfl
  simp only [Act.put, List.setIfInBounds_toArray, List.set_cons_zero, List.set_cons_succ]
  refine skipH (i := 2) rfl (by kernel_rfl) (by kernel_rfl) (by kernel_rfl) (fun _ _ _ h => h) (by rfl) HC.out ?_
  simp only [Act.put, List.setIfInBounds_toArray, List.set_cons_zero, List.set_cons_succ]
  refine skipH (i := 3) rfl (by kernel_rfl) (by kernel_rfl) (by kernel_rfl) (fun _ _ _ h => h) (by rfl) HC.out ?_
  simp only [Act.put, List.setIfInBounds_toArray, List.set_cons_zero, List.set_cons_succ]
  refine takeH (i := 4) (v := ?_) rfl (by kernel_rfl) (by kernel_rfl) (by kernel_rfl) (fun _ _ _ h => h) (by rfl) ?_ HC.out ?_
  rotate_left
  · intro W hW; obtain ⟨⟨x0, x1, x2, x3, x4, x5, x6, x7, x8, x9, x10⟩, ⟨d0, d1, d2, d3, d4⟩⟩ := HL.out W hW; go_simp <;> with_reducible rfl
  simp only [Act.put, List.setIfInBounds_toArray, List.set_cons_zero, List.set_cons_succ]
  refine takeH (i := 5) (v := ?_) rfl (by kernel_rfl) (by kernel_rfl) (by kernel_rfl) (fun _ _ _ h => h) (by rfl) ?_ HC.out ?_
  rotate_left
  · intro W hW; obtain ⟨⟨x0, x1, x2, x3, x4, x5, x6, x7, x8, x9, x10⟩, ⟨d0, d1, d2, d3, d4⟩⟩ := HL.out W hW; go_simp <;> with_reducible rfl
  simp only [Act.put, List.setIfInBounds_toArray, List.set_cons_zero, List.set_cons_succ]
  refine skipH (i := 6) rfl (by kernel_rfl) (by kernel_rfl) (by kernel_rfl) (fun _ _ _ h => h) (by rfl) HC.out ?_
  simp only [Act.put, List.setIfInBounds_toArray, List.set_cons_zero, List.set_cons_succ]
  refine skipH (i := 7) rfl (by kernel_rfl) (by kernel_rfl) (by kernel_rfl) (fun _ _ _ h => h) (by rfl) HC.out ?_
  simp only [Act.put, List.setIfInBounds_toArray, List.set_cons_zero, List.set_cons_succ]
  refine skipH (i := 8) rfl (by kernel_rfl) (by kernel_rfl) (by kernel_rfl) (fun _ _ _ h => h) (by rfl) HC.out ?_
  simp only [Act.put, List.setIfInBounds_toArray, List.set_cons_zero, List.set_cons_succ]
  refine skipH (i := 9) rfl (by kernel_rfl) (by kernel_rfl) (by kernel_rfl) (fun _ _ _ h => h) (by rfl) HC.out ?_
  simp only [Act.put, List.setIfInBounds_toArray, List.set_cons_zero, List.set_cons_succ]
  refine skipH (i := 10) rfl (by kernel_rfl) (by kernel_rfl) (by kernel_rfl) (fun _ _ _ h => h) (by rfl) HC.out ?_
  simp only [Act.put, List.setIfInBounds_toArray, List.set_cons_zero, List.set_cons_succ]
  refine skipH (i := 11) rfl (by kernel_rfl) (by kernel_rfl) (by kernel_rfl) (fun _ _ _ h => h) (by rfl) HC.out ?_
  simp only [Act.put, List.setIfInBounds_toArray, List.set_cons_zero, List.set_cons_succ]
  refine takeH (i := 12) (v := ?_) rfl (by kernel_rfl) (by kernel_rfl) (by kernel_rfl) (fun _ _ _ h => h) (by rfl) ?_ HC.out ?_
  rotate_left
  · intro W hW; obtain ⟨⟨x0, x1, x2, x3, x4, x5, x6, x7, x8, x9, x10⟩, ⟨d0, d1, d2, d3, d4⟩⟩ := HL.out W hW; go_simp <;> with_reducible rfl
  simp only [Act.put, List.setIfInBounds_toArray, List.set_cons_zero, List.set_cons_succ]
  refine wpAnyH_done (by kernel_rfl) ?_ _
  obtain ⟨u1, hu1⟩ : ∃ u1, (y1.alloc (.cells #[.int .i64 y.id, .int .i64 y.tok, .int .i64 y.ver, .int .i64 y.zone, .bool y.tag, .bool y.on, .bool y.gone, .bool y.well, .int .u8 y.lb, .int .i64 y.unt, .int .i64 y.fen] 40)).drew = u1 := ⟨_, rfl⟩
  rw [hu1] at HC ⊢
  clear hu1
  have b := HC.out
  have C_ := Lib.hid (C.out.under b)
  have Q_ := Lib.hid (Q.out.under b)
  have Z_ := Lib.hid (Z.out.under b)
  have O_ := Lib.hid (own_under O.out b)
  have BS_ := Lib.hid (BS.out.trans (b.mono BS.out.size))
  have X_ := Lib.hid (X.out.under b)
  clear C Q Z O BS X
  have C := C_
  have Q := Q_
  have Z := Z_
  have O := O_
  have BS := BS_
  have X := X_
  clear C_ Q_ Z_ O_ BS_ X_
  clear b HC HL
  have vX_5 := X.out.cell 5
  simp only [List.getElem?_toArray, List.getElem?_cons_zero, List.getElem?_cons_succ] at vX_5
  have vQ_0 := Q.out.cell 0
  simp only [List.getElem?_toArray, List.getElem?_cons_zero] at vQ_0
  rw [HON.out] at vX_5
  clear vX_5 vQ_0
  have vX_0 := X.out.cell 0
  have vX_1 := X.out.cell 1
  have vX_2 := X.out.cell 2
  have vX_3 := X.out.cell 3
  have vX_4 := X.out.cell 4
  have vX_5 := X.out.cell 5
  have vX_6 := X.out.cell 6
  have vX_7 := X.out.cell 7
  have vX_8 := X.out.cell 8
  have vX_9 := X.out.cell 9
  have vX_10 := X.out.cell 10
  simp only [List.getElem?_toArray, List.getElem?_cons_zero, List.getElem?_cons_succ] at vX_0 vX_1 vX_2 vX_3 vX_4 vX_5 vX_6 vX_7 vX_8 vX_9 vX_10
  have vQ_0 := Q.out.cell 0
  have vQ_1 := Q.out.cell 1
  simp only [List.getElem?_toArray, List.getElem?_cons_zero, List.getElem?_cons_succ] at vQ_0 vQ_1
  have vC_0 := C.out.cell 0
  have vC_1 := C.out.cell 1
  have vC_2 := C.out.cell 2
  have vC_3 := C.out.cell 3
  have vC_4 := C.out.cell 4
  simp only [List.getElem?_toArray, List.getElem?_cons_zero, List.getElem?_cons_succ] at vC_0 vC_1 vC_2 vC_3 vC_4
  rw [HON.out] at vX_5
  have fx8 := X.out.frozen 8
  have fx10 := X.out.frozen 10
  go_upto_region 31 with fail
  clear vX_0 vX_1 vX_2 vX_3 vX_4 vX_5 vX_6 vX_7 vX_8 vX_9 vX_10 vQ_0 vQ_1 vC_0 vC_1 vC_2 vC_3 vC_4
  clear fx8 fx10
  have k0 := keptB_one (w := u1) (g := y1.heap.size) 8 (.int .u8 1)
  have k1 := keptB_one (w := (u1.setCell ⟨y1.heap.size, 8, none⟩ (.int .u8 1))) (g := y1.heap.size) 10 (.int .i64 q.call)
  have hneX : ∀ k, (Value.slice (some ⟨g, 0, none⟩) n c).ownBlock = some k → k ≠ y1.heap.size := fun k e => by have := HLt.out k e; have := HS1.out; omega
  have kk := (k0.trans k1)
  have X2 := ((X.out.set 8 (.int .u8 1)).set 10 (.int .i64 q.call))
  simp only [List.setIfInBounds_toArray, List.set_cons_zero, List.set_cons_succ] at X2
  have O2 := (own_off (own_off O.out hneX 8 (.int .u8 1)) hneX 10 (.int .i64 q.call))
  have C2 := kk.far _ _ _ (by have := HS1.out; omega) C.out
  have Z2 := kk.far _ _ _ (by have := HS1.out; omega) Z.out
  have BS2 := kk.bel w.heap.size w (by have := HS1.out; omega) BS.out
  obtain ⟨W3, hW3⟩ : ∃ W3, ((u1.setCell ⟨y1.heap.size, 8, none⟩ (.int .u8 1)).setCell ⟨y1.heap.size, 10, none⟩ (.int .i64 q.call)) = W3 := ⟨_, rfl⟩
  rw [hW3] at X2 O2 C2 Z2 BS2 ⊢
  clear hW3 kk k0 k1 X Q C Z O BS hneX
  have X := Lib.hid X2
  clear X2
  have O := Lib.hid O2
  clear O2
  have C := Lib.hid C2
  clear C2
  have Z := Lib.hid Z2
  clear Z2
  have BS := Lib.hid BS2
  clear BS2
  obtain ⟨b8, off8, e8, _, hc8⟩ := (RdX.of_own O.out).2 (by omega)
  rw [Option.some.injEq, Addr.mk.injEq] at e8
  obtain ⟨e9, e10, _⟩ := e8
  subst e9 e10
  obtain ⟨c0, c1, c2, c3, c4, c5, c6, c7, c8, c9, c10⟩ := hc8 j y HY.out
  rw [Nat.zero_add] at c0 c1 c2 c3 c4 c5 c6 c7 c8 c9 c10
  clear hc8
  have fr0 := O.out.frozenAt (j * 11)
  have fr1 := O.out.frozenAt (j * 11 + 1)
  have fr2 := O.out.frozenAt (j * 11 + 2)
  have fr3 := O.out.frozenAt (j * 11 + 3)
  have fr4 := O.out.frozenAt (j * 11 + 4)
  have fr5 := O.out.frozenAt (j * 11 + 5)
  have fr6 := O.out.frozenAt (j * 11 + 6)
  have fr7 := O.out.frozenAt (j * 11 + 7)
  have fr8 := O.out.frozenAt (j * 11 + 8)
  have fr9 := O.out.frozenAt (j * 11 + 9)
  have fr10 := O.out.frozenAt (j * 11 + 10)
  have vX_0 := X.out.cell 0
  have vX_1 := X.out.cell 1
  have vX_2 := X.out.cell 2
  have vX_3 := X.out.cell 3
  have vX_4 := X.out.cell 4
  have vX_5 := X.out.cell 5
  have vX_6 := X.out.cell 6
  have vX_7 := X.out.cell 7
  have vX_8 := X.out.cell 8
  have vX_9 := X.out.cell 9
  have vX_10 := X.out.cell 10
  simp only [List.getElem?_toArray, List.getElem?_cons_zero, List.getElem?_cons_succ] at vX_0 vX_1 vX_2 vX_3 vX_4 vX_5 vX_6 vX_7 vX_8 vX_9 vX_10
  have vC_0 := C.out.cell 0
  simp only [List.getElem?_toArray, List.getElem?_cons_zero] at vC_0
  go_upto_region 32 with fail
  clear vX_0 vX_1 vX_2 vX_3 vX_4 vX_5 vX_6 vX_7 vX_8 vX_9 vX_10 vC_0
  clear c0 c1 c2 c3 c4 c5 c6 c7 c8 c9 c10 fr0 fr1 fr2 fr3 fr4 fr5 fr6 fr7 fr8 fr9 fr10
  obtain ⟨W4, hW4, p1, kk⟩ := own_box O.out HY.out (y.id) (y.tok) (y.ver) (y.zone) (y.tag) (y.on) (y.gone) (y.well) (1) (y.unt) (q.call)
  rw [hW4]
  clear hW4
  have HZ : doneB x q y = ⟨y.id, y.tok, y.ver, y.zone, y.tag, y.on, y.gone, y.well, 1, y.unt, q.call⟩ := by simp [doneB, touched, hk]
  rw [← HZ] at p1
  have C3 := kk.far _ _ _ (by have := HG.out.1; omega) C.out
  have Z3 := kk.far _ _ _ (by have := HG.out.1; omega) Z.out
  have B3 := kk.bel base w HG.out.2 (BS.out.mono Hb.out)
  have F3 := (frz_below BS.out).kept kk O.out
  clear kk C Z O BS X HZ
  have C := Lib.hid C3
  have Z := Lib.hid Z3
  clear C3 Z3
  have vC_0 := C.out.cell 0
  have vC_1 := C.out.cell 1
  have vC_2 := C.out.cell 2
  have vC_3 := C.out.cell 3
  have vC_4 := C.out.cell 4
  simp only [List.getElem?_toArray, List.getElem?_cons_zero, List.getElem?_cons_succ] at vC_0 vC_1 vC_2 vC_3 vC_4
  have vZ_0 := Z.out.cell 0
  have vZ_1 := Z.out.cell 1
  have vZ_2 := Z.out.cell 2
  have vZ_3 := Z.out.cell 3
  have vZ_4 := Z.out.cell 4
  simp only [List.getElem?_toArray, List.getElem?_cons_zero, List.getElem?_cons_succ] at vZ_0 vZ_1 vZ_2 vZ_3 vZ_4
  have f0 := Z.out.frozen 0
  have f1 := Z.out.frozen 1
  have f2 := Z.out.frozen 2
  have f3 := Z.out.frozen 3
  have f4 := Z.out.frozen 4
  go_wp2_with fail
  obtain ⟨W9, hW9, p1, p2, p3, p4⟩ := rl_fin (fl := x.fl) (dr := x.dr) (nw := x.nw) (tg := x.tg) Z.out p1 (fun k e => by have h1 := HLt.out k e; omega) (by have := Hb.out; omega) B3 F3 (by omega)
  rw [hW9]
  clear hW9
  obtain ⟨y0, y1, y2, y3, y4⟩ := cells5 p1
  refine bodyPost_ret (v := .tuple #[.agg #[.slice (some ⟨g, 0, none⟩) n c, .int .i64 x.fl, .int .i64 x.dr, .int .i64 x.nw, .bool x.tg], .int .u8 1]) (by simp [results, Try.results26, go_sem, y0, y1, y2, y3, y4]) rfl ⟨_, n, c, rfl, p2, p3, p4⟩

end

end Go.Proofs.Ytphkleecodoplaa
