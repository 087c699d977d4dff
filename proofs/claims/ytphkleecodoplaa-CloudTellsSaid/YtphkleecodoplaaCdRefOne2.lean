/-
  The walk of the document's own 'one', of a box that is found (layer 8): a call that is late. Conditions: those that each theorem names.
-/
import Derived.Test.YtphkleecodoplaaCdRefOne0
import Derived.BigQuiet
namespace Go.Proofs.Ytphkleecodoplaa
open Go.RowKit Go.Shelf

section
variable {x : Cw} {q : Ak} {A : Option Addr} {n c base : Nat} {w : World}

set_option maxRecDepth 100000 in
set_option maxHeartbeats 4000000 in
theorem ro_stale (ho : w.ownsRow base 40 11 (.slice A n c) n (flat x.l)) (hb : base ≤ w.heap.size) (hn : n ≤ 1000) {j : Nat} {y : Bx} (hf : find x.l q.a = some j) (hy : x.l[j]? = some y) (hs : q.call < y.fen) :
    Calls Try.prog 26 #[.agg #[.slice A n c, .int .i64 x.fl, .int .i64 x.dr, .int .i64 x.nw, .bool x.tg], .agg #[.int .u8 q.kind, .int .i64 q.call, .int .i64 q.a, .int .i64 q.b, .int .i64 q.c, .int .i64 q.d]] w (RO base x x.l 5 w) := by
  have three := whole_three (W := w) (t := 24) (u := 26) (v := 24) (x := #[.slice A n c, .int .i64 x.fl, .int .i64 x.dr, .int .i64 x.nw, .bool x.tg]) (y := #[.int .u8 q.kind, .int .i64 q.call, .int .i64 q.a, .int .i64 q.b, .int .i64 q.c, .int .i64 q.d]) (z := #[.slice none 0 0, .int .i64 0, .int .i64 0, .int .i64 0, .bool false])
  have hlt : ∀ k, (Value.slice A n c).ownBlock = some k → k < w.heap.size := fun k e => (ho.lt k e).2
  obtain ⟨V, hV⟩ : ∃ V, ((w.alloc (.cells #[.slice A n c, .int .i64 x.fl, .int .i64 x.dr, .int .i64 x.nw, .bool x.tg] 24)).alloc (.cells #[.int .u8 q.kind, .int .i64 q.call, .int .i64 q.a, .int .i64 q.b, .int .i64 q.c, .int .i64 q.d] 26)).alloc (.cells #[.slice none 0 0, .int .i64 0, .int .i64 0, .int .i64 0, .bool false] 24) = V := ⟨_, rfl⟩
  rw [hV] at three
  have C := Lib.hid three.1
  have Q := Lib.hid three.2.1
  have Z := Lib.hid three.2.2.1
  have O := Lib.hid (own_under ho three.2.2.2)
  have BS := Lib.hid three.2.2.2
  have hV3 := Z.out.ltS
  have HLt := Lib.hid hlt
  have Hb := Lib.hid hb
  have hl := (RdX.of_own ho).len
  clear three ho hb hlt
  have hrr : placeI (find x.l q.a) = (j : Int) := by rw [hf]; rfl
  have HFi := Lib.hid (fun W A c hr => findL (l := x.l) (fl := x.fl) (dr := x.dr) (nw := x.nw) (tg := x.tg) (n := n) (id := q.a) hrr hn W A c hr)
  clear hrr hf
  have hj : j < n := by have := (List.getElem?_eq_some_iff.1 hy).1; omega
  have hji : (j : Int) < (n : Int) := by omega
  have hj0 : decide ((j : Int) < 0) = false := decide_eq_false (by omega)
  obtain ⟨g, cap, hv, hbg, hg1⟩ := O.out.form (by omega)
  injection hv with hA _ hc
  subst hA
  subst hc
  have hgw := HLt.out g rfl
  have HG := Lib.hid (And.intro hgw hbg)
  have HY := Lib.hid hy
  have HN := Lib.hid hn
  clear hg1 hgw hbg hy hj hn
  have ds : decide (q.call < y.fen) = true := decide_eq_true hs
  clear hs
  go_enter Try.func26, Try.ntmps26
  have vC_0 := C.out.cell 0
  have vC_1 := C.out.cell 1
  have vC_2 := C.out.cell 2
  have vC_3 := C.out.cell 3
  have vC_4 := C.out.cell 4
  simp only [List.getElem?_toArray, List.getElem?_cons_zero, List.getElem?_cons_succ] at vC_0 vC_1 vC_2 vC_3 vC_4
  have vQ_2 := Q.out.cell 2
  simp only [List.getElem?_toArray, List.getElem?_cons_zero, List.getElem?_cons_succ] at vQ_2
  go_wp2_with fail
  clear hV
  refine (HFi.out _ _ _ (RdX.of_own O.out)).mono ?_
  rintro e y1 ⟨rfl, b⟩
  clear vC_0 vC_1 vC_2 vC_3 vC_4 vQ_2
  have C_ := Lib.hid (C.out.under b)
  have Q_ := Lib.hid (Q.out.under b)
  have Z_ := Lib.hid (Z.out.under b)
  have O_ := Lib.hid (own_under O.out b)
  have BS_ := Lib.hid (BS.out.trans (b.mono BS.out.size))
  clear C Q Z O BS
  have C := C_
  have Q := Q_
  have Z := Z_
  have O := O_
  have BS := BS_
  clear C_ Q_ Z_ O_ BS_
  clear b HFi
  have HS1 := Lib.hid Z.out.ltS
  obtain ⟨b7, off7, e7, _, hc7⟩ := (RdX.of_own O.out).2 (by omega)
  rw [Option.some.injEq, Addr.mk.injEq] at e7
  obtain ⟨e8, e9, _⟩ := e7
  subst e8 e9
  obtain ⟨c0, c1, c2, c3, c4, c5, c6, c7, c8, c9, c10⟩ := hc7 j y HY.out
  rw [Nat.zero_add] at c0 c1 c2 c3 c4 c5 c6 c7 c8 c9 c10
  clear hc7
  have one := whole_one (W := y1) (t := 40) (x := #[.int .i64 y.id, .int .i64 y.tok, .int .i64 y.ver, .int .i64 y.zone, .bool y.tag, .bool y.on, .bool y.gone, .bool y.well, .int .u8 y.lb, .int .i64 y.unt, .int .i64 y.fen])
  have vC_0 := C.out.cell 0
  simp only [List.getElem?_toArray, List.getElem?_cons_zero] at vC_0
  have vC0o := vC_0
  clear vC_0
  have C_ := Lib.hid (C.out.under one.2)
  have Q_ := Lib.hid (Q.out.under one.2)
  have Z_ := Lib.hid (Z.out.under one.2)
  have O_ := Lib.hid (own_under O.out one.2)
  have BS_ := Lib.hid (BS.out.trans (one.2.mono BS.out.size))
  clear C Q Z O BS
  have C := C_
  have Q := Q_
  have Z := Z_
  have O := O_
  have BS := BS_
  clear C_ Q_ Z_ O_ BS_
  have X := Lib.hid one.1
  clear one
  have vX_10 := X.out.cell 10
  simp only [List.getElem?_toArray, List.getElem?_cons_zero, List.getElem?_cons_succ] at vX_10
  have vQ_1 := Q.out.cell 1
  simp only [List.getElem?_toArray, List.getElem?_cons_zero, List.getElem?_cons_succ] at vQ_1
  have vC_0 := C.out.cell 0
  have vC_1 := C.out.cell 1
  have vC_2 := C.out.cell 2
  have vC_3 := C.out.cell 3
  have vC_4 := C.out.cell 4
  simp only [List.getElem?_toArray, List.getElem?_cons_zero, List.getElem?_cons_succ] at vC_0 vC_1 vC_2 vC_3 vC_4
  have vZ_0 := Z.out.cell 0
  have vZ_1 := Z.out.cell 1
  have vZ_2 := Z.out.cell 2
  have vZ_3 := Z.out.cell 3
  have vZ_4 := Z.out.cell 4
  simp only [List.getElem?_toArray, List.getElem?_cons_zero, List.getElem?_cons_succ] at vZ_0 vZ_1 vZ_2 vZ_3 vZ_4
  have f0 := Z.out.frozen 0
  have f1 := Z.out.frozen 1
  have f2 := Z.out.frozen 2
  have f3 := Z.out.frozen 3
  have f4 := Z.out.frozen 4
  go_wp2_with fail
  obtain ⟨W9, hW9, p1, p2, p3, p4⟩ := rl_fin (fl := x.fl) (dr := x.dr) (nw := x.nw) (tg := x.tg) Z.out O.out (fun k e => by have h1 := HLt.out k e; omega) (by have := Hb.out; omega) (BS.out.mono Hb.out) (frz_below BS.out) (by omega)
  rw [hW9]
  clear hW9
  obtain ⟨y0, y1, y2, y3, y4⟩ := cells5 p1
  refine bodyPost_ret (v := .tuple #[.agg #[.slice (some ⟨g, 0, none⟩) n c, .int .i64 x.fl, .int .i64 x.dr, .int .i64 x.nw, .bool x.tg], .int .u8 5]) (by simp [results, Try.results26, go_sem, y0, y1, y2, y3, y4]) rfl ⟨_, n, c, rfl, p2, p3, p4⟩
end

end Go.Proofs.Ytphkleecodoplaa
