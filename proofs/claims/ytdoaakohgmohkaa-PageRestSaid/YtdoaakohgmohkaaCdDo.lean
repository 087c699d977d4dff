/-
  The walk of 'Do' of package cloud. Conditions: those that each theorem names.
-/
import Derived.Test.YtdoaakohgmohkaaCdDeed
namespace Go.Proofs.Ytdoaakohgmohkaa
open Go.RowKit Go.Shelf
open Go.Maps (Keyed int_keyed keyOf_int_mk)

/-- What lies beside the cloud's box while something is done. -/
structure DoSt (w : World) (q : Ak) (code id : Int) (W : World) : Prop where
  ask : AskIn W (w.heap.size + 1) q
  res : Whole W (w.heap.size + 1 + 1) 24 #[.slice none 0 0, .int .i64 0, .int .i64 0, .int .i64 0, .bool false]
  ret : Whole W (w.heap.size + 1 + 1 + 1) 43 #[.int .i64 0, .int .u8 0, .int .u8 0, .int .i64 0, .slice none 0 0, .bool false]
  tel : Whole W (w.heap.size + 1 + 1 + 1 + 1) 43 #[.int .i64 q.call, .int .u8 q.kind, .int .u8 code, .int .i64 id, .slice none 0 0, .bool false]
section
variable {w W W' : World} {q : Ak} {code id : Int}
set_option maxRecDepth 100000 in
theorem DoSt.under (h : DoSt w q code id W) (hb : Below W.heap.size W W') : DoSt w q code id W' := ⟨h.ask.under hb, h.res.under hb, h.ret.under hb, h.tel.under hb⟩
set_option maxRecDepth 100000 in
theorem DoSt.far (h : DoSt w q code id W) (i : Nat) (u : Value) : DoSt w q code id (W.setCell ⟨w.heap.size, i, none⟩ u) :=
  ⟨Whole.far h.ask (p := ⟨w.heap.size, i, none⟩) (by simp) u, h.res.far (p := ⟨w.heap.size, i, none⟩) (by simp; omega) u, h.ret.far (p := ⟨w.heap.size, i, none⟩) (by simp; omega) u, h.tel.far (p := ⟨w.heap.size, i, none⟩) (by simp; omega) u⟩
set_option maxRecDepth 100000 in
theorem DoSt.but {base : Nat} (h : DoSt w q code id W) (hb : BelowBut base w.heap.size W W') (hl : w.heap.size + 1 + 1 + 1 + 1 < base) : DoSt w q code id W' :=
  ⟨(hb.block _ (by omega) (by omega)).trans h.ask, (hb.block _ (by omega) (by omega)).trans h.res, (hb.block _ (by omega) (by omega)).trans h.ret, (hb.block _ (by omega) (by omega)).trans h.tel⟩
set_option maxRecDepth 100000 in
theorem DoSt.setK (h : DoSt w q code id W) (k : Int) : DoSt w q k id (W.setCell ⟨w.heap.size + 1 + 1 + 1 + 1, 2, none⟩ (.int .u8 k)) :=
  ⟨Whole.far h.ask (p := ⟨w.heap.size + 1 + 1 + 1 + 1, 2, none⟩) (by show w.heap.size + 1 ≠ w.heap.size + 1 + 1 + 1 + 1; omega) _, h.res.far (p := ⟨w.heap.size + 1 + 1 + 1 + 1, 2, none⟩) (by show w.heap.size + 1 + 1 ≠ w.heap.size + 1 + 1 + 1 + 1; omega) _, h.ret.far (p := ⟨w.heap.size + 1 + 1 + 1 + 1, 2, none⟩) (by show w.heap.size + 1 + 1 + 1 ≠ w.heap.size + 1 + 1 + 1 + 1; omega) _, h.tel.set 2 _⟩
set_option maxRecDepth 100000 in
theorem DoSt.setI (h : DoSt w q code id W) (k : Int) : DoSt w q code k (W.setCell ⟨w.heap.size + 1 + 1 + 1 + 1, 3, none⟩ (.int .i64 k)) :=
  ⟨Whole.far h.ask (p := ⟨w.heap.size + 1 + 1 + 1 + 1, 3, none⟩) (by show w.heap.size + 1 ≠ w.heap.size + 1 + 1 + 1 + 1; omega) _, h.res.far (p := ⟨w.heap.size + 1 + 1 + 1 + 1, 3, none⟩) (by show w.heap.size + 1 + 1 ≠ w.heap.size + 1 + 1 + 1 + 1; omega) _, h.ret.far (p := ⟨w.heap.size + 1 + 1 + 1 + 1, 3, none⟩) (by show w.heap.size + 1 + 1 + 1 ≠ w.heap.size + 1 + 1 + 1 + 1; omega) _, h.tel.set 3 _⟩
set_option maxRecDepth 100000 in
/-- The cells, one by one. -/
theorem DoSt.tels (h : DoSt w q code id W) : W.cell? ⟨w.heap.size + 1 + 1 + 1 + 1, 0, none⟩ = some (.int .i64 q.call) ∧ W.cell? ⟨w.heap.size + 1 + 1 + 1 + 1, 1, none⟩ = some (.int .u8 q.kind) ∧ W.cell? ⟨w.heap.size + 1 + 1 + 1 + 1, 2, none⟩ = some (.int .u8 code) ∧ W.cell? ⟨w.heap.size + 1 + 1 + 1 + 1, 3, none⟩ = some (.int .i64 id) ∧ W.cell? ⟨w.heap.size + 1 + 1 + 1 + 1, 4, none⟩ = some (.slice none 0 0) ∧ W.cell? ⟨w.heap.size + 1 + 1 + 1 + 1, 5, none⟩ = some (.bool false) :=
  ⟨h.tel.cell 0, h.tel.cell 1, h.tel.cell 2, h.tel.cell 3, h.tel.cell 4, h.tel.cell 5⟩
set_option maxRecDepth 100000 in
theorem DoSt.rets (h : DoSt w q code id W) : W.cell? ⟨w.heap.size + 1 + 1 + 1, 0, none⟩ = some (.int .i64 0) ∧ W.cell? ⟨w.heap.size + 1 + 1 + 1, 1, none⟩ = some (.int .u8 0) ∧ W.cell? ⟨w.heap.size + 1 + 1 + 1, 2, none⟩ = some (.int .u8 0) ∧ W.cell? ⟨w.heap.size + 1 + 1 + 1, 3, none⟩ = some (.int .i64 0) ∧ W.cell? ⟨w.heap.size + 1 + 1 + 1, 4, none⟩ = some (.slice none 0 0) ∧ W.cell? ⟨w.heap.size + 1 + 1 + 1, 5, none⟩ = some (.bool false) :=
  ⟨h.ret.cell 0, h.ret.cell 1, h.ret.cell 2, h.ret.cell 3, h.ret.cell 4, h.ret.cell 5⟩
set_option maxRecDepth 100000 in
theorem DoSt.ress (h : DoSt w q code id W) : W.cell? ⟨w.heap.size + 1 + 1, 0, none⟩ = some (.slice none 0 0) ∧ W.cell? ⟨w.heap.size + 1 + 1, 1, none⟩ = some (.int .i64 0) ∧ W.cell? ⟨w.heap.size + 1 + 1, 2, none⟩ = some (.int .i64 0) ∧ W.cell? ⟨w.heap.size + 1 + 1, 3, none⟩ = some (.int .i64 0) ∧ W.cell? ⟨w.heap.size + 1 + 1, 4, none⟩ = some (.bool false) :=
  ⟨h.res.cell 0, h.res.cell 1, h.res.cell 2, h.res.cell 3, h.res.cell 4⟩
end

/-- What is told, of a cloud and of what was asked of it. -/
def tellV (q : Ak) (code id : Int) : Value := .agg #[.int .i64 q.call, .int .u8 q.kind, .int .u8 code, .int .i64 id, .slice none 0 0, .bool false]
def DoPost (x : Cw) (q : Ak) (l : List Bx) (code id : Int) (w : World) (e : Ending) (w' : World) : Prop :=
  ∃ A n c, e = .returned (.tuple #[.agg #[.slice A n c, .int .i64 x.fl, .int .i64 x.dr, .int .i64 x.nw, .bool x.tg], .agg #[.int .i64 q.call, .int .u8 q.kind, .int .u8 code, .int .i64 id, .slice none 0 0, .bool false]]) ∧ RdX w' w'.heap.size A n l ∧ Below w.heap.size w w'

/-- Where the run stands at the label. -/
def DoneAt (x : Cw) (q : Ak) (l : List Bx) (code id : Int) (w : World) (a' : Act) (w' : World) : Prop :=
  ∃ u0 u1 u7 u8 u9 u10 u11 u12 u13 u14 u15 u16 u17 u18 u19 u20 u21 u22 u23 u24 u25 u26 u27 u28 u29 u30 u31 u32 u33 u34 u35 u36 u37 u38 u39 u40 u41 : Value, a' = { tmps := #[u0, u1, .pointer (some ⟨w.heap.size, 0, none⟩), .pointer (some ⟨w.heap.size + 1, 0, none⟩), .pointer (some ⟨w.heap.size + 1 + 1, 0, none⟩), .pointer (some ⟨w.heap.size + 1 + 1 + 1, 0, none⟩), .pointer (some ⟨w.heap.size + 1 + 1 + 1 + 1, 0, none⟩), u7, u8, u9, u10, u11, u12, u13, u14, u15, u16, u17, u18, u19, u20, u21, u22, u23, u24, u25, u26, u27, u28, u29, u30, u31, u32, u33, u34, u35, u36, u37, u38, u39, u40, u41], defers := [] } ∧
    DoSt w q code id w' ∧ (∃ base A n c, Clu w' base w.heap.size A n c { x with l := l } ∧ w.heap.size + 1 + 1 + 1 + 1 < base) ∧ Below w.heap.size w w'

set_option maxRecDepth 100000 in
/-- A store into a block that is neither the cloud's box nor its row. -/
theorem Clu.off {W : World} {base Cb n c : Nat} {A : Option Addr} {x : Cw} (h : Clu W base Cb A n c x) {p : Addr} (hp : Cb ≠ p.block) (hl : p.block < base) (u : Value) : Clu (W.setCell p u) base Cb A n c x :=
  ⟨h.box.far hp u, ownsRow_setCell_other (a := p) h.row (fun e => by have h1 := (h.row.lt _ e).1; omega) u, h.lt, Nat.le_trans h.le ((Below.refl 0 W).setCell (p := p) (Nat.zero_le _) u).size⟩
set_option maxRecDepth 100000 in
/-- What is told is stored in the results' boxes. -/
theorem fin11 {base n c : Nat} {A : Option Addr} {x : Cw} {q : Ak} {w W : World} {code id : Int} (hD : DoSt w q code id W) (hC : Clu W base w.heap.size A n c x) (hl : w.heap.size + 1 + 1 + 1 + 1 < base) (hb : Below w.heap.size w W) :
    ∃ W', (((((((((((W.setCell ⟨w.heap.size + 1 + 1, 0, none⟩ (.slice A n c)).setCell ⟨w.heap.size + 1 + 1, 1, none⟩ (.int .i64 x.fl)).setCell ⟨w.heap.size + 1 + 1, 2, none⟩ (.int .i64 x.dr)).setCell ⟨w.heap.size + 1 + 1, 3, none⟩ (.int .i64 x.nw)).setCell ⟨w.heap.size + 1 + 1, 4, none⟩ (.bool x.tg)).setCell ⟨w.heap.size + 1 + 1 + 1, 0, none⟩ (.int .i64 q.call)).setCell ⟨w.heap.size + 1 + 1 + 1, 1, none⟩ (.int .u8 q.kind)).setCell ⟨w.heap.size + 1 + 1 + 1, 2, none⟩ (.int .u8 code)).setCell ⟨w.heap.size + 1 + 1 + 1, 3, none⟩ (.int .i64 id)).setCell ⟨w.heap.size + 1 + 1 + 1, 4, none⟩ (.slice none 0 0)).setCell ⟨w.heap.size + 1 + 1 + 1, 5, none⟩ (.bool false)) = W' ∧ Whole W' (w.heap.size + 1 + 1) 24 #[.slice A n c, .int .i64 x.fl, .int .i64 x.dr, .int .i64 x.nw, .bool x.tg] ∧ Whole W' (w.heap.size + 1 + 1 + 1) 43 #[.int .i64 q.call, .int .u8 q.kind, .int .u8 code, .int .i64 id, .slice none 0 0, .bool false] ∧ RdX W' W'.heap.size A n x.l ∧ Below w.heap.size w W' := by
  refine ⟨_, rfl, ?_, ?_, ?_, ?_⟩
  · have h1 := (put5 hD.res (.slice A n c) (.int .i64 x.fl) (.int .i64 x.dr) (.int .i64 x.nw) (.bool x.tg)).2
    exact ((((((h1.far (p := ⟨w.heap.size + 1 + 1 + 1, 0, none⟩) (by show w.heap.size + 1 + 1 ≠ w.heap.size + 1 + 1 + 1; omega) _).far (p := ⟨w.heap.size + 1 + 1 + 1, 1, none⟩) (by show w.heap.size + 1 + 1 ≠ w.heap.size + 1 + 1 + 1; omega) _).far (p := ⟨w.heap.size + 1 + 1 + 1, 2, none⟩) (by show w.heap.size + 1 + 1 ≠ w.heap.size + 1 + 1 + 1; omega) _).far (p := ⟨w.heap.size + 1 + 1 + 1, 3, none⟩) (by show w.heap.size + 1 + 1 ≠ w.heap.size + 1 + 1 + 1; omega) _).far (p := ⟨w.heap.size + 1 + 1 + 1, 4, none⟩) (by show w.heap.size + 1 + 1 ≠ w.heap.size + 1 + 1 + 1; omega) _).far (p := ⟨w.heap.size + 1 + 1 + 1, 5, none⟩) (by show w.heap.size + 1 + 1 ≠ w.heap.size + 1 + 1 + 1; omega) _)
  · have h1 : Whole (((((W.setCell ⟨w.heap.size + 1 + 1, 0, none⟩ (.slice A n c)).setCell ⟨w.heap.size + 1 + 1, 1, none⟩ (.int .i64 x.fl)).setCell ⟨w.heap.size + 1 + 1, 2, none⟩ (.int .i64 x.dr)).setCell ⟨w.heap.size + 1 + 1, 3, none⟩ (.int .i64 x.nw)).setCell ⟨w.heap.size + 1 + 1, 4, none⟩ (.bool x.tg)) (w.heap.size + 1 + 1 + 1) 43 _ := (((((hD.ret.far (p := ⟨w.heap.size + 1 + 1, 0, none⟩) (by show w.heap.size + 1 + 1 + 1 ≠ w.heap.size + 1 + 1; omega) _).far (p := ⟨w.heap.size + 1 + 1, 1, none⟩) (by show w.heap.size + 1 + 1 + 1 ≠ w.heap.size + 1 + 1; omega) _).far (p := ⟨w.heap.size + 1 + 1, 2, none⟩) (by show w.heap.size + 1 + 1 + 1 ≠ w.heap.size + 1 + 1; omega) _).far (p := ⟨w.heap.size + 1 + 1, 3, none⟩) (by show w.heap.size + 1 + 1 + 1 ≠ w.heap.size + 1 + 1; omega) _).far (p := ⟨w.heap.size + 1 + 1, 4, none⟩) (by show w.heap.size + 1 + 1 + 1 ≠ w.heap.size + 1 + 1; omega) _)
    exact (((((h1.set 0 _).set 1 _).set 2 _).set 3 _).set 4 _).set 5 _
  · refine RdX.of_own (base := base) (c := c) ?_
    exact own_set (b := w.heap.size + 1 + 1 + 1) (own_set (b := w.heap.size + 1 + 1 + 1) (own_set (b := w.heap.size + 1 + 1 + 1) (own_set (b := w.heap.size + 1 + 1 + 1) (own_set (b := w.heap.size + 1 + 1 + 1) (own_set (b := w.heap.size + 1 + 1 + 1) (own_set (b := w.heap.size + 1 + 1) (own_set (b := w.heap.size + 1 + 1) (own_set (b := w.heap.size + 1 + 1) (own_set (b := w.heap.size + 1 + 1) (own_set (b := w.heap.size + 1 + 1) (hC.row) (by omega) _) (by omega) _) (by omega) _) (by omega) _) (by omega) _) (by omega) _) (by omega) _) (by omega) _) (by omega) _) (by omega) _) (by omega) _
  · exact (((((((((((hb.setCell (p := ⟨w.heap.size + 1 + 1, 0, none⟩) (by show w.heap.size ≤ w.heap.size + 1 + 1; omega) _).setCell (p := ⟨w.heap.size + 1 + 1, 1, none⟩) (by show w.heap.size ≤ w.heap.size + 1 + 1; omega) _).setCell (p := ⟨w.heap.size + 1 + 1, 2, none⟩) (by show w.heap.size ≤ w.heap.size + 1 + 1; omega) _).setCell (p := ⟨w.heap.size + 1 + 1, 3, none⟩) (by show w.heap.size ≤ w.heap.size + 1 + 1; omega) _).setCell (p := ⟨w.heap.size + 1 + 1, 4, none⟩) (by show w.heap.size ≤ w.heap.size + 1 + 1; omega) _).setCell (p := ⟨w.heap.size + 1 + 1 + 1, 0, none⟩) (by show w.heap.size ≤ w.heap.size + 1 + 1 + 1; omega) _).setCell (p := ⟨w.heap.size + 1 + 1 + 1, 1, none⟩) (by show w.heap.size ≤ w.heap.size + 1 + 1 + 1; omega) _).setCell (p := ⟨w.heap.size + 1 + 1 + 1, 2, none⟩) (by show w.heap.size ≤ w.heap.size + 1 + 1 + 1; omega) _).setCell (p := ⟨w.heap.size + 1 + 1 + 1, 3, none⟩) (by show w.heap.size ≤ w.heap.size + 1 + 1 + 1; omega) _).setCell (p := ⟨w.heap.size + 1 + 1 + 1, 4, none⟩) (by show w.heap.size ≤ w.heap.size + 1 + 1 + 1; omega) _).setCell (p := ⟨w.heap.size + 1 + 1 + 1, 5, none⟩) (by show w.heap.size ≤ w.heap.size + 1 + 1 + 1; omega) _)

section
variable {n c B : Nat} {A : Option Addr} {x : Cw} {q : Ak} {w : World}

end

end Go.Proofs.Ytdoaakohgmohkaa
