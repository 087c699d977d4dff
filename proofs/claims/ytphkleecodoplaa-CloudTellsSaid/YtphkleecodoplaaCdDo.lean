/-
  The walk of 'Do' of package cloud. Conditions: those that each theorem names.
-/
import Derived.Test.YtphkleecodoplaaCdDeed
namespace Go.Proofs.Ytphkleecodoplaa
open Go.RowKit Go.Shelf
open Go.Maps (Keyed int_keyed keyOf_int_mk)

/-- What lies beside the cloud's box while something is done. -/
structure DoSt (w : World) (q : Ak) (code id : Int) (W : World) : Prop where
  ask : AskIn W (w.heap.size + 1) q
  res : Whole W (w.heap.size + 1 + 1) 24 #[.slice none 0 0, .int .i64 0, .int .i64 0, .int .i64 0, .bool false]
  ret : Whole W (w.heap.size + 1 + 1 + 1) 30 #[.int .i64 0, .int .u8 0, .int .u8 0, .int .i64 0, .slice none 0 0, .bool false]
  tel : Whole W (w.heap.size + 1 + 1 + 1 + 1) 30 #[.int .i64 q.call, .int .u8 q.kind, .int .u8 code, .int .i64 id, .slice none 0 0, .bool false]
section
variable {w W W' : World} {q : Ak} {code id : Int}
set_option maxRecDepth 100000 in
theorem DoSt.under (h : DoSt w q code id W) (hb : Below W.heap.size W W') : DoSt w q code id W' := ⟨h.ask.under hb, h.res.under hb, h.ret.under hb, h.tel.under hb⟩
set_option maxRecDepth 100000 in
theorem DoSt.far (h : DoSt w q code id W) (i : Nat) (u : Value) : DoSt w q code id (W.setCell ⟨w.heap.size, i, none⟩ u) :=
  ⟨Whole.far h.ask (p := ⟨w.heap.size, i, none⟩) (by simp) u, h.res.far (p := ⟨w.heap.size, i, none⟩) (by simp; omega) u, h.ret.far (p := ⟨w.heap.size, i, none⟩) (by simp; omega) u, h.tel.far (p := ⟨w.heap.size, i, none⟩) (by simp; omega) u⟩
set_option maxRecDepth 100000 in
theorem DoSt.but {base : Nat} (h : DoSt w q code id W) (hb : BelowBut base w.heap.size W W') (hl : w.heap.size + 1 + 1 + 1 + 1 < base) : DoSt w q code id W' :=
  ⟨(hb.block _ (by omega) (by omega)).trans h.ask, (hb.block _ (by omega) (by omega)).trans h.res, (hb.block _ (by omega) (by omega)).trans h.ret, (hb.block _ (by omega) (by omega)).trans h.tel⟩
set_option maxRecDepth 100000 in
theorem DoSt.setK (h : DoSt w q code id W) (k : Int) : DoSt w q k id (W.setCell ⟨w.heap.size + 1 + 1 + 1 + 1, 2, none⟩ (.int .u8 k)) :=
  ⟨Whole.far h.ask (p := ⟨w.heap.size + 1 + 1 + 1 + 1, 2, none⟩) (by show w.heap.size + 1 ≠ w.heap.size + 1 + 1 + 1 + 1; omega) _, h.res.far (p := ⟨w.heap.size + 1 + 1 + 1 + 1, 2, none⟩) (by show w.heap.size + 1 + 1 ≠ w.heap.size + 1 + 1 + 1 + 1; omega) _, h.ret.far (p := ⟨w.heap.size + 1 + 1 + 1 + 1, 2, none⟩) (by show w.heap.size + 1 + 1 + 1 ≠ w.heap.size + 1 + 1 + 1 + 1; omega) _, h.tel.set 2 _⟩
set_option maxRecDepth 100000 in
theorem DoSt.setI (h : DoSt w q code id W) (k : Int) : DoSt w q code k (W.setCell ⟨w.heap.size + 1 + 1 + 1 + 1, 3, none⟩ (.int .i64 k)) :=
  ⟨Whole.far h.ask (p := ⟨w.heap.size + 1 + 1 + 1 + 1, 3, none⟩) (by show w.heap.size + 1 ≠ w.heap.size + 1 + 1 + 1 + 1; omega) _, h.res.far (p := ⟨w.heap.size + 1 + 1 + 1 + 1, 3, none⟩) (by show w.heap.size + 1 + 1 ≠ w.heap.size + 1 + 1 + 1 + 1; omega) _, h.ret.far (p := ⟨w.heap.size + 1 + 1 + 1 + 1, 3, none⟩) (by show w.heap.size + 1 + 1 + 1 ≠ w.heap.size + 1 + 1 + 1 + 1; omega) _, h.tel.set 3 _⟩
set_option maxRecDepth 100000 in
/-- The cells, one by one. -/
theorem DoSt.tels (h : DoSt w q code id W) : W.cell? ⟨w.heap.size + 1 + 1 + 1 + 1, 0, none⟩ = some (.int .i64 q.call) ∧ W.cell? ⟨w.heap.size + 1 + 1 + 1 + 1, 1, none⟩ = some (.int .u8 q.kind) ∧ W.cell? ⟨w.heap.size + 1 + 1 + 1 + 1, 2, none⟩ = some (.int .u8 code) ∧ W.cell? ⟨w.heap.size + 1 + 1 + 1 + 1, 3, none⟩ = some (.int .i64 id) ∧ W.cell? ⟨w.heap.size + 1 + 1 + 1 + 1, 4, none⟩ = some (.slice none 0 0) ∧ W.cell? ⟨w.heap.size + 1 + 1 + 1 + 1, 5, none⟩ = some (.bool false) :=
  ⟨h.tel.cell 0, h.tel.cell 1, h.tel.cell 2, h.tel.cell 3, h.tel.cell 4, h.tel.cell 5⟩
set_option maxRecDepth 100000 in
theorem DoSt.rets (h : DoSt w q code id W) : W.cell? ⟨w.heap.size + 1 + 1 + 1, 0, none⟩ = some (.int .i64 0) ∧ W.cell? ⟨w.heap.size + 1 + 1 + 1, 1, none⟩ = some (.int .u8 0) ∧ W.cell? ⟨w.heap.size + 1 + 1 + 1, 2, none⟩ = some (.int .u8 0) ∧ W.cell? ⟨w.heap.size + 1 + 1 + 1, 3, none⟩ = some (.int .i64 0) ∧ W.cell? ⟨w.heap.size + 1 + 1 + 1, 4, none⟩ = some (.slice none 0 0) ∧ W.cell? ⟨w.heap.size + 1 + 1 + 1, 5, none⟩ = some (.bool false) :=
  ⟨h.ret.cell 0, h.ret.cell 1, h.ret.cell 2, h.ret.cell 3, h.ret.cell 4, h.ret.cell 5⟩
set_option maxRecDepth 100000 in
theorem DoSt.ress (h : DoSt w q code id W) : W.cell? ⟨w.heap.size + 1 + 1, 0, none⟩ = some (.slice none 0 0) ∧ W.cell? ⟨w.heap.size + 1 + 1, 1, none⟩ = some (.int .i64 0) ∧ W.cell? ⟨w.heap.size + 1 + 1, 2, none⟩ = some (.int .i64 0) ∧ W.cell? ⟨w.heap.size + 1 + 1, 3, none⟩ = some (.int .i64 0) ∧ W.cell? ⟨w.heap.size + 1 + 1, 4, none⟩ = some (.bool false) :=
  ⟨h.res.cell 0, h.res.cell 1, h.res.cell 2, h.res.cell 3, h.res.cell 4⟩
end

/-- What is told, of a cloud and of what was asked of it. -/
def tellV (q : Ak) (code id : Int) : Value := .agg #[.int .i64 q.call, .int .u8 q.kind, .int .u8 code, .int .i64 id, .slice none 0 0, .bool false]
def DoPost (x : Cw) (q : Ak) (l : List Bx) (code id : Int) (w : World) (e : Ending) (w' : World) : Prop :=
  ∃ A n c, e = .returned (.tuple #[.agg #[.slice A n c, .int .i64 x.fl, .int .i64 x.dr, .int .i64 x.nw, .bool x.tg], .agg #[.int .i64 q.call, .int .u8 q.kind, .int .u8 code, .int .i64 id, .slice none 0 0, .bool false]]) ∧ RdX w' w'.heap.size A n l ∧ Below w.heap.size w w'

/-- Where the run stands at the label. -/
def DoneAt (x : Cw) (q : Ak) (l : List Bx) (code id : Int) (w : World) (a' : Act) (w' : World) : Prop :=
  ∃ u0 u1 u7 u8 u9 u10 u11 u12 u13 u14 u15 u16 u17 u18 u19 u20 u21 u22 u23 u24 u25 u26 u27 u28 u29 u30 u31 u32 u33 u34 u35 u36 u37 u38 u39 u40 u41 : Value, a' = { tmps := #[u0, u1, .pointer (some ⟨w.heap.size, 0, none⟩), .pointer (some ⟨w.heap.size + 1, 0, none⟩), .pointer (some ⟨w.heap.size + 1 + 1, 0, none⟩), .pointer (some ⟨w.heap.size + 1 + 1 + 1, 0, none⟩), .pointer (some ⟨w.heap.size + 1 + 1 + 1 + 1, 0, none⟩), u7, u8, u9, u10, u11, u12, u13, u14, u15, u16, u17, u18, u19, u20, u21, u22, u23, u24, u25, u26, u27, u28, u29, u30, u31, u32, u33, u34, u35, u36, u37, u38, u39, u40, u41], defers := [] } ∧
    DoSt w q code id w' ∧ (∃ base A n c, Clu w' base w.heap.size A n c { x with l := l } ∧ w.heap.size + 1 + 1 + 1 + 1 < base) ∧ Below w.heap.size w w'

set_option maxRecDepth 100000 in
theorem deedV_fun {b1 b3 b4 b6 b8 : Nat} {k : Int} (hk : k = 1 ∨ k = 2 ∨ k = 3 ∨ k = 4 ∨ k = 5 ∨ k = 6) : ∃ f lb, deedV b1 b3 b4 b6 b8 k = .func (.func f) #[] lb := by
  rcases hk with rfl | rfl | rfl | rfl | rfl | rfl <;> exact ⟨_, _, rfl⟩
set_option maxRecDepth 100000 in
/-- A store into a block that is neither the cloud's box nor its row. -/
theorem Clu.off {W : World} {base Cb n c : Nat} {A : Option Addr} {x : Cw} (h : Clu W base Cb A n c x) {p : Addr} (hp : Cb ≠ p.block) (hl : p.block < base) (u : Value) : Clu (W.setCell p u) base Cb A n c x :=
  ⟨h.box.far hp u, ownsRow_setCell_other (a := p) h.row (fun e => by have h1 := (h.row.lt _ e).1; omega) u, h.lt, Nat.le_trans h.le ((Below.refl 0 W).setCell (p := p) (Nat.zero_le _) u).size⟩
set_option maxRecDepth 100000 in
theorem eq_nil (w : World) : (binOp .eql 49 .nilFunc .nilFunc).run Try.prog w = .ok (.bool true) w := by kernel_rfl
set_option maxRecDepth 100000 in
theorem eq_fun (f : Nat) (lb : Array Value) (w : World) : (binOp .eql 49 (.func (.func f) #[] lb) .nilFunc).run Try.prog w = .ok (.bool false) w := by kernel_rfl

set_option maxRecDepth 100000 in
/-- The cloud in memory of its own is stored in its box. -/
theorem store5 {lo b1 b2 b3 b4 b5 b6 b7 b8 base n n0 c0 c : Nat} {A0 A : Option Addr} {x : Cw} {q : Ak} {w W : World} {code id : Int} (hX : Whole W w.heap.size 24 #[.slice A0 n0 c0, .int .i64 x.fl, .int .i64 x.dr, .int .i64 x.nw, .bool x.tg]) (ho : W.ownsRow base 40 11 (.slice A n c) n (flat x.l)) (hD : DoSt w q code id W) (hF : DeedFns lo b1 b2 b3 b4 b5 b6 b7 b8 W) (hb : Below w.heap.size w W) (h1 : w.heap.size < base) (h2 : base ≤ W.heap.size) (h3 : w.heap.size < lo) :
    ∃ W', (((((W.setCell ⟨w.heap.size, 0, none⟩ (.slice A n c)).setCell ⟨w.heap.size, 1, none⟩ (.int .i64 x.fl)).setCell ⟨w.heap.size, 2, none⟩ (.int .i64 x.dr)).setCell ⟨w.heap.size, 3, none⟩ (.int .i64 x.nw)).setCell ⟨w.heap.size, 4, none⟩ (.bool x.tg)) = W' ∧ Clu W' base w.heap.size A n c x ∧ DoSt w q code id W' ∧ DeedFns lo b1 b2 b3 b4 b5 b6 b7 b8 W' ∧ Below w.heap.size w W' := by
  refine ⟨_, rfl, ⟨(put5 hX _ _ _ _ _).2, ?_, h1, ?_⟩, ?_, ?_, ?_⟩
  · exact own_set (b := w.heap.size) (own_set (b := w.heap.size) (own_set (b := w.heap.size) (own_set (b := w.heap.size) (own_set (b := w.heap.size) ho h1 _) h1 _) h1 _) h1 _) h1 _
  · exact Nat.le_trans h2 ((((((Below.refl 0 W).setCell (p := ⟨w.heap.size, 0, none⟩) (Nat.zero_le _) _).setCell (p := ⟨w.heap.size, 1, none⟩) (Nat.zero_le _) _).setCell (p := ⟨w.heap.size, 2, none⟩) (Nat.zero_le _) _).setCell (p := ⟨w.heap.size, 3, none⟩) (Nat.zero_le _) _).setCell (p := ⟨w.heap.size, 4, none⟩) (Nat.zero_le _) _).size
  · exact ((((hD.far 0 _).far 1 _).far 2 _).far 3 _).far 4 _
  · exact ((((hF.far (p := ⟨w.heap.size, 0, none⟩) h3 _).far (p := ⟨w.heap.size, 1, none⟩) h3 _).far (p := ⟨w.heap.size, 2, none⟩) h3 _).far (p := ⟨w.heap.size, 3, none⟩) h3 _).far (p := ⟨w.heap.size, 4, none⟩) h3 _
  · exact (((((hb.setCell (p := ⟨w.heap.size, 0, none⟩) (Nat.le_refl _) _).setCell (p := ⟨w.heap.size, 1, none⟩) (Nat.le_refl _) _).setCell (p := ⟨w.heap.size, 2, none⟩) (Nat.le_refl _) _).setCell (p := ⟨w.heap.size, 3, none⟩) (Nat.le_refl _) _).setCell (p := ⟨w.heap.size, 4, none⟩) (Nat.le_refl _) _)

set_option maxRecDepth 100000 in
/-- What is told is stored in the results' boxes. -/
theorem fin11 {base n c : Nat} {A : Option Addr} {x : Cw} {q : Ak} {w W : World} {code id : Int} (hD : DoSt w q code id W) (hC : Clu W base w.heap.size A n c x) (hl : w.heap.size + 1 + 1 + 1 + 1 < base) (hb : Below w.heap.size w W) :
    ∃ W', (((((((((((W.setCell ⟨w.heap.size + 1 + 1, 0, none⟩ (.slice A n c)).setCell ⟨w.heap.size + 1 + 1, 1, none⟩ (.int .i64 x.fl)).setCell ⟨w.heap.size + 1 + 1, 2, none⟩ (.int .i64 x.dr)).setCell ⟨w.heap.size + 1 + 1, 3, none⟩ (.int .i64 x.nw)).setCell ⟨w.heap.size + 1 + 1, 4, none⟩ (.bool x.tg)).setCell ⟨w.heap.size + 1 + 1 + 1, 0, none⟩ (.int .i64 q.call)).setCell ⟨w.heap.size + 1 + 1 + 1, 1, none⟩ (.int .u8 q.kind)).setCell ⟨w.heap.size + 1 + 1 + 1, 2, none⟩ (.int .u8 code)).setCell ⟨w.heap.size + 1 + 1 + 1, 3, none⟩ (.int .i64 id)).setCell ⟨w.heap.size + 1 + 1 + 1, 4, none⟩ (.slice none 0 0)).setCell ⟨w.heap.size + 1 + 1 + 1, 5, none⟩ (.bool false)) = W' ∧ Whole W' (w.heap.size + 1 + 1) 24 #[.slice A n c, .int .i64 x.fl, .int .i64 x.dr, .int .i64 x.nw, .bool x.tg] ∧ Whole W' (w.heap.size + 1 + 1 + 1) 30 #[.int .i64 q.call, .int .u8 q.kind, .int .u8 code, .int .i64 id, .slice none 0 0, .bool false] ∧ RdX W' W'.heap.size A n x.l ∧ Below w.heap.size w W' := by
  refine ⟨_, rfl, ?_, ?_, ?_, ?_⟩
  · have h1 := (put5 hD.res (.slice A n c) (.int .i64 x.fl) (.int .i64 x.dr) (.int .i64 x.nw) (.bool x.tg)).2
    exact ((((((h1.far (p := ⟨w.heap.size + 1 + 1 + 1, 0, none⟩) (by show w.heap.size + 1 + 1 ≠ w.heap.size + 1 + 1 + 1; omega) _).far (p := ⟨w.heap.size + 1 + 1 + 1, 1, none⟩) (by show w.heap.size + 1 + 1 ≠ w.heap.size + 1 + 1 + 1; omega) _).far (p := ⟨w.heap.size + 1 + 1 + 1, 2, none⟩) (by show w.heap.size + 1 + 1 ≠ w.heap.size + 1 + 1 + 1; omega) _).far (p := ⟨w.heap.size + 1 + 1 + 1, 3, none⟩) (by show w.heap.size + 1 + 1 ≠ w.heap.size + 1 + 1 + 1; omega) _).far (p := ⟨w.heap.size + 1 + 1 + 1, 4, none⟩) (by show w.heap.size + 1 + 1 ≠ w.heap.size + 1 + 1 + 1; omega) _).far (p := ⟨w.heap.size + 1 + 1 + 1, 5, none⟩) (by show w.heap.size + 1 + 1 ≠ w.heap.size + 1 + 1 + 1; omega) _)
  · have h1 : Whole (((((W.setCell ⟨w.heap.size + 1 + 1, 0, none⟩ (.slice A n c)).setCell ⟨w.heap.size + 1 + 1, 1, none⟩ (.int .i64 x.fl)).setCell ⟨w.heap.size + 1 + 1, 2, none⟩ (.int .i64 x.dr)).setCell ⟨w.heap.size + 1 + 1, 3, none⟩ (.int .i64 x.nw)).setCell ⟨w.heap.size + 1 + 1, 4, none⟩ (.bool x.tg)) (w.heap.size + 1 + 1 + 1) 30 _ := (((((hD.ret.far (p := ⟨w.heap.size + 1 + 1, 0, none⟩) (by show w.heap.size + 1 + 1 + 1 ≠ w.heap.size + 1 + 1; omega) _).far (p := ⟨w.heap.size + 1 + 1, 1, none⟩) (by show w.heap.size + 1 + 1 + 1 ≠ w.heap.size + 1 + 1; omega) _).far (p := ⟨w.heap.size + 1 + 1, 2, none⟩) (by show w.heap.size + 1 + 1 + 1 ≠ w.heap.size + 1 + 1; omega) _).far (p := ⟨w.heap.size + 1 + 1, 3, none⟩) (by show w.heap.size + 1 + 1 + 1 ≠ w.heap.size + 1 + 1; omega) _).far (p := ⟨w.heap.size + 1 + 1, 4, none⟩) (by show w.heap.size + 1 + 1 + 1 ≠ w.heap.size + 1 + 1; omega) _)
    exact (((((h1.set 0 _).set 1 _).set 2 _).set 3 _).set 4 _).set 5 _
  · refine RdX.of_own (base := base) (c := c) ?_
    exact own_set (b := w.heap.size + 1 + 1 + 1) (own_set (b := w.heap.size + 1 + 1 + 1) (own_set (b := w.heap.size + 1 + 1 + 1) (own_set (b := w.heap.size + 1 + 1 + 1) (own_set (b := w.heap.size + 1 + 1 + 1) (own_set (b := w.heap.size + 1 + 1 + 1) (own_set (b := w.heap.size + 1 + 1) (own_set (b := w.heap.size + 1 + 1) (own_set (b := w.heap.size + 1 + 1) (own_set (b := w.heap.size + 1 + 1) (own_set (b := w.heap.size + 1 + 1) (hC.row) (by omega) _) (by omega) _) (by omega) _) (by omega) _) (by omega) _) (by omega) _) (by omega) _) (by omega) _) (by omega) _) (by omega) _) (by omega) _
  · exact (((((((((((hb.setCell (p := ⟨w.heap.size + 1 + 1, 0, none⟩) (by show w.heap.size ≤ w.heap.size + 1 + 1; omega) _).setCell (p := ⟨w.heap.size + 1 + 1, 1, none⟩) (by show w.heap.size ≤ w.heap.size + 1 + 1; omega) _).setCell (p := ⟨w.heap.size + 1 + 1, 2, none⟩) (by show w.heap.size ≤ w.heap.size + 1 + 1; omega) _).setCell (p := ⟨w.heap.size + 1 + 1, 3, none⟩) (by show w.heap.size ≤ w.heap.size + 1 + 1; omega) _).setCell (p := ⟨w.heap.size + 1 + 1, 4, none⟩) (by show w.heap.size ≤ w.heap.size + 1 + 1; omega) _).setCell (p := ⟨w.heap.size + 1 + 1 + 1, 0, none⟩) (by show w.heap.size ≤ w.heap.size + 1 + 1 + 1; omega) _).setCell (p := ⟨w.heap.size + 1 + 1 + 1, 1, none⟩) (by show w.heap.size ≤ w.heap.size + 1 + 1 + 1; omega) _).setCell (p := ⟨w.heap.size + 1 + 1 + 1, 2, none⟩) (by show w.heap.size ≤ w.heap.size + 1 + 1 + 1; omega) _).setCell (p := ⟨w.heap.size + 1 + 1 + 1, 3, none⟩) (by show w.heap.size ≤ w.heap.size + 1 + 1 + 1; omega) _).setCell (p := ⟨w.heap.size + 1 + 1 + 1, 4, none⟩) (by show w.heap.size ≤ w.heap.size + 1 + 1 + 1; omega) _).setCell (p := ⟨w.heap.size + 1 + 1 + 1, 5, none⟩) (by show w.heap.size ≤ w.heap.size + 1 + 1 + 1; omega) _)

section
variable {n c B : Nat} {A : Option Addr} {x : Cw} {q : Ak} {w : World}

set_option maxRecDepth 100000 in
set_option maxHeartbeats 4000000 in
theorem do_nil (hr : RdX w B A n x.l) (hB : B ≤ w.heap.size) (hn : n ≤ 1000) (hkw : (Lit.int .u8 q.kind).wf = true) (hk : ¬ (q.kind = 1 ∨ q.kind = 2 ∨ q.kind = 3 ∨ q.kind = 4 ∨ q.kind = 5 ∨ q.kind = 6)) :
    Calls Try.prog 9 #[.agg #[.slice A n c, .int .i64 x.fl, .int .i64 x.dr, .int .i64 x.nw, .bool x.tg], .agg #[.int .u8 q.kind, .int .i64 q.call, .int .i64 q.a, .int .i64 q.b, .int .i64 q.c, .int .i64 q.d]] w (DoPost x q x.l 3 q.a w) := by
  have hb5 : Below w.heap.size w (((((w.alloc (.cells #[.slice A n c, .int .i64 x.fl, .int .i64 x.dr, .int .i64 x.nw, .bool x.tg] 24)).alloc (.cells #[.int .u8 q.kind, .int .i64 q.call, .int .i64 q.a, .int .i64 q.b, .int .i64 q.c, .int .i64 q.d] 26)).alloc (.cells #[.slice none 0 0, .int .i64 0, .int .i64 0, .int .i64 0, .bool false] 24)).alloc (.cells #[.int .i64 0, .int .u8 0, .int .u8 0, .int .i64 0, .slice none 0 0, .bool false] 30)).alloc (.cells #[.int .i64 q.call, .int .u8 q.kind, .int .u8 3, .int .i64 q.a, .slice none 0 0, .bool false] 30)) := (((((Below.refl _ w).alloc (Nat.le_refl _) _).alloc (by simp) _).alloc (by simp; omega) _).alloc (by simp; omega) _).alloc (by simp; omega) _
  obtain ⟨V, hV⟩ : ∃ V, (((((w.alloc (.cells #[.slice A n c, .int .i64 x.fl, .int .i64 x.dr, .int .i64 x.nw, .bool x.tg] 24)).alloc (.cells #[.int .u8 q.kind, .int .i64 q.call, .int .i64 q.a, .int .i64 q.b, .int .i64 q.c, .int .i64 q.d] 26)).alloc (.cells #[.slice none 0 0, .int .i64 0, .int .i64 0, .int .i64 0, .bool false] 24)).alloc (.cells #[.int .i64 0, .int .u8 0, .int .u8 0, .int .i64 0, .slice none 0 0, .bool false] 30)).alloc (.cells #[.int .i64 q.call, .int .u8 q.kind, .int .u8 3, .int .i64 q.a, .slice none 0 0, .bool false] 30)) = V := ⟨_, rfl⟩
  have hsV : V.heap.size = w.heap.size + 1 + 1 + 1 + 1 + 1 := by rw [← hV]; simp
  have hD : DoSt w q 3 q.a V := by
    rw [← hV]
    refine ⟨?_, ?_, ?_, ?_⟩
    · have := (((Whole.new (w.alloc (.cells #[.slice A n c, .int .i64 x.fl, .int .i64 x.dr, .int .i64 x.nw, .bool x.tg] 24)) 26 #[.int .u8 q.kind, .int .i64 q.call, .int .i64 q.a, .int .i64 q.b, .int .i64 q.c, .int .i64 q.d]).alloc (.cells #[.slice none 0 0, .int .i64 0, .int .i64 0, .int .i64 0, .bool false] 24)).alloc (.cells #[.int .i64 0, .int .u8 0, .int .u8 0, .int .i64 0, .slice none 0 0, .bool false] 30)).alloc (.cells #[.int .i64 q.call, .int .u8 q.kind, .int .u8 3, .int .i64 q.a, .slice none 0 0, .bool false] 30); rwa [World.size_alloc] at this
    · have := ((Whole.new ((w.alloc (.cells #[.slice A n c, .int .i64 x.fl, .int .i64 x.dr, .int .i64 x.nw, .bool x.tg] 24)).alloc (.cells #[.int .u8 q.kind, .int .i64 q.call, .int .i64 q.a, .int .i64 q.b, .int .i64 q.c, .int .i64 q.d] 26)) 24 #[.slice none 0 0, .int .i64 0, .int .i64 0, .int .i64 0, .bool false]).alloc (.cells #[.int .i64 0, .int .u8 0, .int .u8 0, .int .i64 0, .slice none 0 0, .bool false] 30)).alloc (.cells #[.int .i64 q.call, .int .u8 q.kind, .int .u8 3, .int .i64 q.a, .slice none 0 0, .bool false] 30); rwa [World.size_alloc, World.size_alloc] at this
    · have := (Whole.new (((w.alloc (.cells #[.slice A n c, .int .i64 x.fl, .int .i64 x.dr, .int .i64 x.nw, .bool x.tg] 24)).alloc (.cells #[.int .u8 q.kind, .int .i64 q.call, .int .i64 q.a, .int .i64 q.b, .int .i64 q.c, .int .i64 q.d] 26)).alloc (.cells #[.slice none 0 0, .int .i64 0, .int .i64 0, .int .i64 0, .bool false] 24)) 30 #[.int .i64 0, .int .u8 0, .int .u8 0, .int .i64 0, .slice none 0 0, .bool false]).alloc (.cells #[.int .i64 q.call, .int .u8 q.kind, .int .u8 3, .int .i64 q.a, .slice none 0 0, .bool false] 30); rwa [World.size_alloc, World.size_alloc, World.size_alloc] at this
    · have := Whole.new ((((w.alloc (.cells #[.slice A n c, .int .i64 x.fl, .int .i64 x.dr, .int .i64 x.nw, .bool x.tg] 24)).alloc (.cells #[.int .u8 q.kind, .int .i64 q.call, .int .i64 q.a, .int .i64 q.b, .int .i64 q.c, .int .i64 q.d] 26)).alloc (.cells #[.slice none 0 0, .int .i64 0, .int .i64 0, .int .i64 0, .bool false] 24)).alloc (.cells #[.int .i64 0, .int .u8 0, .int .u8 0, .int .i64 0, .slice none 0 0, .bool false] 30)) 30 #[.int .i64 q.call, .int .u8 q.kind, .int .u8 3, .int .i64 q.a, .slice none 0 0, .bool false]; rwa [World.size_alloc, World.size_alloc, World.size_alloc, World.size_alloc] at this
  have hX : Whole V w.heap.size 24 #[.slice A n c, .int .i64 x.fl, .int .i64 x.dr, .int .i64 x.nw, .bool x.tg] := by rw [← hV]; exact ((((Whole.new w _ _).alloc _).alloc _).alloc _).alloc _
  rw [hV] at hb5
  have HD := Lib.hid hD
  have HX := Lib.hid hX
  have HV := Lib.hid hb5
  have HS := Lib.hid hsV
  have HR := Lib.hid (hr.below (hb5.mono hB))
  have HBB := Lib.hid hB
  have HKW := Lib.hid hkw
  have HVe := Lib.hid hV
  clear hV
  have HK := Lib.hid hk
  clear hr hB hb5 hsV hD hX hkw hk
  go_enter Try.func9, Try.ntmps9
  go_wp2_with fail
  refine wp_scope_fwd 0 (DoneAt x q x.l 3 q.a w) rfl ?first ?tail
  case tail =>
    rintro a' w' ⟨u0, u1, u7, u8, u9, u10, u11, u12, u13, u14, u15, u16, u17, u18, u19, u20, u21, u22, u23, u24, u25, u26, u27, u28, u29, u30, u31, u32, u33, u34, u35, u36, u37, u38, u39, u40, u41, rfl, h3, ⟨base, A3, n3, c3, hC, hlb⟩, b3⟩
    obtain ⟨t0, t1, t2, t3, t4, t5⟩ := h3.tels
    obtain ⟨r0, r1, r2, r3, r4, r5⟩ := h3.rets
    obtain ⟨s0, s1, s2, s3, s4⟩ := h3.ress
    obtain ⟨d0, d1, d2, d3, d4⟩ := hC.cells
    have z0 := h3.res.frozen 0
    have z1 := h3.res.frozen 1
    have z2 := h3.res.frozen 2
    have z3 := h3.res.frozen 3
    have z4 := h3.res.frozen 4
    have y0 := h3.ret.frozen 0
    have y1 := h3.ret.frozen 1
    have y2 := h3.ret.frozen 2
    have y3 := h3.ret.frozen 3
    have y4 := h3.ret.frozen 4
    have y5 := h3.ret.frozen 5
    have H3 := Lib.hid h3
    have B3 := Lib.hid b3
    have HC := Lib.hid hC
    have HLb := Lib.hid hlb
    clear h3 b3 hC hlb
    go_wp2_with fail
    go_region
    obtain ⟨W9, hW9, p1, p2, p3, p4⟩ := fin11 H3.out HC.out HLb.out B3.out
    rw [hW9]
    have p1' : Whole W9.drew (w.heap.size + 1 + 1) 24 _ := p1
    have p2' : Whole W9.drew (w.heap.size + 1 + 1 + 1) 30 _ := p2
    have p3' : RdX W9.drew W9.drew.heap.size A3 n3 x.l := show RdX W9.drew W9.heap.size A3 n3 _ from p3.below (Below.refl _ _).drew
    have p4' := p4.drew
    obtain ⟨j0, j1, j2, j3, j4⟩ := (⟨p1'.cell 0, p1'.cell 1, p1'.cell 2, p1'.cell 3, p1'.cell 4⟩ : _ ∧ _ ∧ _ ∧ _ ∧ _)
    obtain ⟨i0, i1, i2, i3, i4, i5⟩ := (⟨p2'.cell 0, p2'.cell 1, p2'.cell 2, p2'.cell 3, p2'.cell 4, p2'.cell 5⟩ : _ ∧ _ ∧ _ ∧ _ ∧ _ ∧ _)
    simp only [List.getElem?_toArray, List.getElem?_cons_zero, List.getElem?_cons_succ] at j0 j1 j2 j3 j4 i0 i1 i2 i3 i4 i5
    have P3 := Lib.hid p3'
    have P4 := Lib.hid p4'
    clear hW9 p1 p2 p3 p4 p1' p2' p3' p4' t0 t1 t2 t3 t4 t5 r0 r1 r2 r3 r4 r5 s0 s1 s2 s3 s4 d0 d1 d2 d3 d4 z0 z1 z2 z3 z4 y0 y1 y2 y3 y4 y5
    go_wp2_with fail
    simp only [Exit.jump]
    refine bodyPost_ret (v := .tuple #[.agg #[.slice A3 n3 c3, .int .i64 x.fl, .int .i64 x.dr, .int .i64 x.nw, .bool x.tg], .agg #[.int .i64 q.call, .int .u8 q.kind, .int .u8 3, .int .i64 q.a, .slice none 0 0, .bool false]]) (by simp [results, Try.results9, go_sem, j0, j1, j2, j3, j4, i0, i1, i2, i3, i4, i5]) rfl ?_
    exact ⟨A3, n3, c3, rfl, P3.out, P4.out⟩
  case first =>
    go_wp2_with fail
    rw [HVe.out]
    clear HVe
    have HC := Lib.hid ((Below.refl V.heap.size V).drew)
    have HL := Lib.hid (fun W (hW : Below V.heap.size V W) => (HD.out.under hW).ask.cells)
    refine wp_region_held_drew (S := fun W => Below V.heap.size V W) (by kernel_rfl) HC.out (fun _ => ?_)
    refine takeH (i := 1) (v := ?_) rfl (by kernel_rfl) (by kernel_rfl) (by kernel_rfl) (fun _ _ _ h => h) (by rfl) ?_ HC.out ?_
    rotate_left
    · intro W hW; obtain ⟨e0, e1, e2, e3, e4, e5⟩ := HL.out W hW; go_simp <;> with_reducible rfl
    simp only [Act.put, List.setIfInBounds_toArray, List.set_cons_zero, List.set_cons_succ]
    refine takeH (i := 2) (v := ?_) rfl (by kernel_rfl) (by kernel_rfl) (by kernel_rfl) (fun _ _ _ h => h) (by rfl) ?_ HC.out ?_
    rotate_left
    · intro W hW; obtain ⟨e0, e1, e2, e3, e4, e5⟩ := HL.out W hW; go_simp <;> with_reducible rfl
    simp only [Act.put, List.setIfInBounds_toArray, List.set_cons_zero, List.set_cons_succ]
    refine oneH (i := 0) rfl (by kernel_rfl) (by rfl) (fun K hK => ?_)
    go_simp
    go_at_call 24
    refine (deeds_any _).mono ?_
    rintro e y1 ⟨rfl, b1, b2, b3, b4, b5, b6, b7, b8, hm, hF, b9⟩
    have hm2 : DsMap y1 V.heap.size 6 (dsD b1 b3 b4 b6 b8) := hm
    have hF2 : DeedFns V.heap.size b1 b2 b3 b4 b5 b6 b7 b8 y1 := hF
    clear hm hF
    obtain ⟨v, ps, hrun, hv⟩ := World.ownsMap.lookup hm2 (int_keyed Try.underlying5) Try.underlying50 (z := .nilFunc) (by kernel_rfl) (zd := .held .nilFunc) (zp := []) rfl (keyOf_int_mk (q := .u8) (a := q.kind) Try.underlying5 HKW.out)
    rw [dsD_at] at hv
    have ev : v = deedV b1 b3 b4 b6 b8 q.kind := by simpa [deedR] using (congrArg (fun o => o.map Prod.fst) hv)
    subst ev
    have HF := Lib.hid hF2
    clear hm2 hv hF2
    have HC2 := Lib.hid (HC.out.trans (b9.mono HC.out.size))
    clear HC b9
    have HC := HC2
    clear HC2
    refine hK.out _ _ HC.out (fun _ => ?_)
    clear hK K
    refine oneH (i := 3) rfl (by kernel_rfl) (by rfl) (fun K hK => ?_)
    go_simp
    refine hK.out _ _ HC.out (fun _ => ?_)
    clear hK K hrun
    refine oneH (i := 4) rfl (by kernel_rfl) (by rfl) (fun K hK => ?_)
    go_simp
    refine hK.out _ _ HC.out (fun _ => ?_)
    clear hK K
    refine wpAnyH_done (by kernel_rfl) ?_ _
    have hD1 := HD.out.under HC.out
    have hX1 := HX.out.under HC.out
    have hr1 := HR.out.below (HC.out.mono (Nat.le_trans HBB.out HV.out.size))
    have B1 := Lib.hid (HV.out.trans (HC.out.mono HV.out.size))
    have hls : w.heap.size < V.heap.size := by have := HS.out; omega
    have hlb : w.heap.size + 1 + 1 + 1 + 1 < y1.heap.size := by have h8 := HS.out; have h9 := HC.out.size; omega
    have HOw := Lib.hid (own_anyX A n c x B y1 hr1 (Nat.le_trans HBB.out B1.out.size) hn)
    have d0 := hX1.cell 0
    have d1 := hX1.cell 1
    have d2 := hX1.cell 2
    have d3 := hX1.cell 3
    have d4 := hX1.cell 4
    simp only [List.getElem?_toArray, List.getElem?_cons_zero, List.getElem?_cons_succ] at d0 d1 d2 d3 d4
    have HX1 := Lib.hid hX1
    have HD1 := Lib.hid hD1
    clear hX1 hD1 hr1 HL HC HX HD HR HBB HV HS HKW
    have hdv : deedV b1 b3 b4 b6 b8 q.kind = .nilFunc := by
      have h9 := HK.out
      unfold deedV
      rw [if_neg (by omega), if_neg (by omega), if_neg (by omega), if_neg (by omega), if_neg (by omega), if_neg (by omega)]
    have hkb : (q.kind == 1) = false := by have h9 := HK.out; rw [beq_eq_false_iff_ne]; omega
    rw [hdv]
    clear hdv
    go_wp2_with fail
    refine (HOw.out).mono ?_
    rintro e y2 ⟨A2, c2, rfl, o2, b2⟩
    unfold cwV
    have hX2 := HX1.out.under b2
    have k0 := hX2.cell 0
    have k1 := hX2.cell 1
    have k2 := hX2.cell 2
    have k3 := hX2.cell 3
    have k4 := hX2.cell 4
    simp only [List.getElem?_toArray, List.getElem?_cons_zero, List.getElem?_cons_succ] at k0 k1 k2 k3 k4
    have z0 := hX2.frozen 0
    have z1 := hX2.frozen 1
    have z2 := hX2.frozen 2
    have z3 := hX2.frozen 3
    have z4 := hX2.frozen 4
    have H5 := Lib.hid (store5 hX2 o2 (HD1.out.under b2) (HF.out.under b2) (B1.out.trans (b2.mono B1.out.size)) (by omega) b2.size hls)
    have HLb := Lib.hid hlb
    clear HX1 HD1 HF B1 o2 b2 hX2 d0 d1 d2 d3 d4 HOw hls hlb
    obtain ⟨y3, hy3, hC3, hD3, hF3, hB3⟩ := H5.out
    clear H5
    obtain ⟨e0, e1, e2, e3, e4, e5⟩ := hD3.ask.cells
    obtain ⟨t0, t1, t2, t3, t4, t5⟩ := hD3.tels
    have tf2 := hD3.tel.frozen 2
    have tf3 := hD3.tel.frozen 3
    have HC3 := Lib.hid hC3
    have HD3 := Lib.hid hD3
    have HF3 := Lib.hid hF3
    have HB3 := Lib.hid hB3
    clear hC3 hD3 hF3 hB3
    have hnn := fun (W : World) => eq_nil W
    go_wp2_with fail
    go_step3
    exact ⟨rfl, _, _, _, _, _, _, _, _, _, _, _, _, _, _, _, _, _, _, _, _, _, _, _, _, _, _, _, _, _, _, _, _, _, _, _, _, _, rfl, HD3.out, ⟨_, _, _, _, HC3.out, HLb.out⟩, HB3.out⟩

set_option maxRecDepth 100000 in
set_option maxHeartbeats 4000000 in
theorem do_bad1 (hr : RdX w B A n x.l) (hB : B ≤ w.heap.size) (hn : n ≤ 1000) (hkw : (Lit.int .u8 q.kind).wf = true) (hk : (q.kind = 1 ∨ q.kind = 2 ∨ q.kind = 3 ∨ q.kind = 4 ∨ q.kind = 5 ∨ q.kind = 6)) (hk1 : q.kind = 1) (hrv : right x = false) :
    Calls Try.prog 9 #[.agg #[.slice A n c, .int .i64 x.fl, .int .i64 x.dr, .int .i64 x.nw, .bool x.tg], .agg #[.int .u8 q.kind, .int .i64 q.call, .int .i64 q.a, .int .i64 q.b, .int .i64 q.c, .int .i64 q.d]] w (DoPost x q x.l 3 0 w) := by
  have hb5 : Below w.heap.size w (((((w.alloc (.cells #[.slice A n c, .int .i64 x.fl, .int .i64 x.dr, .int .i64 x.nw, .bool x.tg] 24)).alloc (.cells #[.int .u8 q.kind, .int .i64 q.call, .int .i64 q.a, .int .i64 q.b, .int .i64 q.c, .int .i64 q.d] 26)).alloc (.cells #[.slice none 0 0, .int .i64 0, .int .i64 0, .int .i64 0, .bool false] 24)).alloc (.cells #[.int .i64 0, .int .u8 0, .int .u8 0, .int .i64 0, .slice none 0 0, .bool false] 30)).alloc (.cells #[.int .i64 q.call, .int .u8 q.kind, .int .u8 3, .int .i64 q.a, .slice none 0 0, .bool false] 30)) := (((((Below.refl _ w).alloc (Nat.le_refl _) _).alloc (by simp) _).alloc (by simp; omega) _).alloc (by simp; omega) _).alloc (by simp; omega) _
  obtain ⟨V, hV⟩ : ∃ V, (((((w.alloc (.cells #[.slice A n c, .int .i64 x.fl, .int .i64 x.dr, .int .i64 x.nw, .bool x.tg] 24)).alloc (.cells #[.int .u8 q.kind, .int .i64 q.call, .int .i64 q.a, .int .i64 q.b, .int .i64 q.c, .int .i64 q.d] 26)).alloc (.cells #[.slice none 0 0, .int .i64 0, .int .i64 0, .int .i64 0, .bool false] 24)).alloc (.cells #[.int .i64 0, .int .u8 0, .int .u8 0, .int .i64 0, .slice none 0 0, .bool false] 30)).alloc (.cells #[.int .i64 q.call, .int .u8 q.kind, .int .u8 3, .int .i64 q.a, .slice none 0 0, .bool false] 30)) = V := ⟨_, rfl⟩
  have hsV : V.heap.size = w.heap.size + 1 + 1 + 1 + 1 + 1 := by rw [← hV]; simp
  have hD : DoSt w q 3 q.a V := by
    rw [← hV]
    refine ⟨?_, ?_, ?_, ?_⟩
    · have := (((Whole.new (w.alloc (.cells #[.slice A n c, .int .i64 x.fl, .int .i64 x.dr, .int .i64 x.nw, .bool x.tg] 24)) 26 #[.int .u8 q.kind, .int .i64 q.call, .int .i64 q.a, .int .i64 q.b, .int .i64 q.c, .int .i64 q.d]).alloc (.cells #[.slice none 0 0, .int .i64 0, .int .i64 0, .int .i64 0, .bool false] 24)).alloc (.cells #[.int .i64 0, .int .u8 0, .int .u8 0, .int .i64 0, .slice none 0 0, .bool false] 30)).alloc (.cells #[.int .i64 q.call, .int .u8 q.kind, .int .u8 3, .int .i64 q.a, .slice none 0 0, .bool false] 30); rwa [World.size_alloc] at this
    · have := ((Whole.new ((w.alloc (.cells #[.slice A n c, .int .i64 x.fl, .int .i64 x.dr, .int .i64 x.nw, .bool x.tg] 24)).alloc (.cells #[.int .u8 q.kind, .int .i64 q.call, .int .i64 q.a, .int .i64 q.b, .int .i64 q.c, .int .i64 q.d] 26)) 24 #[.slice none 0 0, .int .i64 0, .int .i64 0, .int .i64 0, .bool false]).alloc (.cells #[.int .i64 0, .int .u8 0, .int .u8 0, .int .i64 0, .slice none 0 0, .bool false] 30)).alloc (.cells #[.int .i64 q.call, .int .u8 q.kind, .int .u8 3, .int .i64 q.a, .slice none 0 0, .bool false] 30); rwa [World.size_alloc, World.size_alloc] at this
    · have := (Whole.new (((w.alloc (.cells #[.slice A n c, .int .i64 x.fl, .int .i64 x.dr, .int .i64 x.nw, .bool x.tg] 24)).alloc (.cells #[.int .u8 q.kind, .int .i64 q.call, .int .i64 q.a, .int .i64 q.b, .int .i64 q.c, .int .i64 q.d] 26)).alloc (.cells #[.slice none 0 0, .int .i64 0, .int .i64 0, .int .i64 0, .bool false] 24)) 30 #[.int .i64 0, .int .u8 0, .int .u8 0, .int .i64 0, .slice none 0 0, .bool false]).alloc (.cells #[.int .i64 q.call, .int .u8 q.kind, .int .u8 3, .int .i64 q.a, .slice none 0 0, .bool false] 30); rwa [World.size_alloc, World.size_alloc, World.size_alloc] at this
    · have := Whole.new ((((w.alloc (.cells #[.slice A n c, .int .i64 x.fl, .int .i64 x.dr, .int .i64 x.nw, .bool x.tg] 24)).alloc (.cells #[.int .u8 q.kind, .int .i64 q.call, .int .i64 q.a, .int .i64 q.b, .int .i64 q.c, .int .i64 q.d] 26)).alloc (.cells #[.slice none 0 0, .int .i64 0, .int .i64 0, .int .i64 0, .bool false] 24)).alloc (.cells #[.int .i64 0, .int .u8 0, .int .u8 0, .int .i64 0, .slice none 0 0, .bool false] 30)) 30 #[.int .i64 q.call, .int .u8 q.kind, .int .u8 3, .int .i64 q.a, .slice none 0 0, .bool false]; rwa [World.size_alloc, World.size_alloc, World.size_alloc, World.size_alloc] at this
  have hX : Whole V w.heap.size 24 #[.slice A n c, .int .i64 x.fl, .int .i64 x.dr, .int .i64 x.nw, .bool x.tg] := by rw [← hV]; exact ((((Whole.new w _ _).alloc _).alloc _).alloc _).alloc _
  rw [hV] at hb5
  have HD := Lib.hid hD
  have HX := Lib.hid hX
  have HV := Lib.hid hb5
  have HS := Lib.hid hsV
  have HR := Lib.hid (hr.below (hb5.mono hB))
  have HBB := Lib.hid hB
  have HKW := Lib.hid hkw
  have HVe := Lib.hid hV
  clear hV
  have HK := Lib.hid hk
  have HKB := Lib.hid hk1
  have HRV := Lib.hid hrv
  have HS2 := Lib.hid hsV
  clear hr hB hb5 hsV hD hX hkw hk hk1 hrv
  go_enter Try.func9, Try.ntmps9
  go_wp2_with fail
  refine wp_scope_fwd 0 (DoneAt x q x.l 3 0 w) rfl ?first ?tail
  case tail =>
    rintro a' w' ⟨u0, u1, u7, u8, u9, u10, u11, u12, u13, u14, u15, u16, u17, u18, u19, u20, u21, u22, u23, u24, u25, u26, u27, u28, u29, u30, u31, u32, u33, u34, u35, u36, u37, u38, u39, u40, u41, rfl, h3, ⟨base, A3, n3, c3, hC, hlb⟩, b3⟩
    obtain ⟨t0, t1, t2, t3, t4, t5⟩ := h3.tels
    obtain ⟨r0, r1, r2, r3, r4, r5⟩ := h3.rets
    obtain ⟨s0, s1, s2, s3, s4⟩ := h3.ress
    obtain ⟨d0, d1, d2, d3, d4⟩ := hC.cells
    have z0 := h3.res.frozen 0
    have z1 := h3.res.frozen 1
    have z2 := h3.res.frozen 2
    have z3 := h3.res.frozen 3
    have z4 := h3.res.frozen 4
    have y0 := h3.ret.frozen 0
    have y1 := h3.ret.frozen 1
    have y2 := h3.ret.frozen 2
    have y3 := h3.ret.frozen 3
    have y4 := h3.ret.frozen 4
    have y5 := h3.ret.frozen 5
    have H3 := Lib.hid h3
    have B3 := Lib.hid b3
    have HC := Lib.hid hC
    have HLb := Lib.hid hlb
    clear h3 b3 hC hlb
    go_wp2_with fail
    go_region
    obtain ⟨W9, hW9, p1, p2, p3, p4⟩ := fin11 H3.out HC.out HLb.out B3.out
    rw [hW9]
    have p1' : Whole W9.drew (w.heap.size + 1 + 1) 24 _ := p1
    have p2' : Whole W9.drew (w.heap.size + 1 + 1 + 1) 30 _ := p2
    have p3' : RdX W9.drew W9.drew.heap.size A3 n3 x.l := show RdX W9.drew W9.heap.size A3 n3 _ from p3.below (Below.refl _ _).drew
    have p4' := p4.drew
    obtain ⟨j0, j1, j2, j3, j4⟩ := (⟨p1'.cell 0, p1'.cell 1, p1'.cell 2, p1'.cell 3, p1'.cell 4⟩ : _ ∧ _ ∧ _ ∧ _ ∧ _)
    obtain ⟨i0, i1, i2, i3, i4, i5⟩ := (⟨p2'.cell 0, p2'.cell 1, p2'.cell 2, p2'.cell 3, p2'.cell 4, p2'.cell 5⟩ : _ ∧ _ ∧ _ ∧ _ ∧ _ ∧ _)
    simp only [List.getElem?_toArray, List.getElem?_cons_zero, List.getElem?_cons_succ] at j0 j1 j2 j3 j4 i0 i1 i2 i3 i4 i5
    have P3 := Lib.hid p3'
    have P4 := Lib.hid p4'
    clear hW9 p1 p2 p3 p4 p1' p2' p3' p4' t0 t1 t2 t3 t4 t5 r0 r1 r2 r3 r4 r5 s0 s1 s2 s3 s4 d0 d1 d2 d3 d4 z0 z1 z2 z3 z4 y0 y1 y2 y3 y4 y5
    go_wp2_with fail
    simp only [Exit.jump]
    refine bodyPost_ret (v := .tuple #[.agg #[.slice A3 n3 c3, .int .i64 x.fl, .int .i64 x.dr, .int .i64 x.nw, .bool x.tg], .agg #[.int .i64 q.call, .int .u8 q.kind, .int .u8 3, .int .i64 0, .slice none 0 0, .bool false]]) (by simp [results, Try.results9, go_sem, j0, j1, j2, j3, j4, i0, i1, i2, i3, i4, i5]) rfl ?_
    exact ⟨A3, n3, c3, rfl, P3.out, P4.out⟩
  case first =>
    go_wp2_with fail
    rw [HVe.out]
    clear HVe
    have HC := Lib.hid ((Below.refl V.heap.size V).drew)
    have HL := Lib.hid (fun W (hW : Below V.heap.size V W) => (HD.out.under hW).ask.cells)
    refine wp_region_held_drew (S := fun W => Below V.heap.size V W) (by kernel_rfl) HC.out (fun _ => ?_)
    refine takeH (i := 1) (v := ?_) rfl (by kernel_rfl) (by kernel_rfl) (by kernel_rfl) (fun _ _ _ h => h) (by rfl) ?_ HC.out ?_
    rotate_left
    · intro W hW; obtain ⟨e0, e1, e2, e3, e4, e5⟩ := HL.out W hW; go_simp <;> with_reducible rfl
    simp only [Act.put, List.setIfInBounds_toArray, List.set_cons_zero, List.set_cons_succ]
    refine takeH (i := 2) (v := ?_) rfl (by kernel_rfl) (by kernel_rfl) (by kernel_rfl) (fun _ _ _ h => h) (by rfl) ?_ HC.out ?_
    rotate_left
    · intro W hW; obtain ⟨e0, e1, e2, e3, e4, e5⟩ := HL.out W hW; go_simp <;> with_reducible rfl
    simp only [Act.put, List.setIfInBounds_toArray, List.set_cons_zero, List.set_cons_succ]
    refine oneH (i := 0) rfl (by kernel_rfl) (by rfl) (fun K hK => ?_)
    go_simp
    go_at_call 24
    refine (deeds_any _).mono ?_
    rintro e y1 ⟨rfl, b1, b2, b3, b4, b5, b6, b7, b8, hm, hF, b9⟩
    have hm2 : DsMap y1 V.heap.size 6 (dsD b1 b3 b4 b6 b8) := hm
    have hF2 : DeedFns V.heap.size b1 b2 b3 b4 b5 b6 b7 b8 y1 := hF
    clear hm hF
    obtain ⟨v, ps, hrun, hv⟩ := World.ownsMap.lookup hm2 (int_keyed Try.underlying5) Try.underlying50 (z := .nilFunc) (by kernel_rfl) (zd := .held .nilFunc) (zp := []) rfl (keyOf_int_mk (q := .u8) (a := q.kind) Try.underlying5 HKW.out)
    rw [dsD_at] at hv
    have ev : v = deedV b1 b3 b4 b6 b8 q.kind := by simpa [deedR] using (congrArg (fun o => o.map Prod.fst) hv)
    subst ev
    have HF := Lib.hid hF2
    clear hm2 hv hF2
    have HC2 := Lib.hid (HC.out.trans (b9.mono HC.out.size))
    clear HC b9
    have HC := HC2
    clear HC2
    refine hK.out _ _ HC.out (fun _ => ?_)
    clear hK K
    refine oneH (i := 3) rfl (by kernel_rfl) (by rfl) (fun K hK => ?_)
    go_simp
    refine hK.out _ _ HC.out (fun _ => ?_)
    clear hK K hrun
    refine oneH (i := 4) rfl (by kernel_rfl) (by rfl) (fun K hK => ?_)
    go_simp
    refine hK.out _ _ HC.out (fun _ => ?_)
    clear hK K
    refine wpAnyH_done (by kernel_rfl) ?_ _
    have hD1 := HD.out.under HC.out
    have hX1 := HX.out.under HC.out
    have hr1 := HR.out.below (HC.out.mono (Nat.le_trans HBB.out HV.out.size))
    have B1 := Lib.hid (HV.out.trans (HC.out.mono HV.out.size))
    have hls : w.heap.size < V.heap.size := by have := HS.out; omega
    have hlb : w.heap.size + 1 + 1 + 1 + 1 < y1.heap.size := by have h8 := HS.out; have h9 := HC.out.size; omega
    have HOw := Lib.hid (own_anyX A n c x B y1 hr1 (Nat.le_trans HBB.out B1.out.size) hn)
    have d0 := hX1.cell 0
    have d1 := hX1.cell 1
    have d2 := hX1.cell 2
    have d3 := hX1.cell 3
    have d4 := hX1.cell 4
    simp only [List.getElem?_toArray, List.getElem?_cons_zero, List.getElem?_cons_succ] at d0 d1 d2 d3 d4
    have HX1 := Lib.hid hX1
    have HD1 := Lib.hid hD1
    clear hX1 hD1 hr1 HL HC HX HD HR HBB HV HS HKW
    obtain ⟨f, lb, hdv⟩ := deedV_fun (b1 := b1) (b3 := b3) (b4 := b4) (b6 := b6) (b8 := b8) HK.out
    have hkb : (q.kind == 1) = true := by have h9 := HKB.out; rw [beq_iff_eq]; exact h9
    rw [hdv]
    clear hdv
    go_wp2_with fail
    refine (HOw.out).mono ?_
    rintro e y2 ⟨A2, c2, rfl, o2, b2⟩
    unfold cwV
    have hX2 := HX1.out.under b2
    have k0 := hX2.cell 0
    have k1 := hX2.cell 1
    have k2 := hX2.cell 2
    have k3 := hX2.cell 3
    have k4 := hX2.cell 4
    simp only [List.getElem?_toArray, List.getElem?_cons_zero, List.getElem?_cons_succ] at k0 k1 k2 k3 k4
    have z0 := hX2.frozen 0
    have z1 := hX2.frozen 1
    have z2 := hX2.frozen 2
    have z3 := hX2.frozen 3
    have z4 := hX2.frozen 4
    have H5 := Lib.hid (store5 hX2 o2 (HD1.out.under b2) (HF.out.under b2) (B1.out.trans (b2.mono B1.out.size)) (by omega) b2.size hls)
    have HLb := Lib.hid hlb
    clear HX1 HD1 HF B1 o2 b2 hX2 d0 d1 d2 d3 d4 HOw hls hlb
    obtain ⟨y3, hy3, hC3, hD3, hF3, hB3⟩ := H5.out
    clear H5
    obtain ⟨e0, e1, e2, e3, e4, e5⟩ := hD3.ask.cells
    obtain ⟨t0, t1, t2, t3, t4, t5⟩ := hD3.tels
    have tf2 := hD3.tel.frozen 2
    have tf3 := hD3.tel.frozen 3
    have HC3 := Lib.hid hC3
    have HD3 := Lib.hid hD3
    have HF3 := Lib.hid hF3
    have HB3 := Lib.hid hB3
    clear hC3 hD3 hF3 hB3
    have hnf := fun (W : World) => eq_fun f lb W
    obtain ⟨y4, hy4⟩ : ∃ W, y3.setCell ⟨w.heap.size + 1 + 1 + 1 + 1, 3, none⟩ (.int .i64 0) = W := ⟨_, rfl⟩
    have hD4 := HD3.out.setI 0
    have hC4 : Clu y4 y1.heap.size w.heap.size A2 n c2 x := by rw [← hy4]; exact HC3.out.off (p := ⟨w.heap.size + 1 + 1 + 1 + 1, 3, none⟩) (by show w.heap.size ≠ w.heap.size + 1 + 1 + 1 + 1; omega) HLb.out _
    have hB4 := HB3.out.setCell (p := ⟨w.heap.size + 1 + 1 + 1 + 1, 3, none⟩) (by show w.heap.size ≤ w.heap.size + 1 + 1 + 1 + 1; omega) (.int .i64 0)
    have hF4 := HF3.out.far (p := ⟨w.heap.size + 1 + 1 + 1 + 1, 3, none⟩) (by show w.heap.size + 1 + 1 + 1 + 1 < V.heap.size; have := HS2.out; omega) (.int .i64 0)
    rw [hy4] at hD4 hB4 hF4
    obtain ⟨g0, g1, g2, g3, g4⟩ := hC4.cells
    have HRt := Lib.hid (right_any A2 n c2 x y4.heap.size y4 hC4.rd (Nat.le_refl _))
    rw [HRV.out] at HRt
    have HC4 := Lib.hid hC4
    have HD4 := Lib.hid hD4
    have HB4 := Lib.hid hB4
    have HF4 := Lib.hid hF4
    clear hC4 hD4 hB4 hF4 HC3 HD3 HB3 HF3
    go_wp2_with fail
    refine (HRt.out).mono ?_
    rintro e y5 ⟨rfl, b5⟩
    have HC5 := Lib.hid (HC4.out.under b5)
    have HD5 := Lib.hid (HD4.out.under b5)
    have HB5 := Lib.hid (HB4.out.trans (b5.mono HB4.out.size))
    have HF5 := Lib.hid (HF4.out.under b5)
    clear HC4 HD4 HB4 HF4 HRt b5 g0 g1 g2 g3 g4 e0 e1 e2 e3 e4 e5 t0 t1 t2 t3 t4 t5 tf2 tf3 hkb hnf hy3 k0 k1 k2 k3 k4 z0 z1 z2 z3 z4 hy4
    go_wp2_with fail
    go_step3
    exact ⟨rfl, _, _, _, _, _, _, _, _, _, _, _, _, _, _, _, _, _, _, _, _, _, _, _, _, _, _, _, _, _, _, _, _, _, _, _, _, _, rfl, HD5.out, ⟨_, _, _, _, HC5.out, HLb.out⟩, HB5.out⟩

set_option maxRecDepth 100000 in
set_option maxHeartbeats 4000000 in
theorem do_ok1 {L : List Bx} {K I : Int} (hr : RdX w B A n x.l) (hB : B ≤ w.heap.size) (hn : n ≤ 1000) (hkw : (Lit.int .u8 q.kind).wf = true) (hk : (q.kind = 1 ∨ q.kind = 2 ∨ q.kind = 3 ∨ q.kind = 4 ∨ q.kind = 5 ∨ q.kind = 6)) (hk1 : q.kind = 1) (hrv : right x = true) (hdo : doP x q = (L, K, I)) :
    Calls Try.prog 9 #[.agg #[.slice A n c, .int .i64 x.fl, .int .i64 x.dr, .int .i64 x.nw, .bool x.tg], .agg #[.int .u8 q.kind, .int .i64 q.call, .int .i64 q.a, .int .i64 q.b, .int .i64 q.c, .int .i64 q.d]] w (DoPost x q L K I w) := by
  have hb5 : Below w.heap.size w (((((w.alloc (.cells #[.slice A n c, .int .i64 x.fl, .int .i64 x.dr, .int .i64 x.nw, .bool x.tg] 24)).alloc (.cells #[.int .u8 q.kind, .int .i64 q.call, .int .i64 q.a, .int .i64 q.b, .int .i64 q.c, .int .i64 q.d] 26)).alloc (.cells #[.slice none 0 0, .int .i64 0, .int .i64 0, .int .i64 0, .bool false] 24)).alloc (.cells #[.int .i64 0, .int .u8 0, .int .u8 0, .int .i64 0, .slice none 0 0, .bool false] 30)).alloc (.cells #[.int .i64 q.call, .int .u8 q.kind, .int .u8 3, .int .i64 q.a, .slice none 0 0, .bool false] 30)) := (((((Below.refl _ w).alloc (Nat.le_refl _) _).alloc (by simp) _).alloc (by simp; omega) _).alloc (by simp; omega) _).alloc (by simp; omega) _
  obtain ⟨V, hV⟩ : ∃ V, (((((w.alloc (.cells #[.slice A n c, .int .i64 x.fl, .int .i64 x.dr, .int .i64 x.nw, .bool x.tg] 24)).alloc (.cells #[.int .u8 q.kind, .int .i64 q.call, .int .i64 q.a, .int .i64 q.b, .int .i64 q.c, .int .i64 q.d] 26)).alloc (.cells #[.slice none 0 0, .int .i64 0, .int .i64 0, .int .i64 0, .bool false] 24)).alloc (.cells #[.int .i64 0, .int .u8 0, .int .u8 0, .int .i64 0, .slice none 0 0, .bool false] 30)).alloc (.cells #[.int .i64 q.call, .int .u8 q.kind, .int .u8 3, .int .i64 q.a, .slice none 0 0, .bool false] 30)) = V := ⟨_, rfl⟩
  have hsV : V.heap.size = w.heap.size + 1 + 1 + 1 + 1 + 1 := by rw [← hV]; simp
  have hD : DoSt w q 3 q.a V := by
    rw [← hV]
    refine ⟨?_, ?_, ?_, ?_⟩
    · have := (((Whole.new (w.alloc (.cells #[.slice A n c, .int .i64 x.fl, .int .i64 x.dr, .int .i64 x.nw, .bool x.tg] 24)) 26 #[.int .u8 q.kind, .int .i64 q.call, .int .i64 q.a, .int .i64 q.b, .int .i64 q.c, .int .i64 q.d]).alloc (.cells #[.slice none 0 0, .int .i64 0, .int .i64 0, .int .i64 0, .bool false] 24)).alloc (.cells #[.int .i64 0, .int .u8 0, .int .u8 0, .int .i64 0, .slice none 0 0, .bool false] 30)).alloc (.cells #[.int .i64 q.call, .int .u8 q.kind, .int .u8 3, .int .i64 q.a, .slice none 0 0, .bool false] 30); rwa [World.size_alloc] at this
    · have := ((Whole.new ((w.alloc (.cells #[.slice A n c, .int .i64 x.fl, .int .i64 x.dr, .int .i64 x.nw, .bool x.tg] 24)).alloc (.cells #[.int .u8 q.kind, .int .i64 q.call, .int .i64 q.a, .int .i64 q.b, .int .i64 q.c, .int .i64 q.d] 26)) 24 #[.slice none 0 0, .int .i64 0, .int .i64 0, .int .i64 0, .bool false]).alloc (.cells #[.int .i64 0, .int .u8 0, .int .u8 0, .int .i64 0, .slice none 0 0, .bool false] 30)).alloc (.cells #[.int .i64 q.call, .int .u8 q.kind, .int .u8 3, .int .i64 q.a, .slice none 0 0, .bool false] 30); rwa [World.size_alloc, World.size_alloc] at this
    · have := (Whole.new (((w.alloc (.cells #[.slice A n c, .int .i64 x.fl, .int .i64 x.dr, .int .i64 x.nw, .bool x.tg] 24)).alloc (.cells #[.int .u8 q.kind, .int .i64 q.call, .int .i64 q.a, .int .i64 q.b, .int .i64 q.c, .int .i64 q.d] 26)).alloc (.cells #[.slice none 0 0, .int .i64 0, .int .i64 0, .int .i64 0, .bool false] 24)) 30 #[.int .i64 0, .int .u8 0, .int .u8 0, .int .i64 0, .slice none 0 0, .bool false]).alloc (.cells #[.int .i64 q.call, .int .u8 q.kind, .int .u8 3, .int .i64 q.a, .slice none 0 0, .bool false] 30); rwa [World.size_alloc, World.size_alloc, World.size_alloc] at this
    · have := Whole.new ((((w.alloc (.cells #[.slice A n c, .int .i64 x.fl, .int .i64 x.dr, .int .i64 x.nw, .bool x.tg] 24)).alloc (.cells #[.int .u8 q.kind, .int .i64 q.call, .int .i64 q.a, .int .i64 q.b, .int .i64 q.c, .int .i64 q.d] 26)).alloc (.cells #[.slice none 0 0, .int .i64 0, .int .i64 0, .int .i64 0, .bool false] 24)).alloc (.cells #[.int .i64 0, .int .u8 0, .int .u8 0, .int .i64 0, .slice none 0 0, .bool false] 30)) 30 #[.int .i64 q.call, .int .u8 q.kind, .int .u8 3, .int .i64 q.a, .slice none 0 0, .bool false]; rwa [World.size_alloc, World.size_alloc, World.size_alloc, World.size_alloc] at this
  have hX : Whole V w.heap.size 24 #[.slice A n c, .int .i64 x.fl, .int .i64 x.dr, .int .i64 x.nw, .bool x.tg] := by rw [← hV]; exact ((((Whole.new w _ _).alloc _).alloc _).alloc _).alloc _
  rw [hV] at hb5
  have HD := Lib.hid hD
  have HX := Lib.hid hX
  have HV := Lib.hid hb5
  have HS := Lib.hid hsV
  have HR := Lib.hid (hr.below (hb5.mono hB))
  have HBB := Lib.hid hB
  have HKW := Lib.hid hkw
  have HVe := Lib.hid hV
  clear hV
  have HK := Lib.hid hk
  have HKB := Lib.hid hk1
  have HRV := Lib.hid hrv
  have HS2 := Lib.hid hsV
  have HDo := Lib.hid hdo
  clear hr hB hb5 hsV hD hX hkw hk hk1 hrv hdo
  go_enter Try.func9, Try.ntmps9
  go_wp2_with fail
  refine wp_scope_fwd 0 (fun _ _ => False) rfl ?first ?tail
  case tail => exact fun _ _ h => h.elim
  case first =>
    go_wp2_with fail
    rw [HVe.out]
    clear HVe
    have HC := Lib.hid ((Below.refl V.heap.size V).drew)
    have HL := Lib.hid (fun W (hW : Below V.heap.size V W) => (HD.out.under hW).ask.cells)
    refine wp_region_held_drew (S := fun W => Below V.heap.size V W) (by kernel_rfl) HC.out (fun _ => ?_)
    refine takeH (i := 1) (v := ?_) rfl (by kernel_rfl) (by kernel_rfl) (by kernel_rfl) (fun _ _ _ h => h) (by rfl) ?_ HC.out ?_
    rotate_left
    · intro W hW; obtain ⟨e0, e1, e2, e3, e4, e5⟩ := HL.out W hW; go_simp <;> with_reducible rfl
    simp only [Act.put, List.setIfInBounds_toArray, List.set_cons_zero, List.set_cons_succ]
    refine takeH (i := 2) (v := ?_) rfl (by kernel_rfl) (by kernel_rfl) (by kernel_rfl) (fun _ _ _ h => h) (by rfl) ?_ HC.out ?_
    rotate_left
    · intro W hW; obtain ⟨e0, e1, e2, e3, e4, e5⟩ := HL.out W hW; go_simp <;> with_reducible rfl
    simp only [Act.put, List.setIfInBounds_toArray, List.set_cons_zero, List.set_cons_succ]
    refine oneH (i := 0) rfl (by kernel_rfl) (by rfl) (fun K hK => ?_)
    go_simp
    go_at_call 24
    refine (deeds_any _).mono ?_
    rintro e y1 ⟨rfl, b1, b2, b3, b4, b5, b6, b7, b8, hm, hF, b9⟩
    have hm2 : DsMap y1 V.heap.size 6 (dsD b1 b3 b4 b6 b8) := hm
    have hF2 : DeedFns V.heap.size b1 b2 b3 b4 b5 b6 b7 b8 y1 := hF
    clear hm hF
    obtain ⟨v, ps, hrun, hv⟩ := World.ownsMap.lookup hm2 (int_keyed Try.underlying5) Try.underlying50 (z := .nilFunc) (by kernel_rfl) (zd := .held .nilFunc) (zp := []) rfl (keyOf_int_mk (q := .u8) (a := q.kind) Try.underlying5 HKW.out)
    rw [dsD_at] at hv
    have ev : v = deedV b1 b3 b4 b6 b8 q.kind := by simpa [deedR] using (congrArg (fun o => o.map Prod.fst) hv)
    subst ev
    have HF := Lib.hid hF2
    clear hm2 hv hF2
    have HC2 := Lib.hid (HC.out.trans (b9.mono HC.out.size))
    clear HC b9
    have HC := HC2
    clear HC2
    refine hK.out _ _ HC.out (fun _ => ?_)
    clear hK K
    refine oneH (i := 3) rfl (by kernel_rfl) (by rfl) (fun K hK => ?_)
    go_simp
    refine hK.out _ _ HC.out (fun _ => ?_)
    clear hK K hrun
    refine oneH (i := 4) rfl (by kernel_rfl) (by rfl) (fun K hK => ?_)
    go_simp
    refine hK.out _ _ HC.out (fun _ => ?_)
    clear hK K
    refine wpAnyH_done (by kernel_rfl) ?_ _
    have hD1 := HD.out.under HC.out
    have hX1 := HX.out.under HC.out
    have hr1 := HR.out.below (HC.out.mono (Nat.le_trans HBB.out HV.out.size))
    have B1 := Lib.hid (HV.out.trans (HC.out.mono HV.out.size))
    have hls : w.heap.size < V.heap.size := by have := HS.out; omega
    have hlb : w.heap.size + 1 + 1 + 1 + 1 < y1.heap.size := by have h8 := HS.out; have h9 := HC.out.size; omega
    have HOw := Lib.hid (own_anyX A n c x B y1 hr1 (Nat.le_trans HBB.out B1.out.size) hn)
    have d0 := hX1.cell 0
    have d1 := hX1.cell 1
    have d2 := hX1.cell 2
    have d3 := hX1.cell 3
    have d4 := hX1.cell 4
    simp only [List.getElem?_toArray, List.getElem?_cons_zero, List.getElem?_cons_succ] at d0 d1 d2 d3 d4
    have HX1 := Lib.hid hX1
    have HD1 := Lib.hid hD1
    clear hX1 hD1 hr1 HL HC HX HD HR HBB HV HS HKW
    obtain ⟨f, lb, hdv⟩ := deedV_fun (b1 := b1) (b3 := b3) (b4 := b4) (b6 := b6) (b8 := b8) HK.out
    have hkb : (q.kind == 1) = true := by have h9 := HKB.out; rw [beq_iff_eq]; exact h9
    rw [hdv]
    have HDV := Lib.hid hdv
    clear hdv
    go_wp2_with fail
    refine (HOw.out).mono ?_
    rintro e y2 ⟨A2, c2, rfl, o2, b2⟩
    unfold cwV
    have hX2 := HX1.out.under b2
    have k0 := hX2.cell 0
    have k1 := hX2.cell 1
    have k2 := hX2.cell 2
    have k3 := hX2.cell 3
    have k4 := hX2.cell 4
    simp only [List.getElem?_toArray, List.getElem?_cons_zero, List.getElem?_cons_succ] at k0 k1 k2 k3 k4
    have z0 := hX2.frozen 0
    have z1 := hX2.frozen 1
    have z2 := hX2.frozen 2
    have z3 := hX2.frozen 3
    have z4 := hX2.frozen 4
    have H5 := Lib.hid (store5 hX2 o2 (HD1.out.under b2) (HF.out.under b2) (B1.out.trans (b2.mono B1.out.size)) (by omega) b2.size hls)
    have HLb := Lib.hid hlb
    clear HX1 HD1 HF B1 o2 b2 hX2 d0 d1 d2 d3 d4 HOw hls hlb
    obtain ⟨y3, hy3, hC3, hD3, hF3, hB3⟩ := H5.out
    clear H5
    obtain ⟨e0, e1, e2, e3, e4, e5⟩ := hD3.ask.cells
    obtain ⟨t0, t1, t2, t3, t4, t5⟩ := hD3.tels
    have tf2 := hD3.tel.frozen 2
    have tf3 := hD3.tel.frozen 3
    have HC3 := Lib.hid hC3
    have HD3 := Lib.hid hD3
    have HF3 := Lib.hid hF3
    have HB3 := Lib.hid hB3
    clear hC3 hD3 hF3 hB3
    have hnf := fun (W : World) => eq_fun f lb W
    obtain ⟨y4, hy4⟩ : ∃ W, y3.setCell ⟨w.heap.size + 1 + 1 + 1 + 1, 3, none⟩ (.int .i64 0) = W := ⟨_, rfl⟩
    have hD4 := HD3.out.setI 0
    have hC4 : Clu y4 y1.heap.size w.heap.size A2 n c2 x := by rw [← hy4]; exact HC3.out.off (p := ⟨w.heap.size + 1 + 1 + 1 + 1, 3, none⟩) (by show w.heap.size ≠ w.heap.size + 1 + 1 + 1 + 1; omega) HLb.out _
    have hB4 := HB3.out.setCell (p := ⟨w.heap.size + 1 + 1 + 1 + 1, 3, none⟩) (by show w.heap.size ≤ w.heap.size + 1 + 1 + 1 + 1; omega) (.int .i64 0)
    have hF4 := HF3.out.far (p := ⟨w.heap.size + 1 + 1 + 1 + 1, 3, none⟩) (by show w.heap.size + 1 + 1 + 1 + 1 < V.heap.size; have := HS2.out; omega) (.int .i64 0)
    rw [hy4] at hD4 hB4 hF4
    obtain ⟨g0, g1, g2, g3, g4⟩ := hC4.cells
    have HRt := Lib.hid (right_any A2 n c2 x y4.heap.size y4 hC4.rd (Nat.le_refl _))
    rw [HRV.out] at HRt
    have HC4 := Lib.hid hC4
    have HD4 := Lib.hid hD4
    have HB4 := Lib.hid hB4
    have HF4 := Lib.hid hF4
    clear hC4 hD4 hB4 hF4 HC3 HD3 HB3 HF3
    go_wp2_with fail
    refine (HRt.out).mono ?_
    rintro e y5 ⟨rfl, b5⟩
    have HC5 := Lib.hid (HC4.out.under b5)
    have HD5 := Lib.hid (HD4.out.under b5)
    have HB5 := Lib.hid (HB4.out.trans (b5.mono HB4.out.size))
    have HF5 := Lib.hid (HF4.out.under b5)
    clear HC4 HD4 HB4 HF4 HRt b5 g0 g1 g2 g3 g4 e0 e1 e2 e3 e4 e5 t0 t1 t2 t3 t4 t5 tf2 tf3 hkb hnf hy3 k0 k1 k2 k3 k4 z0 z1 z2 z3 z4 hy4
    obtain ⟨f', lb', hdv', hf', hdeed⟩ := deed_any HC5.out hn HRV.out HF5.out HK.out
    rw [HDV.out] at hdv'
    simp only [Value.func.injEq, Fn.func.injEq, true_and] at hdv'
    obtain ⟨rfl, rfl⟩ := hdv'
    obtain ⟨e0, e1, e2, e3, e4, e5⟩ := HD5.out.ask.cells
    rw [HDo.out] at hdeed
    have HDd := Lib.hid hdeed
    clear hdeed
    go_wp2_with fail
    refine (HDd.out).mono ?_
    rintro e y6 ⟨rfl, ⟨A3, n3, c3, h6⟩, but6⟩
    have D6 := HD5.out.but but6 HLb.out
    have hB6 := HB5.out.trans (but6.below (B := w.heap.size) (by have := HLb.out; omega) (Nat.le_refl _))
    obtain ⟨y8, hy8⟩ : ∃ W, (y6.setCell ⟨w.heap.size + 1 + 1 + 1 + 1, 2, none⟩ (.int .u8 K)).setCell ⟨w.heap.size + 1 + 1 + 1 + 1, 3, none⟩ (.int .i64 I) = W := ⟨_, rfl⟩
    have h8 := (h6.off (p := ⟨w.heap.size + 1 + 1 + 1 + 1, 2, none⟩) (by show w.heap.size ≠ w.heap.size + 1 + 1 + 1 + 1; omega) HLb.out (.int .u8 K)).off (p := ⟨w.heap.size + 1 + 1 + 1 + 1, 3, none⟩) (by show w.heap.size ≠ w.heap.size + 1 + 1 + 1 + 1; omega) HLb.out (.int .i64 I)
    have D8 := (D6.setK K).setI I
    have hB8 := (hB6.setCell (p := ⟨w.heap.size + 1 + 1 + 1 + 1, 2, none⟩) (by show w.heap.size ≤ w.heap.size + 1 + 1 + 1 + 1; omega) (.int .u8 K)).setCell (p := ⟨w.heap.size + 1 + 1 + 1 + 1, 3, none⟩) (by show w.heap.size ≤ w.heap.size + 1 + 1 + 1 + 1; omega) (.int .i64 I)
    rw [hy8] at h8 D8 hB8
    obtain ⟨t0, t1, t2, t3, t4, t5⟩ := D6.tels
    have tf2 := D6.tel.frozen 2
    have tf3 := D6.tel.frozen 3
    have H3 := Lib.hid D8
    have B3 := Lib.hid hB8
    have HC := Lib.hid h8
    clear h6 but6 D6 hB6 h8 D8 hB8 HDd HD5 HB5 HC5 HF5 e0 e1 e2 e3 e4 e5
    go_wp2_with fail
    clear hy8 t0 t1 t2 t3 t4 t5 tf2 tf3
    obtain ⟨t0, t1, t2, t3, t4, t5⟩ := H3.out.tels
    obtain ⟨r0, r1, r2, r3, r4, r5⟩ := H3.out.rets
    obtain ⟨s0, s1, s2, s3, s4⟩ := H3.out.ress
    obtain ⟨d0, d1, d2, d3, d4⟩ := HC.out.cells
    have z0 := H3.out.res.frozen 0
    have z1 := H3.out.res.frozen 1
    have z2 := H3.out.res.frozen 2
    have z3 := H3.out.res.frozen 3
    have z4 := H3.out.res.frozen 4
    have y0 := H3.out.ret.frozen 0
    have y1 := H3.out.ret.frozen 1
    have y2 := H3.out.ret.frozen 2
    have y3 := H3.out.ret.frozen 3
    have y4 := H3.out.ret.frozen 4
    have y5 := H3.out.ret.frozen 5
    go_step3
    go_wp2_with fail
    go_region
    obtain ⟨W9, hW9, p1, p2, p3, p4⟩ := fin11 H3.out HC.out HLb.out B3.out
    rw [hW9]
    have p1' : Whole W9.drew (w.heap.size + 1 + 1) 24 _ := p1
    have p2' : Whole W9.drew (w.heap.size + 1 + 1 + 1) 30 _ := p2
    have p3' : RdX W9.drew W9.drew.heap.size A3 n3 L := show RdX W9.drew W9.heap.size A3 n3 _ from p3.below (Below.refl _ _).drew
    have p4' := p4.drew
    obtain ⟨j0, j1, j2, j3, j4⟩ := (⟨p1'.cell 0, p1'.cell 1, p1'.cell 2, p1'.cell 3, p1'.cell 4⟩ : _ ∧ _ ∧ _ ∧ _ ∧ _)
    obtain ⟨i0, i1, i2, i3, i4, i5⟩ := (⟨p2'.cell 0, p2'.cell 1, p2'.cell 2, p2'.cell 3, p2'.cell 4, p2'.cell 5⟩ : _ ∧ _ ∧ _ ∧ _ ∧ _ ∧ _)
    simp only [List.getElem?_toArray, List.getElem?_cons_zero, List.getElem?_cons_succ] at j0 j1 j2 j3 j4 i0 i1 i2 i3 i4 i5
    have P3 := Lib.hid p3'
    have P4 := Lib.hid p4'
    clear hW9 p1 p2 p3 p4 p1' p2' p3' p4' t0 t1 t2 t3 t4 t5 r0 r1 r2 r3 r4 r5 s0 s1 s2 s3 s4 d0 d1 d2 d3 d4 z0 z1 z2 z3 z4 y0 y1 y2 y3 y4 y5
    go_wp2_with fail
    simp only [Exit.jump]
    refine bodyPost_ret (v := .tuple #[.agg #[.slice A3 n3 c3, .int .i64 x.fl, .int .i64 x.dr, .int .i64 x.nw, .bool x.tg], .agg #[.int .i64 q.call, .int .u8 q.kind, .int .u8 K, .int .i64 I, .slice none 0 0, .bool false]]) (by simp [results, Try.results9, go_sem, j0, j1, j2, j3, j4, i0, i1, i2, i3, i4, i5]) rfl ?_
    exact ⟨A3, n3, c3, rfl, P3.out, P4.out⟩

set_option maxRecDepth 100000 in
set_option maxHeartbeats 4000000 in
theorem do_badk (hr : RdX w B A n x.l) (hB : B ≤ w.heap.size) (hn : n ≤ 1000) (hkw : (Lit.int .u8 q.kind).wf = true) (hk : (q.kind = 1 ∨ q.kind = 2 ∨ q.kind = 3 ∨ q.kind = 4 ∨ q.kind = 5 ∨ q.kind = 6)) (hk1 : ¬ q.kind = 1) (hrv : right x = false) :
    Calls Try.prog 9 #[.agg #[.slice A n c, .int .i64 x.fl, .int .i64 x.dr, .int .i64 x.nw, .bool x.tg], .agg #[.int .u8 q.kind, .int .i64 q.call, .int .i64 q.a, .int .i64 q.b, .int .i64 q.c, .int .i64 q.d]] w (DoPost x q x.l 3 q.a w) := by
  have hb5 : Below w.heap.size w (((((w.alloc (.cells #[.slice A n c, .int .i64 x.fl, .int .i64 x.dr, .int .i64 x.nw, .bool x.tg] 24)).alloc (.cells #[.int .u8 q.kind, .int .i64 q.call, .int .i64 q.a, .int .i64 q.b, .int .i64 q.c, .int .i64 q.d] 26)).alloc (.cells #[.slice none 0 0, .int .i64 0, .int .i64 0, .int .i64 0, .bool false] 24)).alloc (.cells #[.int .i64 0, .int .u8 0, .int .u8 0, .int .i64 0, .slice none 0 0, .bool false] 30)).alloc (.cells #[.int .i64 q.call, .int .u8 q.kind, .int .u8 3, .int .i64 q.a, .slice none 0 0, .bool false] 30)) := (((((Below.refl _ w).alloc (Nat.le_refl _) _).alloc (by simp) _).alloc (by simp; omega) _).alloc (by simp; omega) _).alloc (by simp; omega) _
  obtain ⟨V, hV⟩ : ∃ V, (((((w.alloc (.cells #[.slice A n c, .int .i64 x.fl, .int .i64 x.dr, .int .i64 x.nw, .bool x.tg] 24)).alloc (.cells #[.int .u8 q.kind, .int .i64 q.call, .int .i64 q.a, .int .i64 q.b, .int .i64 q.c, .int .i64 q.d] 26)).alloc (.cells #[.slice none 0 0, .int .i64 0, .int .i64 0, .int .i64 0, .bool false] 24)).alloc (.cells #[.int .i64 0, .int .u8 0, .int .u8 0, .int .i64 0, .slice none 0 0, .bool false] 30)).alloc (.cells #[.int .i64 q.call, .int .u8 q.kind, .int .u8 3, .int .i64 q.a, .slice none 0 0, .bool false] 30)) = V := ⟨_, rfl⟩
  have hsV : V.heap.size = w.heap.size + 1 + 1 + 1 + 1 + 1 := by rw [← hV]; simp
  have hD : DoSt w q 3 q.a V := by
    rw [← hV]
    refine ⟨?_, ?_, ?_, ?_⟩
    · have := (((Whole.new (w.alloc (.cells #[.slice A n c, .int .i64 x.fl, .int .i64 x.dr, .int .i64 x.nw, .bool x.tg] 24)) 26 #[.int .u8 q.kind, .int .i64 q.call, .int .i64 q.a, .int .i64 q.b, .int .i64 q.c, .int .i64 q.d]).alloc (.cells #[.slice none 0 0, .int .i64 0, .int .i64 0, .int .i64 0, .bool false] 24)).alloc (.cells #[.int .i64 0, .int .u8 0, .int .u8 0, .int .i64 0, .slice none 0 0, .bool false] 30)).alloc (.cells #[.int .i64 q.call, .int .u8 q.kind, .int .u8 3, .int .i64 q.a, .slice none 0 0, .bool false] 30); rwa [World.size_alloc] at this
    · have := ((Whole.new ((w.alloc (.cells #[.slice A n c, .int .i64 x.fl, .int .i64 x.dr, .int .i64 x.nw, .bool x.tg] 24)).alloc (.cells #[.int .u8 q.kind, .int .i64 q.call, .int .i64 q.a, .int .i64 q.b, .int .i64 q.c, .int .i64 q.d] 26)) 24 #[.slice none 0 0, .int .i64 0, .int .i64 0, .int .i64 0, .bool false]).alloc (.cells #[.int .i64 0, .int .u8 0, .int .u8 0, .int .i64 0, .slice none 0 0, .bool false] 30)).alloc (.cells #[.int .i64 q.call, .int .u8 q.kind, .int .u8 3, .int .i64 q.a, .slice none 0 0, .bool false] 30); rwa [World.size_alloc, World.size_alloc] at this
    · have := (Whole.new (((w.alloc (.cells #[.slice A n c, .int .i64 x.fl, .int .i64 x.dr, .int .i64 x.nw, .bool x.tg] 24)).alloc (.cells #[.int .u8 q.kind, .int .i64 q.call, .int .i64 q.a, .int .i64 q.b, .int .i64 q.c, .int .i64 q.d] 26)).alloc (.cells #[.slice none 0 0, .int .i64 0, .int .i64 0, .int .i64 0, .bool false] 24)) 30 #[.int .i64 0, .int .u8 0, .int .u8 0, .int .i64 0, .slice none 0 0, .bool false]).alloc (.cells #[.int .i64 q.call, .int .u8 q.kind, .int .u8 3, .int .i64 q.a, .slice none 0 0, .bool false] 30); rwa [World.size_alloc, World.size_alloc, World.size_alloc] at this
    · have := Whole.new ((((w.alloc (.cells #[.slice A n c, .int .i64 x.fl, .int .i64 x.dr, .int .i64 x.nw, .bool x.tg] 24)).alloc (.cells #[.int .u8 q.kind, .int .i64 q.call, .int .i64 q.a, .int .i64 q.b, .int .i64 q.c, .int .i64 q.d] 26)).alloc (.cells #[.slice none 0 0, .int .i64 0, .int .i64 0, .int .i64 0, .bool false] 24)).alloc (.cells #[.int .i64 0, .int .u8 0, .int .u8 0, .int .i64 0, .slice none 0 0, .bool false] 30)) 30 #[.int .i64 q.call, .int .u8 q.kind, .int .u8 3, .int .i64 q.a, .slice none 0 0, .bool false]; rwa [World.size_alloc, World.size_alloc, World.size_alloc, World.size_alloc] at this
  have hX : Whole V w.heap.size 24 #[.slice A n c, .int .i64 x.fl, .int .i64 x.dr, .int .i64 x.nw, .bool x.tg] := by rw [← hV]; exact ((((Whole.new w _ _).alloc _).alloc _).alloc _).alloc _
  rw [hV] at hb5
  have HD := Lib.hid hD
  have HX := Lib.hid hX
  have HV := Lib.hid hb5
  have HS := Lib.hid hsV
  have HR := Lib.hid (hr.below (hb5.mono hB))
  have HBB := Lib.hid hB
  have HKW := Lib.hid hkw
  have HVe := Lib.hid hV
  clear hV
  have HK := Lib.hid hk
  have HKB := Lib.hid hk1
  have HRV := Lib.hid hrv
  have HS2 := Lib.hid hsV
  clear hr hB hb5 hsV hD hX hkw hk hk1 hrv
  go_enter Try.func9, Try.ntmps9
  go_wp2_with fail
  refine wp_scope_fwd 0 (DoneAt x q x.l 3 q.a w) rfl ?first ?tail
  case tail =>
    rintro a' w' ⟨u0, u1, u7, u8, u9, u10, u11, u12, u13, u14, u15, u16, u17, u18, u19, u20, u21, u22, u23, u24, u25, u26, u27, u28, u29, u30, u31, u32, u33, u34, u35, u36, u37, u38, u39, u40, u41, rfl, h3, ⟨base, A3, n3, c3, hC, hlb⟩, b3⟩
    obtain ⟨t0, t1, t2, t3, t4, t5⟩ := h3.tels
    obtain ⟨r0, r1, r2, r3, r4, r5⟩ := h3.rets
    obtain ⟨s0, s1, s2, s3, s4⟩ := h3.ress
    obtain ⟨d0, d1, d2, d3, d4⟩ := hC.cells
    have z0 := h3.res.frozen 0
    have z1 := h3.res.frozen 1
    have z2 := h3.res.frozen 2
    have z3 := h3.res.frozen 3
    have z4 := h3.res.frozen 4
    have y0 := h3.ret.frozen 0
    have y1 := h3.ret.frozen 1
    have y2 := h3.ret.frozen 2
    have y3 := h3.ret.frozen 3
    have y4 := h3.ret.frozen 4
    have y5 := h3.ret.frozen 5
    have H3 := Lib.hid h3
    have B3 := Lib.hid b3
    have HC := Lib.hid hC
    have HLb := Lib.hid hlb
    clear h3 b3 hC hlb
    go_wp2_with fail
    go_region
    obtain ⟨W9, hW9, p1, p2, p3, p4⟩ := fin11 H3.out HC.out HLb.out B3.out
    rw [hW9]
    have p1' : Whole W9.drew (w.heap.size + 1 + 1) 24 _ := p1
    have p2' : Whole W9.drew (w.heap.size + 1 + 1 + 1) 30 _ := p2
    have p3' : RdX W9.drew W9.drew.heap.size A3 n3 x.l := show RdX W9.drew W9.heap.size A3 n3 _ from p3.below (Below.refl _ _).drew
    have p4' := p4.drew
    obtain ⟨j0, j1, j2, j3, j4⟩ := (⟨p1'.cell 0, p1'.cell 1, p1'.cell 2, p1'.cell 3, p1'.cell 4⟩ : _ ∧ _ ∧ _ ∧ _ ∧ _)
    obtain ⟨i0, i1, i2, i3, i4, i5⟩ := (⟨p2'.cell 0, p2'.cell 1, p2'.cell 2, p2'.cell 3, p2'.cell 4, p2'.cell 5⟩ : _ ∧ _ ∧ _ ∧ _ ∧ _ ∧ _)
    simp only [List.getElem?_toArray, List.getElem?_cons_zero, List.getElem?_cons_succ] at j0 j1 j2 j3 j4 i0 i1 i2 i3 i4 i5
    have P3 := Lib.hid p3'
    have P4 := Lib.hid p4'
    clear hW9 p1 p2 p3 p4 p1' p2' p3' p4' t0 t1 t2 t3 t4 t5 r0 r1 r2 r3 r4 r5 s0 s1 s2 s3 s4 d0 d1 d2 d3 d4 z0 z1 z2 z3 z4 y0 y1 y2 y3 y4 y5
    go_wp2_with fail
    simp only [Exit.jump]
    refine bodyPost_ret (v := .tuple #[.agg #[.slice A3 n3 c3, .int .i64 x.fl, .int .i64 x.dr, .int .i64 x.nw, .bool x.tg], .agg #[.int .i64 q.call, .int .u8 q.kind, .int .u8 3, .int .i64 q.a, .slice none 0 0, .bool false]]) (by simp [results, Try.results9, go_sem, j0, j1, j2, j3, j4, i0, i1, i2, i3, i4, i5]) rfl ?_
    exact ⟨A3, n3, c3, rfl, P3.out, P4.out⟩
  case first =>
    go_wp2_with fail
    rw [HVe.out]
    clear HVe
    have HC := Lib.hid ((Below.refl V.heap.size V).drew)
    have HL := Lib.hid (fun W (hW : Below V.heap.size V W) => (HD.out.under hW).ask.cells)
    refine wp_region_held_drew (S := fun W => Below V.heap.size V W) (by kernel_rfl) HC.out (fun _ => ?_)
    refine takeH (i := 1) (v := ?_) rfl (by kernel_rfl) (by kernel_rfl) (by kernel_rfl) (fun _ _ _ h => h) (by rfl) ?_ HC.out ?_
    rotate_left
    · intro W hW; obtain ⟨e0, e1, e2, e3, e4, e5⟩ := HL.out W hW; go_simp <;> with_reducible rfl
    simp only [Act.put, List.setIfInBounds_toArray, List.set_cons_zero, List.set_cons_succ]
    refine takeH (i := 2) (v := ?_) rfl (by kernel_rfl) (by kernel_rfl) (by kernel_rfl) (fun _ _ _ h => h) (by rfl) ?_ HC.out ?_
    rotate_left
    · intro W hW; obtain ⟨e0, e1, e2, e3, e4, e5⟩ := HL.out W hW; go_simp <;> with_reducible rfl
    simp only [Act.put, List.setIfInBounds_toArray, List.set_cons_zero, List.set_cons_succ]
    refine oneH (i := 0) rfl (by kernel_rfl) (by rfl) (fun K hK => ?_)
    go_simp
    go_at_call 24
    refine (deeds_any _).mono ?_
    rintro e y1 ⟨rfl, b1, b2, b3, b4, b5, b6, b7, b8, hm, hF, b9⟩
    have hm2 : DsMap y1 V.heap.size 6 (dsD b1 b3 b4 b6 b8) := hm
    have hF2 : DeedFns V.heap.size b1 b2 b3 b4 b5 b6 b7 b8 y1 := hF
    clear hm hF
    obtain ⟨v, ps, hrun, hv⟩ := World.ownsMap.lookup hm2 (int_keyed Try.underlying5) Try.underlying50 (z := .nilFunc) (by kernel_rfl) (zd := .held .nilFunc) (zp := []) rfl (keyOf_int_mk (q := .u8) (a := q.kind) Try.underlying5 HKW.out)
    rw [dsD_at] at hv
    have ev : v = deedV b1 b3 b4 b6 b8 q.kind := by simpa [deedR] using (congrArg (fun o => o.map Prod.fst) hv)
    subst ev
    have HF := Lib.hid hF2
    clear hm2 hv hF2
    have HC2 := Lib.hid (HC.out.trans (b9.mono HC.out.size))
    clear HC b9
    have HC := HC2
    clear HC2
    refine hK.out _ _ HC.out (fun _ => ?_)
    clear hK K
    refine oneH (i := 3) rfl (by kernel_rfl) (by rfl) (fun K hK => ?_)
    go_simp
    refine hK.out _ _ HC.out (fun _ => ?_)
    clear hK K hrun
    refine oneH (i := 4) rfl (by kernel_rfl) (by rfl) (fun K hK => ?_)
    go_simp
    refine hK.out _ _ HC.out (fun _ => ?_)
    clear hK K
    refine wpAnyH_done (by kernel_rfl) ?_ _
    have hD1 := HD.out.under HC.out
    have hX1 := HX.out.under HC.out
    have hr1 := HR.out.below (HC.out.mono (Nat.le_trans HBB.out HV.out.size))
    have B1 := Lib.hid (HV.out.trans (HC.out.mono HV.out.size))
    have hls : w.heap.size < V.heap.size := by have := HS.out; omega
    have hlb : w.heap.size + 1 + 1 + 1 + 1 < y1.heap.size := by have h8 := HS.out; have h9 := HC.out.size; omega
    have HOw := Lib.hid (own_anyX A n c x B y1 hr1 (Nat.le_trans HBB.out B1.out.size) hn)
    have d0 := hX1.cell 0
    have d1 := hX1.cell 1
    have d2 := hX1.cell 2
    have d3 := hX1.cell 3
    have d4 := hX1.cell 4
    simp only [List.getElem?_toArray, List.getElem?_cons_zero, List.getElem?_cons_succ] at d0 d1 d2 d3 d4
    have HX1 := Lib.hid hX1
    have HD1 := Lib.hid hD1
    clear hX1 hD1 hr1 HL HC HX HD HR HBB HV HS HKW
    obtain ⟨f, lb, hdv⟩ := deedV_fun (b1 := b1) (b3 := b3) (b4 := b4) (b6 := b6) (b8 := b8) HK.out
    have hkb : (q.kind == 1) = false := by have h9 := HKB.out; rw [beq_eq_false_iff_ne]; exact h9
    rw [hdv]
    clear hdv
    go_wp2_with fail
    refine (HOw.out).mono ?_
    rintro e y2 ⟨A2, c2, rfl, o2, b2⟩
    unfold cwV
    have hX2 := HX1.out.under b2
    have k0 := hX2.cell 0
    have k1 := hX2.cell 1
    have k2 := hX2.cell 2
    have k3 := hX2.cell 3
    have k4 := hX2.cell 4
    simp only [List.getElem?_toArray, List.getElem?_cons_zero, List.getElem?_cons_succ] at k0 k1 k2 k3 k4
    have z0 := hX2.frozen 0
    have z1 := hX2.frozen 1
    have z2 := hX2.frozen 2
    have z3 := hX2.frozen 3
    have z4 := hX2.frozen 4
    have H5 := Lib.hid (store5 hX2 o2 (HD1.out.under b2) (HF.out.under b2) (B1.out.trans (b2.mono B1.out.size)) (by omega) b2.size hls)
    have HLb := Lib.hid hlb
    clear HX1 HD1 HF B1 o2 b2 hX2 d0 d1 d2 d3 d4 HOw hls hlb
    obtain ⟨y3, hy3, hC3, hD3, hF3, hB3⟩ := H5.out
    clear H5
    obtain ⟨e0, e1, e2, e3, e4, e5⟩ := hD3.ask.cells
    obtain ⟨t0, t1, t2, t3, t4, t5⟩ := hD3.tels
    have tf2 := hD3.tel.frozen 2
    have tf3 := hD3.tel.frozen 3
    have HC3 := Lib.hid hC3
    have HD3 := Lib.hid hD3
    have HF3 := Lib.hid hF3
    have HB3 := Lib.hid hB3
    clear hC3 hD3 hF3 hB3
    have hnf := fun (W : World) => eq_fun f lb W
    obtain ⟨y4, hy4⟩ : ∃ W, y3 = W := ⟨_, rfl⟩
    have hD4 := HD3.out
    have hC4 := HC3.out
    have hB4 := HB3.out
    have hF4 := HF3.out
    rw [hy4] at hD4 hC4 hB4 hF4
    subst hy4
    obtain ⟨g0, g1, g2, g3, g4⟩ := hC4.cells
    have HRt := Lib.hid (right_any A2 n c2 x y3.heap.size y3 hC4.rd (Nat.le_refl _))
    rw [HRV.out] at HRt
    have HC4 := Lib.hid hC4
    have HD4 := Lib.hid hD4
    have HB4 := Lib.hid hB4
    have HF4 := Lib.hid hF4
    clear hC4 hD4 hB4 hF4 HC3 HD3 HB3 HF3
    go_wp2_with fail
    refine (HRt.out).mono ?_
    rintro e y5 ⟨rfl, b5⟩
    have HC5 := Lib.hid (HC4.out.under b5)
    have HD5 := Lib.hid (HD4.out.under b5)
    have HB5 := Lib.hid (HB4.out.trans (b5.mono HB4.out.size))
    have HF5 := Lib.hid (HF4.out.under b5)
    clear HC4 HD4 HB4 HF4 HRt b5 g0 g1 g2 g3 g4 e0 e1 e2 e3 e4 e5 t0 t1 t2 t3 t4 t5 tf2 tf3 hkb hnf hy3 k0 k1 k2 k3 k4 z0 z1 z2 z3 z4
    go_wp2_with fail
    go_step3
    exact ⟨rfl, _, _, _, _, _, _, _, _, _, _, _, _, _, _, _, _, _, _, _, _, _, _, _, _, _, _, _, _, _, _, _, _, _, _, _, _, _, rfl, HD5.out, ⟨_, _, _, _, HC5.out, HLb.out⟩, HB5.out⟩

set_option maxRecDepth 100000 in
set_option maxHeartbeats 4000000 in
theorem do_okk {L : List Bx} {K I : Int} (hr : RdX w B A n x.l) (hB : B ≤ w.heap.size) (hn : n ≤ 1000) (hkw : (Lit.int .u8 q.kind).wf = true) (hk : (q.kind = 1 ∨ q.kind = 2 ∨ q.kind = 3 ∨ q.kind = 4 ∨ q.kind = 5 ∨ q.kind = 6)) (hk1 : ¬ q.kind = 1) (hrv : right x = true) (hdo : doP x q = (L, K, I)) :
    Calls Try.prog 9 #[.agg #[.slice A n c, .int .i64 x.fl, .int .i64 x.dr, .int .i64 x.nw, .bool x.tg], .agg #[.int .u8 q.kind, .int .i64 q.call, .int .i64 q.a, .int .i64 q.b, .int .i64 q.c, .int .i64 q.d]] w (DoPost x q L K I w) := by
  have hb5 : Below w.heap.size w (((((w.alloc (.cells #[.slice A n c, .int .i64 x.fl, .int .i64 x.dr, .int .i64 x.nw, .bool x.tg] 24)).alloc (.cells #[.int .u8 q.kind, .int .i64 q.call, .int .i64 q.a, .int .i64 q.b, .int .i64 q.c, .int .i64 q.d] 26)).alloc (.cells #[.slice none 0 0, .int .i64 0, .int .i64 0, .int .i64 0, .bool false] 24)).alloc (.cells #[.int .i64 0, .int .u8 0, .int .u8 0, .int .i64 0, .slice none 0 0, .bool false] 30)).alloc (.cells #[.int .i64 q.call, .int .u8 q.kind, .int .u8 3, .int .i64 q.a, .slice none 0 0, .bool false] 30)) := (((((Below.refl _ w).alloc (Nat.le_refl _) _).alloc (by simp) _).alloc (by simp; omega) _).alloc (by simp; omega) _).alloc (by simp; omega) _
  obtain ⟨V, hV⟩ : ∃ V, (((((w.alloc (.cells #[.slice A n c, .int .i64 x.fl, .int .i64 x.dr, .int .i64 x.nw, .bool x.tg] 24)).alloc (.cells #[.int .u8 q.kind, .int .i64 q.call, .int .i64 q.a, .int .i64 q.b, .int .i64 q.c, .int .i64 q.d] 26)).alloc (.cells #[.slice none 0 0, .int .i64 0, .int .i64 0, .int .i64 0, .bool false] 24)).alloc (.cells #[.int .i64 0, .int .u8 0, .int .u8 0, .int .i64 0, .slice none 0 0, .bool false] 30)).alloc (.cells #[.int .i64 q.call, .int .u8 q.kind, .int .u8 3, .int .i64 q.a, .slice none 0 0, .bool false] 30)) = V := ⟨_, rfl⟩
  have hsV : V.heap.size = w.heap.size + 1 + 1 + 1 + 1 + 1 := by rw [← hV]; simp
  have hD : DoSt w q 3 q.a V := by
    rw [← hV]
    refine ⟨?_, ?_, ?_, ?_⟩
    · have := (((Whole.new (w.alloc (.cells #[.slice A n c, .int .i64 x.fl, .int .i64 x.dr, .int .i64 x.nw, .bool x.tg] 24)) 26 #[.int .u8 q.kind, .int .i64 q.call, .int .i64 q.a, .int .i64 q.b, .int .i64 q.c, .int .i64 q.d]).alloc (.cells #[.slice none 0 0, .int .i64 0, .int .i64 0, .int .i64 0, .bool false] 24)).alloc (.cells #[.int .i64 0, .int .u8 0, .int .u8 0, .int .i64 0, .slice none 0 0, .bool false] 30)).alloc (.cells #[.int .i64 q.call, .int .u8 q.kind, .int .u8 3, .int .i64 q.a, .slice none 0 0, .bool false] 30); rwa [World.size_alloc] at this
    · have := ((Whole.new ((w.alloc (.cells #[.slice A n c, .int .i64 x.fl, .int .i64 x.dr, .int .i64 x.nw, .bool x.tg] 24)).alloc (.cells #[.int .u8 q.kind, .int .i64 q.call, .int .i64 q.a, .int .i64 q.b, .int .i64 q.c, .int .i64 q.d] 26)) 24 #[.slice none 0 0, .int .i64 0, .int .i64 0, .int .i64 0, .bool false]).alloc (.cells #[.int .i64 0, .int .u8 0, .int .u8 0, .int .i64 0, .slice none 0 0, .bool false] 30)).alloc (.cells #[.int .i64 q.call, .int .u8 q.kind, .int .u8 3, .int .i64 q.a, .slice none 0 0, .bool false] 30); rwa [World.size_alloc, World.size_alloc] at this
    · have := (Whole.new (((w.alloc (.cells #[.slice A n c, .int .i64 x.fl, .int .i64 x.dr, .int .i64 x.nw, .bool x.tg] 24)).alloc (.cells #[.int .u8 q.kind, .int .i64 q.call, .int .i64 q.a, .int .i64 q.b, .int .i64 q.c, .int .i64 q.d] 26)).alloc (.cells #[.slice none 0 0, .int .i64 0, .int .i64 0, .int .i64 0, .bool false] 24)) 30 #[.int .i64 0, .int .u8 0, .int .u8 0, .int .i64 0, .slice none 0 0, .bool false]).alloc (.cells #[.int .i64 q.call, .int .u8 q.kind, .int .u8 3, .int .i64 q.a, .slice none 0 0, .bool false] 30); rwa [World.size_alloc, World.size_alloc, World.size_alloc] at this
    · have := Whole.new ((((w.alloc (.cells #[.slice A n c, .int .i64 x.fl, .int .i64 x.dr, .int .i64 x.nw, .bool x.tg] 24)).alloc (.cells #[.int .u8 q.kind, .int .i64 q.call, .int .i64 q.a, .int .i64 q.b, .int .i64 q.c, .int .i64 q.d] 26)).alloc (.cells #[.slice none 0 0, .int .i64 0, .int .i64 0, .int .i64 0, .bool false] 24)).alloc (.cells #[.int .i64 0, .int .u8 0, .int .u8 0, .int .i64 0, .slice none 0 0, .bool false] 30)) 30 #[.int .i64 q.call, .int .u8 q.kind, .int .u8 3, .int .i64 q.a, .slice none 0 0, .bool false]; rwa [World.size_alloc, World.size_alloc, World.size_alloc, World.size_alloc] at this
  have hX : Whole V w.heap.size 24 #[.slice A n c, .int .i64 x.fl, .int .i64 x.dr, .int .i64 x.nw, .bool x.tg] := by rw [← hV]; exact ((((Whole.new w _ _).alloc _).alloc _).alloc _).alloc _
  rw [hV] at hb5
  have HD := Lib.hid hD
  have HX := Lib.hid hX
  have HV := Lib.hid hb5
  have HS := Lib.hid hsV
  have HR := Lib.hid (hr.below (hb5.mono hB))
  have HBB := Lib.hid hB
  have HKW := Lib.hid hkw
  have HVe := Lib.hid hV
  clear hV
  have HK := Lib.hid hk
  have HKB := Lib.hid hk1
  have HRV := Lib.hid hrv
  have HS2 := Lib.hid hsV
  have HDo := Lib.hid hdo
  clear hr hB hb5 hsV hD hX hkw hk hk1 hrv hdo
  go_enter Try.func9, Try.ntmps9
  go_wp2_with fail
  refine wp_scope_fwd 0 (fun _ _ => False) rfl ?first ?tail
  case tail => exact fun _ _ h => h.elim
  case first =>
    go_wp2_with fail
    rw [HVe.out]
    clear HVe
    have HC := Lib.hid ((Below.refl V.heap.size V).drew)
    have HL := Lib.hid (fun W (hW : Below V.heap.size V W) => (HD.out.under hW).ask.cells)
    refine wp_region_held_drew (S := fun W => Below V.heap.size V W) (by kernel_rfl) HC.out (fun _ => ?_)
    refine takeH (i := 1) (v := ?_) rfl (by kernel_rfl) (by kernel_rfl) (by kernel_rfl) (fun _ _ _ h => h) (by rfl) ?_ HC.out ?_
    rotate_left
    · intro W hW; obtain ⟨e0, e1, e2, e3, e4, e5⟩ := HL.out W hW; go_simp <;> with_reducible rfl
    simp only [Act.put, List.setIfInBounds_toArray, List.set_cons_zero, List.set_cons_succ]
    refine takeH (i := 2) (v := ?_) rfl (by kernel_rfl) (by kernel_rfl) (by kernel_rfl) (fun _ _ _ h => h) (by rfl) ?_ HC.out ?_
    rotate_left
    · intro W hW; obtain ⟨e0, e1, e2, e3, e4, e5⟩ := HL.out W hW; go_simp <;> with_reducible rfl
    simp only [Act.put, List.setIfInBounds_toArray, List.set_cons_zero, List.set_cons_succ]
    refine oneH (i := 0) rfl (by kernel_rfl) (by rfl) (fun K hK => ?_)
    go_simp
    go_at_call 24
    refine (deeds_any _).mono ?_
    rintro e y1 ⟨rfl, b1, b2, b3, b4, b5, b6, b7, b8, hm, hF, b9⟩
    have hm2 : DsMap y1 V.heap.size 6 (dsD b1 b3 b4 b6 b8) := hm
    have hF2 : DeedFns V.heap.size b1 b2 b3 b4 b5 b6 b7 b8 y1 := hF
    clear hm hF
    obtain ⟨v, ps, hrun, hv⟩ := World.ownsMap.lookup hm2 (int_keyed Try.underlying5) Try.underlying50 (z := .nilFunc) (by kernel_rfl) (zd := .held .nilFunc) (zp := []) rfl (keyOf_int_mk (q := .u8) (a := q.kind) Try.underlying5 HKW.out)
    rw [dsD_at] at hv
    have ev : v = deedV b1 b3 b4 b6 b8 q.kind := by simpa [deedR] using (congrArg (fun o => o.map Prod.fst) hv)
    subst ev
    have HF := Lib.hid hF2
    clear hm2 hv hF2
    have HC2 := Lib.hid (HC.out.trans (b9.mono HC.out.size))
    clear HC b9
    have HC := HC2
    clear HC2
    refine hK.out _ _ HC.out (fun _ => ?_)
    clear hK K
    refine oneH (i := 3) rfl (by kernel_rfl) (by rfl) (fun K hK => ?_)
    go_simp
    refine hK.out _ _ HC.out (fun _ => ?_)
    clear hK K hrun
    refine oneH (i := 4) rfl (by kernel_rfl) (by rfl) (fun K hK => ?_)
    go_simp
    refine hK.out _ _ HC.out (fun _ => ?_)
    clear hK K
    refine wpAnyH_done (by kernel_rfl) ?_ _
    have hD1 := HD.out.under HC.out
    have hX1 := HX.out.under HC.out
    have hr1 := HR.out.below (HC.out.mono (Nat.le_trans HBB.out HV.out.size))
    have B1 := Lib.hid (HV.out.trans (HC.out.mono HV.out.size))
    have hls : w.heap.size < V.heap.size := by have := HS.out; omega
    have hlb : w.heap.size + 1 + 1 + 1 + 1 < y1.heap.size := by have h8 := HS.out; have h9 := HC.out.size; omega
    have HOw := Lib.hid (own_anyX A n c x B y1 hr1 (Nat.le_trans HBB.out B1.out.size) hn)
    have d0 := hX1.cell 0
    have d1 := hX1.cell 1
    have d2 := hX1.cell 2
    have d3 := hX1.cell 3
    have d4 := hX1.cell 4
    simp only [List.getElem?_toArray, List.getElem?_cons_zero, List.getElem?_cons_succ] at d0 d1 d2 d3 d4
    have HX1 := Lib.hid hX1
    have HD1 := Lib.hid hD1
    clear hX1 hD1 hr1 HL HC HX HD HR HBB HV HS HKW
    obtain ⟨f, lb, hdv⟩ := deedV_fun (b1 := b1) (b3 := b3) (b4 := b4) (b6 := b6) (b8 := b8) HK.out
    have hkb : (q.kind == 1) = false := by have h9 := HKB.out; rw [beq_eq_false_iff_ne]; exact h9
    rw [hdv]
    have HDV := Lib.hid hdv
    clear hdv
    go_wp2_with fail
    refine (HOw.out).mono ?_
    rintro e y2 ⟨A2, c2, rfl, o2, b2⟩
    unfold cwV
    have hX2 := HX1.out.under b2
    have k0 := hX2.cell 0
    have k1 := hX2.cell 1
    have k2 := hX2.cell 2
    have k3 := hX2.cell 3
    have k4 := hX2.cell 4
    simp only [List.getElem?_toArray, List.getElem?_cons_zero, List.getElem?_cons_succ] at k0 k1 k2 k3 k4
    have z0 := hX2.frozen 0
    have z1 := hX2.frozen 1
    have z2 := hX2.frozen 2
    have z3 := hX2.frozen 3
    have z4 := hX2.frozen 4
    have H5 := Lib.hid (store5 hX2 o2 (HD1.out.under b2) (HF.out.under b2) (B1.out.trans (b2.mono B1.out.size)) (by omega) b2.size hls)
    have HLb := Lib.hid hlb
    clear HX1 HD1 HF B1 o2 b2 hX2 d0 d1 d2 d3 d4 HOw hls hlb
    obtain ⟨y3, hy3, hC3, hD3, hF3, hB3⟩ := H5.out
    clear H5
    obtain ⟨e0, e1, e2, e3, e4, e5⟩ := hD3.ask.cells
    obtain ⟨t0, t1, t2, t3, t4, t5⟩ := hD3.tels
    have tf2 := hD3.tel.frozen 2
    have tf3 := hD3.tel.frozen 3
    have HC3 := Lib.hid hC3
    have HD3 := Lib.hid hD3
    have HF3 := Lib.hid hF3
    have HB3 := Lib.hid hB3
    clear hC3 hD3 hF3 hB3
    have hnf := fun (W : World) => eq_fun f lb W
    obtain ⟨y4, hy4⟩ : ∃ W, y3 = W := ⟨_, rfl⟩
    have hD4 := HD3.out
    have hC4 := HC3.out
    have hB4 := HB3.out
    have hF4 := HF3.out
    rw [hy4] at hD4 hC4 hB4 hF4
    subst hy4
    obtain ⟨g0, g1, g2, g3, g4⟩ := hC4.cells
    have HRt := Lib.hid (right_any A2 n c2 x y3.heap.size y3 hC4.rd (Nat.le_refl _))
    rw [HRV.out] at HRt
    have HC4 := Lib.hid hC4
    have HD4 := Lib.hid hD4
    have HB4 := Lib.hid hB4
    have HF4 := Lib.hid hF4
    clear hC4 hD4 hB4 hF4 HC3 HD3 HB3 HF3
    go_wp2_with fail
    refine (HRt.out).mono ?_
    rintro e y5 ⟨rfl, b5⟩
    have HC5 := Lib.hid (HC4.out.under b5)
    have HD5 := Lib.hid (HD4.out.under b5)
    have HB5 := Lib.hid (HB4.out.trans (b5.mono HB4.out.size))
    have HF5 := Lib.hid (HF4.out.under b5)
    clear HC4 HD4 HB4 HF4 HRt b5 g0 g1 g2 g3 g4 e0 e1 e2 e3 e4 e5 t0 t1 t2 t3 t4 t5 tf2 tf3 hkb hnf hy3 k0 k1 k2 k3 k4 z0 z1 z2 z3 z4
    obtain ⟨f', lb', hdv', hf', hdeed⟩ := deed_any HC5.out hn HRV.out HF5.out HK.out
    rw [HDV.out] at hdv'
    simp only [Value.func.injEq, Fn.func.injEq, true_and] at hdv'
    obtain ⟨rfl, rfl⟩ := hdv'
    obtain ⟨e0, e1, e2, e3, e4, e5⟩ := HD5.out.ask.cells
    rw [HDo.out] at hdeed
    have HDd := Lib.hid hdeed
    clear hdeed
    go_wp2_with fail
    refine (HDd.out).mono ?_
    rintro e y6 ⟨rfl, ⟨A3, n3, c3, h6⟩, but6⟩
    have D6 := HD5.out.but but6 HLb.out
    have hB6 := HB5.out.trans (but6.below (B := w.heap.size) (by have := HLb.out; omega) (Nat.le_refl _))
    obtain ⟨y8, hy8⟩ : ∃ W, (y6.setCell ⟨w.heap.size + 1 + 1 + 1 + 1, 2, none⟩ (.int .u8 K)).setCell ⟨w.heap.size + 1 + 1 + 1 + 1, 3, none⟩ (.int .i64 I) = W := ⟨_, rfl⟩
    have h8 := (h6.off (p := ⟨w.heap.size + 1 + 1 + 1 + 1, 2, none⟩) (by show w.heap.size ≠ w.heap.size + 1 + 1 + 1 + 1; omega) HLb.out (.int .u8 K)).off (p := ⟨w.heap.size + 1 + 1 + 1 + 1, 3, none⟩) (by show w.heap.size ≠ w.heap.size + 1 + 1 + 1 + 1; omega) HLb.out (.int .i64 I)
    have D8 := (D6.setK K).setI I
    have hB8 := (hB6.setCell (p := ⟨w.heap.size + 1 + 1 + 1 + 1, 2, none⟩) (by show w.heap.size ≤ w.heap.size + 1 + 1 + 1 + 1; omega) (.int .u8 K)).setCell (p := ⟨w.heap.size + 1 + 1 + 1 + 1, 3, none⟩) (by show w.heap.size ≤ w.heap.size + 1 + 1 + 1 + 1; omega) (.int .i64 I)
    rw [hy8] at h8 D8 hB8
    obtain ⟨t0, t1, t2, t3, t4, t5⟩ := D6.tels
    have tf2 := D6.tel.frozen 2
    have tf3 := D6.tel.frozen 3
    have H3 := Lib.hid D8
    have B3 := Lib.hid hB8
    have HC := Lib.hid h8
    clear h6 but6 D6 hB6 h8 D8 hB8 HDd HD5 HB5 HC5 HF5 e0 e1 e2 e3 e4 e5
    go_wp2_with fail
    clear hy8 t0 t1 t2 t3 t4 t5 tf2 tf3
    obtain ⟨t0, t1, t2, t3, t4, t5⟩ := H3.out.tels
    obtain ⟨r0, r1, r2, r3, r4, r5⟩ := H3.out.rets
    obtain ⟨s0, s1, s2, s3, s4⟩ := H3.out.ress
    obtain ⟨d0, d1, d2, d3, d4⟩ := HC.out.cells
    have z0 := H3.out.res.frozen 0
    have z1 := H3.out.res.frozen 1
    have z2 := H3.out.res.frozen 2
    have z3 := H3.out.res.frozen 3
    have z4 := H3.out.res.frozen 4
    have y0 := H3.out.ret.frozen 0
    have y1 := H3.out.ret.frozen 1
    have y2 := H3.out.ret.frozen 2
    have y3 := H3.out.ret.frozen 3
    have y4 := H3.out.ret.frozen 4
    have y5 := H3.out.ret.frozen 5
    go_step3
    go_wp2_with fail
    go_region
    obtain ⟨W9, hW9, p1, p2, p3, p4⟩ := fin11 H3.out HC.out HLb.out B3.out
    rw [hW9]
    have p1' : Whole W9.drew (w.heap.size + 1 + 1) 24 _ := p1
    have p2' : Whole W9.drew (w.heap.size + 1 + 1 + 1) 30 _ := p2
    have p3' : RdX W9.drew W9.drew.heap.size A3 n3 L := show RdX W9.drew W9.heap.size A3 n3 _ from p3.below (Below.refl _ _).drew
    have p4' := p4.drew
    obtain ⟨j0, j1, j2, j3, j4⟩ := (⟨p1'.cell 0, p1'.cell 1, p1'.cell 2, p1'.cell 3, p1'.cell 4⟩ : _ ∧ _ ∧ _ ∧ _ ∧ _)
    obtain ⟨i0, i1, i2, i3, i4, i5⟩ := (⟨p2'.cell 0, p2'.cell 1, p2'.cell 2, p2'.cell 3, p2'.cell 4, p2'.cell 5⟩ : _ ∧ _ ∧ _ ∧ _ ∧ _ ∧ _)
    simp only [List.getElem?_toArray, List.getElem?_cons_zero, List.getElem?_cons_succ] at j0 j1 j2 j3 j4 i0 i1 i2 i3 i4 i5
    have P3 := Lib.hid p3'
    have P4 := Lib.hid p4'
    clear hW9 p1 p2 p3 p4 p1' p2' p3' p4' t0 t1 t2 t3 t4 t5 r0 r1 r2 r3 r4 r5 s0 s1 s2 s3 s4 d0 d1 d2 d3 d4 z0 z1 z2 z3 z4 y0 y1 y2 y3 y4 y5
    go_wp2_with fail
    simp only [Exit.jump]
    refine bodyPost_ret (v := .tuple #[.agg #[.slice A3 n3 c3, .int .i64 x.fl, .int .i64 x.dr, .int .i64 x.nw, .bool x.tg], .agg #[.int .i64 q.call, .int .u8 q.kind, .int .u8 K, .int .i64 I, .slice none 0 0, .bool false]]) (by simp [results, Try.results9, go_sem, j0, j1, j2, j3, j4, i0, i1, i2, i3, i4, i5]) rfl ?_
    exact ⟨A3, n3, c3, rfl, P3.out, P4.out⟩

set_option maxRecDepth 100000 in
/-- What is done by what is asked. -/
theorem do_any (hr : RdX w B A n x.l) (hB : B ≤ w.heap.size) (hn : n ≤ 1000) (hkw : (Lit.int .u8 q.kind).wf = true) :
    Calls Try.prog 9 #[.agg #[.slice A n c, .int .i64 x.fl, .int .i64 x.dr, .int .i64 x.nw, .bool x.tg], .agg #[.int .u8 q.kind, .int .i64 q.call, .int .i64 q.a, .int .i64 q.b, .int .i64 q.c, .int .i64 q.d]] w (DoPost x q (doP x q).1 (doP x q).2.1 (doP x q).2.2 w) := by
  by_cases hk : q.kind = 1 ∨ q.kind = 2 ∨ q.kind = 3 ∨ q.kind = 4 ∨ q.kind = 5 ∨ q.kind = 6
  · by_cases h1 : q.kind = 1
    · cases hv : right x with
      | false =>
        rw [show doP x q = (x.l, 3, 0) by rw [doP, hv, if_neg (by simp), if_pos h1]]
        exact do_bad1 hr hB hn hkw hk h1 hv
      | true => exact do_ok1 hr hB hn hkw hk h1 hv rfl
    · cases hv : right x with
      | false =>
        rw [show doP x q = (x.l, 3, q.a) by rw [doP, hv, if_neg (by simp), if_neg h1]]
        exact do_badk hr hB hn hkw hk h1 hv
      | true => exact do_okk hr hB hn hkw hk h1 hv rfl
  · rw [show doP x q = (x.l, 3, q.a) by
      rw [doP]
      split
      · rw [if_neg (by omega), if_neg (by omega)]
      · rw [if_neg (by omega)]]
    exact do_nil hr hB hn hkw hk
end

end Go.Proofs.Ytphkleecodoplaa
