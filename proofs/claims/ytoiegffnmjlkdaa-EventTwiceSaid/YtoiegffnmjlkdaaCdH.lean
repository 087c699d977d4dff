/-
  The walk of 'H' of package cloud. Conditions: those that the theorem names.
-/
import Derived.Test.YtoiegffnmjlkdaaCdEach
import Derived.Test.YtoiegffnmjlkdaaCdSmall
namespace Go.Proofs.Ytoiegffnmjlkdaa
open Go.RowKit Go.Shelf
attribute [local go_sem] Oper.semAt_some

set_option maxRecDepth 100000 in
theorem keepsFrom_alloc (B : Nat) (W : World) (o : Obj) : KeepsFrom B W (W.alloc o) := (keeps_under ((Below.refl _ W).alloc (Nat.le_refl _) o)).from _
set_option maxRecDepth 100000 in
theorem keepsFrom_under {W W' : World} (B : Nat) (h : Below W.heap.size W W') : KeepsFrom B W W' := (keeps_under h).from _
set_option maxRecDepth 100000 in
theorem keepsFrom_t {B : Nat} {A C D : World} (h : KeepsFrom B A C) (k : KeepsFrom B C D) : KeepsFrom B A D := h.trans k
set_option maxRecDepth 100000 in
theorem kpB_under {n₀ Bn : Nat} {W W' : World} (h : Below W.heap.size W W') (h0 : n₀ ≤ W.heap.size) (h1 : Bn < W.heap.size) : KpB n₀ Bn W W' := ⟨h.mono h0, h.block _ h1⟩
set_option maxRecDepth 100000 in
theorem kpB_setc {n₀ Bn g : Nat} (W : World) (h0 : n₀ ≤ g) (h1 : Bn ≠ g) (i : Nat) (v : Value) : KpB n₀ Bn W (W.setCell ⟨g, i, none⟩ v) :=
  ⟨(Below.refl _ W).setCell (p := ⟨g, i, none⟩) h0 v, Below.heap_setCell W ⟨g, i, none⟩ v Bn h1⟩

/-- The box of a round's variable. -/
def BoxIn (W : World) (g : Nat) (x : Bx) : Prop := Whole W g 36 #[.int .i64 x.id, .int .i64 x.tok, .int .i64 x.ver, .int .i64 x.zone, .bool x.tag, .bool x.on, .bool x.gone, .bool x.well, .int .u8 x.lb, .int .i64 x.unt, .int .i64 x.fen]
set_option maxRecDepth 100000 in
theorem BoxIn.at_ {W : World} {g : Nat} {x : Bx} (h : BoxIn W g x) : BxAt W g 0 x := bxAt_of fun i hi => by
  rw [Nat.zero_add]
  exact (Whole.cell h i).trans (by simp [Bx.vs])

/-- What holds between two rounds. -/
structure HAt (w : World) (l : List Bx) (C : Array Value) (pre : List (Nat × Bx)) (W : World) : Prop where
  many : Whole W (w.heap.size + 1) 3 #[.int .i64 (hN (l.take pre.length) : Int)]
  bn : Whole W (w.heap.size + 1 + 1) 24 C
  below : Below w.heap.size w W
set_option maxRecDepth 100000 in
theorem hAt_own (w : World) (l : List Bx) (C : Array Value) (B : Nat) (hB : w.heap.size ≤ B) : OwnFrom B (HAt w l C) := by
  intro pre W1 W2 row h hg hr
  have hr' : ∀ r, row = some r → ∃ o : Obj, W1.heap[r]? = some o ∧ o.isCells = false := fun r e => (hr r e).2
  exact ⟨h.many.turn hg hr', h.bn.turn hg hr', h.below.grown hg h.below.size (fun k e => by have := (hr k e).1; omega)⟩

set_option maxRecDepth 100000 in
theorem HAt.under {w : World} {l : List Bx} {C : Array Value} {pre : List (Nat × Bx)} {W W' : World} (h : HAt w l C pre W) (hb : Below W.heap.size W W') : HAt w l C pre W' := ⟨h.many.under hb, h.bn.under hb, h.below.trans (hb.mono h.below.size)⟩

def HPost (l : List Bx) (w : World) (e : Ending) (w' : World) : Prop := e = .returned (.int .i64 (hN l : Int)) ∧ Below w.heap.size w w'

set_option maxRecDepth 100000 in
theorem hN_take {l : List Bx} {k : Nat} {x : Bx} (hx : l[k]? = some x) : hN (l.take (k + 1)) = hN (l.take k) + if cnt x then 1 else 0 := by
  have hk : k < l.length := (List.getElem?_eq_some_iff.1 hx).1
  rw [List.take_succ_eq_append_getElem hk, hN_snoc]
  rw [List.getElem?_eq_getElem hk] at hx
  rw [Option.some.inj hx]

end Go.Proofs.Ytoiegffnmjlkdaa
