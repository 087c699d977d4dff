/-
  A cloud in its box: its cells, what stays beside it. Conditions: those that each theorem names.
-/
import Derived.Test.YtoiegffnmjlkdaaCdTouch
namespace Go.Proofs.Ytoiegffnmjlkdaa
open Go.RowKit Go.Shelf

/-- A cloud's cells, one by one. -/
theorem Clu.cells {W : World} {base Cb : Nat} {A : Option Addr} {n c : Nat} {x : Cw} (h : Clu W base Cb A n c x) :
    W.cell? ⟨Cb, 0, none⟩ = some (.slice A n c) ∧ W.cell? ⟨Cb, 1, none⟩ = some (.int .i64 x.fl) ∧ W.cell? ⟨Cb, 2, none⟩ = some (.int .i64 x.dr) ∧ W.cell? ⟨Cb, 3, none⟩ = some (.int .i64 x.nw) ∧ W.cell? ⟨Cb, 4, none⟩ = some (.bool x.tg) :=
  ⟨h.box.cell 0, h.box.cell 1, h.box.cell 2, h.box.cell 3, h.box.cell 4⟩

/-- What lies below base stays, but for one block. -/
structure BelowBut (base Cb : Nat) (W W' : World) : Prop where
  os : W'.os = W.os
  tape : W'.tape = W.tape
  output : W'.output = W.output
  size : W.heap.size ≤ W'.heap.size
  block : ∀ i, i < base → i ≠ Cb → W'.heap[i]? = W.heap[i]?
theorem Below.but {base Cb : Nat} {W W' : World} (h : Below base W W') : BelowBut base Cb W W' := ⟨h.os, h.tape, h.output, h.size, fun i hi _ => h.block i hi⟩
theorem BelowBut.drewN {base Cb : Nat} {W W' : World} (h : BelowBut base Cb W W') (k : Nat) : BelowBut base Cb W (W'.drewN k) := ⟨h.os, (below_drewN (Below.refl 0 W') k).tape.trans h.tape, h.output, h.size, h.block⟩
theorem BelowBut.below {base Cb B : Nat} {W W' : World} (h : BelowBut base Cb W W') (h1 : B ≤ base) (h2 : B ≤ Cb) : Below B W W' := ⟨h.os, h.tape, h.output, h.size, fun i hi => h.block i (by omega) (by omega)⟩

theorem but_store {base b : Nat} {W W' : World} (h : Below base W W') (v : Value) : BelowBut base b W (W'.setCell ⟨b, 0, none⟩ v) :=
  have k := (Below.refl 0 W').setCell (p := ⟨b, 0, none⟩) (Nat.zero_le _) v
  ⟨k.os.trans h.os, k.tape.trans h.tape, k.output.trans h.output, Nat.le_trans h.size k.size, fun i hi hne => (Below.heap_setCell W' ⟨b, 0, none⟩ v i hne).trans (h.block i hi)⟩

/-- A store into a block that is neither the cloud's box nor its row. -/
theorem Clu.off {W : World} {base Cb n c : Nat} {A : Option Addr} {x : Cw} (h : Clu W base Cb A n c x) {p : Addr} (hp : Cb ≠ p.block) (hl : p.block < base) (u : Value) : Clu (W.setCell p u) base Cb A n c x :=
  ⟨h.box.far hp u, ownsRow_setCell_other (a := p) h.row (fun e => by have h1 := (h.row.lt _ e).1; omega) u, h.lt, Nat.le_trans h.le ((Below.refl 0 W).setCell (p := p) (Nat.zero_le _) u).size⟩

end Go.Proofs.Ytoiegffnmjlkdaa
