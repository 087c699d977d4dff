/-
  The walk of 'launch' of package cloud. Conditions: those that each theorem names.
-/
import Derived.Test.YtdoaakohgmohkaaCdFound
namespace Go.Proofs.Ytdoaakohgmohkaa
open Go.RowKit Go.Shelf

/-- What lies below base stays, but for one block. -/
structure BelowBut (base Cb : Nat) (W W' : World) : Prop where
  os : W'.os = W.os
  tape : W'.tape = W.tape
  output : W'.output = W.output
  size : W.heap.size ≤ W'.heap.size
  block : ∀ i, i < base → i ≠ Cb → W'.heap[i]? = W.heap[i]?
set_option maxRecDepth 100000 in
theorem Below.but {base Cb : Nat} {W W' : World} (h : Below base W W') : BelowBut base Cb W W' := ⟨h.os, h.tape, h.output, h.size, fun i hi _ => h.block i hi⟩
set_option maxRecDepth 100000 in
theorem BelowBut.drewN {base Cb : Nat} {W W' : World} (h : BelowBut base Cb W W') (k : Nat) : BelowBut base Cb W (W'.drewN k) := ⟨h.os, (below_drewN (Below.refl 0 W') k).tape.trans h.tape, h.output, h.size, h.block⟩
set_option maxRecDepth 100000 in
theorem BelowBut.below {base Cb B : Nat} {W W' : World} (h : BelowBut base Cb W W') (h1 : B ≤ base) (h2 : B ≤ Cb) : Below B W W' := ⟨h.os, h.tape, h.output, h.size, fun i hi => h.block i (by omega) (by omega)⟩

set_option maxRecDepth 100000 in
theorem but_store {base b : Nat} {W W' : World} (h : Below base W W') (v : Value) : BelowBut base b W (W'.setCell ⟨b, 0, none⟩ v) :=
  have k := (Below.refl 0 W').setCell (p := ⟨b, 0, none⟩) (Nat.zero_le _) v
  ⟨k.os.trans h.os, k.tape.trans h.tape, k.output.trans h.output, Nat.le_trans h.size k.size, fun i hi hne => (Below.heap_setCell W' ⟨b, 0, none⟩ v i hne).trans (h.block i hi)⟩

def DeedPost (base Cb : Nat) (x : Cw) (l : List Bx) (code id : Int) (W : World) (e : Ending) (W' : World) : Prop :=
  e = .returned (.tuple #[.int .u8 code, .int .i64 id]) ∧ (∃ A n c, Clu W' base Cb A n c { x with l := l }) ∧ BelowBut base Cb W W'

set_option maxRecDepth 100000 in
/-- A literal of one box. -/
theorem rdX_one (W : World) (x : Bx) (b : Nat) (hb : W.heap.size = b) : RdX (W.alloc (.cells #[.int .i64 x.id, .int .i64 x.tok, .int .i64 x.ver, .int .i64 x.zone, .bool x.tag, .bool x.on, .bool x.gone, .bool x.well, .int .u8 x.lb, .int .i64 x.unt, .int .i64 x.fen] 33)) (b + 1) (some ⟨b, 0, none⟩) 1 [x] := by
  subst hb
  refine ⟨rfl, fun _ => ⟨W.heap.size, 0, rfl, by omega, ?_⟩⟩
  rintro (_ | j) y hy
  · simp only [List.getElem?_cons_zero, Option.some.injEq] at hy
    subst hy
    exact bxAt_of fun i hi => by rw [Nat.zero_mul, Nat.add_zero, Nat.zero_add, cell_new]; simp [Bx.vs]
  · simp at hy

/-- Where the run stands at the label. -/
def LchAt (base Cb : Nat) (x : Cw) (W0 : World) (l : List Bx) (code id : Int) (a' : Act) (w' : World) : Prop :=
  a'.defers = [] ∧ a'.tmps.size = 77 ∧ a'.tmps[4]? = some (.int .u8 code) ∧ a'.tmps[5]? = some (.int .i64 id) ∧ (∃ A n c, Clu w' base Cb A n c { x with l := l }) ∧ BelowBut base Cb W0 w'

section
variable {base Cb n c : Nat} {A : Option Addr} {x : Cw} {q : Ak} {W0 : World}

end

end Go.Proofs.Ytdoaakohgmohkaa
