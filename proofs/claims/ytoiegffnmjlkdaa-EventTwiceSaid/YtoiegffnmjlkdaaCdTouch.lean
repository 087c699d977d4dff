/-
  The walks of what is done to a box (package cloud): start, stop, join, leave, end. Conditions: those that each theorem names.
-/
import Derived.Test.YtoiegffnmjlkdaaCdRight
namespace Go.Proofs.Ytoiegffnmjlkdaa
open Go.RowKit Go.Shelf

/-- A cloud in its box, its boxes in a row of its own. -/
structure Clu (W : World) (base Cb : Nat) (A : Option Addr) (n c : Nat) (x : Cw) : Prop where
  box : Whole W Cb 24 #[.slice A n c, .int .i64 x.fl, .int .i64 x.dr, .int .i64 x.nw, .bool x.tg]
  row : W.ownsRow base 36 11 (.slice A n c) n (flat x.l)
  lt : Cb < base
  le : base ≤ W.heap.size
section
variable {W W' : World} {base Cb : Nat} {A : Option Addr} {n c : Nat} {x : Cw}
set_option maxRecDepth 100000 in
theorem Clu.under (h : Clu W base Cb A n c x) (hb : Below W.heap.size W W') : Clu W' base Cb A n c x := ⟨h.box.under hb, own_under h.row hb, h.lt, Nat.le_trans h.le hb.size⟩
set_option maxRecDepth 100000 in
theorem Clu.rd (h : Clu W base Cb A n c x) : RdX W W.heap.size A n x.l := RdX.of_own h.row
set_option maxRecDepth 100000 in
theorem Clu.len (h : Clu W base Cb A n c x) : x.l.length = n := h.rd.len
set_option maxRecDepth 100000 in
theorem Clu.form (h : Clu W base Cb A n c x) {j : Nat} {y : Bx} (hx : x.l[j]? = some y) : ∃ g, A = some ⟨g, 0, none⟩ ∧ base ≤ g ∧ n ≤ c := by
  have hn : 0 < n := by have h1 := (List.getElem?_eq_some_iff.1 hx).1; have := h.len; omega
  obtain ⟨g, cap, hv, hb, hlt⟩ := h.row.form hn
  injection hv with hA _ hc
  rcases h.row.2 with ⟨h1, h2⟩ | ⟨g', cap', cur, h1, h3, _, h4, _⟩
  · omega
  · injection h1 with e1 _ e2
    exact ⟨g', e1, h3, by omega⟩
end
section
variable {W W' : World} {base Cb g : Nat} {n c : Nat} {x : Cw}
set_option maxRecDepth 100000 in
/-- A cell of a box laid anew. -/
theorem Clu.set (h : Clu W base Cb (some ⟨g, 0, none⟩) n c x) {j : Nat} {y : Bx} (hx : x.l[j]? = some y) {i : Nat} (hi : i < 11) {u : Value} {y' : Bx} (hy : y'.vs = y.vs.set i u) :
    Clu (W.setCell ⟨g, j * 11 + i, none⟩ u) base Cb (some ⟨g, 0, none⟩) n c { x with l := x.l.set j y' } ∧ W.grownBy (W.setCell ⟨g, j * 11 + i, none⟩ u) (some g) := by
  obtain ⟨g', e, hb, _⟩ := h.form hx
  injection e with e
  injection e with e _ _
  subst e
  have hs := h.row.stored (j * 11 + i) u
  rw [flat_set hx hi hy] at hs
  have hne : Cb ≠ g := by have := h.lt; omega
  exact ⟨⟨h.box.far (p := ⟨g, j * 11 + i, none⟩) hne u, hs.1, h.lt, Nat.le_trans h.le ((Below.refl base W).setCell (p := ⟨g, j * 11 + i, none⟩) hb u).size⟩, hs.2⟩
set_option maxRecDepth 100000 in
theorem Clu.at_ (h : Clu W base Cb (some ⟨g, 0, none⟩) n c x) {j : Nat} {y : Bx} (hx : x.l[j]? = some y) : BxAt W g (j * 11) y := by
  have hj : j < x.l.length := (List.getElem?_eq_some_iff.1 hx).1
  have hl := h.len
  exact bxAt_of fun i hi => by rw [h.row.cellAt (j * 11 + i) (by omega)]; exact flat_at hx hi
set_option maxRecDepth 100000 in
theorem Clu.frz (h : Clu W base Cb (some ⟨g, 0, none⟩) n c x) (k : Nat) : W.frozen? ⟨g, k, none⟩ = false := h.row.frozenAt k
end

set_option maxRecDepth 100000 in
theorem grown_t {A B C : World} {row : Option Nat} (h : A.grownBy B row) (k : B.grownBy C row) : A.grownBy C row :=
  ⟨k.os.trans h.os, k.tape.trans h.tape, k.output.trans h.output, Nat.le_trans h.size k.size, fun i hi hne => (k.block i (Nat.lt_of_lt_of_le hi h.size) hne).trans (h.block i hi hne)⟩
set_option maxRecDepth 100000 in
theorem below_grown {W W' : World} (hb : Below W.heap.size W W') (row : Option Nat) : W.grownBy W' row := ⟨hb.os, hb.tape, hb.output, hb.size, fun i hi _ => hb.block i hi⟩
set_option maxRecDepth 100000 in
theorem grown_under {A B C : World} {row : Option Nat} (h : A.grownBy B row) (k : Below B.heap.size B C) : A.grownBy C row := grown_t h (below_grown k row)

/-- What is told, and the box then. -/
def TouchPost (base Cb g n c : Nat) (x : Cw) (j : Nat) (code : Int) (y' : Bx) (W : World) (e : Ending) (W' : World) : Prop :=
  e = .returned (.int .u8 code) ∧ Clu W' base Cb (some ⟨g, 0, none⟩) n c { x with l := x.l.set j y' } ∧ W.grownBy W' (some g)

set_option maxRecDepth 100000 in
theorem set_same {l : List Bx} {j : Nat} {y : Bx} (h : l[j]? = some y) : l.set j y = l := by
  apply List.ext_getElem?
  intro i
  rw [List.getElem?_set]
  split
  · rename_i e
    subst e
    have := (List.getElem?_eq_some_iff.1 h).1
    rw [if_pos this, h]
  · rfl
set_option maxRecDepth 100000 in
theorem set_at {l : List Bx} {j : Nat} {y z : Bx} (h : l[j]? = some y) : (l.set j z)[j]? = some z := by
  have := (List.getElem?_eq_some_iff.1 h).1
  rw [List.getElem?_set_self this]
set_option maxRecDepth 100000 in
theorem set_set (l : List Bx) (j : Nat) (y z : Bx) : (l.set j y).set j z = l.set j z := List.set_set ..

section
variable {base Cb g n c o j : Nat} {x : Cw} {y : Bx} {W : World}

end

end Go.Proofs.Ytoiegffnmjlkdaa
