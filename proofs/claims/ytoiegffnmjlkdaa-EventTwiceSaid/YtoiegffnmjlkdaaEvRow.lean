/-
  Rows of events in memory: how they read. Conditions: those that each theorem names.
-/
import Derived.Test.YtoiegffnmjlkdaaMem
import Derived.Test.YtoiegffnmjlkdaaEvMath
namespace Go.Proofs.Ytoiegffnmjlkdaa
open Go.RowKit Go.Shelf

/-- The values of an event. -/
def Ev.vs (e : Ev) : List Value := [.int .u8 e.kind, .int .i64 e.a, .int .i64 e.b]
/-- An event, from o on in a block. -/
structure EvAt (w : World) (b o : Nat) (x : Ev) : Prop where
  c0 : w.cell? ⟨b, o, none⟩ = some (.int .u8 x.kind)
  c1 : w.cell? ⟨b, o + 1, none⟩ = some (.int .i64 x.a)
  c2 : w.cell? ⟨b, o + 2, none⟩ = some (.int .i64 x.b)
theorem evAt_of {w : World} {b o : Nat} {x : Ev} (h : ∀ i, i < 3 → w.cell? ⟨b, o + i, none⟩ = x.vs[i]?) : EvAt w b o x :=
  ⟨h 0 (by omega), h 1 (by omega), h 2 (by omega)⟩
theorem EvAt.all {w : World} {b o : Nat} {x : Ev} (h : EvAt w b o x) : ∀ i, i < 3 → w.cell? ⟨b, o + i, none⟩ = x.vs[i]? := by
  intro i hi
  rcases (by omega : i = 0 ∨ i = 1 ∨ i = 2) with rfl | rfl | rfl
  all_goals first | exact h.c0 | exact h.c1 | exact h.c2
/-- A slice of events that reads as the list l, in a block below B. -/
def RdE (w : World) (B : Nat) (A : Option Addr) (n : Nat) (l : List Ev) : Prop :=
  l.length = n ∧ (0 < n → ∃ b off, A = some ⟨b, off, none⟩ ∧ b < B ∧ ∀ j x, l[j]? = some x → EvAt w b (off + j * 3) x)
section
variable {w w' : World} {B B' n : Nat} {A : Option Addr} {l : List Ev}
theorem RdE.len (h : RdE w B A n l) : l.length = n := h.1
theorem RdE.below (h : RdE w B A n l) (hb : Below B w w') : RdE w' B A n l :=
  ⟨h.1, fun hn => by
    obtain ⟨b, off, e, hlt, hc⟩ := h.2 hn
    exact ⟨b, off, e, hlt, fun j x hx => evAt_of fun i hi => (hb.cell (p := ⟨b, off + j * 3 + i, none⟩) hlt).trans ((hc j x hx).all i hi)⟩⟩
theorem RdE.more (h : RdE w B A n l) (hB : B ≤ B') : RdE w B' A n l :=
  ⟨h.1, fun hn => by
    obtain ⟨b, off, e, hlt, hc⟩ := h.2 hn
    exact ⟨b, off, e, by omega, hc⟩⟩
theorem RdE.up {W W' : World} (h : RdE W W.heap.size A n l) (hb : Below W.heap.size W W') : RdE W' W'.heap.size A n l := (h.below hb).more hb.size
theorem flatE_at {l : List Ev} {j : Nat} {x : Ev} (hx : l[j]? = some x) {i : Nat} (hi : i < 3) : (l.flatMap Ev.vs)[j * 3 + i]? = x.vs[i]? := by
  induction l generalizing j with
  | nil => simp at hx
  | cons y l ih =>
    rw [List.flatMap_cons]
    cases j with
    | zero =>
      simp at hx
      subst hx
      rw [Nat.zero_mul, Nat.zero_add, List.getElem?_append_left (by show i < 3; exact hi)]
    | succ j =>
      rw [List.getElem?_append_right (by show 3 ≤ (j + 1) * 3 + i; omega)]
      have e : (j + 1) * 3 + i - y.vs.length = j * 3 + i := by show (j + 1) * 3 + i - 3 = _; omega
      rw [e]
      exact ih (by simpa using hx)
/-- A literal of events in a block known whole. -/
theorem rdE_whole {W : World} {b : Nat} {t : TypeId} (h : Whole W b t (l.flatMap Ev.vs).toArray) : RdE W W.heap.size (some ⟨b, 0, none⟩) l.length l :=
  ⟨rfl, fun _ => ⟨b, 0, rfl, h.lt, fun j x hx => evAt_of fun i hi => by
    rw [h.cell (0 + j * 3 + i), List.getElem?_toArray, Nat.zero_add, flatE_at hx hi]⟩⟩
end

end Go.Proofs.Ytoiegffnmjlkdaa
