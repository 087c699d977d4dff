/-
  What is asked: its values, rows of it in memory, how they read. Conditions: those that each theorem names.
-/
import Derived.Test.YtcbbjloojngoiaaMem
namespace Go.Proofs.Ytcbbjloojngoiaa
open Go.RowKit Go.Shelf

/-- What is asked. -/
structure Ak where
  kind : Int
  call : Int
  a : Int
  b : Int
  c : Int
  d : Int
  deriving DecidableEq
/-- The values of what is asked. -/
def Ak.vs (q : Ak) : List Value := [.int .u8 q.kind, .int .i64 q.call, .int .i64 q.a, .int .i64 q.b, .int .i64 q.c, .int .i64 q.d]
/-- What is asked, from o on in a block. -/
structure AkAt (w : World) (b o : Nat) (x : Ak) : Prop where
  c0 : w.cell? ⟨b, o, none⟩ = some (.int .u8 x.kind)
  c1 : w.cell? ⟨b, o + 1, none⟩ = some (.int .i64 x.call)
  c2 : w.cell? ⟨b, o + 2, none⟩ = some (.int .i64 x.a)
  c3 : w.cell? ⟨b, o + 3, none⟩ = some (.int .i64 x.b)
  c4 : w.cell? ⟨b, o + 4, none⟩ = some (.int .i64 x.c)
  c5 : w.cell? ⟨b, o + 5, none⟩ = some (.int .i64 x.d)
set_option maxRecDepth 100000 in
theorem akAt_of {w : World} {b o : Nat} {x : Ak} (h : ∀ i, i < 6 → w.cell? ⟨b, o + i, none⟩ = x.vs[i]?) : AkAt w b o x :=
  ⟨h 0 (by omega), h 1 (by omega), h 2 (by omega), h 3 (by omega), h 4 (by omega), h 5 (by omega)⟩
set_option maxRecDepth 100000 in
theorem AkAt.all {w : World} {b o : Nat} {x : Ak} (h : AkAt w b o x) : ∀ i, i < 6 → w.cell? ⟨b, o + i, none⟩ = x.vs[i]? := by
  intro i hi
  rcases (by omega : i = 0 ∨ i = 1 ∨ i = 2 ∨ i = 3 ∨ i = 4 ∨ i = 5) with rfl | rfl | rfl | rfl | rfl | rfl
  all_goals first | exact h.c0 | exact h.c1 | exact h.c2 | exact h.c3 | exact h.c4 | exact h.c5
/-- A slice of things asked that reads as the list l, in a block below B. -/
def RdK (w : World) (B : Nat) (A : Option Addr) (n : Nat) (l : List Ak) : Prop :=
  l.length = n ∧ (0 < n → ∃ b off, A = some ⟨b, off, none⟩ ∧ b < B ∧ ∀ j x, l[j]? = some x → AkAt w b (off + j * 6) x)
section
variable {w w' : World} {B B' n : Nat} {A : Option Addr} {l : List Ak}
set_option maxRecDepth 100000 in
theorem RdK.len (h : RdK w B A n l) : l.length = n := h.1
set_option maxRecDepth 100000 in
theorem RdK.below (h : RdK w B A n l) (hb : Below B w w') : RdK w' B A n l :=
  ⟨h.1, fun hn => by
    obtain ⟨b, off, e, hlt, hc⟩ := h.2 hn
    exact ⟨b, off, e, hlt, fun j x hx => akAt_of fun i hi => (hb.cell (p := ⟨b, off + j * 6 + i, none⟩) hlt).trans ((hc j x hx).all i hi)⟩⟩
set_option maxRecDepth 100000 in
theorem RdK.more (h : RdK w B A n l) (hB : B ≤ B') : RdK w B' A n l :=
  ⟨h.1, fun hn => by
    obtain ⟨b, off, e, hlt, hc⟩ := h.2 hn
    exact ⟨b, off, e, by omega, hc⟩⟩
end

end Go.Proofs.Ytcbbjloojngoiaa
