/-
  Rows of bytes in a slice. Conditions: those that each theorem names.
-/
import Derived.Test.YtocleikdabclkaaMem
namespace Go.Proofs.Ytocleikdabclkaa
open Go.RowKit Go.Shelf

/-- A row of bytes, as an element of a slice: its slice, and what that reads as. -/
structure BE where
  A : Option Addr
  n : Nat
  c : Nat
  bs : List Nat
/-- A slice of rows of bytes that reads as the list l, in blocks below B. -/
def RdB (w : World) (B : Nat) (A : Option Addr) (n : Nat) (l : List BE) : Prop :=
  l.length = n ∧ (0 < n → ∃ b off, A = some ⟨b, off, none⟩ ∧ b < B ∧ ∀ j x, l[j]? = some x → w.cell? ⟨b, off + j, none⟩ = some (.slice x.A x.n x.c)) ∧
    ∀ x ∈ l, Rd w B x.A x.n (bv x.bs) ∧ (∀ y ∈ x.bs, y < 256) ∧ x.n ≤ x.c ∧ x.c ≤ maxLen
theorem RdB.below {w w' : World} {B n : Nat} {A : Option Addr} {l : List BE} (h : RdB w B A n l) (hb : Below B w w') : RdB w' B A n l :=
  ⟨h.1, fun hn => by
    obtain ⟨b, off, e, hlt, hc⟩ := h.2.1 hn
    exact ⟨b, off, e, hlt, fun j x hx => (hb.cell (p := ⟨b, off + j, none⟩) hlt).trans (hc j x hx)⟩,
   fun x hx => ⟨(h.2.2 x hx).1.below hb, (h.2.2 x hx).2⟩⟩

theorem RdB.more {w : World} {B B' n : Nat} {A : Option Addr} {l : List BE} (h : RdB w B A n l) (hB : B ≤ B') : RdB w B' A n l :=
  ⟨h.1, fun hn => by
    obtain ⟨b, off, e, hlt, hc⟩ := h.2.1 hn
    exact ⟨b, off, e, by omega, hc⟩,
   fun x hx => ⟨(h.2.2 x hx).1.more hB, (h.2.2 x hx).2⟩⟩
/-- The bytes of all rows, one behind the other. -/
def joinB (l : List BE) : List Nat := l.flatMap fun x => x.bs
theorem joinB_snoc (l : List BE) (x : BE) : joinB (l ++ [x]) = joinB l ++ x.bs := by simp [joinB]
theorem joinB_take {l : List BE} {k : Nat} {x : BE} (h : l[k]? = some x) : joinB (l.take (k + 1)) = joinB (l.take k) ++ x.bs := by
  have hk : k < l.length := (List.getElem?_eq_some_iff.1 h).1
  rw [List.getElem?_eq_getElem hk] at h
  rw [List.take_succ_eq_append_getElem hk, joinB_snoc, Option.some.inj h]
theorem joinB_le (l : List BE) (k : Nat) : (joinB (l.take k)).length ≤ (joinB l).length := by
  conv => rhs; rw [← List.take_append_drop k l, joinB, List.flatMap_append, List.length_append]
  exact Nat.le_add_right _ _
theorem own_capm {w : World} {base : Nat} {e : TypeId} {n c : Nat} {A : Option Addr} {xs : List Value} (h : w.ownsRow base e 1 (.slice A n c) n xs) : c ≤ maxLen := by
  rcases h.2 with ⟨h1, h2⟩ | ⟨g, cap, cur, h1, _, _, _, h2, _⟩
  · injection h1 with _ _ h3; unfold maxLen; omega
  · injection h1 with _ _ h3; omega

end Go.Proofs.Ytocleikdabclkaa
