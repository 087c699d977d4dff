/-
  Texts that the walk of a statement over brains leans on, joined (BrRecRow). Conditions: those that each theorem names.
-/
import Derived.Test.YtplejbgecihnpaaDoorK12
import Derived.Maps.AppendAt

namespace Go.Proofs.YtplejbgecihnpaaDoor
open Go.RowKit Go.Shelf

set_option maxRecDepth 100000 in
theorem RdR.rows {w : World} {B n : Nat} {A : Option Addr} {l : List RE} (h : RdR w B A n l) : RdF 2 recF w B A n l :=
  ⟨h.1, fun hn => by
    obtain ⟨b, off, e, hlt, hc⟩ := h.2.1 hn
    refine ⟨b, off, e, hlt, fun j x hx i hi => ?_⟩
    match i, hi with
    | 0, _ => exact (hc j x hx).1
    | 1, _ => exact (hc j x hx).2⟩
set_option maxRecDepth 100000 in
theorem whole_ne {w : World} {b b' : Nat} {t t' : TypeId} {cs cs' : Array Value} (h : Whole w b t cs) (h' : Whole w b' t' cs') (hne : t ≠ t') : b ≠ b' := by
  intro e
  subst e
  unfold Whole at h h'
  rw [h] at h'
  injection h' with h'
  injection h' with _ h2 _
  exact hne h2

/-- A row of records of one's own, with room for so many. -/
def SlRec (lo n c : Nat) (xs : List RE) (v : Value) (w : World) : Prop := ∃ b, v = .slice (some ⟨b, 0, none⟩) n c ∧ w.ownsRow lo 50 2 v n (xs.flatMap recF)
set_option maxRecDepth 100000 in
theorem SlRec.under {lo n c : Nat} {xs : List RE} {v : Value} {w w' : World} (hb : Below w.heap.size w w') (h : SlRec lo n c xs v w) : SlRec lo n c xs v w' := by
  obtain ⟨b, e, h⟩ := h
  exact ⟨b, e, own_under h hb⟩
set_option maxRecDepth 100000 in
/-- What it reads as, where its records' numbers read. -/
theorem SlRec.reads {lo n c b : Nat} {xs : List RE} {w : World} (h : w.ownsRow lo 50 2 (.slice (some ⟨b, 0, none⟩) n c) n (xs.flatMap recF)) (hx : ∀ x ∈ xs, x.k < 256 ∧ Rd w w.heap.size x.A x.n (iv x.zs)) : RdR w w.heap.size (some ⟨b, 0, none⟩) n xs := by
  have h1 := RdF.of_own recF_len (by decide) h
  refine ⟨h1.1, fun hn => ?_, hx⟩
  obtain ⟨b', off, e, hlt, hc⟩ := h1.2 hn
  exact ⟨b', off, e, hlt, fun j x hj => ⟨hc j x hj 0 (by omega), hc j x hj 1 (by omega)⟩⟩

section
variable {K : Act → World → Prop} {Q : Exit → Act → World → Prop} {a : Act} {w : World} {d : Tmp} {t : TypeId} {pos : String} {after : Array Edge} {x y : Operand}
end

end Go.Proofs.YtplejbgecihnpaaDoor
