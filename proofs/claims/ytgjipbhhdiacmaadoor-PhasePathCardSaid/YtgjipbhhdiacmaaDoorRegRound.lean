/-
  A region that draws its order, of operations that enter nothing, inside any fence, in a round or not: taken by hand as outside of one. Conditions: those that each theorem names.
-/
import Derived.Test.YtgjipbhhdiacmaaDoorHand
import Derived.OrdersIn
namespace Go.Proofs.YtgjipbhhdiacmaaDoor
open Go.RowKit Go.Shelf

/-- An operation that enters nothing. -/
def stillOp (o : Oper) : Bool :=
  match o.op with
  | .move _ | .assign _ | .pick _ _ _ | .load _ _ | .store _ _ _ | .nilCheck _ | .binOp _ _ _ _ _ | .unOp _ _ _ | .fieldAddr _ _ _ | .indexAddr _ _ _ => true
  | _ => false
def Flat : Result Next → Prop
  | .ok (.value _) _ => True
  | .ok .skip _ => True
  | .halt _ _ => True
  | _ => False
set_option maxRecDepth 100000 in
theorem flat_v (s : Sem Value) (P : Program) (w : World) : Flat ((do pure (Next.value (← s)) : Sem Next).run P w) := by
  simp only [Sem.run_bind]
  cases h : s.run P w with
  | ok v w' => simp [Result.andThen, Sem.run_pure, Flat]
  | halt h w' => simp [Result.andThen, Flat]
set_option maxRecDepth 100000 in
theorem flat_u (s : Sem Unit) (P : Program) (w : World) : Flat ((do s; pure Next.skip : Sem Next).run P w) := by
  simp only [Sem.run_bind]
  cases h : s.run P w with
  | ok v w' => simp [Result.andThen, Sem.run_pure, Flat]
  | halt h w' => simp [Result.andThen, Flat]
set_option maxRecDepth 100000 in
theorem still_flat {o : Oper} (h : stillOp o = true) (ρ : Operand → Value) (P : Program) (w : World) : Flat ((execOp ρ o).run P w) := by
  unfold stillOp at h
  unfold execOp
  cases ho : o.op <;> simp only [ho, Bool.false_eq_true] at h ⊢
  all_goals first | exact flat_v _ _ _ | exact flat_u _ _ _ | skip
  · simp only [Sem.run_pure, Flat]
  · simp only [Sem.run_pure, Flat]
  · simp only [Sem.run_bind]
    generalize Sem.run P (asBool _) w = r
    cases r <;> simp [Result.andThen, Sem.run_pure, Flat]
  · split
    · trivial
    · trivial
    · trivial
    · split
      · trivial
      · simp only [Sem.run_bind]
        generalize Sem.run P program w = r
        cases r with
        | halt _ _ => simp [Result.andThen, Flat]
        | ok v w1 =>
          simp only [Result.andThen_ok]
          generalize Sem.run P (nilAhead _ _ _ _) w1 = r2
          cases r2 with
          | halt _ _ => simp [Result.andThen, Flat]
          | ok v2 w2 =>
            simp only [Result.andThen_ok]
            split
            · simp only [Sem.run_bind]
              trivial
            · simp only [Sem.run_pure, Flat]
      · simp only [Sem.run_pure, Flat]
    · simp only [Sem.run_pure, Flat]

set_option maxRecDepth 100000 in
theorem upon_in {F : Fence} {n : Nat} {P : Program} {o : Oper} {a : Act} {K : Act → World → Prop} {Q : Exit → Act → World → Prop} {r : Result Next} (hr : Flat r) (h : o.upon P a K Q r) : o.uponIn F n P a K Q r := by
  cases r with
  | ok x w' => cases x <;> first | exact h | exact hr.elim
  | halt x w' => cases x <;> exact h
set_option maxRecDepth 100000 in
theorem still_about {o : Oper} (h : stillOp o = true) (P : Program) (w : World) (ρ : Operand → Value) : o.about P w ρ = none := by
  unfold stillOp at h
  unfold Oper.about
  cases ho : o.op <;> simp only [ho, Bool.false_eq_true] at h ⊢
set_option maxRecDepth 100000 in
theorem still_in {F : Fence} {n : Nat} {P : Program} {o : Oper} {a : Act} {w : World} {K : Act → World → Prop} {Q : Exit → Act → World → Prop} (hs : stillOp o = true) (h : o.wp P a w K Q) : o.wpIn F n P a w K Q := by
  refine ⟨fun f hf => (by rw [still_about hs] at hf; cases hf), ?_⟩
  rw [Oper.semAt_eq _ _ _ (fun c hc => by unfold stillOp at hs; rw [hc] at hs; cases hs)]
  exact upon_in (still_flat hs _ _ _) h
section
variable {F : Fence} {n : Nat} {P : Program} {ops : Array Oper} {Q : Exit → Act → World → Prop} {S : World → Prop}
set_option maxRecDepth 100000 in
theorem stillOp_in (hall : ops.all stillOp = true) (hL : ∀ a w, ¬ Q .outgrown a w) {i : Nat} {K : Act → World → Prop} {a : Act} {w : World} (h : wpOp P ops Q i K a w) : wpOpIn F n P ops Q i K a w := by
  unfold wpOp at h
  unfold wpOpIn
  cases ho : ops[i]? with
  | none => rw [ho] at h; exact h
  | some o =>
    rw [ho] at h
    have hs : stillOp o = true := by
      have := Array.all_eq_true_iff_forall_mem.1 hall o (Array.mem_of_getElem? ho)
      exact this
    dsimp only at h ⊢
    split
    · rename_i hw
      rw [if_pos hw] at h
      rcases h with h | h
      · exact still_in hs h
      · exact h.2.elim fun a h => h.elim fun w h => (hL a w h).elim
    · rename_i hw
      rw [if_neg hw] at h
      exact ⟨fun f hf => (by rw [still_about hs] at hf; cases hf), h⟩
set_option maxRecDepth 100000 in
theorem stillAny_in (hall : ops.all stillOp = true) (hL : ∀ a w, ¬ Q .outgrown a w) : ∀ (fuel : Nat) (listed : Array Bool) (a : Act) (w : World), wpAny P .any ops Q fuel listed a w → wpAnyIn F n P .any ops Q fuel listed a w
  | 0, _, _, _, h => h
  | fuel + 1, _, _, _, h => ⟨h.1, fun i hi => wpOpIn_mono (fun a' w' h' => stillAny_in hall hL fuel _ a' w' h') (stillOp_in hall hL (h.2 i hi))⟩
set_option maxRecDepth 100000 in
/-- Such a region, by hand, in any fence. -/
theorem wpIn_region_hand {id : Nat} {a : Act} {w : World} (hm : P.follows .mixedOrders = true) (hall : ops.all stillOp = true) (hL : ∀ a w, ¬ Q .outgrown a w) (hS : S w.drew)
    (h : S w.drew → wpAnyH P .any ops Q S ops.size (Array.replicate ops.size false) a w.drew) : (Code.region id ops true).wpIn F n P Q a w :=
  wpIn_region_any hm (stillAny_in hall hL _ _ _ _ (wpAny_of_held _ _ _ _ (h hS)))
end

end Go.Proofs.YtgjipbhhdiacmaaDoor
