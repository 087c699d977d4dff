/-
  A scope with two labels: the run comes back at one, and jumps ahead to the other. Conditions: those that each theorem names.
-/
import Derived.Test.YtgjipbhhdiacmaaDoorNumKit
namespace Go.Proofs.YtgjipbhhdiacmaaDoor
open Go.RowKit Go.Shelf

/-- As Q; by a goto to l0: J0; to l1: J1; by any other: no way out. -/
def jump2 (l0 : Nat) (J0 : Act → World → Prop) (l1 : Nat) (J1 : Act → World → Prop) (Q : Exit → Act → World → Prop) : Exit → Act → World → Prop
  | .goto l, a, w => (l = l0 ∧ J0 a w) ∨ (l = l1 ∧ J1 a w)
  | e, a, w => Q e a w

/-- A scope that the run leaves by a jump ahead to one label, and in which it comes back at another one: the first pass, each pass behind the label, and the tail. -/
theorem wp_scope_two {P : Program} {a : Act} {w : World} {Q : Exit → Act → World → Prop} {c rest r0 : Code} (l0 l1 : Nat) (J0 J1 : Act → World → Prop) (μ : Act → World → Nat)
    (hf : findLabel c l0 = some r0) (hf1 : findLabel c l1 = some (Code.skip.seq rest))
    (first : c.wp P (jump2 l0 J0 l1 J1 Q) a w)
    (pass : ∀ a w, J1 a w → rest.wp P (jump2 l0 J0 l1 (fun a' w' => J1 a' w' ∧ μ a' w' < μ a w) Q) a w)
    (tail : ∀ a w, J0 a w → r0.wp P (Exit.noGoto Q) a w) : (Code.scope c).wp P Q a w := by
  intro b k cs
  have hg0 : gotoIn l0 (.inScope c :: k) = some (.code r0 :: .inScope c :: k) := by simp [gotoIn, hf]
  have hg1 : gotoIn l1 (.inScope c :: k) = some (.code (Code.skip.seq rest) :: .inScope c :: k) := by simp [gotoIn, hf1]
  have end0 : ∀ a w, J0 a w → ∃ e a' w', Q e a' w' ∧ Arrives P (lone (b.at a (.code r0 :: .inScope c :: k)) cs w) b k cs e a' w' := by
    intro a w hJ
    obtain ⟨e, a₁, w₁, hq, harr⟩ := tail a w hJ b (.inScope c :: k) cs
    cases e with
    | normal => exact ⟨.normal, a₁, w₁, hq, Steps.trans harr (.one step_inScope)⟩
    | exit id => exact ⟨.exit id, a₁, w₁, hq, fun k' hk => harr k' (by simp [exitTo, hk])⟩
    | goto l' => exact hq.elim
    | ret => exact ⟨_, a₁, w₁, hq, harr⟩
    | panic ch => exact ⟨_, a₁, w₁, hq, harr⟩
    | outgrown => exact ⟨_, a₁, w₁, hq, harr⟩
  have key : ∀ n a w, μ a w = n → J1 a w → ∃ e a' w', Q e a' w' ∧ Arrives P (lone (b.at a (.code (Code.skip.seq rest) :: .inScope c :: k)) cs w) b k cs e a' w' := by
    intro n
    induction n using Nat.strongRecOn with
    | _ n ih =>
      intro a w hn hJ
      obtain ⟨e, a₁, w₁, hq, harr⟩ := (wp_seq (wp_skip (pass a w hJ))) b (.inScope c :: k) cs
      cases e with
      | normal => exact ⟨.normal, a₁, w₁, hq, Steps.trans harr (.one step_inScope)⟩
      | exit id => exact ⟨.exit id, a₁, w₁, hq, fun k' hk => harr k' (by simp [exitTo, hk])⟩
      | goto l' =>
        rcases hq with ⟨rfl, hJ'⟩ | ⟨rfl, hJ', hlt⟩
        · obtain ⟨e₂, a₂, w₂, hq₂, harr₂⟩ := end0 a₁ w₁ hJ'
          exact ⟨e₂, a₂, w₂, hq₂, .of_steps (harr _ hg0) harr₂⟩
        · obtain ⟨e₂, a₂, w₂, hq₂, harr₂⟩ := ih _ (by omega) a₁ w₁ rfl hJ'
          exact ⟨e₂, a₂, w₂, hq₂, .of_steps (harr _ hg1) harr₂⟩
      | ret => exact ⟨_, a₁, w₁, hq, harr⟩
      | panic ch => exact ⟨_, a₁, w₁, hq, harr⟩
      | outgrown => exact ⟨_, a₁, w₁, hq, harr⟩
  obtain ⟨e, a₁, w₁, hq, harr⟩ := first b (.inScope c :: k) cs
  cases e with
  | normal => exact ⟨.normal, a₁, w₁, hq, .head step_scope (Steps.trans harr (.one step_inScope))⟩
  | exit id => exact ⟨.exit id, a₁, w₁, hq, fun k' hk => .head step_scope (harr k' (by simp [exitTo, hk]))⟩
  | goto l' =>
    rcases hq with ⟨rfl, hJ'⟩ | ⟨rfl, hJ'⟩
    · obtain ⟨e₂, a₂, w₂, hq₂, harr₂⟩ := end0 a₁ w₁ hJ'
      exact ⟨e₂, a₂, w₂, hq₂, .of_steps (.head step_scope (harr _ hg0)) harr₂⟩
    · obtain ⟨e₂, a₂, w₂, hq₂, harr₂⟩ := key _ a₁ w₁ rfl hJ'
      exact ⟨e₂, a₂, w₂, hq₂, .of_steps (.head step_scope (harr _ hg1)) harr₂⟩
  | ret => exact ⟨_, a₁, w₁, hq, .of_steps (.one step_scope) harr⟩
  | panic ch => exact ⟨_, a₁, w₁, hq, .of_steps (.one step_scope) harr⟩
  | outgrown => exact ⟨_, a₁, w₁, hq, .of_steps (.one step_scope) harr⟩

theorem jump2_of {P : Program} {Q : Exit → Act → World → Prop} {rest : Code} {l0 l1 : Nat} {J0 J1 : Act → World → Prop} {μ : Act → World → Nat} {a : Act} {w : World}
    (h : rest.wp P (jump2 l0 J0 l1 (fun a' w' => J1 a' w' ∧ μ a' w' < μ a w) Q) a w) : rest.wp P (jump2 l0 J0 l1 J1 Q) a w := by
  refine wp_mono h ?_
  rintro (_ | _ | l | _ | _ | _) a2 w2 h
  all_goals first | exact h | exact h.imp id (fun h => ⟨h.1, h.2.1⟩)
/-- Code ahead of a label at which the run comes back, which it leaves by a jump ahead to another one. -/
theorem wp_scope_back_fwd {P : Program} {a : Act} {w : World} {Q : Exit → Act → World → Prop} {pre rest r0 : Code} (l0 l1 : Nat) (J0 J1 : Act → World → Prop) (μ : Act → World → Nat)
    (hn : findLabel pre l1 = none) (hf : findLabel (pre.seq ((Code.label l1).seq rest)) l0 = some r0)
    (h0 : pre.wp P (fun e a w => e = .normal ∧ J1 a w) a w)
    (pass : ∀ a w, J1 a w → rest.wp P (jump2 l0 J0 l1 (fun a' w' => J1 a' w' ∧ μ a' w' < μ a w) Q) a w)
    (tail : ∀ a w, J0 a w → r0.wp P (Exit.noGoto Q) a w) : (Code.scope (pre.seq ((Code.label l1).seq rest))).wp P Q a w := by
  refine wp_scope_two l0 l1 J0 J1 μ hf (by simp [findLabel, hn]) (wp_seq (wp_mono h0 ?_)) pass tail
  rintro e a1 w1 ⟨rfl, h1⟩
  exact wp_seq (wp_label (jump2_of (pass a1 w1 h1)))
/-- The same, with four pieces of code ahead of the label. -/
theorem wp_scope_back_fwd4 {P : Program} {a : Act} {w : World} {Q : Exit → Act → World → Prop} {p1 p2 p3 p4 rest r0 : Code} (l0 l1 : Nat) (J0 J1 : Act → World → Prop) (μ : Act → World → Nat)
    (hn1 : findLabel p1 l1 = none) (hn2 : findLabel p2 l1 = none) (hn3 : findLabel p3 l1 = none) (hn4 : findLabel p4 l1 = none) (hf : findLabel (p1.seq (p2.seq (p3.seq (p4.seq ((Code.label l1).seq rest))))) l0 = some r0)
    (h0 : p1.wp P (fun e a w => e = .normal ∧ p2.wp P (fun e a w => e = .normal ∧ p3.wp P (fun e a w => e = .normal ∧ p4.wp P (fun e a w => e = .normal ∧ J1 a w) a w) a w) a w) a w)
    (pass : ∀ a w, J1 a w → rest.wp P (jump2 l0 J0 l1 (fun a' w' => J1 a' w' ∧ μ a' w' < μ a w) Q) a w)
    (tail : ∀ a w, J0 a w → r0.wp P (Exit.noGoto Q) a w) : (Code.scope (p1.seq (p2.seq (p3.seq (p4.seq ((Code.label l1).seq rest)))))).wp P Q a w := by
  refine wp_scope_two l0 l1 J0 J1 μ hf (by simp [findLabel, hn1, hn2, hn3, hn4]) (wp_seq (wp_mono h0 ?_)) pass tail
  rintro e a1 w1 ⟨rfl, h1⟩
  refine wp_seq (wp_mono h1 ?_)
  rintro e a2 w2 ⟨rfl, h2⟩
  refine wp_seq (wp_mono h2 ?_)
  rintro e a3 w3 ⟨rfl, h3⟩
  refine wp_seq (wp_mono h3 ?_)
  rintro e a4 w4 ⟨rfl, h4⟩
  exact wp_seq (wp_label (jump2_of (pass a4 w4 h4)))

/-- A scope at whose label, behind two pieces of code, the run comes back. -/
theorem wp_scope_back_behind2 {P : Program} {a : Act} {w : World} {Q : Exit → Act → World → Prop} {pre pre2 rest : Code} (l : Nat) (J : Act → World → Prop) (μ : Act → World → Nat) (hn : findLabel pre l = none) (hn2 : findLabel pre2 l = none)
    (h0 : pre.wp P (fun e a w => e = .normal ∧ pre2.wp P (fun e a w => e = .normal ∧ J a w) a w) a w)
    (pass : ∀ a w, J a w → rest.wp P (Exit.jump l (fun a' w' => J a' w' ∧ μ a' w' < μ a w) Q) a w) : (Code.scope (pre.seq (pre2.seq ((Code.label l).seq rest)))).wp P Q a w := by
  refine wp_scope_jumps l J μ (rest := Code.skip.seq rest) (by simp [findLabel, hn, hn2]) (wp_seq (wp_mono h0 ?_)) (fun a w hJ => wp_seq (wp_skip (pass a w hJ)))
  rintro e a1 w1 ⟨rfl, h1⟩
  refine wp_seq (wp_mono h1 ?_)
  rintro e a1 w1 ⟨rfl, h1⟩
  refine wp_seq (wp_label (wp_mono (pass a1 w1 h1) ?_))
  rintro (_ | _ | l | _ | _ | _) a2 w2 h
  all_goals first | exact h | exact ⟨h.1, h.2.1⟩

end Go.Proofs.YtgjipbhhdiacmaaDoor
