/-
  What a statement is handed as a slice of structs, opened: by how one of them is opened. Conditions: those that each theorem names.
-/
import Derived.Test.YtgjipbhhdiacmaaDoorMemOpen
import Derived.Test.YtgjipbhhdiacmaaDoorRdF
import Derived.LaidMore
import Derived.Stop.Joined
namespace Go.Proofs.YtgjipbhhdiacmaaDoor
open Go.RowKit Go.Shelf Go.ChangeShapes Go.WideShapes Go.Deep Go.Joins

section
variable {H : Type} {enc : TypeId × Value → H} {W : World} {held : Bool} {v : Value}

set_option maxRecDepth 100000 in
theorem open_rowF {α : Type} {f : α → List Value} {size : Nat} {ty e : TypeId} {P : α → Prop} (ht : Tryd.prog.underlying ty = some (.slice e)) (hC : Tryd.prog.cellsOf e = size) (hs : 0 < size) (hf : ∀ x, (f x).length = size)
    (one : ∀ (fu : Nat) (c : List Value) (y : DataW H × List MemPlace), c.length = size → DataW.trod enc Tryd.prog W 0 (fun _ => true) held fu e c = some y → ∃ x : α, c = f x ∧ P x)
    {fu : Nat} {y : DataW H × List MemPlace} (h : DataW.trod enc Tryd.prog W 0 (fun _ => true) held fu ty [v] = some y) : ∃ A m c l, v = .slice A m c ∧ RdF size f W W.heap.size A m l ∧ m ≤ maxLen ∧ m ≤ c ∧ ∀ x ∈ l, P x := by
  rcases open_slice ht h with ⟨hcs, _⟩ | ⟨a, len, cap, m, n', D, Pl, hcs, _, hl, hm, hmm, _, hi⟩
  · simp only [List.cons.injEq, and_true] at hcs
    subst hcs
    exact ⟨none, 0, 0, [], rfl, RdF.nil_ _ _ _, by unfold maxLen; omega, by omega, by simp⟩
  · simp only [List.cons.injEq, and_true] at hcs
    subst hcs
    have hmc : m = cap := by simpa using hmm
    have each : ∀ i, i < len → ∃ x : α, (∀ j, j < size → W.cell? (a.add (i * size + j)) = (f x)[j]?) ∧ P x := by
      intro i hin
      obtain ⟨cs', hc, ht'⟩ := hi i (by omega)
      rw [hC] at hc
      obtain ⟨_, hcl, hat⟩ := World.cells?_some hc
      obtain ⟨x, rfl, hx⟩ := one _ _ _ hcl ht'
      refine ⟨x, fun j hj => ?_, hx⟩
      have := hat j hj
      rwa [Go.Deep.add_add] at this
    have build : ∀ j, j ≤ len → ∃ l : List α, l.length = j ∧ (∀ i x, l[i]? = some x → ∀ k, k < size → W.cell? (a.add (i * size + k)) = (f x)[k]?) ∧ ∀ x ∈ l, P x := by
      intro j
      induction j with
      | zero => intro _; exact ⟨[], rfl, by simp, by simp⟩
      | succ j ih =>
        intro hj
        obtain ⟨l, hl1, hl2, hl3⟩ := ih (by omega)
        obtain ⟨x, x1, x2⟩ := each j (by omega)
        refine ⟨l ++ [x], by simp [hl1], ?_, ?_⟩
        · intro i y hy
          rcases Nat.lt_or_ge i l.length with h | h
          · rw [List.getElem?_append_left h] at hy
            exact hl2 i y hy
          · rw [List.getElem?_append_right h] at hy
            have h0 : i - l.length = 0 := by
              rcases Nat.eq_zero_or_pos (i - l.length) with h1 | h1
              · exact h1
              · rw [List.getElem?_eq_none (by simp; omega)] at hy; cases hy
            rw [h0] at hy
            simp only [List.getElem?_cons_zero, Option.some.injEq] at hy
            subst hy
            obtain rfl : i = j := by omega
            exact x1
        · intro y hy
          simp only [List.mem_append, List.mem_singleton] at hy
          rcases hy with hy | rfl
          · exact hl3 y hy
          · exact x2
    obtain ⟨l, hl1, hl2, hl3⟩ := build len (Nat.le_refl _)
    refine ⟨_, _, _, l, rfl, ⟨hl1, fun hn => ?_⟩, by omega, by omega, hl3⟩
    obtain ⟨x, hx⟩ : ∃ x, l[0]? = some x := ⟨_, List.getElem?_eq_getElem (by omega)⟩
    have h00 := hl2 0 x hx 0 hs
    obtain ⟨b, off, spot⟩ := a
    rw [List.getElem?_eq_getElem (by rw [hf]; exact hs)] at h00
    have hspot : spot = none := by simpa [Addr.add] using World.cell?_spot h00
    subst hspot
    rw [Addr.add_lit] at h00
    refine ⟨b, off, rfl, World.block_lt_of_cell? W _ h00, fun j y hy i hi => ?_⟩
    have h1 := hl2 j y hy i hi
    rw [Go.WideShapes.add_plain, ← Nat.add_assoc] at h1
    exact h1
end

end Go.Proofs.YtgjipbhhdiacmaaDoor
