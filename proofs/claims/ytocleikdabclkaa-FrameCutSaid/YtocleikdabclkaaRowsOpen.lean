/-
  Rows of bytes, as statements are handed them, opened to lists. Conditions: those that each theorem names.
-/
import Derived.Test.YtocleikdabclkaaMemOpen
import Derived.Test.YtocleikdabclkaaRowsB
import Derived.Deep.Matrix
namespace Go.Proofs.Ytocleikdabclkaa
open Go.RowKit Go.Shelf Go.ChangeShapes Go.WideShapes Go.Deep Go.Joins

section
variable {H : Type} {enc : TypeId × Value → H} {W : World} {base : Nat} {held : Bool} {d : DataW H} {p : List MemPlace} {v : Value}

theorem open_bytesC {n : Nat} {y : DataW H × List MemPlace} (hf : DataW.trod enc Try.prog W 0 (fun _ => true) held n 22 [v] = some y) : ∃ A m c bs, v = .slice A m c ∧ Rd W W.heap.size A m (bv bs) ∧ (∀ x ∈ bs, x < 256) ∧ m ≤ c ∧ c ≤ maxLen := by
  rcases open_ints Try.underlying22 Try.underlying5 (by kernel_rfl) hf with ⟨hcs, _⟩ | ⟨x, l, c', zs, hcs, _, hl, hm, hz, _, hcell, hwz⟩
  · simp only [List.cons.injEq, and_true] at hcs
    subst hcs
    exact ⟨none, 0, 0, [], rfl, Rd.nil_ _ _ _, by simp, Nat.le_refl _, by omega⟩
  · simp only [List.cons.injEq, and_true] at hcs
    subst hcs
    obtain ⟨bs, h1, h2, h3, h4⟩ := rd_of_bytes (w := W) (a := some x) (len := l) (cap := c') (zs := zs) (.inr ⟨x, rfl, hl, hm, by simpa using hz, hcell, hwz⟩)
    exact ⟨_, _, _, bs, rfl, h1, h2, h3, h4⟩

theorem open_intC {n : Nat} {y : DataW H × List MemPlace} (h : DataW.trod enc Try.prog W 0 (fun _ => true) held n 3 [v] = some y) : ∃ z : Int, v = .int .i64 z ∧ (Lit.int .i64 z).wf = true := by
  obtain ⟨z, hz, _, hw⟩ := DataW.trod_int Try.underlying3 h
  simp only [List.cons.injEq, and_true] at hz
  exact ⟨z, hz, hw⟩

/-- Rows of bytes, as they are handed over. -/
theorem open_rowsV (hv : Value.okWide Try.prog W .any base 29 v) (h : DataW.Trod enc Try.prog W 0 (fun _ => true) held 29 v d p) :
    ∃ A n c l, v = .slice A n c ∧ RdB W W.heap.size A n l ∧ n ≤ c ∧ c ≤ maxLen := by
  obtain ⟨A, n, c, rfl⟩ := okWide_slice Try.underlying29 hv
  obtain ⟨fuel, hf⟩ := h
  rcases open_int_rows Try.underlying29 Try.underlying22 Try.underlying5 (by kernel_rfl) (by kernel_rfl) hf with ⟨hcs, _⟩ | ⟨a, len, cap, A', L, C, Z, hcs, _, hl, hm, _, hx⟩
  · simp [Value.cells] at hcs
    obtain ⟨rfl, rfl, rfl⟩ := hcs
    exact ⟨none, 0, 0, [], rfl, ⟨rfl, fun h => absurd h (by omega), by simp⟩, by omega, by omega⟩
  · simp [Value.cells] at hcs
    obtain ⟨rfl, rfl, rfl⟩ := hcs
    have each : ∀ i, i < n → ∃ x : BE, W.cell? (a.add i) = some (.slice x.A x.n x.c) ∧ Rd W W.heap.size x.A x.n (bv x.bs) ∧ (∀ y ∈ x.bs, y < 256) ∧ x.n ≤ x.c ∧ x.c ≤ maxLen := by
      intro i hi
      obtain ⟨h1, h2, h3, h4, h5, h6, h7⟩ := hx i (by omega)
      have hrow : (A' i = none ∧ L i = 0 ∧ C i = 0 ∧ Z i = []) ∨ ∃ x, A' i = some x ∧ L i ≤ C i ∧ C i ≤ maxLen ∧ (Z i).length = C i ∧ (∀ j, j < (Z i).length → W.cell? (x.add j) = some (.int .u8 ((Z i).getD j 0))) ∧ ∀ z ∈ Z i, (Lit.int .u8 z).wf = true := by
        cases hA : A' i with
        | none =>
          have h8 := h6 hA
          exact .inl ⟨rfl, by omega, h8, List.eq_nil_of_length_eq_zero (by omega)⟩
        | some a' => exact .inr ⟨a', rfl, h2, h3, h4, fun j hj => (h7 a' hA).2 j (by omega), h5⟩
      obtain ⟨bs, g1, g2, g3, g4⟩ := rd_of_bytes (w := W) hrow
      exact ⟨⟨A' i, L i, C i, bs⟩, h1, g1, g2, g3, g4⟩
    have build : ∀ j, j ≤ n → ∃ l : List BE, l.length = j ∧ (∀ i x, l[i]? = some x → W.cell? (a.add i) = some (.slice x.A x.n x.c)) ∧ ∀ x ∈ l, Rd W W.heap.size x.A x.n (bv x.bs) ∧ (∀ y ∈ x.bs, y < 256) ∧ x.n ≤ x.c ∧ x.c ≤ maxLen := by
      intro j
      induction j with
      | zero => intro _; exact ⟨[], rfl, by simp, by simp⟩
      | succ j ih =>
        intro hj
        obtain ⟨l, hl1, hl2, hl3⟩ := ih (by omega)
        obtain ⟨x, x1, x2⟩ := each j (by omega)
        refine ⟨l ++ [x], by simp [hl1], ?_, ?_⟩
        · intro i y hy
          rcases Nat.lt_or_ge i l.length with h | h
          · rw [List.getElem?_append_left h] at hy
            exact hl2 i y hy
          · rw [List.getElem?_append_right h] at hy
            have h0 : i - l.length = 0 := by
              rcases Nat.eq_zero_or_pos (i - l.length) with h1 | h1
              · exact h1
              · rw [List.getElem?_eq_none (by simp; omega)] at hy; cases hy
            rw [h0] at hy
            simp only [List.getElem?_cons_zero, Option.some.injEq] at hy
            subst hy
            obtain rfl : i = j := by omega
            exact x1
        · intro y hy
          simp only [List.mem_append, List.mem_singleton] at hy
          rcases hy with hy | rfl
          · exact hl3 y hy
          · exact x2
    obtain ⟨l, hl1, hl2, hl3⟩ := build n (Nat.le_refl _)
    refine ⟨_, _, _, l, rfl, ⟨hl1, fun hn => ?_, hl3⟩, hl, hm⟩
    obtain ⟨x, hx0⟩ : ∃ x, l[0]? = some x := ⟨_, List.getElem?_eq_getElem (by omega)⟩
    obtain ⟨b, off, spot⟩ := a
    have hspot : spot = none := by simpa [Addr.add] using World.cell?_spot (hl2 0 x hx0)
    subst hspot
    refine ⟨b, off, rfl, World.block_lt_of_cell? W _ (hl2 0 x hx0), fun j y hy => ?_⟩
    have h1 := hl2 j y hy
    rw [Go.WideShapes.add_plain] at h1
    exact h1
end

end Go.Proofs.Ytocleikdabclkaa
