/-
  What statements over disks are handed: disks, bytes, rows of bytes, opened to lists. Conditions: those that each theorem names.
-/
import Derived.Test.YtekffkoggnbgeaaMemOpen
import Derived.Test.YtekffkoggnbgeaaDiskBase
import Derived.Deep.Matrix
namespace Go.Proofs.Ytekffkoggnbgeaa
open Go.RowKit Go.Shelf Go.ChangeShapes Go.WideShapes Go.Deep Go.Joins

section
variable {H : Type} {enc : TypeId × Value → H} {W : World} {base : Nat} {held : Bool} {d : DataW H} {p : List MemPlace} {v : Value}

theorem open_bytesC {n : Nat} {y : DataW H × List MemPlace} (hf : DataW.trod enc Try.prog W 0 (fun _ => true) held n 22 [v] = some y) : ∃ A m c bs, v = .slice A m c ∧ Rd W W.heap.size A m (bv bs) ∧ (∀ x ∈ bs, x < 256) ∧ m ≤ c ∧ c ≤ maxLen := by
  rcases open_ints Try.underlying22 Try.underlying5 (by kernel_rfl) hf with ⟨hcs, _⟩ | ⟨x, l, c', zs, hcs, _, hl, hm, hz, _, hcell, hwz⟩
  · simp only [List.cons.injEq, and_true] at hcs
    subst hcs
    exact ⟨none, 0, 0, [], rfl, Rd.nil_ _ _ _, by simp, Nat.le_refl _, by omega⟩
  · simp only [List.cons.injEq, and_true] at hcs
    subst hcs
    obtain ⟨bs, h1, h2, h3, h4⟩ := rd_of_bytes (w := W) (a := some x) (len := l) (cap := c') (zs := zs) (.inr ⟨x, rfl, hl, hm, by simpa using hz, hcell, hwz⟩)
    exact ⟨_, _, _, bs, rfl, h1, h2, h3, h4⟩

theorem open_intC {n : Nat} {y : DataW H × List MemPlace} (h : DataW.trod enc Try.prog W 0 (fun _ => true) held n 3 [v] = some y) : ∃ z : Int, v = .int .i64 z ∧ (Lit.int .i64 z).wf = true := by
  obtain ⟨z, hz, _, hw⟩ := DataW.trod_int Try.underlying3 h
  simp only [List.cons.injEq, and_true] at hz
  exact ⟨z, hz, hw⟩

/-- A disk, as it is handed over. -/
theorem open_diskV (hv : Value.okWide Try.prog W .any base 24 v) (h : DataW.Trod enc Try.prog W 0 (fun _ => true) held 24 v d p) :
    ∃ A n c s r bs, v = diskV A n c s r ∧ Rd W W.heap.size A n (bv bs) ∧ (∀ x ∈ bs, x < 256) ∧ n ≤ c ∧ c ≤ maxLen := by
  obtain ⟨v0, v1, v2, y0, y1, y2, m, rfl, _, _, h0, h1, h2⟩ := open_agg3 Try.underlying24 (by kernel_rfl) (by kernel_rfl) hv h
  obtain ⟨A, n, c, bs, rfl, hr, hb, hc, hm⟩ := open_bytesC h0
  obtain ⟨s, rfl, _⟩ := open_intC h1
  obtain ⟨r, rfl, _⟩ := open_intC h2
  exact ⟨A, n, c, s, r, bs, rfl, hr, hb, hc, hm⟩
end

end Go.Proofs.Ytekffkoggnbgeaa
