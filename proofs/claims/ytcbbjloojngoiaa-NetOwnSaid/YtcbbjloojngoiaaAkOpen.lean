/-
  What the statements over asks are handed, opened. Conditions: those that each theorem names.
-/
import Derived.Test.YtcbbjloojngoiaaMemOpen
import Derived.Test.YtcbbjloojngoiaaAkRow
import Derived.LaidMore
import Derived.Stop.Joined
namespace Go.Proofs.Ytcbbjloojngoiaa
open Go.RowKit Go.Shelf Go.ChangeShapes Go.WideShapes Go.Deep Go.Joins

section
variable {H : Type} {enc : TypeId × Value → H} {W : World} {base : Nat} {held : Bool} {d : DataW H} {p : List MemPlace} {v : Value}

set_option maxRecDepth 100000 in
theorem open_akC {f : Nat} {c : List Value} {y : DataW H × List MemPlace} (hsz : c.length = 6) (h : DataW.trod enc Try.prog W 0 (fun _ => true) held f 27 c = some y) : ∃ x : Ak, c = x.vs ∧ (Lit.int .u8 x.kind).wf = true := by
  have k_uint8 : Try.prog.cellsOf 5 = 1 := by kernel_rfl
  have k_int : Try.prog.cellsOf 3 = 1 := by kernel_rfl
  obtain ⟨xs, n, _, _, _, hlen, hel⟩ := DataW.trod_struct Try.underlying27 h
  match c, hsz, xs, hlen with
  | [c0, c1, c2, c3, c4, c5], _, [y0, y1, y2, y3, y4, y5], _ =>
    have g0 : DataW.trod enc Try.prog W 0 (fun _ => true) held n 5 [c0] = some y0 := by simpa [Value.cells, k_uint8] using hel 0 _ rfl
    have g1 : DataW.trod enc Try.prog W 0 (fun _ => true) held n 3 [c1] = some y1 := by simpa [Value.cells, k_int] using hel 1 _ rfl
    have g2 : DataW.trod enc Try.prog W 0 (fun _ => true) held n 3 [c2] = some y2 := by simpa [Value.cells, k_int] using hel 2 _ rfl
    have g3 : DataW.trod enc Try.prog W 0 (fun _ => true) held n 3 [c3] = some y3 := by simpa [Value.cells, k_int] using hel 3 _ rfl
    have g4 : DataW.trod enc Try.prog W 0 (fun _ => true) held n 3 [c4] = some y4 := by simpa [Value.cells, k_int] using hel 4 _ rfl
    have g5 : DataW.trod enc Try.prog W 0 (fun _ => true) held n 3 [c5] = some y5 := by simpa [Value.cells, k_int] using hel 5 _ rfl
    obtain ⟨z0, e0, _, w0⟩ := DataW.trod_int Try.underlying5 g0
    obtain ⟨z1, e1, _, _⟩ := DataW.trod_int Try.underlying3 g1
    obtain ⟨z2, e2, _, _⟩ := DataW.trod_int Try.underlying3 g2
    obtain ⟨z3, e3, _, _⟩ := DataW.trod_int Try.underlying3 g3
    obtain ⟨z4, e4, _, _⟩ := DataW.trod_int Try.underlying3 g4
    obtain ⟨z5, e5, _, _⟩ := DataW.trod_int Try.underlying3 g5
    simp only [List.cons.injEq, and_true] at e0 e1 e2 e3 e4 e5
    exact ⟨⟨z0, z1, z2, z3, z4, z5⟩, by rw [e0, e1, e2, e3, e4, e5]; rfl, w0⟩

set_option maxRecDepth 100000 in
theorem open_asksC {f : Nat} {y : DataW H × List MemPlace} (h : DataW.trod enc Try.prog W 0 (fun _ => true) held f 22 [v] = some y) : ∃ A m c l, v = .slice A m c ∧ RdK W W.heap.size A m l ∧ m ≤ maxLen ∧ ∀ x ∈ l, (Lit.int .u8 x.kind).wf = true := by
  rcases open_slice Try.underlying22 h with ⟨hcs, _⟩ | ⟨a, len, cap, m, n', D, Pl, hcs, _, hl, hm, hmm, _, hi⟩
  · simp only [List.cons.injEq, and_true] at hcs
    subst hcs
    exact ⟨none, 0, 0, [], rfl, ⟨rfl, fun h => absurd h (by omega)⟩, by unfold maxLen; omega, by simp⟩
  · simp only [List.cons.injEq, and_true] at hcs
    subst hcs
    have hC : Try.prog.cellsOf 27 = 6 := by kernel_rfl
    have hmc : m = cap := by simpa using hmm
    have each : ∀ i, i < len → ∃ x : Ak, (∀ j, j < 6 → W.cell? (a.add (i * 6 + j)) = x.vs[j]?) ∧ (Lit.int .u8 x.kind).wf = true := by
      intro i hin
      obtain ⟨cs', hc, ht'⟩ := hi i (by omega)
      rw [hC] at hc
      obtain ⟨_, hcl, hat⟩ := World.cells?_some hc
      obtain ⟨x, rfl, hx⟩ := open_akC hcl ht'
      refine ⟨x, fun j hj => ?_, hx⟩
      have := hat j hj
      rwa [Go.Deep.add_add] at this
    have build : ∀ j, j ≤ len → ∃ l : List Ak, l.length = j ∧ (∀ i x, l[i]? = some x → ∀ k, k < 6 → W.cell? (a.add (i * 6 + k)) = x.vs[k]?) ∧ ∀ x ∈ l, (Lit.int .u8 x.kind).wf = true := by
      intro j
      induction j with
      | zero => intro _; exact ⟨[], rfl, by simp, by simp⟩
      | succ j ih =>
        intro hj
        obtain ⟨l, hl1, hl2, hl3⟩ := ih (by omega)
        obtain ⟨x, x1, x2⟩ := each j (by omega)
        refine ⟨l ++ [x], by simp [hl1], ?_, ?_⟩
        · intro i y hy
          rcases Nat.lt_or_ge i l.length with h | h
          · rw [List.getElem?_append_left h] at hy
            exact hl2 i y hy
          · rw [List.getElem?_append_right h] at hy
            have h0 : i - l.length = 0 := by
              rcases Nat.eq_zero_or_pos (i - l.length) with h1 | h1
              · exact h1
              · rw [List.getElem?_eq_none (by simp; omega)] at hy; cases hy
            rw [h0] at hy
            simp only [List.getElem?_cons_zero, Option.some.injEq] at hy
            subst hy
            obtain rfl : i = j := by omega
            exact x1
        · intro y hy
          simp only [List.mem_append, List.mem_singleton] at hy
          rcases hy with hy | rfl
          · exact hl3 y hy
          · exact x2
    obtain ⟨l, hl1, hl2, hl3⟩ := build len (Nat.le_refl _)
    refine ⟨_, _, _, l, rfl, ⟨hl1, fun hn => ?_⟩, by omega, hl3⟩
    obtain ⟨x, hx⟩ : ∃ x, l[0]? = some x := ⟨_, List.getElem?_eq_getElem (by omega)⟩
    have h00 := hl2 0 x hx 0 (by omega)
    obtain ⟨b, off, spot⟩ := a
    rw [show x.vs[0]? = some _ from rfl] at h00
    have hspot : spot = none := by simpa [Addr.add] using World.cell?_spot h00
    subst hspot
    refine ⟨b, off, rfl, World.block_lt_of_cell? W _ h00, fun j y hy => akAt_of fun i hi => ?_⟩
    have h1 := hl2 j y hy i hi
    rw [Go.WideShapes.add_plain, ← Nat.add_assoc] at h1
    exact h1

set_option maxRecDepth 100000 in
/-- A thing asked, as it is handed over. -/
theorem open_askV (hv : Value.okWide Try.prog W .any base 27 v) (h : DataW.Trod enc Try.prog W 0 (fun _ => true) held 27 v d p) : ∃ q : Ak, v = .agg #[.int .u8 q.kind, .int .i64 q.call, .int .i64 q.a, .int .i64 q.b, .int .i64 q.c, .int .i64 q.d] ∧ (Lit.int .u8 q.kind).wf = true := by
  obtain ⟨cs, rfl, hsz⟩ := okWide_struct Try.underlying27 hv
  have hC : Try.prog.cellsOf 27 = 6 := by kernel_rfl
  rw [hC] at hsz
  obtain ⟨l⟩ := cs
  obtain ⟨fuel, hf⟩ := h
  obtain ⟨x, e, h1⟩ := open_akC (c := l) (by simpa using hsz) (by simpa [Value.cells] using hf)
  exact ⟨x, by rw [e]; rfl, h1⟩
set_option maxRecDepth 100000 in
/-- Things asked, as they are handed over. -/
theorem open_asksV (hv : Value.okWide Try.prog W .any base 22 v) (h : DataW.Trod enc Try.prog W 0 (fun _ => true) held 22 v d p) : ∃ A n c l, v = .slice A n c ∧ RdK W W.heap.size A n l ∧ n ≤ maxLen ∧ ∀ x ∈ l, (Lit.int .u8 x.kind).wf = true := by
  obtain ⟨A, m, c, rfl⟩ := okWide_slice Try.underlying22 hv
  obtain ⟨fuel, hf⟩ := h
  exact open_asksC (by simpa [Value.cells] using hf)
end

end Go.Proofs.Ytcbbjloojngoiaa
