/-
  What stays true of calls while deeds are done, and of the numbers that were told. Conditions: those that each theorem names.
-/
import Derived.Test.YtgajnmjifhemgaaClWakes
import Derived.Test.YtgajnmjifhemgaaClArgs
import Derived.Test.YtgajnmjifhemgaaClPlace
namespace Go.Proofs.Ytgajnmjifhemgaa
open Go.RowKit Go.Shelf

/-- Of calls of an epoch behind j deeds: they may be, the number told last is below the next one, and there are no more than deeds. -/
structure Nm (ep : Int) (c : Cs) (last : Int) (m j : Nat) : Prop where
  right : RightC 8 c
  same : c.ep = ep
  lt : last < ep * 1048576 + c.nx
  nx : c.nx ≤ (j : Int) + 1
  len : c.l.length ≤ j
  few : m ≤ j
section
variable {ep : Int} {c : Cs} {last : Int} {m j : Nat}
theorem Nm.begin (h0 : 0 ≤ ep) (h1 : ep ≤ 262144) : Nm ep ⟨ep, 1, []⟩ 0 0 0 :=
  ⟨⟨h0, by show ep ≤ 524288; omega, by simp, by simp, by simp, by simp⟩, rfl, by show (0 : Int) < ep * 1048576 + 1; omega, by simp, by simp, by simp⟩
theorem Nm.next (h : Nm ep c last m j) : Nm ep c last m (j + 1) :=
  ⟨h.right, h.same, h.lt, by have := h.nx; omega, by have := h.len; omega, by have := h.few; omega⟩
theorem Nm.open (h : Nm ep c last m j) {kind key now : Int} (ho : openB c kind key now = true) (hj : j ≤ 40) : Nm ep (moreC c kind key now) (c.ep * 1048576 + c.nx) (m + 1) (j + 1) := by
  obtain ⟨h1, ⟨⟨h2, h3⟩, h4, h5⟩, h6⟩ := openB_iff.1 ho
  have := h.nx
  refine ⟨h.right.more (by omega) h2 h3 h4 h5 h6, h.same, ?_, ?_, ?_, by have := h.few; omega⟩
  · show c.ep * 1048576 + c.nx < ep * 1048576 + (c.nx + 1)
    rw [h.same]; omega
  · show c.nx + 1 ≤ ((j + 1 : Nat) : Int) + 1
    omega
  · simp only [moreC, List.length_append, List.length_singleton]
    have := h.len
    omega
/-- What is opened: another number, a greater one; it is found. -/
theorem Nm.opened (h : Nm ep c last m j) {kind key now : Int} (ho : openB c kind key now = true) (hj : j ≤ 40) : ∃ o id, openC c kind key now = o ∧ openI c kind key now = id ∧ openE c kind key now = 0 ∧ Nm ep o id (m + 1) (j + 1) ∧ findC o id = some ⟨id, kind, key, now⟩ ∧ hasC c kind key = false ∧ ((o.l.length : Int) != (c.l.length : Int) + 1) = false ∧ decide (id ≤ last) = false ∧ o.l.length ≤ 1000 := by
  have h1 := h.nx
  have h2 := h.lt
  have h3 := h.same
  have h4 := h.len
  have hnx : ¬ c.nx = 1048576 := by omega
  have hl : (moreC c kind key now).l.length = c.l.length + 1 := by simp [moreC]
  refine ⟨moreC c kind key now, c.ep * 1048576 + c.nx, by simp [openC, ho, hnx], by simp [openI, ho, hnx], by simp [openE, ho, hnx], h.open ho hj, find_more h.right _ _ _, (openB_iff.1 ho).2.2, ?_, decide_eq_false ?_, ?_⟩
  · simp [hl]
  · rw [h3]; omega
  · rw [hl]; omega
theorem Nm.close (h : Nm ep c last m j) (id : Int) : Nm ep (closeR c id) last m (j + 1) := by
  have e : closeR c id = closeC c id := by rw [closeR, rightC_iff.2 h.right]; rfl
  rw [e]
  refine ⟨h.right.close id, h.same, h.lt, by have := h.nx; show c.nx ≤ _; omega, Nat.le_trans (List.length_filter_le _ _) (by have := h.len; omega), by have := h.few; omega⟩
theorem Nm.find (h : Nm ep c last m j) (id : Int) : findC (closeR c id) id = none := by
  have e : closeR c id = closeC c id := by rw [closeR, rightC_iff.2 h.right]; rfl
  rw [e, find_close]
theorem Nm.late (h : Nm ep c last m j) (now timeout : Int) : Nm ep (lateR c now timeout) last m (j + 1) := by
  unfold lateR
  split
  · refine ⟨h.right.late now timeout, h.same, h.lt, by have := h.nx; show c.nx ≤ _; omega, Nat.le_trans (List.length_filter_le _ _) (by have := h.len; omega), by have := h.few; omega⟩
  · exact h.next
end

theorem tmod3_u8 {z : Int} (h : (Lit.int .u8 z).wf = true) : z.tmod 3 = 0 ∨ z.tmod 3 = 1 ∨ z.tmod 3 = 2 := by
  have h2 : 0 ≤ z ∧ z ≤ 255 := by
    simpa [Lit.wf, IntKind.min, IntKind.max, IntKind.signed, IntKind.bits] using h
  have h1 := h2.1
  rw [Int.tmod_eq_emod_of_nonneg h1]
  omega
/-- 'append(told, id)'. -/
theorem told_app (w V : World) (v : Value) (m : Nat) (ids : List Int) (id : Int) (ht : V.ownsRow w.heap.size 3 1 v m (iv ids)) (hb : Below w.heap.size w V) (hm : m ≤ 1000) :
    ∃ B k W3, (Builtin.append_ #[42, 42] 42 #[v, .slice (some ⟨V.heap.size, 0, none⟩) 1 1]).run Try.prog (V.alloc (.cells #[.int .i64 id] 3)) = .ok (.slice B (m + 1) k) W3 ∧ W3.ownsRow w.heap.size 3 1 (.slice B (m + 1) k) (m + 1) (iv (ids ++ [id])) ∧ Below w.heap.size w W3 ∧ (∀ b t cs, 3 ≠ t → Whole V b t cs → Whole W3 b t cs) ∧ (∀ base v l, CallsAt base V v l → CallsAt base W3 v l) := by
  have hbA : Below V.heap.size V (V.alloc (.cells #[.int .i64 id] 3)) := (Below.refl _ _).alloc (Nat.le_refl _) _
  have hB1 : Below w.heap.size w (V.alloc (.cells #[.int .i64 id] 3)) := hb.trans (hbA.mono hb.size)
  have ht1 := own_under ht hbA
  obtain ⟨v', W3, h1, h2, h3⟩ := run_appI (V.alloc (.cells #[.int .i64 id] 3)) w.heap.size v m (iv ids) ht1 (V.heap.size + 1) (some ⟨V.heap.size, 0, none⟩) 1 1 [id] (rd_lit V (iv [id]) 3 1 rfl) (by omega) hB1.size
  obtain ⟨B, k, rfl⟩ := own_form h2
  refine ⟨B, k, W3, h1, ?_, hB1.trans (below_row ht1 h3 hB1.size), fun b t cs hne hw => (hw.under hbA).grown h3 (Ne.symm (own_apart_of hne ht1 (hw.under hbA))), fun base v l ha => own_kept_F (by decide) ht1 (ha.under hbA) h3⟩
  have e : iv (ids ++ [id]) = iv ids ++ iv [id] := by simp [iv]
  rw [e]
  exact h2
/-- A number that was told reads. -/
theorem told_at {W : World} {base m k : Nat} {B : Option Addr} {ids : List Int} (h : W.ownsRow base 3 1 (.slice B m k) m (iv ids)) {p : Nat} (hp : p < m) : ∃ b off id, B = some ⟨b, off, none⟩ ∧ W.cell? ⟨b, off + p, none⟩ = some (.int .i64 id) := by
  have hr := Rd.of_own h
  have hl : (iv ids).length = m := hr.1
  obtain ⟨b, off, e, _, hc⟩ := hr.2 (by omega)
  rw [iv_length] at hl
  refine ⟨b, off, ids[p]'(by omega), e, ?_⟩
  rw [hc p hp]
  simp [iv]

end Go.Proofs.Ytgajnmjifhemgaa
