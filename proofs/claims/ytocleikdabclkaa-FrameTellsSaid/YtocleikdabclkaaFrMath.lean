/-
  Plain facts on frames (no program): sums, frames, what is taken of bytes. Conditions: those that each theorem names.
-/
import Derived.Test.YtocleikdabclkaaFrSum
namespace Go.Proofs.Ytocleikdabclkaa

theorem step_inj {s s' c : Nat} (hs : s < 4294967296) (hs' : s' < 4294967296) (h : step s c = step s' c) : s = s' := by unfold step at h; omega
theorem step_byte {s x y : Nat} (hx : x < 256) (hy : y < 256) (h : step s x = step s y) : x = y := by unfold step at h; omega
theorem fold_inj (l : List Nat) : ∀ s s', s < 4294967296 → s' < 4294967296 → l.foldl step s = l.foldl step s' → s = s' := by
  induction l with
  | nil => intro s s' _ _ h; exact h
  | cons c l ih => intro s s' hs hs' h; exact step_inj hs hs' (ih _ _ (step_lt _ _) (step_lt _ _) h)
/-- With one byte that is another one the sum is another one. -/
theorem sum_byte {a b : List Nat} {x y : Nat} (hx : x < 256) (hy : y < 256) (h : sumOf (a ++ x :: b) = sumOf (a ++ y :: b)) : x = y := by
  unfold sumOf at h
  simp only [List.foldl_append, List.foldl_cons] at h
  exact step_byte hx hy (fold_inj b _ _ (step_lt _ _) (step_lt _ _) h)
theorem sum_app {a b c : List Nat} (h : sumOf a = sumOf b) : sumOf (a ++ c) = sumOf (b ++ c) := by
  unfold sumOf at *
  rw [List.foldl_append, List.foldl_append, h]

/-- The four bytes of a sum. -/
def le4 (s : Nat) : List Nat := [s % 256, s / 256 % 256, s / 65536 % 256, s / 16777216 % 256]
theorem le4_length (s : Nat) : (le4 s).length = 4 := rfl
theorem le4_bytes (s : Nat) : ∀ x ∈ le4 s, x < 256 := by
  intro x hx
  simp only [le4, List.mem_cons, List.not_mem_nil, or_false] at hx
  omega
theorem le4_inj {s t : Nat} (hs : s < 4294967296) (ht : t < 4294967296) (h : le4 s = le4 t) : s = t := by
  simp only [le4, List.cons.injEq, and_true] at h
  omega

/-- A payload's frame. -/
def fr (p : List Nat) : List Nat := put p.length ++ p ++ le4 (sumOf p)
def frLen (n : Nat) : Nat := (put n).length + n + 4
theorem fr_length (p : List Nat) : (fr p).length = frLen p.length := by simp [fr, frLen, le4_length]; omega
theorem fr_bytes {p : List Nat} (h : ∀ x ∈ p, x < 256) : ∀ x ∈ fr p, x < 256 := by
  intro x hx
  simp only [fr, List.mem_append] at hx
  rcases hx with (hx | hx) | hx
  · exact put_bytes _ x hx
  · exact h x hx
  · exact le4_bytes _ x hx
theorem put_two {n : Nat} (h : n ≤ 4000) : (put n).length ≤ 2 := put_len_le (k := 2) (by omega) (by omega)
theorem frLen_pos (n : Nat) : 5 ≤ frLen n := by have := put_pos n; unfold frLen; omega

/-- p is the payload of the frame that bs begins with. -/
def IsFr (bs p : List Nat) : Prop := p.length ≤ 4000 ∧ fr p <+: bs
theorem isFr_one {bs p q : List Nat} (h : IsFr bs p) (h' : IsFr bs q) : p = q := by
  obtain ⟨r, hr⟩ := h.2
  obtain ⟨s, hs⟩ := h'.2
  have h1 : fr p ++ r = fr q ++ s := hr.trans hs.symm
  unfold fr at h1
  simp only [List.append_assoc] at h1
  obtain ⟨h2, h3⟩ := put_prefix _ _ _ _ h1
  exact (List.append_inj h3 h2).1
theorem isFr_fr {p : List Nat} (h : p.length ≤ 4000) (rest : List Nat) : IsFr (fr p ++ rest) p := ⟨h, List.prefix_append _ _⟩
theorem IsFr.le {bs p : List Nat} (h : IsFr bs p) : frLen p.length ≤ bs.length := by rw [← fr_length]; exact h.2.length_le
theorem IsFr.split {bs p : List Nat} (h : IsFr bs p) : bs = fr p ++ bs.drop (frLen p.length) := by
  obtain ⟨r, hr⟩ := h.2
  rw [← hr, ← fr_length, List.drop_left]
theorem IsFr.bytes {bs p : List Nat} (h : IsFr bs p) (hb : ∀ x ∈ bs, x < 256) : ∀ x ∈ p, x < 256 := by
  intro x hx
  refine hb x (h.2.subset ?_)
  simp only [fr, List.mem_append]
  exact .inl (.inr hx)
/-- Where a frame's payload lies. -/
theorem IsFr.lies {bs p : List Nat} (h : IsFr bs p) : (bs.drop (put p.length).length).take p.length = p ∧ (bs.drop ((put p.length).length + p.length)).take 4 = le4 (sumOf p) ∧ bs.take (put p.length).length = put p.length := by
  obtain ⟨r, hr⟩ := h.2
  rw [← hr]
  unfold fr
  simp only [List.append_assoc]
  refine ⟨?_, ?_, ?_⟩
  · rw [List.drop_left, List.take_left]
  · rw [← List.drop_drop, List.drop_left, List.drop_left]
    exact List.take_left (l₁ := le4 (sumOf p))
  · exact List.take_left
/-- What stands where a frame would have its parts. -/
theorem isFr_of {bs : List Nat} {N : Nat} (hN : N ≤ 4000) (h0 : put N = bs.take (put N).length) (hl : frLen N ≤ bs.length) {p : List Nat} (hp : (bs.drop (put N).length).take N = p) (hs : (bs.drop ((put N).length + N)).take 4 = le4 (sumOf p)) : IsFr bs p := by
  have hpl : p.length = N := by
    rw [← hp, List.length_take, List.length_drop]; unfold frLen at hl; omega
  refine ⟨by omega, bs.drop (frLen N), ?_⟩
  unfold fr
  have e1 : bs = bs.take (put N).length ++ bs.drop (put N).length := (List.take_append_drop _ _).symm
  have e2 : bs.drop (put N).length = p ++ bs.drop ((put N).length + N) := by
    rw [← hp, ← List.drop_drop]; exact (List.take_append_drop _ _).symm
  have e3 : bs.drop ((put N).length + N) = le4 (sumOf p) ++ bs.drop (frLen N) := by
    have h1 := (List.take_append_drop 4 (bs.drop ((put N).length + N))).symm
    rw [List.drop_drop, hs] at h1
    exact h1
  rw [hpl]
  conv => rhs; rw [e1, e2, e3, ← h0]
  simp
/-- The number that a frame begins with, of its first two bytes, or of all. -/
theorem isFr_first {bs p : List Nat} (h : IsFr bs p) (k : Nat) (hk : 2 ≤ k) : first (bs.take k) = (p.length, (put p.length).length, 0) := by
  obtain ⟨r, hr⟩ := h.2
  rw [← hr]
  unfold fr
  simp only [List.append_assoc]
  have h2 := put_two h.1
  rw [List.take_append, List.take_of_length_le (by omega)]
  exact first_put (by have := h.1; omega) _
theorem isFr_first_all {bs p : List Nat} (h : IsFr bs p) : first bs = (p.length, (put p.length).length, 0) := by
  have := isFr_first h (bs.length + 2) (by omega)
  rwa [List.take_of_length_le (by omega)] at this

/-- The frames that bs begins with: their payloads, how many bytes they have. -/
def AllIs (bs : List Nat) (l : List (List Nat)) (used : Nat) : Prop :=
  bs = l.flatMap fr ++ bs.drop used ∧ used = (l.flatMap fr).length ∧ (∀ p ∈ l, p.length ≤ 4000) ∧ ∀ p, ¬ IsFr (bs.drop used) p
theorem all_ex : ∀ (m : Nat) (bs : List Nat), bs.length ≤ m → ∃ l used, AllIs bs l used := by
  intro m
  induction m with
  | zero =>
    intro bs h
    refine ⟨[], 0, by simp, rfl, by simp, fun p hp => ?_⟩
    have h1 := hp.le
    have h2 := frLen_pos p.length
    simp only [List.drop_zero] at h1; omega
  | succ m ih =>
    intro bs h
    by_cases hp : ∃ p, IsFr bs p
    · obtain ⟨p, hp⟩ := hp
      have h1 := hp.le
      have h2 := frLen_pos p.length
      obtain ⟨l, used, e1, e2, e3, e4⟩ := ih (bs.drop (frLen p.length)) (by rw [List.length_drop]; omega)
      refine ⟨p :: l, frLen p.length + used, ?_, ?_, ?_, ?_⟩
      · rw [List.flatMap_cons, List.append_assoc, ← List.drop_drop, ← e1, ← hp.split]
      · rw [List.flatMap_cons, List.length_append, fr_length, ← e2]
      · intro q hq
        rcases List.mem_cons.1 hq with rfl | hq
        · exact hp.1
        · exact e3 q hq
      · rw [← List.drop_drop]; exact e4
    · exact ⟨[], 0, by simp, rfl, by simp, fun p h => hp ⟨p, by simpa using h⟩⟩
/-- Frames one behind the other, and then none. -/
theorem allIs_app (l : List (List Nat)) (r : List Nat) (h : ∀ p ∈ l, p.length ≤ 4000) (hr : ∀ p, ¬ IsFr r p) : AllIs (l.flatMap fr ++ r) l (l.flatMap fr).length := by
  refine ⟨by rw [List.drop_left], rfl, h, ?_⟩
  rw [List.drop_left]; exact hr
/-- What comes next of them. -/
theorem AllIs.next {bs : List Nat} {pre rest : List (List Nat)} {p : List Nat} {used : Nat} (h : AllIs bs (pre ++ p :: rest) used) : IsFr (bs.drop (pre.flatMap fr).length) p := by
  obtain ⟨h1, _, h3, _⟩ := h
  rw [List.flatMap_append, List.flatMap_cons, List.append_assoc, List.append_assoc] at h1
  rw [h1, List.drop_left]
  exact isFr_fr (h3 p (by simp)) _
theorem not_isFr_nil (p : List Nat) : ¬ IsFr [] p := fun h => by
  have h1 := h.le
  have h2 := frLen_pos p.length
  simp at h1; omega
/-- A frame of which bytes at the end are cut off is none. -/
theorem not_isFr_cut {p q : List Nat} {k : Nat} (h : p.length ≤ 4000) (hk : k < (fr p).length) : ¬ IsFr ((fr p).take k) q := fun hq => by
  have h1 : IsFr (fr p) q := ⟨hq.1, hq.2.trans (List.take_prefix _ _)⟩
  have h2 : IsFr (fr p) p := by have := isFr_fr h []; rwa [List.append_nil] at this
  obtain rfl := isFr_one h1 h2
  have h3 := hq.le
  rw [fr_length] at hk
  rw [List.length_take] at h3
  omega
/-- With one byte behind the length that is another one a frame is none. -/
theorem not_isFr_harm {p q r : List Nat} {i x : Nat} (hp : ∀ y ∈ p, y < 256) (hx : x < 256) (hi : (put p.length).length ≤ i) (hi2 : i < (fr p).length) (hne : (fr p)[i]? ≠ some x) (hr : (fr p).set i x = r) : ¬ IsFr r q := fun hq => by
  subst hr
  obtain ⟨j, rfl⟩ : ∃ j, i = (put p.length).length + j := ⟨i - (put p.length).length, by omega⟩
  have e0 : fr p = put p.length ++ (p ++ le4 (sumOf p)) := by unfold fr; rw [List.append_assoc]
  rw [fr_length] at hi2
  have hj : j < p.length + 4 := by unfold frLen at hi2; omega
  obtain ⟨s, hs⟩ := hq.2
  rw [e0, List.set_append_right _ _ (by omega)] at hs
  rw [e0, List.getElem?_append_right (by omega)] at hne
  rw [Nat.add_sub_cancel_left] at hs hne
  unfold fr at hs
  simp only [List.append_assoc] at hs
  obtain ⟨h1, h2⟩ := put_prefix _ _ _ _ hs
  by_cases hjp : j < p.length
  · rw [List.set_append_left _ _ hjp] at h2
    rw [List.getElem?_append_left hjp] at hne
    obtain ⟨h3, h4⟩ := List.append_inj h2 (by rw [h1, List.length_set])
    obtain ⟨h5, _⟩ := List.append_inj (s₁ := le4 (sumOf q)) (t₁ := s) (s₂ := le4 (sumOf p)) (t₂ := []) (by simpa using h4) rfl
    have h6 := le4_inj (sumOf_lt _) (sumOf_lt _) h5
    rw [h3] at h6
    have e1 : p = p.take j ++ p[j] :: p.drop (j + 1) := by rw [List.getElem_cons_drop, List.take_append_drop]
    have e2 : p.set j x = p.take j ++ x :: p.drop (j + 1) := by rw [List.set_eq_take_append_cons_drop, if_pos hjp]
    rw [e2] at h6
    have h7 : x = p[j] := sum_byte hx (hp _ (List.getElem_mem hjp)) (h6.trans (by conv => lhs; rw [e1]))
    rw [List.getElem?_eq_getElem hjp, ← h7] at hne
    exact hne rfl
  · rw [List.set_append_right _ _ (by omega)] at h2
    rw [List.getElem?_append_right (by omega)] at hne
    obtain ⟨h3, h4⟩ := List.append_inj h2 h1
    obtain ⟨h5, _⟩ := List.append_inj (s₁ := le4 (sumOf q)) (t₁ := s) (s₂ := (le4 (sumOf p)).set (j - p.length) x) (t₂ := []) (by simpa using h4) (by rw [List.length_set]; rfl)
    rw [h3] at h5
    rw [h5] at hne
    exact hne (List.getElem?_set_self (by rw [le4_length]; omega))

end Go.Proofs.Ytocleikdabclkaa
