/-
  Calls that are open, as the walks count them: which may be, by one after another; what is opened. Conditions: those that each theorem names.
-/
import Derived.Test.YtgajnmjifhemgaaClMath
import Derived.Test.YtgajnmjifhemgaaNumKit
namespace Go.Proofs.Ytgajnmjifhemgaa

/-- The number behind which the next one's is to be. -/
def lastC (b : Int) (pre : List Cl) : Int := (pre.getLast?.map Cl.id).getD b
def kindB (k : Int) : Bool := decide (1 ≤ k) && decide (k < 8)
/-- A call that may be, whatever its number and the others are. -/
def oneB (x : Cl) : Bool := kindB x.kind && (isNum x.key && isNum x.sent)
def anyC (l : List Cl) (kind key : Int) : Bool := l.any fun x => decide (x.kind = kind ∧ x.key = key)
/-- A call that may be behind those. -/
def okAtC (b nx : Int) (pre : List Cl) (x : Cl) : Bool := (decide (lastC b pre < x.id) && decide (x.id < b + nx)) && (oneB x && !anyC pre x.kind x.key)
/-- The first k may be. -/
def okToC (b nx : Int) (l : List Cl) : Nat → Bool
  | 0 => true
  | k + 1 => okToC b nx l k && (match l[k]? with | some x => okAtC b nx (l.take k) x | none => true)
def headB (ep nx : Int) : Bool := (decide (0 ≤ ep) && decide (ep ≤ 524288)) && (decide (1 ≤ nx) && decide (nx ≤ 1048576))
/-- They may be. -/
def rightC (c : Cs) : Bool := headB c.ep c.nx && okToC (c.ep * 1048576) c.nx c.l c.l.length

section
variable {b nx : Int} {l : List Cl} {k : Nat} {x : Cl}
theorem okToC_le : ∀ {k j : Nat}, okToC b nx l k = true → j ≤ k → okToC b nx l j = true
  | 0, j, h, hj => by rw [Nat.le_zero.1 hj]; rfl
  | k + 1, j, h, hj => by
    simp only [okToC, Bool.and_eq_true] at h
    rcases Nat.lt_or_ge j (k + 1) with h1 | h1
    · exact okToC_le h.1 (by omega)
    · rw [show j = k + 1 by omega]; simp only [okToC, Bool.and_eq_true]; exact h
theorem okToC_step (hx : l[k]? = some x) (h : okToC b nx l k = true) (h1 : okAtC b nx (l.take k) x = true) : okToC b nx l (k + 1) = true := by
  simp only [okToC, h, hx, h1, Bool.and_self]
theorem okToC_not (hx : l[k]? = some x) (h1 : okAtC b nx (l.take k) x = false) : okToC b nx l l.length = false := by
  cases h : okToC b nx l l.length with
  | false => rfl
  | true =>
    have h2 := okToC_le h (show k + 1 ≤ l.length from (List.getElem?_eq_some_iff.1 hx).1)
    simp only [okToC, hx, h1, Bool.and_false] at h2
    cases h2
theorem okToC_at (h : okToC b nx l l.length = true) (hx : l[k]? = some x) : okAtC b nx (l.take k) x = true := by
  have h2 := okToC_le h (show k + 1 ≤ l.length from (List.getElem?_eq_some_iff.1 hx).1)
  simp only [okToC, hx, Bool.and_eq_true] at h2
  exact h2.2
theorem okToC_take : ∀ {k : Nat}, k ≤ l.length → okToC b nx (l.take k) k = okToC b nx l k := by
  intro k hk
  have : ∀ j, j ≤ k → okToC b nx (l.take k) j = okToC b nx l j := by
    intro j
    induction j with
    | zero => intro _; rfl
    | succ j ih =>
      intro hj
      simp only [okToC, ih (by omega)]
      rw [List.getElem?_take_of_lt (by omega), List.take_take, show min j k = j by omega]
  exact this k (Nat.le_refl _)
theorem lastC_snoc (l : List Cl) (x : Cl) : lastC b (l ++ [x]) = x.id := by simp [lastC]
theorem lastC_take (hx : l[k]? = some x) : lastC b (l.take (k + 1)) = x.id := by
  have hj := List.getElem?_eq_some_iff.1 hx
  rw [List.take_succ_eq_append_getElem hj.1, hj.2, lastC_snoc]
theorem anyC_take (hx : l[k]? = some x) (kind key : Int) : anyC (l.take (k + 1)) kind key = (anyC (l.take k) kind key || decide (x.kind = kind ∧ x.key = key)) := by
  have hj := List.getElem?_eq_some_iff.1 hx
  rw [List.take_succ_eq_append_getElem hj.1, hj.2]
  simp [anyC]
theorem isNum_numC {n : Int} : isNum n = true ↔ numC n := isNum_iff
/-- Those that may be, by one after another, rise, and are pairwise of unlike deeds. -/
theorem okToC_right : ∀ {k : Nat}, k ≤ l.length → okToC b nx l k = true → (∀ x ∈ l.take k, b < x.id ∧ x.id < b + nx ∧ oneB x = true) ∧ (l.take k).Pairwise AheadC ∧ ∀ x ∈ l.take k, x.id ≤ lastC b (l.take k) := by
  intro k
  induction k with
  | zero => intro _ _; simp
  | succ k ih =>
    intro hk h
    obtain ⟨x, hx⟩ : ∃ x, l[k]? = some x := ⟨_, List.getElem?_eq_getElem (by omega)⟩
    simp only [okToC, hx, Bool.and_eq_true] at h
    obtain ⟨h1, h2, h3⟩ := ih (by omega) h.1
    have h4 := h.2
    simp only [okAtC, Bool.and_eq_true, decide_eq_true_eq, Bool.not_eq_true'] at h4
    obtain ⟨⟨h5, h6⟩, h7, h8⟩ := h4
    have hl := lastC_take (b := b) hx
    have hb : b < x.id := by
      rcases Nat.eq_zero_or_pos k with h0 | h0
      · subst h0; simpa [lastC] using h5
      · have h9 := h3 (l[0]'(by omega)) (by
          rw [List.mem_take_iff_getElem]; exact ⟨0, by omega, rfl⟩)
        have h10 := (h1 (l[0]'(by omega)) (by rw [List.mem_take_iff_getElem]; exact ⟨0, by omega, rfl⟩)).1
        omega
    have hj := List.getElem?_eq_some_iff.1 hx
    rw [hl, List.take_succ_eq_append_getElem hj.1, hj.2]
    refine ⟨?_, ?_, ?_⟩
    · intro y hy
      simp only [List.mem_append, List.mem_singleton] at hy
      rcases hy with hy | rfl
      · exact h1 y hy
      · exact ⟨hb, h6, h7⟩
    · rw [List.pairwise_append]
      refine ⟨h2, List.pairwise_singleton _ _, fun y hy z hz => ?_⟩
      simp only [List.mem_singleton] at hz
      subst hz
      refine ⟨by have := h3 y hy; omega, fun e => ?_⟩
      simp only [anyC, List.any_eq_false, decide_eq_true_eq] at h8
      exact h8 y hy e
    · intro y hy
      simp only [List.mem_append, List.mem_singleton] at hy
      rcases hy with hy | rfl
      · have := h3 y hy; omega
      · exact Int.le_refl _
theorem okToC_of (h1 : ∀ x ∈ l, b < x.id ∧ x.id < b + nx ∧ oneB x = true) (h2 : l.Pairwise AheadC) : ∀ {k : Nat}, k ≤ l.length → okToC b nx l k = true := by
  intro k
  induction k with
  | zero => intro _; rfl
  | succ k ih =>
    intro hk
    obtain ⟨x, hx⟩ : ∃ x, l[k]? = some x := ⟨_, List.getElem?_eq_getElem (by omega)⟩
    have hj := List.getElem?_eq_some_iff.1 hx
    have hm : x ∈ l := List.mem_of_getElem? hx
    obtain ⟨h3, h4, h5⟩ := h1 x hm
    have hp : ∀ y ∈ l.take k, AheadC y x := by
      have : (l.take (k + 1)).Pairwise AheadC := h2.sublist (List.take_sublist _ _)
      rw [List.take_succ_eq_append_getElem hj.1, hj.2, List.pairwise_append] at this
      exact fun y hy => this.2.2 y hy x (by simp)
    refine okToC_step hx (ih (by omega)) ?_
    simp only [okAtC, Bool.and_eq_true, decide_eq_true_eq, Bool.not_eq_true', h4, h5, and_true, true_and]
    refine ⟨?_, ?_⟩
    · cases hg : (l.take k).getLast? with
      | none => simpa [lastC, hg] using h3
      | some y => simpa [lastC, hg] using (hp y (List.mem_of_getLast? hg)).1
    · simp only [anyC, List.any_eq_false, decide_eq_true_eq]
      exact fun y hy e => (hp y hy).2 e
end
theorem kindB_iff {k : Int} : kindB k = true ↔ 1 ≤ k ∧ k < 8 := by simp [kindB]
theorem oneB_iff {x : Cl} : oneB x = true ↔ (1 ≤ x.kind ∧ x.kind < 8) ∧ numC x.key ∧ numC x.sent := by
  simp only [oneB, Bool.and_eq_true, kindB_iff, isNum_numC]
theorem rightC_iff {c : Cs} : rightC c = true ↔ RightC 8 c := by
  simp only [rightC, headB, Bool.and_eq_true, decide_eq_true_eq]
  constructor
  · rintro ⟨⟨⟨h1, h2⟩, h3, h4⟩, h5⟩
    obtain ⟨g1, g2, _⟩ := okToC_right (Nat.le_refl _) h5
    rw [List.take_length] at g1 g2
    refine ⟨h1, h2, h3, h4, fun x hx => ?_, g2⟩
    obtain ⟨a, b, d⟩ := g1 x hx
    obtain ⟨⟨e1, e2⟩, e3, e4⟩ := oneB_iff.1 d
    exact ⟨by omega, by omega, e1, e2, e3, e4⟩
  · rintro ⟨h1, h2, h3, h4, h5, h6⟩
    refine ⟨⟨⟨h1, h2⟩, h3, h4⟩, okToC_of (fun x hx => ?_) h6 (Nat.le_refl _)⟩
    have := h5 x hx
    exact ⟨by have := this.lo; omega, by have := this.hi; omega, oneB_iff.2 ⟨⟨this.kl, this.kh⟩, this.key, this.sent⟩⟩

/-- What is told of calls that are opened: them, the number, the error. -/
def openB (c : Cs) (kind key now : Int) : Bool := rightC c && (oneB ⟨0, kind, key, now⟩ && !hasC c kind key)
def openC (c : Cs) (kind key now : Int) : Cs := if openB c kind key now then (if c.nx = 1048576 then c else moreC c kind key now) else c
def openI (c : Cs) (kind key now : Int) : Int := if openB c kind key now then (if c.nx = 1048576 then 0 else c.ep * 1048576 + c.nx) else 0
def openE (c : Cs) (kind key now : Int) : Int := if openB c kind key now then (if c.nx = 1048576 then 241 else 0) else 2
def closeR (c : Cs) (id : Int) : Cs := if rightC c then closeC c id else c
def lateR (c : Cs) (now timeout : Int) : Cs := if rightC c && (isNum now && isNum timeout) then lateC c now timeout else c
def beginB (ep : Int) : Bool := decide (0 ≤ ep) && decide (ep ≤ 524288)
def beginC (ep : Int) : Cs := if beginB ep then ⟨ep, 1, []⟩ else ⟨0, 0, []⟩
def beginE (ep : Int) : Int := if beginB ep then 0 else 2
def findD (c : Cs) (id : Int) : Cl := (findC c id).getD ⟨0, 0, 0, 0⟩

section
variable {c : Cs} {kind key now : Int}
theorem openB_iff : openB c kind key now = true ↔ RightC 8 c ∧ ((1 ≤ kind ∧ kind < 8) ∧ numC key ∧ numC now) ∧ hasC c kind key = false := by
  simp only [openB, Bool.and_eq_true, rightC_iff, oneB_iff, Bool.not_eq_true']
theorem right_begin {ep : Int} (h : beginB ep = true) : rightC ⟨ep, 1, []⟩ = true := by
  simp only [beginB, Bool.and_eq_true, decide_eq_true_eq] at h
  exact rightC_iff.2 ⟨h.1, h.2, by simp, by simp, by simp, by simp⟩
theorem right_not_begin {ep : Int} (h : beginB ep = false) : rightC ⟨ep, 1, []⟩ = false := by
  simp only [beginB] at h
  simp [rightC, headB, h]
end

end Go.Proofs.Ytgajnmjifhemgaa
