/-
  Texts that the walks of the statements over logs lean on, joined (NumMath, NumKit, Mem, NumAdd, NumFirst, NumClone, NumBehind, NumEach). Conditions: those that each theorem names.
-/
import Derived.RangeFuncNested
import Derived.RangeFuncBound
import Derived.RangeFuncCalls
import Derived.RangeFuncLeaves
import Derived.RangeFuncBox
import Derived.Shelf.Abstract
import Derived.Shelf.RegionOpen
import Derived.WalkKit
import Derived.WalkSpells
import Derived.WalkLawsBesides
import Derived.OwnWalkIn
import Derived.TacticsInMore
import Derived.LoopNIn
import Derived.LoopIn
import Derived.Maps.AppendAt
import Derived.Lib.Hide
import Derived.ScopeJumps
import Derived.Deep.QuietTactic
import Derived.BigQuiet
import Derived.Deep.Draws
import Derived.Deep.AppendLies
import Derived.Test.YtbkfpghpfaemeaaRows
import Derived.Laws.BytesArg
import Derived.Deep.RegionHeld3
import Derived.OpenShut
import Derived.Laws.AppendOwnNone

/-
  Plain facts on numbers' bytes (no program): the digits by 128, what is taken back of bytes, and rows of them. Conditions: those that each theorem names.
-/
namespace Go.Proofs.Ytbkfpghpfaemeaa

/-- The bytes of a number. -/
def put (n : Nat) : List Nat := if n < 128 then [n] else (n % 128 + 128) :: put (n / 128)
  termination_by n
  decreasing_by omega

set_option maxRecDepth 100000 in
theorem put_small {n : Nat} (h : n < 128) : put n = [n] := by rw [put, if_pos h]
set_option maxRecDepth 100000 in
theorem put_big {n : Nat} (h : ¬ n < 128) : put n = (n % 128 + 128) :: put (n / 128) := by rw [put, if_neg h]

set_option maxRecDepth 100000 in
theorem put_bytes : ∀ (n x : Nat), x ∈ put n → x < 256 := by
  intro n
  induction n using Nat.strongRecOn with
  | _ n ih =>
    intro x hx
    by_cases h : n < 128
    · rw [put_small h] at hx; simp at hx; omega
    · rw [put_big h] at hx
      simp only [List.mem_cons] at hx
      rcases hx with hx | hx
      · omega
      · exact ih (n / 128) (by omega) x hx

set_option maxRecDepth 100000 in
theorem put_pos : ∀ (n : Nat), 0 < (put n).length := by
  intro n
  by_cases h : n < 128
  · rw [put_small h]; simp
  · rw [put_big h]; simp

set_option maxRecDepth 100000 in
/-- A number of k digits lies below the k-th power. -/
theorem put_lt : ∀ (n : Nat), n < 128 ^ (put n).length := by
  intro n
  induction n using Nat.strongRecOn with
  | _ n ih =>
    by_cases h : n < 128
    · rw [put_small h]; simpa using h
    · rw [put_big h]
      have := ih (n / 128) (by omega)
      simp only [List.length_cons, Nat.pow_succ]
      omega

set_option maxRecDepth 100000 in
theorem put_ge : ∀ (n : Nat), 1 < (put n).length → 128 ^ ((put n).length - 1) ≤ n := by
  intro n
  induction n using Nat.strongRecOn with
  | _ n ih =>
    intro hl
    by_cases h : n < 128
    · rw [put_small h] at hl; simp at hl
    · rw [put_big h] at hl ⊢
      have h0 := ih (n / 128) (by omega)
      have hp := put_pos (n / 128)
      simp only [List.length_cons, Nat.add_sub_cancel] at *
      by_cases h1 : 1 < (put (n / 128)).length
      · have h2 := h0 h1
        obtain ⟨k, hk⟩ : ∃ k, (put (n / 128)).length = k + 1 := ⟨(put (n / 128)).length - 1, by omega⟩
        rw [hk] at h2 ⊢
        simp only [Nat.add_sub_cancel, Nat.pow_succ] at *
        omega
      · have : (put (n / 128)).length = 1 := by omega
        rw [this]; omega

set_option maxRecDepth 100000 in
theorem put_len_le {n k : Nat} (h : n < 128 ^ k) (hk : 0 < k) : (put n).length ≤ k := by
  rcases Nat.lt_or_ge k (put n).length with hlt | hge
  · have h1 := put_ge n (by omega)
    have h2 : 128 ^ k ≤ 128 ^ ((put n).length - 1) := Nat.pow_le_pow_right (by omega) (by omega)
    omega
  · exact hge

set_option maxRecDepth 100000 in
theorem put_six {n : Nat} (h : n ≤ 1099511627776) : (put n).length ≤ 6 := put_len_le (by omega) (by omega)

set_option maxRecDepth 100000 in
theorem put_len_mono {n m : Nat} (h : n ≤ m) : (put n).length ≤ (put m).length :=
  put_len_le (Nat.lt_of_le_of_lt h (put_lt m)) (put_pos m)

set_option maxRecDepth 100000 in
/-- Numbers whose bytes begin one another's are one. -/
theorem put_prefix : ∀ (n m : Nat) (r s : List Nat), put n ++ r = put m ++ s → n = m ∧ r = s := by
  intro n
  induction n using Nat.strongRecOn with
  | _ n ih =>
    intro m r s he
    by_cases h : n < 128
    · by_cases h' : m < 128
      · rw [put_small h, put_small h'] at he
        simpa using he
      · rw [put_small h, put_big h'] at he
        simp at he; omega
    · by_cases h' : m < 128
      · rw [put_big h, put_small h'] at he
        simp at he; omega
      · rw [put_big h, put_big h'] at he
        simp only [List.cons_append, List.cons.injEq] at he
        obtain ⟨h1, h2⟩ := he
        obtain ⟨h3, h4⟩ := ih (n / 128) (by omega) (m / 128) r s h2
        exact ⟨by omega, h4⟩

/-- What comes of taking a number: the number, how many bytes it has, an error's number. -/
def scan (n long : Nat) : List Nat → Nat × Nat × Nat
  | [] => (0, 0, 10)
  | d :: r =>
    if 128 ≤ d ∧ long + 1 < 6 then scan (n + d % 128 * 128 ^ long) (long + 1) r
    else if 128 ≤ d ∨ (d = 0 ∧ 1 < long + 1) ∨ 1099511627776 < n + d % 128 * 128 ^ long then (0, 0, 11)
    else (n + d % 128 * 128 ^ long, long + 1, 0)

def first (bs : List Nat) : Nat × Nat × Nat := scan 0 0 bs

set_option maxRecDepth 100000 in
theorem scan_cases : ∀ (bs : List Nat) (n long : Nat), scan n long bs = (0, 0, 10) ∨ scan n long bs = (0, 0, 11) ∨
    ∃ N K, scan n long bs = (N, K, 0) ∧ N ≤ 1099511627776 ∧ long < K ∧ K ≤ long + bs.length := by
  intro bs
  induction bs with
  | nil => intro n long; left; rfl
  | cons d r ih =>
    intro n long
    simp only [scan]
    split
    · rcases ih (n + d % 128 * 128 ^ long) (long + 1) with h | h | ⟨N, K, h, h1, h2, h3⟩
      · exact .inl h
      · exact .inr (.inl h)
      · exact .inr (.inr ⟨N, K, h, h1, by omega, by simp; omega⟩)
    · split
      · exact .inr (.inl rfl)
      · rename_i _ hn
        exact .inr (.inr ⟨_, _, rfl, by omega, by omega, by simp⟩)

set_option maxRecDepth 100000 in
theorem scan_put : ∀ (m n long : Nat) (rest : List Nat), long + (put m).length ≤ 6 → (0 < m ∨ long = 0) → n + m * 128 ^ long ≤ 1099511627776 →
    scan n long (put m ++ rest) = (n + m * 128 ^ long, long + (put m).length, 0) := by
  intro m
  induction m using Nat.strongRecOn with
  | _ m ih =>
    intro n long rest hl h0 hm
    by_cases h : m < 128
    · rw [put_small h]
      simp only [List.cons_append, List.nil_append, scan, List.length_singleton]
      have hmod : m % 128 = m := Nat.mod_eq_of_lt h
      rw [hmod, if_neg (by omega), if_neg (by omega)]
    · rw [put_big h] at hl ⊢
      have hp := put_pos (m / 128)
      simp only [List.cons_append, List.length_cons] at *
      simp only [scan]
      have e1 : (m % 128 + 128) % 128 = m % 128 := by omega
      have e2 : m * 128 ^ long = m % 128 * 128 ^ long + m / 128 * 128 ^ (long + 1) := by
        have h1 : m = m % 128 + 128 * (m / 128) := by omega
        have h2 : m * 128 ^ long = (m % 128 + 128 * (m / 128)) * 128 ^ long := by rw [← h1]
        rw [h2, Nat.add_mul, Nat.pow_succ]
        congr 1
        rw [Nat.mul_comm 128 (m / 128), Nat.mul_assoc, Nat.mul_comm 128 (128 ^ long)]
      rw [e1, if_pos (by omega), ih (m / 128) (by omega) _ _ _ (by omega) (.inl (by omega)) (by omega)]
      simp only [Prod.mk.injEq]
      exact ⟨by omega, by omega, trivial⟩

set_option maxRecDepth 100000 in
theorem first_put {m : Nat} (h : m ≤ 1099511627776) (rest : List Nat) : first (put m ++ rest) = (m, (put m).length, 0) := by
  have := scan_put m 0 0 rest (by have := put_six h; omega) (.inr rfl) (by omega)
  simpa [first] using this

set_option maxRecDepth 100000 in
/-- What was taken is put as the bytes that were there. -/
theorem scan_only : ∀ (bs : List Nat) (n long N K : Nat), (∀ x ∈ bs, x < 256) → scan n long bs = (N, K, 0) →
    ∃ m, N = n + m * 128 ^ long ∧ bs = put m ++ bs.drop (K - long) ∧ K = long + (put m).length ∧ (0 < m ∨ long = 0) := by
  intro bs
  induction bs with
  | nil => intro n long N K _ h; simp [scan] at h
  | cons d r ih =>
    intro n long N K hb h
    have hd : d < 256 := hb d (by simp)
    simp only [scan] at h
    split at h
    · rename_i hc
      obtain ⟨m, h1, h2, h3, h4⟩ := ih _ _ _ _ (fun x hx => hb x (by simp [hx])) h
      have hm : 0 < m := by omega
      have hp := put_pos m
      refine ⟨d % 128 + 128 * m, ?_, ?_, ?_, .inl (by omega)⟩
      · rw [h1, Nat.add_mul, Nat.pow_succ, ← Nat.add_assoc]
        congr 1
        rw [Nat.mul_comm 128 m, Nat.mul_assoc, Nat.mul_comm 128 (128 ^ long)]
      · rw [put_big (by omega)]
        have e1 : (d % 128 + 128 * m) % 128 + 128 = d := by omega
        have e2 : (d % 128 + 128 * m) / 128 = m := by omega
        have e3 : K - long = (K - (long + 1)) + 1 := by omega
        rw [e1, e2, e3, List.drop_succ_cons, List.cons_append, ← h2]
      · rw [put_big (by omega)]
        have e2 : (d % 128 + 128 * m) / 128 = m := by omega
        rw [e2, List.length_cons]; omega
    · rename_i hc
      split at h
      · simp at h
      · rename_i hn
        simp only [Prod.mk.injEq] at h
        obtain ⟨h1, h2, _⟩ := h
        have hlt : d < 128 := by omega
        have hmod : d % 128 = d := Nat.mod_eq_of_lt hlt
        refine ⟨d, by rw [hmod] at h1; omega, ?_, ?_, by omega⟩
        · rw [put_small hlt]
          have e3 : K - long = 1 := by omega
          rw [e3]; simp
        · rw [put_small hlt]; simp; omega

set_option maxRecDepth 100000 in
theorem first_only {bs : List Nat} {N K : Nat} (hb : ∀ x ∈ bs, x < 256) (h : first bs = (N, K, 0)) : bs = put N ++ bs.drop K ∧ K = (put N).length ∧ N ≤ 1099511627776 := by
  obtain ⟨m, h1, h2, h3, _⟩ := scan_only bs 0 0 N K hb h
  have hN : N = m := by omega
  subst hN
  rcases scan_cases bs 0 0 with hc | hc | ⟨N', K', hc, h4, _⟩
  · unfold first at h; rw [hc] at h; simp at h
  · unfold first at h; rw [hc] at h; simp at h
  · unfold first at h; rw [hc] at h
    simp only [Prod.mk.injEq] at h
    exact ⟨by simpa using h2, by omega, by omega⟩

set_option maxRecDepth 100000 in
/-- A part of the bytes that is cut off at its end is too short. -/
theorem scan_cut : ∀ (m n long k : Nat), long + (put m).length ≤ 6 → k < (put m).length → scan n long ((put m).take k) = (0, 0, 10) := by
  intro m
  induction m using Nat.strongRecOn with
  | _ m ih =>
    intro n long k hl hk
    cases k with
    | zero => simp [scan]
    | succ k =>
      by_cases h : m < 128
      · rw [put_small h] at hk; simp at hk
      · rw [put_big h] at hk hl ⊢
        simp only [List.length_cons] at hk hl
        have hp := put_pos (m / 128)
        simp only [List.take_succ_cons, scan]
        rw [if_pos (by omega)]
        exact ih (m / 128) (by omega) _ _ k (by omega) (by omega)

set_option maxRecDepth 100000 in
theorem first_cut {m k : Nat} (h : m ≤ 1099511627776) (hk : k < (put m).length) : first ((put m).take k) = (0, 0, 10) :=
  scan_cut m 0 0 k (by have := put_six h; omega) hk

/-! ### rows -/

/-- The bytes of a row's numbers, one behind the other. -/
def puts (l : List Nat) : List Nat := l.flatMap put

set_option maxRecDepth 100000 in
theorem puts_snoc (l : List Nat) (n : Nat) : puts (l ++ [n]) = puts l ++ put n := by simp [puts]
set_option maxRecDepth 100000 in
theorem puts_cons (l : List Nat) (n : Nat) : puts (n :: l) = put n ++ puts l := by simp [puts]

/-- What comes of taking k numbers one behind the other: how many bytes they have, the numbers, an error. -/
def takes : Nat → List Nat → Nat × List Nat × Nat
  | 0, _ => (0, [], 0)
  | k + 1, bs =>
    if (first bs).2.2 = 0 then ((first bs).2.1 + (takes k (bs.drop (first bs).2.1)).1, (first bs).1 :: (takes k (bs.drop (first bs).2.1)).2.1, (takes k (bs.drop (first bs).2.1)).2.2)
    else (0, [], (first bs).2.2)

/-- What comes of taking a row: how many bytes it has, the numbers, an error. -/
def takeRow (bs : List Nat) : Nat × List Nat × Nat :=
  if (first bs).2.2 ≠ 0 then (0, [], (first bs).2.2)
  else if 40 < (first bs).1 then (0, [], 11)
  else if (takes (first bs).1 (bs.drop (first bs).2.1)).2.2 ≠ 0 then (0, [], (takes (first bs).1 (bs.drop (first bs).2.1)).2.2)
  else ((first bs).2.1 + (takes (first bs).1 (bs.drop (first bs).2.1)).1, (takes (first bs).1 (bs.drop (first bs).2.1)).2.1, 0)

def row (l : List Nat) : List Nat := put l.length ++ puts l

set_option maxRecDepth 100000 in
theorem first_ok {bs : List Nat} (hb : ∀ x ∈ bs, x < 256) (h : (first bs).2.2 = 0) :
    bs = put (first bs).1 ++ bs.drop (first bs).2.1 ∧ (first bs).2.1 = (put (first bs).1).length ∧ (first bs).1 ≤ 1099511627776 :=
  first_only hb (by rw [← h])

set_option maxRecDepth 100000 in
theorem first_err {bs : List Nat} (h : (first bs).2.2 ≠ 0) : (first bs).1 = 0 ∧ (first bs).2.1 = 0 ∧ ((first bs).2.2 = 10 ∨ (first bs).2.2 = 11) := by
  rcases scan_cases bs 0 0 with hc | hc | ⟨N', K', hc, _⟩
  · unfold first at *; rw [hc] at h ⊢; simp
  · unfold first at *; rw [hc] at h ⊢; simp
  · unfold first at *; rw [hc] at h; simp at h

set_option maxRecDepth 100000 in
theorem takes_puts : ∀ (l : List Nat) (rest : List Nat), (∀ n ∈ l, n ≤ 1099511627776) → takes l.length (puts l ++ rest) = ((puts l).length, l, 0) := by
  intro l
  induction l with
  | nil => intro rest _; rfl
  | cons n l ih =>
    intro rest h
    have hn : n ≤ 1099511627776 := h n (by simp)
    have h0 := ih rest (fun x hx => h x (by simp [hx]))
    rw [puts_cons, List.append_assoc, List.length_cons, takes, first_put hn, if_pos rfl]
    have e : (put n ++ (puts l ++ rest)).drop (put n).length = puts l ++ rest := List.drop_left
    simp only [e, h0, List.length_append]

set_option maxRecDepth 100000 in
theorem takeRow_row {l : List Nat} (hl : l.length ≤ 40) (h : ∀ n ∈ l, n ≤ 1099511627776) (rest : List Nat) : takeRow (row l ++ rest) = ((row l).length, l, 0) := by
  unfold takeRow row
  rw [List.append_assoc, first_put (by omega)]
  have e : (put l.length ++ (puts l ++ rest)).drop (put l.length).length = puts l ++ rest := List.drop_left
  simp only [e, takes_puts l rest h]
  rw [if_neg (by simp), if_neg (by omega), if_neg (by simp), List.length_append]

set_option maxRecDepth 100000 in
theorem takes_only : ∀ (k : Nat) (bs : List Nat), (∀ x ∈ bs, x < 256) → (takes k bs).2.2 = 0 →
    bs = puts (takes k bs).2.1 ++ bs.drop (takes k bs).1 ∧ (takes k bs).1 = (puts (takes k bs).2.1).length ∧ (takes k bs).2.1.length = k ∧ ∀ n ∈ (takes k bs).2.1, n ≤ 1099511627776 := by
  intro k
  induction k with
  | zero => intro bs _ _; simp [takes, puts]
  | succ k ih =>
    intro bs hb h
    simp only [takes] at h ⊢
    by_cases h0 : (first bs).2.2 = 0
    · rw [if_pos h0] at h ⊢
      obtain ⟨h1, h2, h3⟩ := first_ok hb h0
      obtain ⟨h4, h5, h6, h7⟩ := ih (bs.drop (first bs).2.1) (fun x hx => hb x (List.mem_of_mem_drop hx)) h
      simp only at h4 h5 h6 h7 ⊢
      refine ⟨?_, ?_, by simp [h6], ?_⟩
      · rw [puts_cons, List.append_assoc, ← List.drop_drop, ← h4, ← h1]
      · rw [puts_cons, List.length_append, ← h2, ← h5]
      · intro n hn
        simp only [List.mem_cons] at hn
        rcases hn with rfl | hn
        · exact h3
        · exact h7 n hn
    · rw [if_neg h0] at h; exact absurd h h0

set_option maxRecDepth 100000 in
theorem takes_err (k : Nat) : ∀ (bs : List Nat), (takes k bs).2.2 ≠ 0 → (takes k bs).2.2 = 10 ∨ (takes k bs).2.2 = 11 := by
  induction k with
  | zero => intro bs h; simp [takes] at h
  | succ k ih =>
    intro bs h
    simp only [takes] at h ⊢
    by_cases h0 : (first bs).2.2 = 0
    · rw [if_pos h0] at h ⊢; exact ih _ h
    · rw [if_neg h0]; exact (first_err h0).2.2

set_option maxRecDepth 100000 in
theorem takeRow_only {bs : List Nat} (hb : ∀ x ∈ bs, x < 256) (h : (takeRow bs).2.2 = 0) :
    bs = row (takeRow bs).2.1 ++ bs.drop (takeRow bs).1 ∧ (takeRow bs).2.1.length ≤ 40 ∧ (∀ n ∈ (takeRow bs).2.1, n ≤ 1099511627776) ∧ (takeRow bs).1 = (row (takeRow bs).2.1).length := by
  unfold takeRow at h ⊢
  by_cases h0 : (first bs).2.2 = 0
  · rw [if_neg (by simpa using h0)] at h ⊢
    by_cases h1 : 40 < (first bs).1
    · rw [if_pos h1] at h; simp at h
    · rw [if_neg h1] at h ⊢
      by_cases h2 : (takes (first bs).1 (bs.drop (first bs).2.1)).2.2 = 0
      · rw [if_neg (by simpa using h2)]
        obtain ⟨h3, h4, h5⟩ := first_ok hb h0
        obtain ⟨h6, h7, h8, h9⟩ := takes_only _ _ (fun x hx => hb x (List.mem_of_mem_drop hx)) h2
        simp only
        refine ⟨?_, by omega, h9, ?_⟩
        · rw [row, h8, List.append_assoc, ← List.drop_drop, ← h6, ← h3]
        · rw [row, List.length_append, h8, ← h4, ← h7]
      · rw [if_pos h2] at h; exact absurd h h2
  · rw [if_pos h0] at h; exact absurd h h0

set_option maxRecDepth 100000 in
theorem takeRow_err {bs : List Nat} (h : (takeRow bs).2.2 ≠ 0) : (takeRow bs).2.1 = [] ∧ ((takeRow bs).2.2 = 10 ∨ (takeRow bs).2.2 = 11) := by
  unfold takeRow at h ⊢
  by_cases h0 : (first bs).2.2 = 0
  · rw [if_neg (by simpa using h0)] at h ⊢
    by_cases h1 : 40 < (first bs).1
    · rw [if_pos h1]; simp
    · rw [if_neg h1] at h ⊢
      by_cases h2 : (takes (first bs).1 (bs.drop (first bs).2.1)).2.2 = 0
      · rw [if_neg (by simpa using h2)] at h; simp at h
      · rw [if_pos h2]
        exact ⟨rfl, takes_err _ _ h2⟩
  · rw [if_pos h0]
    exact ⟨rfl, (first_err h0).2.2⟩

set_option maxRecDepth 100000 in
theorem takes_cut : ∀ (l : List Nat) (k : Nat), (∀ n ∈ l, n ≤ 1099511627776) → k < (puts l).length → (takes l.length ((puts l).take k)).2.2 = 10 := by
  intro l
  induction l with
  | nil => intro k _ hk; simp [puts] at hk
  | cons n l ih =>
    intro k h hk
    have hn : n ≤ 1099511627776 := h n (by simp)
    rw [puts_cons, List.length_append] at hk
    rw [puts_cons, List.take_append, List.length_cons]
    by_cases h1 : k < (put n).length
    · have e : k - (put n).length = 0 := by omega
      rw [e, List.take_zero, List.append_nil, takes, first_cut hn h1]
      simp
    · rw [List.take_of_length_le (by omega), takes, first_put hn, if_pos rfl]
      have e : (put n ++ List.take (k - (put n).length) (puts l)).drop (put n).length = List.take (k - (put n).length) (puts l) := List.drop_left
      simp only [e]
      exact ih _ (fun x hx => h x (by simp [hx])) (by omega)

set_option maxRecDepth 100000 in
theorem takeRow_cut {l : List Nat} {k : Nat} (hl : l.length ≤ 40) (h : ∀ n ∈ l, n ≤ 1099511627776) (hk : k < (row l).length) : (takeRow ((row l).take k)).2.2 = 10 := by
  unfold row at hk ⊢
  rw [List.length_append] at hk
  rw [List.take_append]
  unfold takeRow
  by_cases h1 : k < (put l.length).length
  · have e : k - (put l.length).length = 0 := by omega
    rw [e, List.take_zero, List.append_nil, first_cut (by omega) h1]
    simp
  · rw [List.take_of_length_le (by omega), first_put (by omega)]
    have e : (put l.length ++ List.take (k - (put l.length).length) (puts l)).drop (put l.length).length = List.take (k - (put l.length).length) (puts l) := List.drop_left
    have h2 := takes_cut l (k - (put l.length).length) h (by omega)
    simp only [e, h2]
    rw [if_neg (by simp), if_neg (by omega), if_pos (by simp)]

end Go.Proofs.Ytbkfpghpfaemeaa

/-
  Small words on memory: slices that read as a list, rows of the call's own, what stays. Conditions: those that each theorem names.
-/
namespace Go.Proofs.Ytbkfpghpfaemeaa
open Go.RowKit Go.Shelf

/-- Bytes, and integers, as values. -/
def bv (l : List Nat) : List Value := l.map fun x : Nat => Value.int .u8 (x : Int)
def iv (l : List Int) : List Value := l.map (Value.int .i64)

set_option maxRecDepth 100000 in
theorem bv_append (l m : List Nat) : bv (l ++ m) = bv l ++ bv m := by simp [bv]
set_option maxRecDepth 100000 in
theorem bv_length (l : List Nat) : (bv l).length = l.length := by simp [bv]
set_option maxRecDepth 100000 in
theorem iv_length (l : List Int) : (iv l).length = l.length := by simp [iv]
set_option maxRecDepth 100000 in
theorem bv_one (l : List Nat) : ∀ u ∈ bv l, u.oneCell' = true := by
  intro u hu
  simp only [bv, List.mem_map] at hu
  obtain ⟨x, _, rfl⟩ := hu
  rfl
set_option maxRecDepth 100000 in
theorem iv_one (l : List Int) : ∀ u ∈ iv l, u.oneCell' = true := by
  intro u hu
  simp only [iv, List.mem_map] at hu
  obtain ⟨x, _, rfl⟩ := hu
  rfl

/-- A slice of n one-cell elements that reads as the list xs, in a block below B. -/
def Rd (w : World) (B : Nat) (A : Option Addr) (n : Nat) (xs : List Value) : Prop :=
  xs.length = n ∧ (0 < n → ∃ b off, A = some ⟨b, off, none⟩ ∧ b < B ∧ ∀ j, j < n → w.cell? ⟨b, off + j, none⟩ = xs[j]?)

section
variable {w w' : World} {B B' n : Nat} {A : Option Addr} {xs : List Value}
set_option maxRecDepth 100000 in
theorem Rd.nil_ (w : World) (B : Nat) (A : Option Addr) : Rd w B A 0 [] := ⟨rfl, fun h => absurd h (by omega)⟩
set_option maxRecDepth 100000 in
theorem Rd.keep (h : Rd w B A n xs) (hk : ∀ p : Addr, p.block < B → w'.cell? p = w.cell? p) : Rd w' B A n xs :=
  ⟨h.1, fun hn => by
    obtain ⟨b, off, e, hb, hc⟩ := h.2 hn
    exact ⟨b, off, e, hb, fun j hj => (hk ⟨b, off + j, none⟩ hb).trans (hc j hj)⟩⟩
set_option maxRecDepth 100000 in
theorem Rd.more (h : Rd w B A n xs) (hB : B ≤ B') : Rd w B' A n xs :=
  ⟨h.1, fun hn => by
    obtain ⟨b, off, e, hb, hc⟩ := h.2 hn
    exact ⟨b, off, e, by omega, hc⟩⟩
set_option maxRecDepth 100000 in
theorem Rd.below (h : Rd w B A n xs) (hb : Below B w w') : Rd w' B A n xs := h.keep fun _ hp => hb.cell hp
set_option maxRecDepth 100000 in
theorem Rd.alloc (h : Rd w B A n xs) (hB : B ≤ w.heap.size) (o : Obj) : Rd (w.alloc o) B A n xs := h.below ((Below.refl B w).alloc hB o)
set_option maxRecDepth 100000 in
theorem Rd.of_own {base : Nat} {e : TypeId} {c : Nat} (h : w.ownsRow base e 1 (.slice A n c) n xs) : Rd w w.heap.size A n xs := by
  refine ⟨by have := h.1; omega, fun hn => ?_⟩
  obtain ⟨g, cap, hv, _, hlt⟩ := h.form hn
  injection hv with hA _ hc
  subst hA; subst hc
  refine ⟨g, 0, rfl, hlt, fun j hj => ?_⟩
  rw [Nat.zero_add]
  exact h.cellAt j (by omega)
set_option maxRecDepth 100000 in
/-- The slice's rest from k on, as the model cuts it. -/
theorem Rd.cut {k : Nat} (h : Rd w B A n xs) (hk : k ≤ n) (A' : Option Addr) (hA : k < n → ∀ b off, A = some ⟨b, off, none⟩ → A' = some ⟨b, off + k, none⟩) : Rd w B A' (n - k) (xs.drop k) := by
  refine ⟨by rw [List.length_drop, h.1], fun hn => ?_⟩
  obtain ⟨b, off, e, hb, hc⟩ := h.2 (by omega)
  refine ⟨b, off + k, hA (by omega) b off e, hb, fun j hj => ?_⟩
  rw [Nat.add_assoc, hc (k + j) (by omega), List.getElem?_drop]
end

set_option maxRecDepth 100000 in
theorem cell_new (w : World) (cs : Array Value) (t : TypeId) (i : Nat) : (w.alloc (.cells cs t)).cell? ⟨w.heap.size, i, none⟩ = cs[i]? := cell_of_row _ _ i cs t (0, 0) (heap_alloc_new w _)

set_option maxRecDepth 100000 in
/-- A row of the call's own holds cells: what is no cells stays while it grows. -/
theorem keeps_row {W W' : World} {base : Nat} {e : TypeId} {size n : Nat} {v : Value} {xs : List Value} (hr : W.ownsRow base e size v n xs) (hg : W.grownBy W' v.ownBlock) : KeepsOthers W W' :=
  KeepsOthers.of_grownBy hg fun j o hj ho => by
    rcases hr.2 with ⟨rfl, _⟩ | ⟨g, cap, cur, rfl, _, hc, _⟩
    · simp [Value.ownBlock] at hj
    · simp only [Value.ownBlock, Option.some.injEq] at hj
      subst hj
      rw [hc] at ho
      injection ho with ho
      subst ho
      rfl

set_option maxRecDepth 100000 in
theorem below_row {W W' : World} {base : Nat} {e : TypeId} {size n : Nat} {v : Value} {xs : List Value} (hr : W.ownsRow base e size v n xs) (hg : W.grownBy W' v.ownBlock) (hb : base ≤ W.heap.size) : Below base W W' :=
  (Below.refl base W).grown hg hb fun k hk => (hr.lt k hk).1

set_option maxRecDepth 100000 in
/-- A scope that begins with its label, at which the run comes back: what holds there, and a measure. -/
theorem wp_scope_back {P : Program} {a : Act} {w : World} {Q : Exit → Act → World → Prop} {rest : Code} (l : Nat) (J : Act → World → Prop) (μ : Act → World → Nat) (h0 : J a w)
    (pass : ∀ a w, J a w → rest.wp P (Exit.jump l (fun a' w' => J a' w' ∧ μ a' w' < μ a w) Q) a w) : (Code.scope ((Code.label l).seq rest)).wp P Q a w := by
  refine wp_scope_jumps l J μ (rest := Code.skip.seq rest) (by simp [findLabel]) (wp_seq (wp_label (wp_mono (pass a w h0) ?_))) (fun a w hJ => wp_seq (wp_skip (pass a w hJ)))
  rintro (_ | _ | l | _ | _ | _) a1 w1 h
  all_goals first | exact h | exact ⟨h.1, h.2.1⟩

set_option maxRecDepth 100000 in
/-- The same where code without the label stands ahead of it. -/
theorem wp_scope_back_behind {P : Program} {a : Act} {w : World} {Q : Exit → Act → World → Prop} {pre rest : Code} (l : Nat) (J : Act → World → Prop) (μ : Act → World → Nat) (hn : findLabel pre l = none)
    (h0 : pre.wp P (fun e a w => e = .normal ∧ J a w) a w)
    (pass : ∀ a w, J a w → rest.wp P (Exit.jump l (fun a' w' => J a' w' ∧ μ a' w' < μ a w) Q) a w) : (Code.scope (pre.seq ((Code.label l).seq rest))).wp P Q a w := by
  refine wp_scope_jumps l J μ (rest := Code.skip.seq rest) (by simp [findLabel, hn]) (wp_seq (wp_mono h0 ?_)) (fun a w hJ => wp_seq (wp_skip (pass a w hJ)))
  rintro e a1 w1 ⟨rfl, h1⟩
  refine wp_seq (wp_label (wp_mono (pass a1 w1 h1) ?_))
  rintro (_ | _ | l | _ | _ | _) a2 w2 h
  all_goals first | exact h | exact ⟨h.1, h.2.1⟩

/-- A number that is one. -/
def isNum (n : Int) : Bool := decide (0 ≤ n) && decide (n ≤ 1099511627776)
set_option maxRecDepth 100000 in
theorem isNum_yes {n : Int} (h0 : 0 ≤ n) (h1 : n ≤ 1099511627776) : isNum n = true := by simp [isNum, h0, h1]
set_option maxRecDepth 100000 in
theorem isNum_iff {n : Int} : isNum n = true ↔ 0 ≤ n ∧ n ≤ 1099511627776 := by simp [isNum]

end Go.Proofs.Ytbkfpghpfaemeaa

/-
  Small words on memory that no package's functions enter: rows of bytes, blocks known whole, appends, slices cut, strings. Conditions: those that each theorem names.
-/
namespace Go.Proofs.Ytbkfpghpfaemeaa
open Go.RowKit Go.Shelf

/-- The numbers as they are counted. -/
def nats (l : List Int) : List Nat := l.map Int.toNat

set_option maxRecDepth 100000 in
theorem info_u8 : (Try.prog.info? 5).map (fun i => (i.zero, i.size, i.bytes)) = some (some (.int .u8 0), 1, 1) := by kernel_rfl

set_option maxRecDepth 100000 in
theorem own_form {w : World} {base : Nat} {e : TypeId} {n : Nat} {v : Value} {xs : List Value} (h : w.ownsRow base e 1 v n xs) : ∃ A c, v = .slice A n c := by
  rcases h.2 with ⟨rfl, rfl⟩ | ⟨g, cap, cur, rfl, _⟩
  · exact ⟨_, _, rfl⟩
  · exact ⟨_, _, rfl⟩

set_option maxRecDepth 100000 in
theorem info_int : (Try.prog.info? 3).map (fun i => (i.zero, i.size, i.bytes)) = some (some (.int .i64 0), 1, 8) := by kernel_rfl

set_option maxRecDepth 100000 in
theorem keeps_drewN (w : World) (k : Nat) : KeepsOthers w (w.drewN k) := ⟨Nat.le_refl _, fun _ _ h _ => h⟩

set_option maxRecDepth 100000 in
/-- 'x[k:]', as the model cuts it: the address under one name. -/
theorem run_rest (A : Option Addr) (n c k : Nat) (hk : k ≤ n) : ∃ A', (∀ w : World, (Instr.slice 22 (.slice A n c) (some (.int .i64 (k : Int))) none none).run Try.prog w = .ok (.slice A' (n - k) (c - k)) w) ∧
    ((k < n ∧ n ≤ c) → ∀ b off, A = some ⟨b, off, none⟩ → A' = some ⟨b, off + k, none⟩) := by
  obtain ⟨i0, hi, hz0, hz1, hz2⟩ := info_parts info_u8
  refine ⟨if c = k then A else A.map (·.add (k * 1)), fun w => ?_, ?_⟩
  · have hz : (sizeOf (Try.prog.elem 22)).run Try.prog w = .ok 1 w := by
      have he : Try.prog.elem 22 = 5 := by kernel_rfl
      simp [he, Go.sizeOf, typeInfo, hi, hz1]
    have h63 : (k : Int).toNat = k := by omega
    rw [run_slice_l (P := Try.prog) w 22 A n c Try.underlying22 .i64 (k : Int) (by omega) (by omega), hz, h63]
    rfl
  · rintro ⟨h1, h2⟩ b off rfl
    rw [if_neg (by omega), Nat.mul_one, Option.map_some, Addr.add_lit]

set_option maxRecDepth 100000 in
theorem own_weaker {w : World} {base base' : Nat} {e : TypeId} {size n : Nat} {v : Value} {xs : List Value} (h : w.ownsRow base' e size v n xs) (hb : base ≤ base') : w.ownsRow base e size v n xs := by
  refine ⟨h.1, ?_⟩
  rcases h.2 with h2 | ⟨g, cap, cur, h2, h3, h4⟩
  · exact .inl h2
  · exact .inr ⟨g, cap, cur, h2, by omega, h4⟩

/-- Block b is just these cells, all of which may be written. -/
def Whole (w : World) (b : Nat) (t : TypeId) (cs : Array Value) : Prop := w.heap[b]? = some (.cells cs t (0, 0))
section
variable {w w' : World} {b : Nat} {t : TypeId} {cs : Array Value}
set_option maxRecDepth 100000 in
theorem Whole.new (w : World) (t : TypeId) (cs : Array Value) : Whole (w.alloc (.cells cs t)) w.heap.size t cs := heap_alloc_new w _
set_option maxRecDepth 100000 in
theorem Whole.lt (h : Whole w b t cs) : b < w.heap.size := by
  rcases Nat.lt_or_ge b w.heap.size with h1 | h1
  · exact h1
  · unfold Whole at h; rw [Array.getElem?_eq_none h1] at h; cases h
set_option maxRecDepth 100000 in
theorem Whole.cell (h : Whole w b t cs) (i : Nat) : w.cell? ⟨b, i, none⟩ = cs[i]? := cell_of_row w b i cs t (0, 0) h
set_option maxRecDepth 100000 in
theorem Whole.frozen (h : Whole w b t cs) (i : Nat) : w.frozen? ⟨b, i, none⟩ = false := by unfold Whole at h; simp [World.frozen?, h]
set_option maxRecDepth 100000 in
theorem Whole.alloc (h : Whole w b t cs) (o : Obj) : Whole (w.alloc o) b t cs := (Below.heap_alloc w o b h.lt).trans h
set_option maxRecDepth 100000 in
theorem Whole.below (h : Whole w b t cs) {B : Nat} (hb : Below B w w') (hB : b < B) : Whole w' b t cs := (hb.block b hB).trans h
set_option maxRecDepth 100000 in
theorem Whole.under (h : Whole w b t cs) (hb : Below w.heap.size w w') : Whole w' b t cs := h.below hb h.lt
set_option maxRecDepth 100000 in
theorem Whole.grown (h : Whole w b t cs) {row : Option Nat} (hg : w.grownBy w' row) (hne : some b ≠ row) : Whole w' b t cs := (hg.block b h.lt hne).trans h
set_option maxRecDepth 100000 in
theorem Whole.set (h : Whole w b t cs) (i : Nat) (u : Value) : Whole (w.setCell ⟨b, i, none⟩ u) b t (cs.setIfInBounds i u) := by
  unfold Whole at h ⊢
  simp [World.setCell, Array.getElem?_modify, h]
set_option maxRecDepth 100000 in
theorem Whole.far (h : Whole w b t cs) {p : Addr} (hp : b ≠ p.block) (u : Value) : Whole (w.setCell p u) b t cs := (Below.heap_setCell w p u b hp).trans h
end

/-- The string of a list of bytes. -/
def strB (bs : List Nat) : ByteArray := strOfNums (bs.map fun x : Nat => (x : Int))

set_option maxRecDepth 100000 in
theorem run_string (w : World) (A : Option Addr) (n c : Nat) (bs : List Nat) (B : Nat) (hr : Rd w B A n (bv bs)) :
    (convert 22 9 (.slice A n c)).run Try.prog w = .ok (.string (strB bs)) w := by
  rcases Nat.eq_zero_or_pos n with h | h
  · subst h
    have hbs : bs = [] := by have := hr.1; rw [bv_length] at this; exact List.eq_nil_of_length_eq_zero this
    subst hbs
    rcases A with _ | a
    · exact run_convert_bytes_nil w 22 5 Try.underlying22 Try.underlying5 0 c 9 Try.underlying9
    · have h1 : (loadCells a 0).run Try.prog w = .ok (([] : List Int).map (Value.int .u8)).toArray w := by
        have := run_loadCells_list (P := Try.prog) w a [] (fun j v hj => by simp at hj)
        simpa using this
      rw [run_convert_bytes_string w 22 9 5 _ 0 c Try.underlying22 Try.underlying5 Try.underlying9, run_bytesToString w a 0 c [] h1]
      rfl
  · obtain ⟨b, off, rfl, _, hc⟩ := hr.2 h
    have hl : bs.length = n := by have := hr.1; rwa [bv_length] at this
    refine run_convert_bytes_arg w 22 5 Try.underlying22 Try.underlying5 b off n c (bs.map fun x : Nat => (x : Int)) (by simpa using hl) ?_ 9 Try.underlying9
    intro i hi
    rw [hc i hi]
    have hib : i < bs.length := by omega
    simp [bv, List.getD, List.getElem?_eq_getElem hib]

set_option maxRecDepth 100000 in
theorem strB_inj {a b : List Nat} (ha : ∀ x ∈ a, x < 256) (hb : ∀ x ∈ b, x < 256) : ((strB a).toList == (strB b).toList) = decide (a = b) := by
  have h2 : ∀ (l : List Nat), (∀ x ∈ l, x < 256) → (strB l).toList.map UInt8.toNat = l := by
    intro l hl
    rw [ByteArray.toList_eq, strB, strOfNums_data, List.map_map, List.map_map]
    conv => rhs; rw [← List.map_id l]
    refine List.map_congr_left fun x hx => ?_
    have := hl x hx
    simp
    omega
  by_cases h : a = b
  · subst h; simp
  · have h' : ¬ (strB a).toList = (strB b).toList := fun e => h (by rw [← h2 a ha, ← h2 b hb, e])
    rw [decide_eq_false h]
    exact beq_eq_false_iff_ne.2 h'

set_option maxRecDepth 100000 in
/-- A literal slice reads as it is written. -/
theorem rd_lit (W : World) (cs : List Value) (t : TypeId) (n : Nat) (hn : cs.length = n) : Rd (W.alloc (.cells cs.toArray t)) (W.heap.size + 1) (some ⟨W.heap.size, 0, none⟩) n cs := by
  refine ⟨hn, fun _ => ⟨W.heap.size, 0, rfl, by omega, fun j hj => ?_⟩⟩
  rw [Nat.zero_add, cell_new]
  simp

set_option maxRecDepth 100000 in
theorem rd_lit_at (W : World) (cs : List Value) (t : TypeId) (n b : Nat) (hn : cs.length = n) (hb : W.heap.size = b) : Rd (W.alloc (.cells cs.toArray t)) (b + 1) (some ⟨b, 0, none⟩) n cs := by
  subst hb; exact rd_lit W cs t n hn

set_option maxRecDepth 100000 in
/-- It reads so behind whatever leaves what was there. -/
theorem Rd.on {W W' : World} {B n : Nat} {A : Option Addr} {xs : List Value} (h : Rd W B A n xs) (hB : B ≤ W.heap.size) (hb : Below W.heap.size W W') : Rd W' B A n xs := h.below (hb.mono hB)

def WakePost (w : World) (e : Ending) (w' : World) : Prop := e = .returned (.bool true) ∧ Below w.heap.size w w'

set_option maxRecDepth 100000 in
/-- 'x[:k]', as the model cuts it. -/
theorem run_head (A : Option Addr) (n c k : Nat) (hk : k ≤ c) (w : World) : (Instr.slice 22 (.slice A n c) none (some (.int .i64 (k : Int))) none).run Try.prog w = .ok (.slice A k c) w := by
  obtain ⟨i0, hi, hz0, hz1, hz2⟩ := info_parts info_u8
  have hz : (sizeOf (Try.prog.elem 22)).run Try.prog w = .ok 1 w := by
    have he : Try.prog.elem 22 = 5 := by kernel_rfl
    simp [he, Go.sizeOf, typeInfo, hi, hz1]
  have h63 : (k : Int).toNat = k := by omega
  rw [run_slice_h (P := Try.prog) w 22 A n c Try.underlying22 .i64 (k : Int) (by omega) (by omega), hz, h63]
  have e : ∀ o : Option Addr, o.map (fun a => a.add (0 * 1)) = o := fun o => by cases o <;> simp [Addr.add]
  simp only [Result.andThen_ok, sliced, e, Nat.sub_zero, ite_self]

set_option maxRecDepth 100000 in
theorem Rd.take {w : World} {B n k : Nat} {A : Option Addr} {xs : List Value} (h : Rd w B A n xs) (hk : k ≤ n) : Rd w B A k (xs.take k) := by
  refine ⟨by rw [List.length_take, h.1]; omega, fun hp => ?_⟩
  obtain ⟨b, off, e, hb, hc⟩ := h.2 (by omega)
  refine ⟨b, off, e, hb, fun j hj => ?_⟩
  rw [hc j (by omega), List.getElem?_take, if_pos hj]

set_option maxRecDepth 100000 in
/-- What came in as a slice of integers reads as a list. -/
theorem rd_of_ints {w : World} {a : Option Addr} {len cap : Nat} {zs : List Int}
    (h : (a = none ∧ len = 0 ∧ cap = 0 ∧ zs = []) ∨ ∃ x, a = some x ∧ len ≤ cap ∧ cap ≤ maxLen ∧ zs.length = cap ∧ (∀ i, i < zs.length → w.cell? (x.add i) = some (.int .i64 (zs.getD i 0))) ∧ ∀ n ∈ zs, (Lit.int .i64 n).wf = true) :
    Rd w w.heap.size a len (iv (zs.take len)) ∧ len ≤ cap ∧ cap ≤ maxLen := by
  rcases h with ⟨rfl, rfl, rfl, rfl⟩ | ⟨x, rfl, hl, hm, hz, hc, _⟩
  · exact ⟨⟨rfl, fun h => absurd h (by omega)⟩, Nat.le_refl _, by omega⟩
  · refine ⟨⟨by rw [iv_length, List.length_take]; omega, fun hp => ?_⟩, hl, hm⟩
    obtain ⟨b, off, rfl, hc'⟩ := ints_at hc (by omega)
    refine ⟨b, off, rfl, World.block_lt_of_cell? w _ (hc' 0 (by omega)), fun j hj => ?_⟩
    rw [hc' j (by omega), iv, List.getElem?_map, List.getElem?_take, if_pos hj, List.getElem?_eq_getElem (by omega)]
    simp [List.getD, List.getElem?_eq_getElem (show j < zs.length by omega)]

set_option maxRecDepth 100000 in
theorem rd_of_bytes {w : World} {a : Option Addr} {len cap : Nat} {zs : List Int}
    (h : (a = none ∧ len = 0 ∧ cap = 0 ∧ zs = []) ∨ ∃ x, a = some x ∧ len ≤ cap ∧ cap ≤ maxLen ∧ zs.length = cap ∧ (∀ i, i < zs.length → w.cell? (x.add i) = some (.int .u8 (zs.getD i 0))) ∧ ∀ n ∈ zs, (Lit.int .u8 n).wf = true) :
    ∃ bs : List Nat, Rd w w.heap.size a len (bv bs) ∧ (∀ x ∈ bs, x < 256) ∧ len ≤ cap ∧ cap ≤ maxLen := by
  rcases h with ⟨rfl, rfl, rfl, rfl⟩ | ⟨x, rfl, hl, hm, hz, hc, hw⟩
  · exact ⟨[], ⟨rfl, fun h => absurd h (by omega)⟩, by simp, Nat.le_refl _, by omega⟩
  · have hr : ∀ n ∈ zs, 0 ≤ n ∧ n < 256 := fun n hn => by
      have := hw n hn
      have := bounds_u8 this
      omega
    refine ⟨nats (zs.take len), ⟨by rw [bv_length, nats, List.length_map, List.length_take]; omega, fun hp => ?_⟩, ?_, hl, hm⟩
    · obtain ⟨b, off, rfl, hc'⟩ := ints_at hc (by omega)
      refine ⟨b, off, rfl, World.block_lt_of_cell? w _ (hc' 0 (by omega)), fun j hj => ?_⟩
      have hjz : j < zs.length := by omega
      rw [hc' j hjz, bv, nats, List.getElem?_map, List.getElem?_map, List.getElem?_take, if_pos hj, List.getElem?_eq_getElem hjz]
      have := hr zs[j] (List.getElem_mem hjz)
      simp [List.getD, List.getElem?_eq_getElem hjz]
      omega
    · intro y hy
      simp only [nats, List.mem_map] at hy
      obtain ⟨z, hz1, rfl⟩ := hy
      have := hr z (List.mem_of_mem_take hz1)
      omega

set_option maxRecDepth 100000 in
/-- 'append(v, x...)' at bytes: v of the call's own, x whatever reads. -/
theorem run_app (w : World) (base : Nat) (v : Value) (n : Nat) (xs : List Value) (hown : w.ownsRow base 5 1 v n xs) (B : Nat) (A : Option Addr) (m c : Nat) (bs : List Nat) (hr : Rd w B A m (bv bs)) (hm : n + m ≤ 1000000) (hbase : base ≤ w.heap.size) :
    ∃ v' w', (Builtin.append_ #[22, 22] 22 #[v, .slice A m c]).run Try.prog w = .ok v' w' ∧ w'.ownsRow base 5 1 v' (n + m) (xs ++ bv bs) ∧ w.grownBy w' v.ownBlock := by
  obtain ⟨i0, hi, hz0, hz1, hz2⟩ := info_parts info_u8
  rcases A with _ | ad
  · have hm0 : m = 0 := by
      rcases Nat.eq_zero_or_pos m with h | h
      · exact h
      · obtain ⟨b, off, e, _⟩ := hr.2 h
        cases e
    subst hm0
    have hb : bs = [] := by have := hr.1; rw [bv_length] at this; exact List.eq_nil_of_length_eq_zero this
    subst hb
    have ht := Try.underlying22
    refine ⟨v, w, ?_, by simpa [bv] using hown, World.grownBy.refl w _⟩
    rcases hown.2 with ⟨rfl, _⟩ | ⟨g, cap, cur, rfl, _, _, hnc, _⟩
    · simp [Builtin.append_, run_underlying ht, sizeOf, typeInfo, hi, Builtin.lenOf, Builtin.firstCells]
    · simp [Builtin.append_, run_underlying ht, sizeOf, typeInfo, hi, Builtin.lenOf, Builtin.firstCells, hnc, storeCells]
  · have hcells : ∀ j u, (bv bs)[j]? = some u → w.cell? (ad.add j) = some u := by
      intro j u hu
      have hj : j < m := by rw [← hr.1]; exact (List.getElem?_eq_some_iff.1 hu).1
      obtain ⟨b, off, e, _, hc⟩ := hr.2 (by omega)
      injection e with e
      subst e
      rw [Addr.add_lit, hc j hj, hu]
    obtain ⟨v', w', h1, h2, h3, _⟩ := run_append_own (P := Try.prog) w base 22 22 5 i0 (.int .u8 0) 1 1 Try.underlying22 hi hz0 hz1 hz2 rfl (by decide) v n xs hown ad m c (bv bs) (by rw [hr.1, Nat.mul_one]) hcells (bv_one bs) (by unfold maxLen; omega) (by omega) hbase
    exact ⟨v', w', h1, h2, h3⟩

set_option maxRecDepth 100000 in
/-- An append whose run is known, guarded or not. -/
theorem wpList_app {P : Program} {w : World} {ops : Array Oper} {rest : List Oper} {o : Oper} {a : Act} {Q : Exit → Act → World → Prop} (hw : Region.wanted o (yielded ops a.tmps) = true) (s x : Operand) (t : TypeId)
    (ho : o.op = .call { callee := .builtin .append, args := #[s, x], argTypes := #[t, t] }) (vs vx v' : Value) (w' : World) (hs : a.eval s = vs) (hx : a.eval x = vx)
    (hr : (Builtin.append_ #[t, t] o.type #[vs, vx]).run P w = .ok v' w') (h : wpList P ops Q rest (a.put o.dst v') w') : wpList P ops Q (o :: rest) a w := by
  unfold wpList
  rw [if_pos hw]
  left
  unfold Oper.wp execOp
  simp only [ho, resolve, invoke, builtin, Sem.run_bind, Sem.run_pure, Result.andThen_ok, List.map_toArray, List.map_cons, List.map_nil, hs, hx, hr]
  exact h

set_option maxRecDepth 100000 in
/-- 'append(append([]byte{}, a...), b...)': both run, and what comes reads as both. -/
theorem run_two (w : World) (B : Nat) (A1 A2 : Option Addr) (m1 c1 m2 c2 : Nat) (a b : List Nat) (h1 : Rd w B A1 m1 (bv a)) (h2 : Rd w B A2 m2 (bv b)) (hB : B ≤ w.heap.size) (hm : m1 + m2 ≤ 1000000) :
    ∃ v1 W1 A3 c3 W2, (Builtin.append_ #[22, 22] 22 #[.slice (some ⟨w.heap.size, 0, none⟩) 0 0, .slice A1 m1 c1]).run Try.prog (w.alloc (.cells #[] 5)) = .ok v1 W1 ∧
      (Builtin.append_ #[22, 22] 22 #[v1, .slice A2 m2 c2]).run Try.prog W1 = .ok (.slice A3 (m1 + m2) c3) W2 ∧ Rd W2 W2.heap.size A3 (m1 + m2) (bv (a ++ b)) ∧ Below w.heap.size w W2 ∧ m1 + m2 ≤ c3 := by
  have ho := World.ownsRow_made (base := w.heap.size) (e := 5) (size := 1) w #[] 0 (Nat.le_refl _) (Nat.zero_le _) rfl
  obtain ⟨v1, W1, r1, o1, g1⟩ := run_app (w.alloc (.cells #[] 5)) w.heap.size _ 0 [] ho B A1 m1 c1 a (h1.alloc hB _) (by omega) (by simp)
  have b1 : Below w.heap.size w W1 := ((Below.refl _ w).alloc (Nat.le_refl _) _).trans (below_row ho g1 (by simp))
  obtain ⟨v2, W2, r2, o2, g2⟩ := run_app W1 w.heap.size v1 (0 + m1) _ o1 B A2 m2 c2 b (h2.below (b1.mono hB)) (by omega) b1.size
  have b2 : Below w.heap.size w W2 := b1.trans (below_row o1 g2 b1.size)
  rw [Nat.zero_add, List.nil_append, ← bv_append] at o2
  obtain ⟨A3, c3, rfl⟩ := own_form o2
  have hc3 : m1 + m2 ≤ c3 := by
    rcases o2.2 with ⟨h3, h4⟩ | ⟨g, cap, cur, h3, _, _, h4, _⟩
    · omega
    · injection h3 with _ _ h5
      omega
  exact ⟨v1, W1, A3, c3, W2, r1, r2, Rd.of_own o2, b2, hc3⟩

set_option maxRecDepth 100000 in
/-- What 'x[:len(x)-1]' is. -/
theorem run_less (A : Option Addr) (n c : Nat) (h0 : 0 < n) (hc : n ≤ c) (w : World) : (Instr.slice 22 (.slice A n c) none (some (.int .i64 ((n : Int) - 1))) none).run Try.prog w = .ok (.slice A (n - 1) c) w := by
  have h := run_head A n c (n - 1) (by omega) w
  rw [show ((n - 1 : Nat) : Int) = (n : Int) - 1 by omega] at h
  exact h

/-- What a round that goes on keeps: what lies below n₀, and the box of what is gone over. -/
def KpB (n₀ Bn : Nat) (W W' : World) : Prop := Below n₀ W W' ∧ W'.heap[Bn]? = W.heap[Bn]?

set_option maxRecDepth 100000 in
theorem kpB_t {n₀ Bn : Nat} {A B C : World} (h : KpB n₀ Bn A B) (k : KpB n₀ Bn B C) : KpB n₀ Bn A C := ⟨h.1.trans k.1, k.2.trans h.2⟩

set_option maxRecDepth 100000 in
theorem kpB_b {n₀ Bn : Nat} {w : World} (hn : n₀ ≤ w.heap.size) (hBn : Bn < w.heap.size) (W : World) (l : Nat) (o o' : Obj) (hl : w.heap.size ≤ l) (h : W.heap[l]? = some o) (h1 : o.isCells = false) (h2 : o.isWalk = false) : KpB n₀ Bn W (W.putObj l o') :=
  ⟨belowK_b hn W l o o' hl h h1 h2, World.putObj_heap_other (by omega)⟩

def BoolPost (v : Bool) (w : World) (e : Ending) (w' : World) : Prop := e = .returned (.bool v) ∧ Below w.heap.size w w'

set_option maxRecDepth 100000 in
theorem kpB_refl {n₀ Bn : Nat} {W : World} : KpB n₀ Bn W W := ⟨Below.refl _ _, rfl⟩

set_option maxRecDepth 100000 in
/-- A scope in which the run jumps ahead to one label: what holds there. -/
theorem wp_scope_fwd {P : Program} {a : Act} {w : World} {Q : Exit → Act → World → Prop} {c rest : Code} (l : Nat) (J : Act → World → Prop) (hf : findLabel c l = some rest)
    (first : c.wp P (Exit.jump l J Q) a w) (tail : ∀ a w, J a w → rest.wp P (Exit.jump l (fun _ _ => False) Q) a w) : (Code.scope c).wp P Q a w := by
  refine wp_scope_jumps l J (fun _ _ => 0) hf first (fun a w hJ => wp_mono (tail a w hJ) ?_)
  rintro (_ | _ | l | _ | _ | _) a1 w1 h
  all_goals first | exact h | exact h.2.elim

set_option maxRecDepth 100000 in
/-- 'x[k:]' of integers, as the model cuts it: the address under one name. -/
theorem run_restI (A : Option Addr) (n c k : Nat) (hk : k ≤ n) : ∃ A', (∀ w : World, (Instr.slice 41 (.slice A n c) (some (.int .i64 (k : Int))) none none).run Try.prog w = .ok (.slice A' (n - k) (c - k)) w) ∧
    ((k < n ∧ n ≤ c) → ∀ b off, A = some ⟨b, off, none⟩ → A' = some ⟨b, off + k, none⟩) := by
  obtain ⟨i0, hi, hz0, hz1, hz2⟩ := info_parts info_int
  refine ⟨if c = k then A else A.map (·.add (k * 1)), fun w => ?_, ?_⟩
  · have hz : (sizeOf (Try.prog.elem 41)).run Try.prog w = .ok 1 w := by
      have he : Try.prog.elem 41 = 3 := by kernel_rfl
      simp [he, Go.sizeOf, typeInfo, hi, hz1]
    have h63 : (k : Int).toNat = k := by omega
    rw [run_slice_l (P := Try.prog) w 41 A n c Try.underlying41 .i64 (k : Int) (by omega) (by omega), hz, h63]
    rfl
  · rintro ⟨h1, h2⟩ b off rfl
    rw [if_neg (by omega), Nat.mul_one, Option.map_some, Addr.add_lit]

set_option maxRecDepth 100000 in
theorem own_under {w w' : World} {base : Nat} {e : TypeId} {size n : Nat} {v : Value} {xs : List Value} (h : w.ownsRow base e size v n xs) (hb : Below w.heap.size w w') : w'.ownsRow base e size v n xs := by
  refine h.kept (row := none) ⟨hb.os, hb.tape, hb.output, hb.size, fun i hi _ => hb.block i hi⟩ ?_
  rcases h.2 with ⟨rfl, _⟩ | ⟨g, cap, cur, rfl, _⟩
  · exact .inl rfl
  · exact .inr (by simp [Value.ownBlock])

set_option maxRecDepth 100000 in
theorem own_cap {w : World} {base : Nat} {e : TypeId} {n c : Nat} {A : Option Addr} {xs : List Value} (h : w.ownsRow base e 1 (.slice A n c) n xs) : n ≤ c := by
  rcases h.2 with ⟨h1, h2⟩ | ⟨g, cap, cur, h1, _, _, h2, _⟩
  · omega
  · injection h1 with _ _ h3
    omega

set_option maxRecDepth 100000 in
/-- 'append(v, x...)' at integers: v of the call's own, x whatever reads. -/
theorem run_appI (w : World) (base : Nat) (v : Value) (n : Nat) (xs : List Value) (hown : w.ownsRow base 3 1 v n xs) (B : Nat) (A : Option Addr) (m c : Nat) (zs : List Int) (hr : Rd w B A m (iv zs)) (hm : n + m ≤ 1000000) (hbase : base ≤ w.heap.size) :
    ∃ v' w', (Builtin.append_ #[41, 41] 41 #[v, .slice A m c]).run Try.prog w = .ok v' w' ∧ w'.ownsRow base 3 1 v' (n + m) (xs ++ iv zs) ∧ w.grownBy w' v.ownBlock := by
  obtain ⟨i0, hi, hz0, hz1, hz2⟩ := info_parts info_int
  rcases A with _ | ad
  · have hm0 : m = 0 := by
      rcases Nat.eq_zero_or_pos m with h | h
      · exact h
      · obtain ⟨b, off, e, _⟩ := hr.2 h
        cases e
    subst hm0
    have hb : zs = [] := by have := hr.1; rw [iv_length] at this; exact List.eq_nil_of_length_eq_zero this
    subst hb
    have ht := Try.underlying41
    refine ⟨v, w, ?_, by simpa [iv] using hown, World.grownBy.refl w _⟩
    rcases hown.2 with ⟨rfl, _⟩ | ⟨g, cap, cur, rfl, _, _, hnc, _⟩
    · simp [Builtin.append_, run_underlying ht, sizeOf, typeInfo, hi, Builtin.lenOf, Builtin.firstCells]
    · simp [Builtin.append_, run_underlying ht, sizeOf, typeInfo, hi, Builtin.lenOf, Builtin.firstCells, hnc, storeCells]
  · have hcells : ∀ j u, (iv zs)[j]? = some u → w.cell? (ad.add j) = some u := by
      intro j u hu
      have hj : j < m := by rw [← hr.1]; exact (List.getElem?_eq_some_iff.1 hu).1
      obtain ⟨b, off, e, _, hc⟩ := hr.2 (by omega)
      injection e with e
      subst e
      rw [Addr.add_lit, hc j hj, hu]
    obtain ⟨v', w', h1, h2, h3, _⟩ := run_append_own (P := Try.prog) w base 41 41 3 i0 (.int .i64 0) 1 8 Try.underlying41 hi hz0 hz1 hz2 rfl (by decide) v n xs hown ad m c (iv zs) (by rw [hr.1, Nat.mul_one]) hcells (iv_one zs) (by unfold maxLen; omega) (by omega) hbase
    exact ⟨v', w', h1, h2, h3⟩

def TruePost (w : World) (e : Ending) (w' : World) : Prop := e = .returned (.bool true) ∧ Below w.heap.size w w'

set_option maxRecDepth 100000 in
/-- A row of one element type lies in no block of another one. -/
theorem own_apart_of {w : World} {base n b : Nat} {e t : TypeId} {v : Value} {xs : List Value} {cs : Array Value} (hne : e ≠ t) (ho : w.ownsRow base e 1 v n xs) (hw : Whole w b t cs) : v.ownBlock ≠ some b := by
  rcases ho.2 with ⟨rfl, _⟩ | ⟨g, cap, cur, rfl, _, hg, _⟩
  · simp [Value.ownBlock]
  · simp only [Value.ownBlock, ne_eq, Option.some.injEq]
    intro e
    subst e
    unfold Whole at hw
    rw [hw] at hg
    injection hg with hg
    injection hg with _ h _
    exact absurd h.symm hne

set_option maxRecDepth 100000 in
/-- 'x[i:j]', as the model cuts it: the address under one name. -/
theorem run_mid (A : Option Addr) (n c i j : Nat) (hi : i ≤ j) (hj : j ≤ n) (hc : n ≤ c) : ∃ A', (∀ w : World, (Instr.slice 22 (.slice A n c) (some (.int .i64 (i : Int))) (some (.int .i64 (j : Int))) none).run Try.prog w = .ok (.slice A' (j - i) (c - i)) w) ∧
    (i < j → ∀ b off, A = some ⟨b, off, none⟩ → A' = some ⟨b, off + i, none⟩) := by
  obtain ⟨i0, hi0, hz0, hz1, hz2⟩ := info_parts info_u8
  refine ⟨if c = i then A else A.map (·.add (i * 1)), fun w => ?_, ?_⟩
  · have hz : (sizeOf (Try.prog.elem 22)).run Try.prog w = .ok 1 w := by
      have he : Try.prog.elem 22 = 5 := by kernel_rfl
      simp [he, Go.sizeOf, typeInfo, hi0, hz1]
    have h63 : (i : Int).toNat = i := by omega
    have h64 : (j : Int).toNat = j := by omega
    rw [run_slice_lh (P := Try.prog) w 22 A n c Try.underlying22 .i64 .i64 (i : Int) (j : Int) (by omega) (by omega) (by omega), hz, h63, h64]
    rfl
  · rintro h1 b off rfl
    rw [if_neg (by omega), Nat.mul_one, Option.map_some, Addr.add_lit]

set_option maxRecDepth 100000 in
theorem boxed_turn {W W' : World} {B : Nat} {t : TypeId} {v : Value} {row : Option Nat} (h : Boxed W B t v) (hg : W.grownBy W' row) (hr : ∀ r, row = some r → ∃ o : Obj, W.heap[r]? = some o ∧ o.isCells = false) : Boxed W' B t v :=
  h.kept hg fun e => by
    obtain ⟨o, ho, hc⟩ := hr B e.symm
    rw [show W.heap[B]? = _ from h] at ho
    cases ho; cases hc

set_option maxRecDepth 100000 in
theorem own_turn {W W' : World} {base : Nat} {e : TypeId} {size k : Nat} {v : Value} {xs : List Value} {row : Option Nat} (h : W.ownsRow base e size v k xs) (hg : W.grownBy W' row) (hr : ∀ r, row = some r → ∃ o : Obj, W.heap[r]? = some o ∧ o.isCells = false) : W'.ownsRow base e size v k xs := by
  refine h.kept hg ?_
  rcases h.2 with ⟨rfl, _⟩ | ⟨g, cap, cur, rfl, _, hc, _⟩
  · exact .inl rfl
  · right
    intro e
    obtain ⟨o, ho, hcc⟩ := hr g e.symm
    rw [hc] at ho
    cases ho; cases hcc

set_option maxRecDepth 100000 in
theorem Whole.turn {W W' : World} {b : Nat} {t : TypeId} {cs : Array Value} {row : Option Nat} (h : Whole W b t cs) (hg : W.grownBy W' row) (hr : ∀ r, row = some r → ∃ o : Obj, W.heap[r]? = some o ∧ o.isCells = false) : Whole W' b t cs :=
  h.grown hg (fun e => by
    obtain ⟨o, ho, hc⟩ := hr b e.symm
    unfold Whole at h
    rw [h] at ho
    injection ho with ho
    subst ho
    cases hc)
set_option maxRecDepth 100000 in
/-- What leaves all that was there keeps what is no cells. -/
theorem keeps_under {W W' : World} (hb : Below W.heap.size W W') : KeepsOthers W W' :=
  ⟨hb.size, fun i o h _ => by
    have hlt := (Array.getElem?_eq_some_iff.1 h).1
    rw [hb.block i hlt]; exact h⟩

set_option maxRecDepth 100000 in
/-- A store into a block that is older than the row. -/
theorem own_set {w : World} {base : Nat} {e : TypeId} {size n : Nat} {v : Value} {xs : List Value} (h : w.ownsRow base e size v n xs) {b off : Nat} (hb : b < base) (u : Value) : (w.setCell ⟨b, off, none⟩ u).ownsRow base e size v n xs :=
  ownsRow_setCell_other (a := ⟨b, off, none⟩) h (fun e => by have h1 := (h.lt _ e).1; simp at h1; omega) u

end Go.Proofs.Ytbkfpghpfaemeaa

/-
  The walks of 'right', 'add', 'Put' and 'Long' of package num. Conditions: those that each theorem names.
-/
namespace Go.Proofs.Ytbkfpghpfaemeaa
open Go.RowKit Go.Shelf

set_option maxRecDepth 100000 in
set_option maxHeartbeats 400000 in
theorem right_any (n : Int) (w : World) : Calls Try.prog 79 #[.int .i64 n] w fun e w' => e = .returned (.bool (isNum n)) ∧ w = w' := by
  by_cases h0 : 0 ≤ n
  · by_cases h1 : n ≤ 1099511627776
    · rw [isNum_yes h0 h1]
      go_enter Try.func79, Try.ntmps79
      go_wp2
      go_ret
      exact ⟨rfl, rfl⟩
    · have e : isNum n = false := by simp [isNum, h1]
      rw [e]
      go_enter Try.func79, Try.ntmps79
      go_wp2
      go_ret
      exact ⟨rfl, rfl⟩
  · have e : isNum n = false := by simp [isNum, h0]
    rw [e]
    go_enter Try.func79, Try.ntmps79
    go_wp2
    go_ret
    exact ⟨rfl, rfl⟩

def AddInv (base j : Nat) (ys : List Value) (w : World) (v : Value) (w' : World) : Prop :=
  w'.ownsRow base 5 1 v j ys ∧ Below base w w' ∧ KeepsOthers w w' ∧ base ≤ w'.heap.size
/-- No block that was there has turned, but the row of v0. -/
def AddFar (v0 : Value) (w : World) (v : Value) (w' : World) : Prop :=
  w.grownBy w' v0.ownBlock ∧ (v.ownBlock = v0.ownBlock ∨ ∃ g, v.ownBlock = some g ∧ w.heap.size ≤ g)
def AddPost (base : Nat) (k : Nat) (xs : List Value) (w : World) (v0 : Value) (e : Ending) (w' : World) : Prop :=
  ∃ v', e = .returned v' ∧ AddInv base k xs w v' w' ∧ AddFar v0 w v' w'

set_option maxRecDepth 100000 in
theorem addFar_step {w w' w1 : World} {v0 v v1 : Value} {o : Obj} (h : AddFar v0 w v w') (hg : (w'.alloc o).grownBy w1 v.ownBlock) (h1 : v1.ownBlock = v.ownBlock ∨ v1.ownBlock = some (w'.alloc o).heap.size) : AddFar v0 w v1 w1 := by
  obtain ⟨h2, h3⟩ := h
  have hs := h2.size
  refine ⟨⟨hg.os.trans h2.os, hg.tape.trans h2.tape, hg.output.trans h2.output, by have := hg.size; simp at this; omega, fun k hk hne => ?_⟩, ?_⟩
  · have hne' : some k ≠ v.ownBlock := by
      rcases h3 with h3 | ⟨g, h3, h4⟩
      · rw [h3]; exact hne
      · rw [h3]; intro e; injection e with e; omega
    rw [hg.block k (by simp; omega) hne', Below.heap_alloc _ _ _ (by omega), h2.block k hk hne]
  · rcases h1 with h1 | h1
    · rw [h1]; exact h3
    · exact .inr ⟨_, h1, by simp; omega⟩

set_option maxRecDepth 100000 in
theorem addInv_step {base j : Nat} {ys : List Value} {w w' w1 : World} {v v1 : Value} {o : Obj} {u : Value} (h : AddInv base j ys w v w') (h1 : w1.ownsRow base 5 1 v1 (j + 1) (ys ++ [u])) (hg : (w'.alloc o).grownBy w1 v.ownBlock) :
    AddInv base (j + 1) (ys ++ [u]) w v1 w1 := by
  obtain ⟨hr, hb, hk, hs⟩ := h
  refine ⟨h1, ?_, ?_, ?_⟩
  · exact (hb.alloc hs o).trans (below_row (hr.alloc o) hg (by simp; omega))
  · exact (hk.trans (KeepsOthers.alloc _ o)).trans (keeps_row (hr.alloc o) hg)
  · have := hg.size; simp at this; omega

set_option maxRecDepth 1000000 in
set_option maxHeartbeats 1000000 in
theorem add_any (n : Nat) (hn : n ≤ 1099511627776) (v : Value) (k : Nat) (xs : List Value) (base : Nat) (w : World) (hown : w.ownsRow base 5 1 v k xs) (hk : k ≤ 1000000) (hbase : base ≤ w.heap.size) :
    Calls Try.prog 80 #[v, .int .i64 (n : Int)] w (AddPost base (k + (put n).length) (xs ++ bv (put n)) w v) := by
  obtain ⟨i0, hi, hz0, hz1, hz2⟩ := info_parts info_u8
  go_enter Try.func80, Try.ntmps80
  go_wp2_with fail
  refine wp_scope_back 0 (fun a' w' => ∃ (j m : Nat) (v' : Value) (ys : List Value) (u6 u7 u8 u9 u10 u11 u12 u13 u14 u15 u16 u17 u18 u19 u20 u5 : Value), a' = { tmps := #[v', .int .i64 (m : Int), undef, undef, .slice none 0 0, u5, u6, u7, u8, u9, u10, u11, u12, u13, u14, u15, u16, u17, u18, u19, u20], defers := [] } ∧ AddInv base j ys w v' w' ∧ AddFar v w v' w' ∧ j + (put m).length = k + (put n).length ∧ ys ++ bv (put m) = xs ++ bv (put n) ∧ m ≤ n) (fun a' _ => (intOf (a'.tmps.getD 1 undef)).toNat)
    ⟨k, n, v, xs, _, _, _, _, _, _, _, _, _, _, _, _, _, _, _, _, rfl, ⟨hown, Below.refl _ _, KeepsOthers.refl _, hbase⟩, ⟨World.grownBy.refl _ _, .inl rfl⟩, rfl, rfl, Nat.le_refl _⟩ ?pass
  case pass =>
    rintro a' w' ⟨j, m, v', ys, u6, u7, u8, u9, u10, u11, u12, u13, u14, u15, u16, u17, u18, u19, u20, u5, rfl, hP, hfar, hlen, hcat, hm⟩
    have HFar := Lib.hid hfar
    clear hfar
    obtain ⟨hr, hb, hko, hs⟩ := id hP
    have Hlen := Lib.hid hlen
    have Hcat := Lib.hid hcat
    clear hlen hcat
    have hp := put_pos m
    have hl6 := put_six hn
    have hj : j ≤ 1000010 := by have := Hlen.out; omega
    by_cases hlt : m < 128
    · go_wp2_with (at_builtin; refine wpList_append_own_at _ rfl _ _ 22 rfl base 5 i0 (.int .u8 0) 1 1 Try.underlying22 hi hz0 hz1 hz2 rfl (by decide) _ _ _ rfl (hr.alloc _) ⟨w'.heap.size, 0, none⟩ 1 1 [.int .u8 (m : Int)] rfl rfl (cell_one_new _ _ _) (by simp [Value.oneCell']) (by unfold maxLen; omega) (by omega) (by simp; omega) ?_; intro v1 w1 hown1 hgrow1 _ hat1; have HAt := Lib.hid hat1; clear hat1)
      simp only [Exit.jump]
      go_ret
      refine ⟨v1, rfl, ?_, addFar_step HFar.out hgrow1 HAt.out⟩
      have e1 := Hlen.out
      have e2 := Hcat.out
      rw [put_small hlt] at e1 e2
      rw [← e1, ← e2]
      exact addInv_step hP hown1 hgrow1
    · go_wp2_with (at_builtin; refine wpList_append_own_at _ rfl _ _ 22 rfl base 5 i0 (.int .u8 0) 1 1 Try.underlying22 hi hz0 hz1 hz2 rfl (by decide) _ _ _ rfl (hr.alloc _) ⟨w'.heap.size, 0, none⟩ 1 1 [.int .u8 ((m % 128 + 128 : Nat) : Int)] rfl rfl (cell_one_new _ _ _) (by simp [Value.oneCell']) (by unfold maxLen; omega) (by omega) (by simp; omega) ?_; intro v1 w1 hown1 hgrow1 _ hat1; have HAt := Lib.hid hat1; clear hat1)
      go_step3
      have e1 := Hlen.out
      have e2 := Hcat.out
      rw [put_big hlt] at e1 e2
      refine ⟨rfl, ⟨j + 1, m / 128, v1, _, _, _, _, _, _, _, _, _, _, _, _, _, _, _, _, _, rfl, addInv_step hP hown1 hgrow1, addFar_step HFar.out hgrow1 HAt.out, by simp only [List.length_cons] at e1; omega, ?_, by omega⟩, ?_⟩
      · rw [← e2]; simp [bv]
      · simp [intOf]; omega

end Go.Proofs.Ytbkfpghpfaemeaa

/-
  The walk of 'first' of package num: what comes of taking a number from bytes. Conditions: those that each theorem names.
-/
namespace Go.Proofs.Ytbkfpghpfaemeaa
open Go.RowKit Go.Shelf

def takenV (t : Nat × Nat × Nat) : Value := .agg #[.int .i64 (t.1 : Int), .int .i64 (t.2.1 : Int), .int .i64 (t.2.2 : Int)]

def FirstPost (bs : List Nat) (w : World) (e : Ending) (w' : World) : Prop :=
  e = .returned (takenV (first bs)) ∧ Below w.heap.size w w' ∧ KeepsOthers w w'

/-- What holds of the numbers at each digit. -/
structure FirstInv (bs : List Nat) (n N k P : Nat) : Prop where
  le : k ≤ n
  five : k ≤ 5
  pow : P = 128 ^ k
  val : N < P
  same : first bs = scan N k (bs.drop k)

set_option maxRecDepth 100000 in
theorem FirstInv.start (bs : List Nat) (n : Nat) : FirstInv bs n 0 0 1 := ⟨by omega, by omega, rfl, by omega, rfl⟩
set_option maxRecDepth 100000 in
theorem FirstInv.bound {bs : List Nat} {n N k P : Nat} (h : FirstInv bs n N k P) : 1 ≤ P ∧ P ≤ 34359738368 := by
  have h1 : 128 ^ k ≤ 128 ^ 5 := Nat.pow_le_pow_right (by omega) h.five
  have h2 : 0 < 128 ^ k := Nat.pow_pos (by omega)
  rw [h.pow]; exact ⟨h2, by omega⟩
set_option maxRecDepth 100000 in
theorem digit_bound (d P : Nat) (hP : P ≤ 34359738368) : d % 128 * P ≤ 4363686772736 := by
  have h : d % 128 * P ≤ 127 * 34359738368 := Nat.mul_le_mul (by omega) hP
  omega
set_option maxRecDepth 100000 in
theorem big_cast {N d P : Nat} : N + d % 128 * P ≤ 1099511627776 ↔ (N : Int) + (d : Int) % 128 * (P : Int) ≤ 1099511627776 := by
  have hc : ((d % 128 * P : Nat) : Int) = (d : Int) % 128 * (P : Int) := by simp
  omega
set_option maxRecDepth 100000 in
theorem FirstInv.end_ {bs : List Nat} {n N k P : Nat} (h : FirstInv bs n N k P) (hl : bs.length = n) (hk : k = n) : first bs = (0, 0, 10) := by
  rw [h.same, List.drop_of_length_le (by omega)]; rfl
set_option maxRecDepth 100000 in
theorem FirstInv.look {bs : List Nat} {n N k P d : Nat} (h : FirstInv bs n N k P) (hd : bs[k]? = some d) :
    first bs = if 128 ≤ d ∧ k + 1 < 6 then scan (N + d % 128 * P) (k + 1) (bs.drop (k + 1)) else if 128 ≤ d ∨ (d = 0 ∧ 1 < k + 1) ∨ 1099511627776 < N + d % 128 * P then (0, 0, 11) else (N + d % 128 * P, k + 1, 0) := by
  rw [h.same, h.pow]
  have hk : k < bs.length := (List.getElem?_eq_some_iff.1 hd).1
  rw [List.drop_eq_getElem_cons hk]
  have e : bs[k] = d := by rw [List.getElem?_eq_getElem hk] at hd; exact Option.some.inj hd
  rw [e]; rfl
set_option maxRecDepth 100000 in
theorem FirstInv.next {bs : List Nat} {n N k P d : Nat} (h : FirstInv bs n N k P) (hl : bs.length = n) (hd : bs[k]? = some d) (h1 : 128 ≤ d) (h2 : k + 1 < 6) :
    FirstInv bs n (N + d % 128 * P) (k + 1) (P * 128) := by
  have hk : k < bs.length := (List.getElem?_eq_some_iff.1 hd).1
  refine ⟨by omega, by omega, by rw [h.pow, Nat.pow_succ], ?_, ?_⟩
  · have h3 := h.val
    have h4 : d % 128 * P ≤ 127 * P := Nat.mul_le_mul (by omega) (Nat.le_refl _)
    omega
  · rw [h.look hd, if_pos ⟨h1, h2⟩]

set_option maxRecDepth 1000000 in
set_option maxHeartbeats 1000000 in
theorem first_any (A : Option Addr) (n c : Nat) (bs : List Nat) (w : World) (hr : Rd w w.heap.size A n (bv bs)) (hb : ∀ x ∈ bs, x < 256) (hn : n ≤ maxLen) :
    Calls Try.prog 75 #[.slice A n c] w (FirstPost bs w) := by
  unfold maxLen at hn
  have Hlen : Hid (bs.length = n) := by have := hr.1; rw [bv_length] at this; exact this
  have Hb := Lib.hid hb
  clear hb
  have Hr := Lib.hid hr
  clear hr
  go_enter Try.func75, Try.ntmps75
  go_wp2_with fail
  refine wp_scope_back_behind 0 (fun a' w' => w' = w.alloc (.cells #[.int .i64 0, .int .i64 0, .int .i64 0] 108) ∧ ∃ (N k P : Nat) (u6 u7 u8 u9 u10 u11 u12 u13 u14 u15 u16 u17 u18 u19 u20 u21 u22 u23 u24 u25 u26 u27 u28 u29 u30 u31 u32 u33 u34 u35 u36 u37 u38 u39 u40 u41 u42 u43 u44 u45 u46 u47 u48 u49 u50 u51 : Value), a' = { tmps := #[.slice A n c, undef, .pointer (some ⟨w.heap.size, 0, none⟩), .int .i64 (N : Int), .int .i64 (k : Int), .int .i64 (P : Int), u6, u7, u8, u9, u10, u11, u12, u13, u14, u15, u16, u17, u18, u19, u20, u21, u22, u23, u24, u25, u26, u27, u28, u29, u30, u31, u32, u33, u34, u35, u36, u37, u38, u39, u40, u41, u42, u43, u44, u45, u46, u47, u48, u49, u50, u51], defers := [] } ∧ FirstInv bs n N k P)
    (fun a' _ => n - (intOf (a'.tmps.getD 4 undef)).toNat) rfl ?ahead ?pass
  case ahead =>
    go_wp2_with fail
    exact ⟨0, 0, 1, ⟨rfl, rfl, rfl⟩, FirstInv.start bs n⟩
  case pass =>
    rintro a' w' ⟨rfl, N, k, P, u6, u7, u8, u9, u10, u11, u12, u13, u14, u15, u16, u17, u18, u19, u20, u21, u22, u23, u24, u25, u26, u27, u28, u29, u30, u31, u32, u33, u34, u35, u36, u37, u38, u39, u40, u41, u42, u43, u44, u45, u46, u47, u48, u49, u50, u51, rfl, hI⟩
    have HI := Lib.hid hI
    have hkn := hI.le
    have hk5 := hI.five
    obtain ⟨hP1, hP2⟩ := hI.bound
    have hNP := hI.val
    clear hI
    by_cases hlt : k < n
    · obtain ⟨b, off, rfl, hB, hc⟩ := Hr.out.2 (by omega)
      have hkl : k < bs.length := by rw [Hlen.out]; exact hlt
      obtain ⟨d, hd⟩ : ∃ d, bs[k]? = some d := ⟨_, List.getElem?_eq_getElem hkl⟩
      have hd6 : d < 256 := Hb.out d (List.mem_of_getElem? hd)
      have hcell := hc k hlt
      have e1 : (bv bs)[k]? = some (.int .u8 (d : Int)) := by simp [bv, hd]
      rw [e1] at hcell
      have hbd := digit_bound d P hP2
      have hz1 : (0 : Int) ≤ (d : Int) % 128 * (P : Int) := by
        have : ((d % 128 * P : Nat) : Int) = (d : Int) % 128 * (P : Int) := by simp
        omega
      have hz2 : (d : Int) % 128 * (P : Int) ≤ 4363686772736 := by
        have : ((d % 128 * P : Nat) : Int) = (d : Int) % 128 * (P : Int) := by simp
        omega
      have Hd := Lib.hid hd
      clear hd hc e1 hkl
      have HkN : Hid (k < n) := hlt
      have hne : ((k : Int) == (n : Int)) = false := by simp; omega
      by_cases h128 : 128 ≤ d
      · by_cases h6 : k + 1 < 6
        · go_wp2_with fail
          go_step3
          refine ⟨rfl, ⟨rfl, N + d % 128 * P, k + 1, P * 128, _, _, _, _, _, _, _, _, _, _, _, _, _, _, _, _, _, _, _, _, _, _, _, _, _, _, _, _, _, _, _, _, _, _, _, _, _, _, _, _, _, _, _, _, _, _, rfl, HI.out.next Hlen.out Hd.out h128 h6⟩, ?_⟩
          have := HkN.out
          simp [intOf]; omega
        · go_wp2_with fail
          simp only [Exit.jump]
          have e := HI.out.look Hd.out
          rw [if_neg (by omega), if_pos (.inl h128)] at e
          refine bodyPost_ret (v := .agg #[.int .i64 0, .int .i64 0, .int .i64 11]) (by simp [results, Try.results75, go_sem]) rfl ⟨by rw [e]; rfl, (Below.refl _ _).alloc (Nat.le_refl _) _, KeepsOthers.alloc _ _⟩
      · by_cases h0 : d = 0 ∧ 1 < k + 1
        · have e := HI.out.look Hd.out
          rw [if_neg (by omega), if_pos (.inr (.inl h0))] at e
          have He := Lib.hid e
          clear e
          obtain ⟨h0, h01⟩ := h0
          have hd0 : ((d : Int) == 0) = true := by simp; omega
          go_wp2_with fail
          simp only [Exit.jump]
          have e := He.out
          refine bodyPost_ret (v := .agg #[.int .i64 0, .int .i64 0, .int .i64 11]) (by simp [results, Try.results75, go_sem]) rfl ⟨by rw [e]; rfl, (Below.refl _ _).alloc (Nat.le_refl _) _, KeepsOthers.alloc _ _⟩
        · by_cases hbig : N + d % 128 * P ≤ 1099511627776
          · have e := HI.out.look Hd.out
            rw [if_neg (by omega), if_neg (by omega)] at e
            have He := Lib.hid e
            clear e
            have hnum : isNum ((N : Int) + (d : Int) % 128 * (P : Int)) = true := isNum_yes (by omega) (big_cast.1 hbig)
            by_cases hd0 : d = 0
            · have hk1 : ¬ 1 < k + 1 := fun h => h0 ⟨hd0, h⟩
              have hd1 : ((d : Int) == 0) = true := by simp; omega
              have hk2 : decide ((1 : Int) < (k : Int) + 1) = false := by simp; omega
              have hk3 : ¬ (1 : Int) < (k : Int) + 1 := by omega
              clear h0 hd0 hk1
              go_wp2_with (go_at_call 79; refine (right_any _ _).mono ?_; rintro e w' ⟨rfl, rfl⟩)
              simp only [Exit.jump]
              have e := He.out
              refine bodyPost_ret (v := .agg #[.int .i64 ((N : Int) + (d : Int) % 128 * (P : Int)), .int .i64 ((k : Int) + 1), .int .i64 0]) (by simp [results, Try.results75, go_sem]) rfl ⟨by rw [e]; rfl, (Below.refl _ _).alloc (Nat.le_refl _) _, KeepsOthers.alloc _ _⟩
            · have hd1 : ((d : Int) == 0) = false := by simp; omega
              clear h0
              go_wp2_with (go_at_call 79; refine (right_any _ _).mono ?_; rintro e w' ⟨rfl, rfl⟩)
              simp only [Exit.jump]
              have e := He.out
              refine bodyPost_ret (v := .agg #[.int .i64 ((N : Int) + (d : Int) % 128 * (P : Int)), .int .i64 ((k : Int) + 1), .int .i64 0]) (by simp [results, Try.results75, go_sem]) rfl ⟨by rw [e]; rfl, (Below.refl _ _).alloc (Nat.le_refl _) _, KeepsOthers.alloc _ _⟩
          · have e := HI.out.look Hd.out
            rw [if_neg (by omega), if_pos (.inr (.inr (by omega)))] at e
            have He := Lib.hid e
            clear e
            have hnum : isNum ((N : Int) + (d : Int) % 128 * (P : Int)) = false := by simp only [isNum, Bool.and_eq_false_iff, decide_eq_false_iff_not]; right; exact fun h => hbig (big_cast.2 h)
            by_cases hd0 : d = 0
            · have hk1 : ¬ 1 < k + 1 := fun h => h0 ⟨hd0, h⟩
              have hd1 : ((d : Int) == 0) = true := by simp; omega
              have hk2 : decide ((1 : Int) < (k : Int) + 1) = false := by simp; omega
              have hk3 : ¬ (1 : Int) < (k : Int) + 1 := by omega
              clear h0 hd0 hk1
              go_wp2_with (go_at_call 79; refine (right_any _ _).mono ?_; rintro e w' ⟨rfl, rfl⟩)
              simp only [Exit.jump]
              have e := He.out
              refine bodyPost_ret (v := .agg #[.int .i64 0, .int .i64 0, .int .i64 11]) (by simp [results, Try.results75, go_sem]) rfl ⟨by rw [e]; rfl, (Below.refl _ _).alloc (Nat.le_refl _) _, KeepsOthers.alloc _ _⟩
            · have hd1 : ((d : Int) == 0) = false := by simp; omega
              clear h0
              go_wp2_with (go_at_call 79; refine (right_any _ _).mono ?_; rintro e w' ⟨rfl, rfl⟩)
              simp only [Exit.jump]
              have e := He.out
              refine bodyPost_ret (v := .agg #[.int .i64 0, .int .i64 0, .int .i64 11]) (by simp [results, Try.results75, go_sem]) rfl ⟨by rw [e]; rfl, (Below.refl _ _).alloc (Nat.le_refl _) _, KeepsOthers.alloc _ _⟩
    · have hkn' : k = n := by omega
      have e := HI.out.end_ Hlen.out hkn'
      have He := Lib.hid e
      clear e
      obtain rfl : n = k := by omega
      go_wp2_with fail
      simp only [Exit.jump]
      have e := He.out
      refine bodyPost_ret (v := .agg #[.int .i64 0, .int .i64 0, .int .i64 10]) (by simp [results, Try.results75, go_sem]) rfl ⟨by rw [e]; rfl, (Below.refl _ _).alloc (Nat.le_refl _) _, KeepsOthers.alloc _ _⟩

end Go.Proofs.Ytbkfpghpfaemeaa

/-
  The walk of 'bytes.Clone', and bytes as strings. Conditions: those that each theorem names.
-/
namespace Go.Proofs.Ytbkfpghpfaemeaa
open Go.RowKit Go.Shelf

set_option maxRecDepth 100000 in
theorem AddInv.form {base j : Nat} {ys : List Value} {w w' : World} {v : Value} (h : AddInv base j ys w v w') : ∃ A c, v = .slice A j c := by
  rcases h.1.2 with ⟨rfl, rfl⟩ | ⟨g, cap, cur, rfl, _⟩
  · exact ⟨_, _, rfl⟩
  · exact ⟨_, _, rfl⟩

def TwoPost (base k : Nat) (xs : List Value) (w : World) (e : Ending) (w' : World) : Prop :=
  ∃ A c, e = .returned (.tuple #[.slice A k c, .int .i64 0]) ∧ AddInv base k xs w (.slice A k c) w'

/-- A slice of the same elements, of the call's own. -/
def OwnPost (base k : Nat) (xs : List Value) (w : World) (e : Ending) (w' : World) : Prop :=
  ∃ A c, e = .returned (.slice A k c) ∧ AddInv base k xs w (.slice A k c) w'

set_option maxRecDepth 100000 in
set_option maxHeartbeats 1000000 in
theorem clone_any (A : Option Addr) (n c : Nat) (bs : List Nat) (B : Nat) (w : World) (hr : Rd w B A n (bv bs)) (hn : n ≤ 140737488355328) :
    Calls Try.prog 58 #[.slice A n c] w (OwnPost w.heap.size n (bv bs) w) := by
  obtain ⟨i0, hi, hz0, hz1, hz2⟩ := info_parts info_u8
  have q : ∀ (w : World) (a : Option Addr) (n c n' c' : Nat), (binOp .eql 22 (.slice a n c) (.slice none n' c')).run Try.prog w = .ok (.bool a.isNone) w := fun w a n c n' c' => Lib.run_eql_slice_nil w _ _ a n c n' c' Try.underlying22
  have Hr := Lib.hid hr
  clear hr
  rcases A with _ | a
  · have hn0 : n = 0 := by
      rcases Nat.eq_zero_or_pos n with h | h
      · exact h
      · obtain ⟨b, off, e, _⟩ := Hr.out.2 h
        cases e
    have hbs : bv bs = [] := List.eq_nil_of_length_eq_zero (by rw [Hr.out.1, hn0])
    rw [hbs]
    subst hn0
    clear hbs Hr
    go_enter Try.func58, Try.ntmps58
    go_wp2_with fail
    go_ret
    exact ⟨none, 0, rfl, World.ownsRow_nil _ _ _ _, Below.refl _ _, KeepsOthers.refl _, Nat.le_refl _⟩
  · have hnews : ∀ (o : Obj) (j : Nat) (u : Value), (bv bs)[j]? = some u → (w.alloc o).cell? (a.add j) = some u := by
      intro o j u hu
      have hj : j < n := by rw [← Hr.out.1]; exact (List.getElem?_eq_some_iff.1 hu).1
      obtain ⟨b, off, e, _, hc⟩ := Hr.out.2 (by omega)
      injection e with e
      subst e
      rw [Addr.add_lit]
      have h1 := hc j hj
      rw [hu] at h1
      exact (World.cell?_alloc_lt w o _ (World.block_lt_of_cell? w _ h1)).trans h1
    have Hn := Lib.hid hnews
    clear hnews
    have Hl := Lib.hid Hr.out.1
    clear Hr
    go_enter Try.func58, Try.ntmps58
    go_wp2_with (at_builtin; refine wpList_append_own _ rfl _ _ 22 rfl w.heap.size 5 i0 (.int .u8 0) 1 1 Try.underlying22 hi hz0 hz1 hz2 rfl (by decide) _ _ _ rfl (World.ownsRow_made w #[] 0 (Nat.le_refl _) (Nat.zero_le _) rfl) a n c (bv bs) rfl (by rw [Hl.out, Nat.mul_one]) (Hn.out _) (bv_one bs) (by unfold maxLen; omega) (by omega) (by simp) ?_; intro v1 w1 hown1 hgrow1 _)
    have hI : AddInv w.heap.size n (bv bs) w v1 w1 := by
      have h1 := World.ownsRow_made (base := w.heap.size) (e := 5) (size := 1) w #[] 0 (Nat.le_refl _) (Nat.zero_le _) rfl
      refine ⟨by simpa using hown1, ((Below.refl _ w).alloc (Nat.le_refl _) _).trans (below_row h1 hgrow1 (by simp)), (KeepsOthers.alloc w _).trans (keeps_row h1 hgrow1), ?_⟩
      have := hgrow1.size; simp at this; omega
    obtain ⟨A1, c1, rfl⟩ := hI.form
    go_ret
    exact ⟨A1, c1, rfl, hI⟩

end Go.Proofs.Ytbkfpghpfaemeaa

/-
  What is behind a number: pieces of what 'Take', 'TakeRow' and the iterators need. Conditions: those that each theorem names.
-/
namespace Go.Proofs.Ytbkfpghpfaemeaa
open Go.RowKit Go.Shelf

set_option maxRecDepth 100000 in
theorem first_eq (A : Option Addr) (n c : Nat) (bs : List Nat) (B : Nat) (w : World) (hr : Rd w B A n (bv bs)) (hB : B ≤ w.heap.size) (hb : ∀ x ∈ bs, x < 256) (hn : n ≤ maxLen) {N K E : Nat} (h : first bs = (N, K, E)) :
    Calls Try.prog 75 #[.slice A n c] w fun e w' => e = .returned (.agg #[.int .i64 (N : Int), .int .i64 (K : Int), .int .i64 (E : Int)]) ∧ Below w.heap.size w w' ∧ KeepsOthers w w' :=
  (first_any A n c bs w (hr.more hB) hb hn).mono fun _ _ ⟨he, h1, h2⟩ => ⟨by rw [he, takenV, h], h1, h2⟩

/-- What is behind the number. -/
def behind (bs : List Nat) : List Nat := if (first bs).2.2 = 0 then bs.drop (first bs).2.1 else []

set_option maxRecDepth 100000 in
/-- What a callee has made, said of the caller's start. -/
theorem AddInv.after {base base' j : Nat} {ys : List Value} {w w1 w2 : World} {v : Value} (h : AddInv base' j ys w1 v w2) (hb : Below base w w1) (hk : KeepsOthers w w1) (hbb : base ≤ base') : AddInv base j ys w v w2 :=
  ⟨own_weaker h.1 hbb, hb.trans (h.2.1.mono hbb), hk.trans h.2.2.1, by have := h.2.2.2; omega⟩

set_option maxRecDepth 100000 in
theorem nil_inv {w w' : World} (hb : Below w.heap.size w w') (hk : KeepsOthers w w') : AddInv w.heap.size 0 [] w (.slice none 0 0) w' :=
  ⟨World.ownsRow_nil _ _ _ _, hb, hk, hb.size⟩

end Go.Proofs.Ytbkfpghpfaemeaa

/-
  The walks of 'each' and of the iterator that it hands back (package num). Conditions: those that each theorem names.
-/
namespace Go.Proofs.Ytbkfpghpfaemeaa
open Go.RowKit Go.Shelf
attribute [local go_sem] Oper.semAt_some

set_option maxRecDepth 100000 in
set_option maxHeartbeats 400000 in
theorem each_any (A : Option Addr) (n c : Nat) (w : World) :
    Calls Try.prog 91 #[.slice A n c] w fun e w' => e = .returned (.func (.func 95) #[] #[.pointer (some ⟨w.heap.size, 0, none⟩)]) ∧ w' = w.alloc (.cells #[.slice A n c] 41) := by
  go_enter Try.func91, Try.ntmps91
  go_wp2
  go_ret
  exact ⟨rfl, rfl⟩

set_option maxRecDepth 100000 in
set_option maxHeartbeats 1000000 in
theorem each1_in (m l Bn n₀ : Nat) (A : Option Addr) (n c : Nat) (xs : List Int) (hn : n ≤ maxLen) (J Jx : List Int → World → Prop)
    (hY : ∀ pre x W, J pre W → pre.length < xs.length → YieldAt Fence.wide (m - 1) Try.prog l #[.int .i64 x] W fun e W' =>
      (e = .returned (.bool true) ∧ J (pre ++ [x]) W' ∧ KpB n₀ Bn W W') ∨ (e = .returned (.bool false) ∧ Jx (pre ++ [x]) W'))
    (W : World) (hBn : W.cell? ⟨Bn, 0, none⟩ = some (.slice A n c)) (hr : Rd W n₀ A n (iv xs)) (h0 : J [] W) :
    CallsIn Fence.wide m Try.prog 95 #[.func (.yield l) #[] #[], .pointer (some ⟨Bn, 0, none⟩)] W fun e W' => (∃ v, e = .returned v) ∧
      ((∃ ys, ys = xs ∧ J ys W') ∨ (∃ pre, pre <+: xs ∧ Jx pre W')) := by
  unfold maxLen at hn
  have HY := Lib.hid hY
  clear hY
  have Hr := Lib.hid hr
  clear hr
  refine callsIn_of_wp Try.func95 rfl trivial ?_ rfl
  simp only [Try.ntmps95, List.size_toArray, List.length_cons, List.length_nil, Nat.reduceAdd, Nat.reduceSub, Array.replicate_succ, Array.replicate_zero, List.push_toArray, List.append_toArray, List.nil_append, List.cons_append]
  gi_wp2_with fail
  refine wpIn_wide.2 (wp_scope_back_behind 0 (fun a' w' => ∃ (pre rest : List Int) (u4 u5 u6 u7 u8 u9 u10 u11 u12 u13 u14 u15 u16 u17 : Value), a' = { tmps := #[.func (.yield l) #[] #[], .pointer (some ⟨Bn, 0, none⟩), undef, .int .i64 (pre.length : Int), u4, u5, u6, u7, u8, u9, u10, u11, u12, u13, u14, u15, u16, u17], defers := [] } ∧ xs = pre ++ rest ∧ w'.cell? ⟨Bn, 0, none⟩ = some (.slice A n c) ∧ Rd w' n₀ A n (iv xs) ∧ J pre w')
    (fun a' _ => n - (intOf (a'.tmps.getD 3 undef)).toNat) rfl (wpIn_wide (n := m).1 ?ahead) (fun a' w' hJ' => wpIn_wide (n := m).1 ?pass))
  case ahead =>
    gi_wp2_with fail
    exact ⟨[], rfl, ⟨xs, rfl⟩, Hr.out, h0⟩
  case pass =>
    obtain ⟨pre, rest, u4, u5, u6, u7, u8, u9, u10, u11, u12, u13, u14, u15, u16, u17, rfl, hx, hBn', hr', hJp⟩ := hJ'
    clear hBn
    have Hr' := Lib.hid hr'
    have Hx := Lib.hid hx
    have HJ := Lib.hid hJp
    have hl : (iv xs).length = n := hr'.1
    rw [iv_length, hx, List.length_append] at hl
    clear hr' hx hJp h0 Hr
    cases rest with
    | nil =>
      have hge : decide (pre.length < n) = false := by simp at hl ⊢; omega
      have hge2 : ¬ pre.length < n := by simp at hl; omega
      clear hl
      gi_wp2_with fail
      refine ⟨fun _ h => (by cases h), ?_⟩
      gi_wp2_with fail
      simp only [Exit.jump]
      go_end0
      exact ⟨⟨_, rfl⟩, .inl ⟨pre, by rw [Hx.out, List.append_nil], HJ.out⟩⟩
    | cons x rest =>
      have hlt : (pre.length : Int) < (n : Int) := by simp at hl; omega
      have hltn : pre.length < n := by omega
      obtain ⟨fn, tmps, assign, body, hy, hR⟩ := HY.out pre x w' HJ.out (by rw [Hx.out]; simp)
      obtain ⟨b, off, rfl, hb, hc⟩ := Hr'.out.2 (by omega)
      have hcell := hc pre.length hltn
      have e1 : (iv xs)[pre.length]? = some (.int .i64 x) := by rw [Hx.out]; simp [iv]
      rw [e1] at hcell
      clear e1 hc hl
      have HR := Lib.hid hR
      clear hR
      gi_wp2_with fail
      refine ⟨fun h => (by cases h), HR.out.mono ?_⟩
      rintro e W3 (⟨rfl, hJ3, hk3⟩ | ⟨rfl, hJx3⟩)
      · have HJ3 := Lib.hid hJ3
        have HK3 := Lib.hid hk3
        clear hJ3 hk3
        gi_wp2_with fail
        refine wpIn_goto ?_
        have hb3 : W3.cell? ⟨Bn, 0, none⟩ = some (.slice (some ⟨b, off, none⟩) n c) := (World.cell?_of_block (a := ⟨Bn, 0, none⟩) HK3.out.2).trans hBn'
        have el : ((pre.length : Int) + 1) = ((pre ++ [x]).length : Int) := by simp
        rw [el]
        refine ⟨rfl, ⟨pre ++ [x], rest, _, _, _, _, _, _, _, _, _, _, _, _, _, _, rfl, by rw [Hx.out]; simp, hb3, Hr'.out.below HK3.out.1, HJ3.out⟩, ?_⟩
        simp [intOf]; omega
      · have HJx := Lib.hid hJx3
        clear hJx3
        gi_wp2_with fail
        simp only [Exit.jump]
        go_end0
        exact ⟨⟨_, rfl⟩, .inr ⟨pre ++ [x], ⟨rest, by rw [Hx.out]; simp⟩, HJx.out⟩⟩

set_option maxRecDepth 100000 in
/-- The iterator hands over the slice's numbers, in order. -/
theorem each_stops (m Bn n₀ : Nat) (A : Option Addr) (n c : Nat) (xs : List Int) (hn : n ≤ maxLen) (w : World) (hBl : Bn < w.heap.size) (hn₀ : n₀ ≤ w.heap.size) (hBn : w.cell? ⟨Bn, 0, none⟩ = some (.slice A n c)) (hr : Rd w n₀ A n (iv xs)) :
    SeqStopsK Fence.wide m Try.prog 95 #[.pointer (some ⟨Bn, 0, none⟩)] (fun x : Int => #[Value.int .i64 x]) (KpB n₀ Bn) (fun ys => ys = xs) (fun pre => pre <+: xs) xs.length w := fun l J Jx W hW _ _ hY h0 =>
  each1_in m l Bn n₀ A n c xs hn J Jx hY W ((hW.cell (p := ⟨Bn, 0, none⟩) hBl).trans hBn) (hr.below (hW.mono hn₀)) h0

end Go.Proofs.Ytbkfpghpfaemeaa
