/-
  Texts that the walks of the statements over logs lean on, joined (NumMath, NumKit, Mem, Hand, RegRound). Conditions: those that each theorem names.
-/
import Derived.RangeFuncNested
import Derived.RangeFuncBound
import Derived.RangeFuncCalls
import Derived.RangeFuncLeaves
import Derived.RangeFuncBox
import Derived.Shelf.Abstract
import Derived.Shelf.RegionOpen
import Derived.WalkKit
import Derived.WalkSpells
import Derived.WalkLawsBesides
import Derived.OwnWalkIn
import Derived.TacticsInMore
import Derived.LoopNIn
import Derived.LoopIn
import Derived.Maps.AppendAt
import Derived.Lib.Hide
import Derived.ScopeJumps
import Derived.Deep.QuietTactic
import Derived.BigQuiet
import Derived.Deep.Draws
import Derived.Deep.AppendLies
import Derived.Test.YtdaimejlcfhfiaaGreatDoorRows
import Derived.Laws.BytesArg
import Derived.Deep.RegionHeld3
import Derived.OpenShut
import Derived.Laws.AppendOwnNone
import Derived.OrdersIn

/-
  Plain facts on numbers' bytes (no program): the digits by 128, what is taken back of bytes, and rows of them. Conditions: those that each theorem names.
-/
namespace Go.Proofs.YtdaimejlcfhfiaaGreatDoor

/-- The bytes of a number. -/
def put (n : Nat) : List Nat := if n < 128 then [n] else (n % 128 + 128) :: put (n / 128)
  termination_by n
  decreasing_by omega

set_option maxRecDepth 100000 in
theorem put_small {n : Nat} (h : n < 128) : put n = [n] := by rw [put, if_pos h]
set_option maxRecDepth 100000 in
theorem put_big {n : Nat} (h : ¬ n < 128) : put n = (n % 128 + 128) :: put (n / 128) := by rw [put, if_neg h]

set_option maxRecDepth 100000 in
theorem put_bytes : ∀ (n x : Nat), x ∈ put n → x < 256 := by
  intro n
  induction n using Nat.strongRecOn with
  | _ n ih =>
    intro x hx
    by_cases h : n < 128
    · rw [put_small h] at hx; simp at hx; omega
    · rw [put_big h] at hx
      simp only [List.mem_cons] at hx
      rcases hx with hx | hx
      · omega
      · exact ih (n / 128) (by omega) x hx

set_option maxRecDepth 100000 in
theorem put_pos : ∀ (n : Nat), 0 < (put n).length := by
  intro n
  by_cases h : n < 128
  · rw [put_small h]; simp
  · rw [put_big h]; simp

set_option maxRecDepth 100000 in
/-- A number of k digits lies below the k-th power. -/
theorem put_lt : ∀ (n : Nat), n < 128 ^ (put n).length := by
  intro n
  induction n using Nat.strongRecOn with
  | _ n ih =>
    by_cases h : n < 128
    · rw [put_small h]; simpa using h
    · rw [put_big h]
      have := ih (n / 128) (by omega)
      simp only [List.length_cons, Nat.pow_succ]
      omega

set_option maxRecDepth 100000 in
theorem put_ge : ∀ (n : Nat), 1 < (put n).length → 128 ^ ((put n).length - 1) ≤ n := by
  intro n
  induction n using Nat.strongRecOn with
  | _ n ih =>
    intro hl
    by_cases h : n < 128
    · rw [put_small h] at hl; simp at hl
    · rw [put_big h] at hl ⊢
      have h0 := ih (n / 128) (by omega)
      have hp := put_pos (n / 128)
      simp only [List.length_cons, Nat.add_sub_cancel] at *
      by_cases h1 : 1 < (put (n / 128)).length
      · have h2 := h0 h1
        obtain ⟨k, hk⟩ : ∃ k, (put (n / 128)).length = k + 1 := ⟨(put (n / 128)).length - 1, by omega⟩
        rw [hk] at h2 ⊢
        simp only [Nat.add_sub_cancel, Nat.pow_succ] at *
        omega
      · have : (put (n / 128)).length = 1 := by omega
        rw [this]; omega

set_option maxRecDepth 100000 in
theorem put_len_le {n k : Nat} (h : n < 128 ^ k) (hk : 0 < k) : (put n).length ≤ k := by
  rcases Nat.lt_or_ge k (put n).length with hlt | hge
  · have h1 := put_ge n (by omega)
    have h2 : 128 ^ k ≤ 128 ^ ((put n).length - 1) := Nat.pow_le_pow_right (by omega) (by omega)
    omega
  · exact hge

set_option maxRecDepth 100000 in
theorem put_six {n : Nat} (h : n ≤ 1099511627776) : (put n).length ≤ 6 := put_len_le (by omega) (by omega)

set_option maxRecDepth 100000 in
theorem put_len_mono {n m : Nat} (h : n ≤ m) : (put n).length ≤ (put m).length :=
  put_len_le (Nat.lt_of_le_of_lt h (put_lt m)) (put_pos m)

set_option maxRecDepth 100000 in
/-- Numbers whose bytes begin one another's are one. -/
theorem put_prefix : ∀ (n m : Nat) (r s : List Nat), put n ++ r = put m ++ s → n = m ∧ r = s := by
  intro n
  induction n using Nat.strongRecOn with
  | _ n ih =>
    intro m r s he
    by_cases h : n < 128
    · by_cases h' : m < 128
      · rw [put_small h, put_small h'] at he
        simpa using he
      · rw [put_small h, put_big h'] at he
        simp at he; omega
    · by_cases h' : m < 128
      · rw [put_big h, put_small h'] at he
        simp at he; omega
      · rw [put_big h, put_big h'] at he
        simp only [List.cons_append, List.cons.injEq] at he
        obtain ⟨h1, h2⟩ := he
        obtain ⟨h3, h4⟩ := ih (n / 128) (by omega) (m / 128) r s h2
        exact ⟨by omega, h4⟩

/-- What comes of taking a number: the number, how many bytes it has, an error's number. -/
def scan (n long : Nat) : List Nat → Nat × Nat × Nat
  | [] => (0, 0, 10)
  | d :: r =>
    if 128 ≤ d ∧ long + 1 < 6 then scan (n + d % 128 * 128 ^ long) (long + 1) r
    else if 128 ≤ d ∨ (d = 0 ∧ 1 < long + 1) ∨ 1099511627776 < n + d % 128 * 128 ^ long then (0, 0, 11)
    else (n + d % 128 * 128 ^ long, long + 1, 0)

def first (bs : List Nat) : Nat × Nat × Nat := scan 0 0 bs

set_option maxRecDepth 100000 in
theorem scan_cases : ∀ (bs : List Nat) (n long : Nat), scan n long bs = (0, 0, 10) ∨ scan n long bs = (0, 0, 11) ∨
    ∃ N K, scan n long bs = (N, K, 0) ∧ N ≤ 1099511627776 ∧ long < K ∧ K ≤ long + bs.length := by
  intro bs
  induction bs with
  | nil => intro n long; left; rfl
  | cons d r ih =>
    intro n long
    simp only [scan]
    split
    · rcases ih (n + d % 128 * 128 ^ long) (long + 1) with h | h | ⟨N, K, h, h1, h2, h3⟩
      · exact .inl h
      · exact .inr (.inl h)
      · exact .inr (.inr ⟨N, K, h, h1, by omega, by simp; omega⟩)
    · split
      · exact .inr (.inl rfl)
      · rename_i _ hn
        exact .inr (.inr ⟨_, _, rfl, by omega, by omega, by simp⟩)

set_option maxRecDepth 100000 in
theorem scan_put : ∀ (m n long : Nat) (rest : List Nat), long + (put m).length ≤ 6 → (0 < m ∨ long = 0) → n + m * 128 ^ long ≤ 1099511627776 →
    scan n long (put m ++ rest) = (n + m * 128 ^ long, long + (put m).length, 0) := by
  intro m
  induction m using Nat.strongRecOn with
  | _ m ih =>
    intro n long rest hl h0 hm
    by_cases h : m < 128
    · rw [put_small h]
      simp only [List.cons_append, List.nil_append, scan, List.length_singleton]
      have hmod : m % 128 = m := Nat.mod_eq_of_lt h
      rw [hmod, if_neg (by omega), if_neg (by omega)]
    · rw [put_big h] at hl ⊢
      have hp := put_pos (m / 128)
      simp only [List.cons_append, List.length_cons] at *
      simp only [scan]
      have e1 : (m % 128 + 128) % 128 = m % 128 := by omega
      have e2 : m * 128 ^ long = m % 128 * 128 ^ long + m / 128 * 128 ^ (long + 1) := by
        have h1 : m = m % 128 + 128 * (m / 128) := by omega
        have h2 : m * 128 ^ long = (m % 128 + 128 * (m / 128)) * 128 ^ long := by rw [← h1]
        rw [h2, Nat.add_mul, Nat.pow_succ]
        congr 1
        rw [Nat.mul_comm 128 (m / 128), Nat.mul_assoc, Nat.mul_comm 128 (128 ^ long)]
      rw [e1, if_pos (by omega), ih (m / 128) (by omega) _ _ _ (by omega) (.inl (by omega)) (by omega)]
      simp only [Prod.mk.injEq]
      exact ⟨by omega, by omega, trivial⟩

set_option maxRecDepth 100000 in
theorem first_put {m : Nat} (h : m ≤ 1099511627776) (rest : List Nat) : first (put m ++ rest) = (m, (put m).length, 0) := by
  have := scan_put m 0 0 rest (by have := put_six h; omega) (.inr rfl) (by omega)
  simpa [first] using this

set_option maxRecDepth 100000 in
/-- What was taken is put as the bytes that were there. -/
theorem scan_only : ∀ (bs : List Nat) (n long N K : Nat), (∀ x ∈ bs, x < 256) → scan n long bs = (N, K, 0) →
    ∃ m, N = n + m * 128 ^ long ∧ bs = put m ++ bs.drop (K - long) ∧ K = long + (put m).length ∧ (0 < m ∨ long = 0) := by
  intro bs
  induction bs with
  | nil => intro n long N K _ h; simp [scan] at h
  | cons d r ih =>
    intro n long N K hb h
    have hd : d < 256 := hb d (by simp)
    simp only [scan] at h
    split at h
    · rename_i hc
      obtain ⟨m, h1, h2, h3, h4⟩ := ih _ _ _ _ (fun x hx => hb x (by simp [hx])) h
      have hm : 0 < m := by omega
      have hp := put_pos m
      refine ⟨d % 128 + 128 * m, ?_, ?_, ?_, .inl (by omega)⟩
      · rw [h1, Nat.add_mul, Nat.pow_succ, ← Nat.add_assoc]
        congr 1
        rw [Nat.mul_comm 128 m, Nat.mul_assoc, Nat.mul_comm 128 (128 ^ long)]
      · rw [put_big (by omega)]
        have e1 : (d % 128 + 128 * m) % 128 + 128 = d := by omega
        have e2 : (d % 128 + 128 * m) / 128 = m := by omega
        have e3 : K - long = (K - (long + 1)) + 1 := by omega
        rw [e1, e2, e3, List.drop_succ_cons, List.cons_append, ← h2]
      · rw [put_big (by omega)]
        have e2 : (d % 128 + 128 * m) / 128 = m := by omega
        rw [e2, List.length_cons]; omega
    · rename_i hc
      split at h
      · simp at h
      · rename_i hn
        simp only [Prod.mk.injEq] at h
        obtain ⟨h1, h2, _⟩ := h
        have hlt : d < 128 := by omega
        have hmod : d % 128 = d := Nat.mod_eq_of_lt hlt
        refine ⟨d, by rw [hmod] at h1; omega, ?_, ?_, by omega⟩
        · rw [put_small hlt]
          have e3 : K - long = 1 := by omega
          rw [e3]; simp
        · rw [put_small hlt]; simp; omega

set_option maxRecDepth 100000 in
theorem first_only {bs : List Nat} {N K : Nat} (hb : ∀ x ∈ bs, x < 256) (h : first bs = (N, K, 0)) : bs = put N ++ bs.drop K ∧ K = (put N).length ∧ N ≤ 1099511627776 := by
  obtain ⟨m, h1, h2, h3, _⟩ := scan_only bs 0 0 N K hb h
  have hN : N = m := by omega
  subst hN
  rcases scan_cases bs 0 0 with hc | hc | ⟨N', K', hc, h4, _⟩
  · unfold first at h; rw [hc] at h; simp at h
  · unfold first at h; rw [hc] at h; simp at h
  · unfold first at h; rw [hc] at h
    simp only [Prod.mk.injEq] at h
    exact ⟨by simpa using h2, by omega, by omega⟩

set_option maxRecDepth 100000 in
/-- A part of the bytes that is cut off at its end is too short. -/
theorem scan_cut : ∀ (m n long k : Nat), long + (put m).length ≤ 6 → k < (put m).length → scan n long ((put m).take k) = (0, 0, 10) := by
  intro m
  induction m using Nat.strongRecOn with
  | _ m ih =>
    intro n long k hl hk
    cases k with
    | zero => simp [scan]
    | succ k =>
      by_cases h : m < 128
      · rw [put_small h] at hk; simp at hk
      · rw [put_big h] at hk hl ⊢
        simp only [List.length_cons] at hk hl
        have hp := put_pos (m / 128)
        simp only [List.take_succ_cons, scan]
        rw [if_pos (by omega)]
        exact ih (m / 128) (by omega) _ _ k (by omega) (by omega)

set_option maxRecDepth 100000 in
theorem first_cut {m k : Nat} (h : m ≤ 1099511627776) (hk : k < (put m).length) : first ((put m).take k) = (0, 0, 10) :=
  scan_cut m 0 0 k (by have := put_six h; omega) hk

/-! ### rows -/

/-- The bytes of a row's numbers, one behind the other. -/
def puts (l : List Nat) : List Nat := l.flatMap put

set_option maxRecDepth 100000 in
theorem puts_snoc (l : List Nat) (n : Nat) : puts (l ++ [n]) = puts l ++ put n := by simp [puts]
set_option maxRecDepth 100000 in
theorem puts_cons (l : List Nat) (n : Nat) : puts (n :: l) = put n ++ puts l := by simp [puts]

/-- What comes of taking k numbers one behind the other: how many bytes they have, the numbers, an error. -/
def takes : Nat → List Nat → Nat × List Nat × Nat
  | 0, _ => (0, [], 0)
  | k + 1, bs =>
    if (first bs).2.2 = 0 then ((first bs).2.1 + (takes k (bs.drop (first bs).2.1)).1, (first bs).1 :: (takes k (bs.drop (first bs).2.1)).2.1, (takes k (bs.drop (first bs).2.1)).2.2)
    else (0, [], (first bs).2.2)

/-- What comes of taking a row: how many bytes it has, the numbers, an error. -/
def takeRow (bs : List Nat) : Nat × List Nat × Nat :=
  if (first bs).2.2 ≠ 0 then (0, [], (first bs).2.2)
  else if 40 < (first bs).1 then (0, [], 11)
  else if (takes (first bs).1 (bs.drop (first bs).2.1)).2.2 ≠ 0 then (0, [], (takes (first bs).1 (bs.drop (first bs).2.1)).2.2)
  else ((first bs).2.1 + (takes (first bs).1 (bs.drop (first bs).2.1)).1, (takes (first bs).1 (bs.drop (first bs).2.1)).2.1, 0)

def row (l : List Nat) : List Nat := put l.length ++ puts l

set_option maxRecDepth 100000 in
theorem first_ok {bs : List Nat} (hb : ∀ x ∈ bs, x < 256) (h : (first bs).2.2 = 0) :
    bs = put (first bs).1 ++ bs.drop (first bs).2.1 ∧ (first bs).2.1 = (put (first bs).1).length ∧ (first bs).1 ≤ 1099511627776 :=
  first_only hb (by rw [← h])

set_option maxRecDepth 100000 in
theorem first_err {bs : List Nat} (h : (first bs).2.2 ≠ 0) : (first bs).1 = 0 ∧ (first bs).2.1 = 0 ∧ ((first bs).2.2 = 10 ∨ (first bs).2.2 = 11) := by
  rcases scan_cases bs 0 0 with hc | hc | ⟨N', K', hc, _⟩
  · unfold first at *; rw [hc] at h ⊢; simp
  · unfold first at *; rw [hc] at h ⊢; simp
  · unfold first at *; rw [hc] at h; simp at h

set_option maxRecDepth 100000 in
theorem takes_puts : ∀ (l : List Nat) (rest : List Nat), (∀ n ∈ l, n ≤ 1099511627776) → takes l.length (puts l ++ rest) = ((puts l).length, l, 0) := by
  intro l
  induction l with
  | nil => intro rest _; rfl
  | cons n l ih =>
    intro rest h
    have hn : n ≤ 1099511627776 := h n (by simp)
    have h0 := ih rest (fun x hx => h x (by simp [hx]))
    rw [puts_cons, List.append_assoc, List.length_cons, takes, first_put hn, if_pos rfl]
    have e : (put n ++ (puts l ++ rest)).drop (put n).length = puts l ++ rest := List.drop_left
    simp only [e, h0, List.length_append]

set_option maxRecDepth 100000 in
theorem takeRow_row {l : List Nat} (hl : l.length ≤ 40) (h : ∀ n ∈ l, n ≤ 1099511627776) (rest : List Nat) : takeRow (row l ++ rest) = ((row l).length, l, 0) := by
  unfold takeRow row
  rw [List.append_assoc, first_put (by omega)]
  have e : (put l.length ++ (puts l ++ rest)).drop (put l.length).length = puts l ++ rest := List.drop_left
  simp only [e, takes_puts l rest h]
  rw [if_neg (by simp), if_neg (by omega), if_neg (by simp), List.length_append]

set_option maxRecDepth 100000 in
theorem takes_only : ∀ (k : Nat) (bs : List Nat), (∀ x ∈ bs, x < 256) → (takes k bs).2.2 = 0 →
    bs = puts (takes k bs).2.1 ++ bs.drop (takes k bs).1 ∧ (takes k bs).1 = (puts (takes k bs).2.1).length ∧ (takes k bs).2.1.length = k ∧ ∀ n ∈ (takes k bs).2.1, n ≤ 1099511627776 := by
  intro k
  induction k with
  | zero => intro bs _ _; simp [takes, puts]
  | succ k ih =>
    intro bs hb h
    simp only [takes] at h ⊢
    by_cases h0 : (first bs).2.2 = 0
    · rw [if_pos h0] at h ⊢
      obtain ⟨h1, h2, h3⟩ := first_ok hb h0
      obtain ⟨h4, h5, h6, h7⟩ := ih (bs.drop (first bs).2.1) (fun x hx => hb x (List.mem_of_mem_drop hx)) h
      simp only at h4 h5 h6 h7 ⊢
      refine ⟨?_, ?_, by simp [h6], ?_⟩
      · rw [puts_cons, List.append_assoc, ← List.drop_drop, ← h4, ← h1]
      · rw [puts_cons, List.length_append, ← h2, ← h5]
      · intro n hn
        simp only [List.mem_cons] at hn
        rcases hn with rfl | hn
        · exact h3
        · exact h7 n hn
    · rw [if_neg h0] at h; exact absurd h h0

set_option maxRecDepth 100000 in
theorem takes_err (k : Nat) : ∀ (bs : List Nat), (takes k bs).2.2 ≠ 0 → (takes k bs).2.2 = 10 ∨ (takes k bs).2.2 = 11 := by
  induction k with
  | zero => intro bs h; simp [takes] at h
  | succ k ih =>
    intro bs h
    simp only [takes] at h ⊢
    by_cases h0 : (first bs).2.2 = 0
    · rw [if_pos h0] at h ⊢; exact ih _ h
    · rw [if_neg h0]; exact (first_err h0).2.2

set_option maxRecDepth 100000 in
theorem takeRow_only {bs : List Nat} (hb : ∀ x ∈ bs, x < 256) (h : (takeRow bs).2.2 = 0) :
    bs = row (takeRow bs).2.1 ++ bs.drop (takeRow bs).1 ∧ (takeRow bs).2.1.length ≤ 40 ∧ (∀ n ∈ (takeRow bs).2.1, n ≤ 1099511627776) ∧ (takeRow bs).1 = (row (takeRow bs).2.1).length := by
  unfold takeRow at h ⊢
  by_cases h0 : (first bs).2.2 = 0
  · rw [if_neg (by simpa using h0)] at h ⊢
    by_cases h1 : 40 < (first bs).1
    · rw [if_pos h1] at h; simp at h
    · rw [if_neg h1] at h ⊢
      by_cases h2 : (takes (first bs).1 (bs.drop (first bs).2.1)).2.2 = 0
      · rw [if_neg (by simpa using h2)]
        obtain ⟨h3, h4, h5⟩ := first_ok hb h0
        obtain ⟨h6, h7, h8, h9⟩ := takes_only _ _ (fun x hx => hb x (List.mem_of_mem_drop hx)) h2
        simp only
        refine ⟨?_, by omega, h9, ?_⟩
        · rw [row, h8, List.append_assoc, ← List.drop_drop, ← h6, ← h3]
        · rw [row, List.length_append, h8, ← h4, ← h7]
      · rw [if_pos h2] at h; exact absurd h h2
  · rw [if_pos h0] at h; exact absurd h h0

set_option maxRecDepth 100000 in
theorem takeRow_err {bs : List Nat} (h : (takeRow bs).2.2 ≠ 0) : (takeRow bs).2.1 = [] ∧ ((takeRow bs).2.2 = 10 ∨ (takeRow bs).2.2 = 11) := by
  unfold takeRow at h ⊢
  by_cases h0 : (first bs).2.2 = 0
  · rw [if_neg (by simpa using h0)] at h ⊢
    by_cases h1 : 40 < (first bs).1
    · rw [if_pos h1]; simp
    · rw [if_neg h1] at h ⊢
      by_cases h2 : (takes (first bs).1 (bs.drop (first bs).2.1)).2.2 = 0
      · rw [if_neg (by simpa using h2)] at h; simp at h
      · rw [if_pos h2]
        exact ⟨rfl, takes_err _ _ h2⟩
  · rw [if_pos h0]
    exact ⟨rfl, (first_err h0).2.2⟩

set_option maxRecDepth 100000 in
theorem takes_cut : ∀ (l : List Nat) (k : Nat), (∀ n ∈ l, n ≤ 1099511627776) → k < (puts l).length → (takes l.length ((puts l).take k)).2.2 = 10 := by
  intro l
  induction l with
  | nil => intro k _ hk; simp [puts] at hk
  | cons n l ih =>
    intro k h hk
    have hn : n ≤ 1099511627776 := h n (by simp)
    rw [puts_cons, List.length_append] at hk
    rw [puts_cons, List.take_append, List.length_cons]
    by_cases h1 : k < (put n).length
    · have e : k - (put n).length = 0 := by omega
      rw [e, List.take_zero, List.append_nil, takes, first_cut hn h1]
      simp
    · rw [List.take_of_length_le (by omega), takes, first_put hn, if_pos rfl]
      have e : (put n ++ List.take (k - (put n).length) (puts l)).drop (put n).length = List.take (k - (put n).length) (puts l) := List.drop_left
      simp only [e]
      exact ih _ (fun x hx => h x (by simp [hx])) (by omega)

set_option maxRecDepth 100000 in
theorem takeRow_cut {l : List Nat} {k : Nat} (hl : l.length ≤ 40) (h : ∀ n ∈ l, n ≤ 1099511627776) (hk : k < (row l).length) : (takeRow ((row l).take k)).2.2 = 10 := by
  unfold row at hk ⊢
  rw [List.length_append] at hk
  rw [List.take_append]
  unfold takeRow
  by_cases h1 : k < (put l.length).length
  · have e : k - (put l.length).length = 0 := by omega
    rw [e, List.take_zero, List.append_nil, first_cut (by omega) h1]
    simp
  · rw [List.take_of_length_le (by omega), first_put (by omega)]
    have e : (put l.length ++ List.take (k - (put l.length).length) (puts l)).drop (put l.length).length = List.take (k - (put l.length).length) (puts l) := List.drop_left
    have h2 := takes_cut l (k - (put l.length).length) h (by omega)
    simp only [e, h2]
    rw [if_neg (by simp), if_neg (by omega), if_pos (by simp)]

end Go.Proofs.YtdaimejlcfhfiaaGreatDoor

/-
  Small words on memory: slices that read as a list, rows of the call's own, what stays. Conditions: those that each theorem names.
-/
namespace Go.Proofs.YtdaimejlcfhfiaaGreatDoor
open Go.RowKit Go.Shelf

/-- Bytes, and integers, as values. -/
def bv (l : List Nat) : List Value := l.map fun x : Nat => Value.int .u8 (x : Int)
def iv (l : List Int) : List Value := l.map (Value.int .i64)

set_option maxRecDepth 100000 in
theorem bv_append (l m : List Nat) : bv (l ++ m) = bv l ++ bv m := by simp [bv]
set_option maxRecDepth 100000 in
theorem bv_length (l : List Nat) : (bv l).length = l.length := by simp [bv]
set_option maxRecDepth 100000 in
theorem iv_length (l : List Int) : (iv l).length = l.length := by simp [iv]
set_option maxRecDepth 100000 in
theorem bv_one (l : List Nat) : ∀ u ∈ bv l, u.oneCell' = true := by
  intro u hu
  simp only [bv, List.mem_map] at hu
  obtain ⟨x, _, rfl⟩ := hu
  rfl
set_option maxRecDepth 100000 in
theorem iv_one (l : List Int) : ∀ u ∈ iv l, u.oneCell' = true := by
  intro u hu
  simp only [iv, List.mem_map] at hu
  obtain ⟨x, _, rfl⟩ := hu
  rfl

/-- A slice of n one-cell elements that reads as the list xs, in a block below B. -/
def Rd (w : World) (B : Nat) (A : Option Addr) (n : Nat) (xs : List Value) : Prop :=
  xs.length = n ∧ (0 < n → ∃ b off, A = some ⟨b, off, none⟩ ∧ b < B ∧ ∀ j, j < n → w.cell? ⟨b, off + j, none⟩ = xs[j]?)

section
variable {w w' : World} {B B' n : Nat} {A : Option Addr} {xs : List Value}
set_option maxRecDepth 100000 in
theorem Rd.nil_ (w : World) (B : Nat) (A : Option Addr) : Rd w B A 0 [] := ⟨rfl, fun h => absurd h (by omega)⟩
set_option maxRecDepth 100000 in
theorem Rd.keep (h : Rd w B A n xs) (hk : ∀ p : Addr, p.block < B → w'.cell? p = w.cell? p) : Rd w' B A n xs :=
  ⟨h.1, fun hn => by
    obtain ⟨b, off, e, hb, hc⟩ := h.2 hn
    exact ⟨b, off, e, hb, fun j hj => (hk ⟨b, off + j, none⟩ hb).trans (hc j hj)⟩⟩
set_option maxRecDepth 100000 in
theorem Rd.more (h : Rd w B A n xs) (hB : B ≤ B') : Rd w B' A n xs :=
  ⟨h.1, fun hn => by
    obtain ⟨b, off, e, hb, hc⟩ := h.2 hn
    exact ⟨b, off, e, by omega, hc⟩⟩
set_option maxRecDepth 100000 in
theorem Rd.below (h : Rd w B A n xs) (hb : Below B w w') : Rd w' B A n xs := h.keep fun _ hp => hb.cell hp
set_option maxRecDepth 100000 in
theorem Rd.alloc (h : Rd w B A n xs) (hB : B ≤ w.heap.size) (o : Obj) : Rd (w.alloc o) B A n xs := h.below ((Below.refl B w).alloc hB o)
set_option maxRecDepth 100000 in
theorem Rd.of_own {base : Nat} {e : TypeId} {c : Nat} (h : w.ownsRow base e 1 (.slice A n c) n xs) : Rd w w.heap.size A n xs := by
  refine ⟨by have := h.1; omega, fun hn => ?_⟩
  obtain ⟨g, cap, hv, _, hlt⟩ := h.form hn
  injection hv with hA _ hc
  subst hA; subst hc
  refine ⟨g, 0, rfl, hlt, fun j hj => ?_⟩
  rw [Nat.zero_add]
  exact h.cellAt j (by omega)
set_option maxRecDepth 100000 in
/-- The slice's rest from k on, as the model cuts it. -/
theorem Rd.cut {k : Nat} (h : Rd w B A n xs) (hk : k ≤ n) (A' : Option Addr) (hA : k < n → ∀ b off, A = some ⟨b, off, none⟩ → A' = some ⟨b, off + k, none⟩) : Rd w B A' (n - k) (xs.drop k) := by
  refine ⟨by rw [List.length_drop, h.1], fun hn => ?_⟩
  obtain ⟨b, off, e, hb, hc⟩ := h.2 (by omega)
  refine ⟨b, off + k, hA (by omega) b off e, hb, fun j hj => ?_⟩
  rw [Nat.add_assoc, hc (k + j) (by omega), List.getElem?_drop]
end

set_option maxRecDepth 100000 in
theorem cell_new (w : World) (cs : Array Value) (t : TypeId) (i : Nat) : (w.alloc (.cells cs t)).cell? ⟨w.heap.size, i, none⟩ = cs[i]? := cell_of_row _ _ i cs t (0, 0) (heap_alloc_new w _)

set_option maxRecDepth 100000 in
/-- A row of the call's own holds cells: what is no cells stays while it grows. -/
theorem keeps_row {W W' : World} {base : Nat} {e : TypeId} {size n : Nat} {v : Value} {xs : List Value} (hr : W.ownsRow base e size v n xs) (hg : W.grownBy W' v.ownBlock) : KeepsOthers W W' :=
  KeepsOthers.of_grownBy hg fun j o hj ho => by
    rcases hr.2 with ⟨rfl, _⟩ | ⟨g, cap, cur, rfl, _, hc, _⟩
    · simp [Value.ownBlock] at hj
    · simp only [Value.ownBlock, Option.some.injEq] at hj
      subst hj
      rw [hc] at ho
      injection ho with ho
      subst ho
      rfl

set_option maxRecDepth 100000 in
theorem below_row {W W' : World} {base : Nat} {e : TypeId} {size n : Nat} {v : Value} {xs : List Value} (hr : W.ownsRow base e size v n xs) (hg : W.grownBy W' v.ownBlock) (hb : base ≤ W.heap.size) : Below base W W' :=
  (Below.refl base W).grown hg hb fun k hk => (hr.lt k hk).1

set_option maxRecDepth 100000 in
/-- A scope that begins with its label, at which the run comes back: what holds there, and a measure. -/
theorem wp_scope_back {P : Program} {a : Act} {w : World} {Q : Exit → Act → World → Prop} {rest : Code} (l : Nat) (J : Act → World → Prop) (μ : Act → World → Nat) (h0 : J a w)
    (pass : ∀ a w, J a w → rest.wp P (Exit.jump l (fun a' w' => J a' w' ∧ μ a' w' < μ a w) Q) a w) : (Code.scope ((Code.label l).seq rest)).wp P Q a w := by
  refine wp_scope_jumps l J μ (rest := Code.skip.seq rest) (by simp [findLabel]) (wp_seq (wp_label (wp_mono (pass a w h0) ?_))) (fun a w hJ => wp_seq (wp_skip (pass a w hJ)))
  rintro (_ | _ | l | _ | _ | _) a1 w1 h
  all_goals first | exact h | exact ⟨h.1, h.2.1⟩

set_option maxRecDepth 100000 in
/-- The same where code without the label stands ahead of it. -/
theorem wp_scope_back_behind {P : Program} {a : Act} {w : World} {Q : Exit → Act → World → Prop} {pre rest : Code} (l : Nat) (J : Act → World → Prop) (μ : Act → World → Nat) (hn : findLabel pre l = none)
    (h0 : pre.wp P (fun e a w => e = .normal ∧ J a w) a w)
    (pass : ∀ a w, J a w → rest.wp P (Exit.jump l (fun a' w' => J a' w' ∧ μ a' w' < μ a w) Q) a w) : (Code.scope (pre.seq ((Code.label l).seq rest))).wp P Q a w := by
  refine wp_scope_jumps l J μ (rest := Code.skip.seq rest) (by simp [findLabel, hn]) (wp_seq (wp_mono h0 ?_)) (fun a w hJ => wp_seq (wp_skip (pass a w hJ)))
  rintro e a1 w1 ⟨rfl, h1⟩
  refine wp_seq (wp_label (wp_mono (pass a1 w1 h1) ?_))
  rintro (_ | _ | l | _ | _ | _) a2 w2 h
  all_goals first | exact h | exact ⟨h.1, h.2.1⟩

/-- A number that is one. -/
def isNum (n : Int) : Bool := decide (0 ≤ n) && decide (n ≤ 1099511627776)
set_option maxRecDepth 100000 in
theorem isNum_yes {n : Int} (h0 : 0 ≤ n) (h1 : n ≤ 1099511627776) : isNum n = true := by simp [isNum, h0, h1]
set_option maxRecDepth 100000 in
theorem isNum_iff {n : Int} : isNum n = true ↔ 0 ≤ n ∧ n ≤ 1099511627776 := by simp [isNum]

end Go.Proofs.YtdaimejlcfhfiaaGreatDoor

/-
  Small words on memory that no package's functions enter: rows of bytes, blocks known whole, appends, slices cut, strings. Conditions: those that each theorem names.
-/
namespace Go.Proofs.YtdaimejlcfhfiaaGreatDoor
open Go.RowKit Go.Shelf

/-- The numbers as they are counted. -/
def nats (l : List Int) : List Nat := l.map Int.toNat

set_option maxRecDepth 100000 in
theorem info_u8 : (Tryz.prog.info? 5).map (fun i => (i.zero, i.size, i.bytes)) = some (some (.int .u8 0), 1, 1) := by kernel_rfl

set_option maxRecDepth 100000 in
theorem own_form {w : World} {base : Nat} {e : TypeId} {n : Nat} {v : Value} {xs : List Value} (h : w.ownsRow base e 1 v n xs) : ∃ A c, v = .slice A n c := by
  rcases h.2 with ⟨rfl, rfl⟩ | ⟨g, cap, cur, rfl, _⟩
  · exact ⟨_, _, rfl⟩
  · exact ⟨_, _, rfl⟩

set_option maxRecDepth 100000 in
theorem info_int : (Tryz.prog.info? 3).map (fun i => (i.zero, i.size, i.bytes)) = some (some (.int .i64 0), 1, 8) := by kernel_rfl

set_option maxRecDepth 100000 in
theorem keeps_drewN (w : World) (k : Nat) : KeepsOthers w (w.drewN k) := ⟨Nat.le_refl _, fun _ _ h _ => h⟩

set_option maxRecDepth 100000 in
theorem own_weaker {w : World} {base base' : Nat} {e : TypeId} {size n : Nat} {v : Value} {xs : List Value} (h : w.ownsRow base' e size v n xs) (hb : base ≤ base') : w.ownsRow base e size v n xs := by
  refine ⟨h.1, ?_⟩
  rcases h.2 with h2 | ⟨g, cap, cur, h2, h3, h4⟩
  · exact .inl h2
  · exact .inr ⟨g, cap, cur, h2, by omega, h4⟩

/-- Block b is just these cells, all of which may be written. -/
def Whole (w : World) (b : Nat) (t : TypeId) (cs : Array Value) : Prop := w.heap[b]? = some (.cells cs t (0, 0))
section
variable {w w' : World} {b : Nat} {t : TypeId} {cs : Array Value}
set_option maxRecDepth 100000 in
theorem Whole.new (w : World) (t : TypeId) (cs : Array Value) : Whole (w.alloc (.cells cs t)) w.heap.size t cs := heap_alloc_new w _
set_option maxRecDepth 100000 in
theorem Whole.lt (h : Whole w b t cs) : b < w.heap.size := by
  rcases Nat.lt_or_ge b w.heap.size with h1 | h1
  · exact h1
  · unfold Whole at h; rw [Array.getElem?_eq_none h1] at h; cases h
set_option maxRecDepth 100000 in
theorem Whole.cell (h : Whole w b t cs) (i : Nat) : w.cell? ⟨b, i, none⟩ = cs[i]? := cell_of_row w b i cs t (0, 0) h
set_option maxRecDepth 100000 in
theorem Whole.frozen (h : Whole w b t cs) (i : Nat) : w.frozen? ⟨b, i, none⟩ = false := by unfold Whole at h; simp [World.frozen?, h]
set_option maxRecDepth 100000 in
theorem Whole.alloc (h : Whole w b t cs) (o : Obj) : Whole (w.alloc o) b t cs := (Below.heap_alloc w o b h.lt).trans h
set_option maxRecDepth 100000 in
theorem Whole.below (h : Whole w b t cs) {B : Nat} (hb : Below B w w') (hB : b < B) : Whole w' b t cs := (hb.block b hB).trans h
set_option maxRecDepth 100000 in
theorem Whole.under (h : Whole w b t cs) (hb : Below w.heap.size w w') : Whole w' b t cs := h.below hb h.lt
set_option maxRecDepth 100000 in
theorem Whole.grown (h : Whole w b t cs) {row : Option Nat} (hg : w.grownBy w' row) (hne : some b ≠ row) : Whole w' b t cs := (hg.block b h.lt hne).trans h
set_option maxRecDepth 100000 in
theorem Whole.set (h : Whole w b t cs) (i : Nat) (u : Value) : Whole (w.setCell ⟨b, i, none⟩ u) b t (cs.setIfInBounds i u) := by
  unfold Whole at h ⊢
  simp [World.setCell, Array.getElem?_modify, h]
set_option maxRecDepth 100000 in
theorem Whole.far (h : Whole w b t cs) {p : Addr} (hp : b ≠ p.block) (u : Value) : Whole (w.setCell p u) b t cs := (Below.heap_setCell w p u b hp).trans h
end

/-- The string of a list of bytes. -/
def strB (bs : List Nat) : ByteArray := strOfNums (bs.map fun x : Nat => (x : Int))

set_option maxRecDepth 100000 in
theorem strB_inj {a b : List Nat} (ha : ∀ x ∈ a, x < 256) (hb : ∀ x ∈ b, x < 256) : ((strB a).toList == (strB b).toList) = decide (a = b) := by
  have h2 : ∀ (l : List Nat), (∀ x ∈ l, x < 256) → (strB l).toList.map UInt8.toNat = l := by
    intro l hl
    rw [ByteArray.toList_eq, strB, strOfNums_data, List.map_map, List.map_map]
    conv => rhs; rw [← List.map_id l]
    refine List.map_congr_left fun x hx => ?_
    have := hl x hx
    simp
    omega
  by_cases h : a = b
  · subst h; simp
  · have h' : ¬ (strB a).toList = (strB b).toList := fun e => h (by rw [← h2 a ha, ← h2 b hb, e])
    rw [decide_eq_false h]
    exact beq_eq_false_iff_ne.2 h'

set_option maxRecDepth 100000 in
/-- A literal slice reads as it is written. -/
theorem rd_lit (W : World) (cs : List Value) (t : TypeId) (n : Nat) (hn : cs.length = n) : Rd (W.alloc (.cells cs.toArray t)) (W.heap.size + 1) (some ⟨W.heap.size, 0, none⟩) n cs := by
  refine ⟨hn, fun _ => ⟨W.heap.size, 0, rfl, by omega, fun j hj => ?_⟩⟩
  rw [Nat.zero_add, cell_new]
  simp

set_option maxRecDepth 100000 in
theorem rd_lit_at (W : World) (cs : List Value) (t : TypeId) (n b : Nat) (hn : cs.length = n) (hb : W.heap.size = b) : Rd (W.alloc (.cells cs.toArray t)) (b + 1) (some ⟨b, 0, none⟩) n cs := by
  subst hb; exact rd_lit W cs t n hn

set_option maxRecDepth 100000 in
/-- It reads so behind whatever leaves what was there. -/
theorem Rd.on {W W' : World} {B n : Nat} {A : Option Addr} {xs : List Value} (h : Rd W B A n xs) (hB : B ≤ W.heap.size) (hb : Below W.heap.size W W') : Rd W' B A n xs := h.below (hb.mono hB)

def WakePost (w : World) (e : Ending) (w' : World) : Prop := e = .returned (.bool true) ∧ Below w.heap.size w w'

set_option maxRecDepth 100000 in
theorem Rd.take {w : World} {B n k : Nat} {A : Option Addr} {xs : List Value} (h : Rd w B A n xs) (hk : k ≤ n) : Rd w B A k (xs.take k) := by
  refine ⟨by rw [List.length_take, h.1]; omega, fun hp => ?_⟩
  obtain ⟨b, off, e, hb, hc⟩ := h.2 (by omega)
  refine ⟨b, off, e, hb, fun j hj => ?_⟩
  rw [hc j (by omega), List.getElem?_take, if_pos hj]

set_option maxRecDepth 100000 in
/-- What came in as a slice of integers reads as a list. -/
theorem rd_of_ints {w : World} {a : Option Addr} {len cap : Nat} {zs : List Int}
    (h : (a = none ∧ len = 0 ∧ cap = 0 ∧ zs = []) ∨ ∃ x, a = some x ∧ len ≤ cap ∧ cap ≤ maxLen ∧ zs.length = cap ∧ (∀ i, i < zs.length → w.cell? (x.add i) = some (.int .i64 (zs.getD i 0))) ∧ ∀ n ∈ zs, (Lit.int .i64 n).wf = true) :
    Rd w w.heap.size a len (iv (zs.take len)) ∧ len ≤ cap ∧ cap ≤ maxLen := by
  rcases h with ⟨rfl, rfl, rfl, rfl⟩ | ⟨x, rfl, hl, hm, hz, hc, _⟩
  · exact ⟨⟨rfl, fun h => absurd h (by omega)⟩, Nat.le_refl _, by omega⟩
  · refine ⟨⟨by rw [iv_length, List.length_take]; omega, fun hp => ?_⟩, hl, hm⟩
    obtain ⟨b, off, rfl, hc'⟩ := ints_at hc (by omega)
    refine ⟨b, off, rfl, World.block_lt_of_cell? w _ (hc' 0 (by omega)), fun j hj => ?_⟩
    rw [hc' j (by omega), iv, List.getElem?_map, List.getElem?_take, if_pos hj, List.getElem?_eq_getElem (by omega)]
    simp [List.getD, List.getElem?_eq_getElem (show j < zs.length by omega)]

set_option maxRecDepth 100000 in
theorem rd_of_bytes {w : World} {a : Option Addr} {len cap : Nat} {zs : List Int}
    (h : (a = none ∧ len = 0 ∧ cap = 0 ∧ zs = []) ∨ ∃ x, a = some x ∧ len ≤ cap ∧ cap ≤ maxLen ∧ zs.length = cap ∧ (∀ i, i < zs.length → w.cell? (x.add i) = some (.int .u8 (zs.getD i 0))) ∧ ∀ n ∈ zs, (Lit.int .u8 n).wf = true) :
    ∃ bs : List Nat, Rd w w.heap.size a len (bv bs) ∧ (∀ x ∈ bs, x < 256) ∧ len ≤ cap ∧ cap ≤ maxLen := by
  rcases h with ⟨rfl, rfl, rfl, rfl⟩ | ⟨x, rfl, hl, hm, hz, hc, hw⟩
  · exact ⟨[], ⟨rfl, fun h => absurd h (by omega)⟩, by simp, Nat.le_refl _, by omega⟩
  · have hr : ∀ n ∈ zs, 0 ≤ n ∧ n < 256 := fun n hn => by
      have := hw n hn
      have := bounds_u8 this
      omega
    refine ⟨nats (zs.take len), ⟨by rw [bv_length, nats, List.length_map, List.length_take]; omega, fun hp => ?_⟩, ?_, hl, hm⟩
    · obtain ⟨b, off, rfl, hc'⟩ := ints_at hc (by omega)
      refine ⟨b, off, rfl, World.block_lt_of_cell? w _ (hc' 0 (by omega)), fun j hj => ?_⟩
      have hjz : j < zs.length := by omega
      rw [hc' j hjz, bv, nats, List.getElem?_map, List.getElem?_map, List.getElem?_take, if_pos hj, List.getElem?_eq_getElem hjz]
      have := hr zs[j] (List.getElem_mem hjz)
      simp [List.getD, List.getElem?_eq_getElem hjz]
      omega
    · intro y hy
      simp only [nats, List.mem_map] at hy
      obtain ⟨z, hz1, rfl⟩ := hy
      have := hr z (List.mem_of_mem_take hz1)
      omega

set_option maxRecDepth 100000 in
/-- An append whose run is known, guarded or not. -/
theorem wpList_app {P : Program} {w : World} {ops : Array Oper} {rest : List Oper} {o : Oper} {a : Act} {Q : Exit → Act → World → Prop} (hw : Region.wanted o (yielded ops a.tmps) = true) (s x : Operand) (t : TypeId)
    (ho : o.op = .call { callee := .builtin .append, args := #[s, x], argTypes := #[t, t] }) (vs vx v' : Value) (w' : World) (hs : a.eval s = vs) (hx : a.eval x = vx)
    (hr : (Builtin.append_ #[t, t] o.type #[vs, vx]).run P w = .ok v' w') (h : wpList P ops Q rest (a.put o.dst v') w') : wpList P ops Q (o :: rest) a w := by
  unfold wpList
  rw [if_pos hw]
  left
  unfold Oper.wp execOp
  simp only [ho, resolve, invoke, builtin, Sem.run_bind, Sem.run_pure, Result.andThen_ok, List.map_toArray, List.map_cons, List.map_nil, hs, hx, hr]
  exact h

/-- What a round that goes on keeps: what lies below n₀, and the box of what is gone over. -/
def KpB (n₀ Bn : Nat) (W W' : World) : Prop := Below n₀ W W' ∧ W'.heap[Bn]? = W.heap[Bn]?

set_option maxRecDepth 100000 in
theorem kpB_t {n₀ Bn : Nat} {A B C : World} (h : KpB n₀ Bn A B) (k : KpB n₀ Bn B C) : KpB n₀ Bn A C := ⟨h.1.trans k.1, k.2.trans h.2⟩

set_option maxRecDepth 100000 in
theorem kpB_b {n₀ Bn : Nat} {w : World} (hn : n₀ ≤ w.heap.size) (hBn : Bn < w.heap.size) (W : World) (l : Nat) (o o' : Obj) (hl : w.heap.size ≤ l) (h : W.heap[l]? = some o) (h1 : o.isCells = false) (h2 : o.isWalk = false) : KpB n₀ Bn W (W.putObj l o') :=
  ⟨belowK_b hn W l o o' hl h h1 h2, World.putObj_heap_other (by omega)⟩

def BoolPost (v : Bool) (w : World) (e : Ending) (w' : World) : Prop := e = .returned (.bool v) ∧ Below w.heap.size w w'

set_option maxRecDepth 100000 in
theorem kpB_refl {n₀ Bn : Nat} {W : World} : KpB n₀ Bn W W := ⟨Below.refl _ _, rfl⟩

set_option maxRecDepth 100000 in
/-- A scope in which the run jumps ahead to one label: what holds there. -/
theorem wp_scope_fwd {P : Program} {a : Act} {w : World} {Q : Exit → Act → World → Prop} {c rest : Code} (l : Nat) (J : Act → World → Prop) (hf : findLabel c l = some rest)
    (first : c.wp P (Exit.jump l J Q) a w) (tail : ∀ a w, J a w → rest.wp P (Exit.jump l (fun _ _ => False) Q) a w) : (Code.scope c).wp P Q a w := by
  refine wp_scope_jumps l J (fun _ _ => 0) hf first (fun a w hJ => wp_mono (tail a w hJ) ?_)
  rintro (_ | _ | l | _ | _ | _) a1 w1 h
  all_goals first | exact h | exact h.2.elim

set_option maxRecDepth 100000 in
/-- 'x[k:]' of integers, as the model cuts it: the address under one name. -/
theorem run_restI (A : Option Addr) (n c k : Nat) (hk : k ≤ n) : ∃ A', (∀ w : World, (Instr.slice 22 (.slice A n c) (some (.int .i64 (k : Int))) none none).run Tryz.prog w = .ok (.slice A' (n - k) (c - k)) w) ∧
    ((k < n ∧ n ≤ c) → ∀ b off, A = some ⟨b, off, none⟩ → A' = some ⟨b, off + k, none⟩) := by
  obtain ⟨i0, hi, hz0, hz1, hz2⟩ := info_parts info_int
  refine ⟨if c = k then A else A.map (·.add (k * 1)), fun w => ?_, ?_⟩
  · have hz : (sizeOf (Tryz.prog.elem 22)).run Tryz.prog w = .ok 1 w := by
      have he : Tryz.prog.elem 22 = 3 := by kernel_rfl
      simp [he, Go.sizeOf, typeInfo, hi, hz1]
    have h63 : (k : Int).toNat = k := by omega
    rw [run_slice_l (P := Tryz.prog) w 22 A n c Tryz.underlying22 .i64 (k : Int) (by omega) (by omega), hz, h63]
    rfl
  · rintro ⟨h1, h2⟩ b off rfl
    rw [if_neg (by omega), Nat.mul_one, Option.map_some, Addr.add_lit]

set_option maxRecDepth 100000 in
theorem own_under {w w' : World} {base : Nat} {e : TypeId} {size n : Nat} {v : Value} {xs : List Value} (h : w.ownsRow base e size v n xs) (hb : Below w.heap.size w w') : w'.ownsRow base e size v n xs := by
  refine h.kept (row := none) ⟨hb.os, hb.tape, hb.output, hb.size, fun i hi _ => hb.block i hi⟩ ?_
  rcases h.2 with ⟨rfl, _⟩ | ⟨g, cap, cur, rfl, _⟩
  · exact .inl rfl
  · exact .inr (by simp [Value.ownBlock])

set_option maxRecDepth 100000 in
theorem own_cap {w : World} {base : Nat} {e : TypeId} {n c : Nat} {A : Option Addr} {xs : List Value} (h : w.ownsRow base e 1 (.slice A n c) n xs) : n ≤ c := by
  rcases h.2 with ⟨h1, h2⟩ | ⟨g, cap, cur, h1, _, _, h2, _⟩
  · omega
  · injection h1 with _ _ h3
    omega

set_option maxRecDepth 100000 in
/-- 'append(v, x...)' at integers: v of the call's own, x whatever reads. -/
theorem run_appI (w : World) (base : Nat) (v : Value) (n : Nat) (xs : List Value) (hown : w.ownsRow base 3 1 v n xs) (B : Nat) (A : Option Addr) (m c : Nat) (zs : List Int) (hr : Rd w B A m (iv zs)) (hm : n + m ≤ 1000000) (hbase : base ≤ w.heap.size) :
    ∃ v' w', (Builtin.append_ #[22, 22] 22 #[v, .slice A m c]).run Tryz.prog w = .ok v' w' ∧ w'.ownsRow base 3 1 v' (n + m) (xs ++ iv zs) ∧ w.grownBy w' v.ownBlock := by
  obtain ⟨i0, hi, hz0, hz1, hz2⟩ := info_parts info_int
  rcases A with _ | ad
  · have hm0 : m = 0 := by
      rcases Nat.eq_zero_or_pos m with h | h
      · exact h
      · obtain ⟨b, off, e, _⟩ := hr.2 h
        cases e
    subst hm0
    have hb : zs = [] := by have := hr.1; rw [iv_length] at this; exact List.eq_nil_of_length_eq_zero this
    subst hb
    have ht := Tryz.underlying22
    refine ⟨v, w, ?_, by simpa [iv] using hown, World.grownBy.refl w _⟩
    rcases hown.2 with ⟨rfl, _⟩ | ⟨g, cap, cur, rfl, _, _, hnc, _⟩
    · simp [Builtin.append_, run_underlying ht, sizeOf, typeInfo, hi, Builtin.lenOf, Builtin.firstCells]
    · simp [Builtin.append_, run_underlying ht, sizeOf, typeInfo, hi, Builtin.lenOf, Builtin.firstCells, hnc, storeCells]
  · have hcells : ∀ j u, (iv zs)[j]? = some u → w.cell? (ad.add j) = some u := by
      intro j u hu
      have hj : j < m := by rw [← hr.1]; exact (List.getElem?_eq_some_iff.1 hu).1
      obtain ⟨b, off, e, _, hc⟩ := hr.2 (by omega)
      injection e with e
      subst e
      rw [Addr.add_lit, hc j hj, hu]
    obtain ⟨v', w', h1, h2, h3, _⟩ := run_append_own (P := Tryz.prog) w base 22 22 3 i0 (.int .i64 0) 1 8 Tryz.underlying22 hi hz0 hz1 hz2 rfl (by decide) v n xs hown ad m c (iv zs) (by rw [hr.1, Nat.mul_one]) hcells (iv_one zs) (by unfold maxLen; omega) (by omega) hbase
    exact ⟨v', w', h1, h2, h3⟩

def TruePost (w : World) (e : Ending) (w' : World) : Prop := e = .returned (.bool true) ∧ Below w.heap.size w w'

set_option maxRecDepth 100000 in
/-- A row of one element type lies in no block of another one. -/
theorem own_apart_of {w : World} {base n b : Nat} {e t : TypeId} {v : Value} {xs : List Value} {cs : Array Value} (hne : e ≠ t) (ho : w.ownsRow base e 1 v n xs) (hw : Whole w b t cs) : v.ownBlock ≠ some b := by
  rcases ho.2 with ⟨rfl, _⟩ | ⟨g, cap, cur, rfl, _, hg, _⟩
  · simp [Value.ownBlock]
  · simp only [Value.ownBlock, ne_eq, Option.some.injEq]
    intro e
    subst e
    unfold Whole at hw
    rw [hw] at hg
    injection hg with hg
    injection hg with _ h _
    exact absurd h.symm hne

set_option maxRecDepth 100000 in
theorem boxed_turn {W W' : World} {B : Nat} {t : TypeId} {v : Value} {row : Option Nat} (h : Boxed W B t v) (hg : W.grownBy W' row) (hr : ∀ r, row = some r → ∃ o : Obj, W.heap[r]? = some o ∧ o.isCells = false) : Boxed W' B t v :=
  h.kept hg fun e => by
    obtain ⟨o, ho, hc⟩ := hr B e.symm
    rw [show W.heap[B]? = _ from h] at ho
    cases ho; cases hc

set_option maxRecDepth 100000 in
theorem own_turn {W W' : World} {base : Nat} {e : TypeId} {size k : Nat} {v : Value} {xs : List Value} {row : Option Nat} (h : W.ownsRow base e size v k xs) (hg : W.grownBy W' row) (hr : ∀ r, row = some r → ∃ o : Obj, W.heap[r]? = some o ∧ o.isCells = false) : W'.ownsRow base e size v k xs := by
  refine h.kept hg ?_
  rcases h.2 with ⟨rfl, _⟩ | ⟨g, cap, cur, rfl, _, hc, _⟩
  · exact .inl rfl
  · right
    intro e
    obtain ⟨o, ho, hcc⟩ := hr g e.symm
    rw [hc] at ho
    cases ho; cases hcc

set_option maxRecDepth 100000 in
theorem Whole.turn {W W' : World} {b : Nat} {t : TypeId} {cs : Array Value} {row : Option Nat} (h : Whole W b t cs) (hg : W.grownBy W' row) (hr : ∀ r, row = some r → ∃ o : Obj, W.heap[r]? = some o ∧ o.isCells = false) : Whole W' b t cs :=
  h.grown hg (fun e => by
    obtain ⟨o, ho, hc⟩ := hr b e.symm
    unfold Whole at h
    rw [h] at ho
    injection ho with ho
    subst ho
    cases hc)
set_option maxRecDepth 100000 in
/-- What leaves all that was there keeps what is no cells. -/
theorem keeps_under {W W' : World} (hb : Below W.heap.size W W') : KeepsOthers W W' :=
  ⟨hb.size, fun i o h _ => by
    have hlt := (Array.getElem?_eq_some_iff.1 h).1
    rw [hb.block i hlt]; exact h⟩

set_option maxRecDepth 100000 in
/-- A store into a block that is older than the row. -/
theorem own_set {w : World} {base : Nat} {e : TypeId} {size n : Nat} {v : Value} {xs : List Value} (h : w.ownsRow base e size v n xs) {b off : Nat} (hb : b < base) (u : Value) : (w.setCell ⟨b, off, none⟩ u).ownsRow base e size v n xs :=
  ownsRow_setCell_other (a := ⟨b, off, none⟩) h (fun e => by have h1 := (h.lt _ e).1; simp at h1; omega) u

end Go.Proofs.YtdaimejlcfhfiaaGreatDoor

/-
  A region that draws its order, taken by hand under a condition: one step an operation, those whose guard is false too. Conditions: those that each theorem names.
-/
namespace Go.Proofs.YtdaimejlcfhfiaaGreatDoor
open Go.RowKit Go.Shelf

section
variable {P : Program} {ops : Array Oper} {Q : Exit → Act → World → Prop} {S : World → Prop} {md : Region.Mode} {fuel i : Nat} {listed : Array Bool} {a : Act} {w : World} {d : Option Tmp} {op : Op} {t : TypeId} {pos : String} {after : Array Edge} {g : Option (Nat × Bool)}

set_option maxRecDepth 100000 in
/-- An operation that yields v in every world that meets S. -/
theorem takeH {v : Value} (hi : ops[i]? = some { dst := d, op := op, type := t, pos := pos, after := after, guard := g })
    (hs : Region.noSelect ops = true) (hf : Region.free md ops listed i = true) (hr : (Region.ready md ops listed).contains i = true)
    (hQ : ∀ c a w, Q (.panic c) (a.put d v) w → Q (.panic c) a w) (hw : Region.wanted { dst := d, op := op, type := t, pos := pos, after := after, guard := g } (yielded ops a.tmps) = true)
    (hy : ∀ w, S w → (execOp a.eval { dst := d, op := op, type := t, pos := pos, after := after, guard := g }).run P w = .ok (.value v) w) (hS : S w)
    (h : wpAnyH P md ops Q S fuel (listed.setIfInBounds i true) (a.put d v) w) : wpAnyH P md ops Q S (fuel + 1) listed a w :=
  wpAnyH_take hi hs hf hr hQ (Or.inl ⟨hw, hy⟩) hS h

set_option maxRecDepth 100000 in
/-- An operation whose guard says no. -/
theorem skipH (hi : ops[i]? = some { dst := d, op := op, type := t, pos := pos, after := after, guard := g })
    (hs : Region.noSelect ops = true) (hf : Region.free md ops listed i = true) (hr : (Region.ready md ops listed).contains i = true)
    (hQ : ∀ c a w, Q (.panic c) (a.put d undef) w → Q (.panic c) a w) (hw : Region.wanted { dst := d, op := op, type := t, pos := pos, after := after, guard := g } (yielded ops a.tmps) = false) (hS : S w)
    (h : wpAnyH P md ops Q S fuel (listed.setIfInBounds i true) (a.put d undef) w) : wpAnyH P md ops Q S (fuel + 1) listed a w :=
  wpAnyH_take hi hs hf hr hQ (Or.inr ⟨hw, rfl⟩) hS h

set_option maxRecDepth 100000 in
/-- An operation that is all that may come up. -/
theorem oneH (hi : ops[i]? = some { dst := d, op := op, type := t, pos := pos, after := after, guard := g }) (hr : Region.ready md ops listed = [i])
    (hw : Region.wanted { dst := d, op := op, type := t, pos := pos, after := after, guard := g } (yielded ops a.tmps) = true)
    (h : ∀ K' : Act → World → Prop, Shut (∀ a w, S w → (S w → wpAnyH P md ops Q S fuel (listed.setIfInBounds i true) a w) → K' a w) → ({ dst := d, op := op, type := t, pos := pos, after := after, guard := g } : Oper).wp P a w K' Q) : wpAnyH P md ops Q S (fuel + 1) listed a w :=
  wpAnyH_ready hr (by simp) (AllReadyH.cons hi (fun K' hK => by rw [if_pos hw]; exact h K' hK) AllReadyH.nil)

set_option maxRecDepth 100000 in
/-- Two operations of which either may come up. -/
theorem twoH {j : Nat} {d' : Option Tmp} {op' : Op} {t' : TypeId} {pos' : String} {after' : Array Edge} {g' : Option (Nat × Bool)} (hi : ops[i]? = some { dst := d, op := op, type := t, pos := pos, after := after, guard := g }) (hj : ops[j]? = some { dst := d', op := op', type := t', pos := pos', after := after', guard := g' }) (hr : Region.ready md ops listed = [i, j])
    (hw : Region.wanted { dst := d, op := op, type := t, pos := pos, after := after, guard := g } (yielded ops a.tmps) = true) (hw' : Region.wanted { dst := d', op := op', type := t', pos := pos', after := after', guard := g' } (yielded ops a.tmps) = true)
    (h : ∀ K' : Act → World → Prop, Shut (∀ a w, S w → (S w → wpAnyH P md ops Q S fuel (listed.setIfInBounds i true) a w) → K' a w) → ({ dst := d, op := op, type := t, pos := pos, after := after, guard := g } : Oper).wp P a w K' Q)
    (h' : ∀ K' : Act → World → Prop, Shut (∀ a w, S w → (S w → wpAnyH P md ops Q S fuel (listed.setIfInBounds j true) a w) → K' a w) → ({ dst := d', op := op', type := t', pos := pos', after := after', guard := g' } : Oper).wp P a w K' Q) : wpAnyH P md ops Q S (fuel + 1) listed a w :=
  wpAnyH_ready hr (by simp) (AllReadyH.cons hi (fun K' hK => by rw [if_pos hw]; exact h K' hK) (AllReadyH.cons hj (fun K' hK => by rw [if_pos hw']; exact h' K' hK) AllReadyH.nil))

set_option maxRecDepth 100000 in
/-- An append whose run is known. -/
theorem wp_appendH {P : Program} {K : Act → World → Prop} {Q : Exit → Act → World → Prop} {a : Act} {w w' : World} {dst : Option Tmp} {u t : TypeId} {pos : String} {after : Array Edge} {g : Option (Nat × Bool)} {x y : Operand} {vs vx v' : Value} (hx : a.eval x = vs) (hy : a.eval y = vx) (hr : (Builtin.append_ #[u, u] t #[vs, vx]).run P w = .ok v' w') (h : K (a.put dst v') w') :
    ({ dst := dst, op := .call { callee := .builtin .append, args := #[x, y], argTypes := #[u, u] }, type := t, pos := pos, after := after, guard := g } : Oper).wp P a w K Q := by
  unfold Oper.wp execOp
  simp only [resolve, invoke, builtin, Sem.run_bind, Sem.run_pure, Result.andThen_ok, List.map_toArray, List.map_cons, List.map_nil, hx, hy, hr]
  exact h
end

end Go.Proofs.YtdaimejlcfhfiaaGreatDoor

/-
  A region that draws its order, of operations that enter nothing, inside any fence, in a round or not: taken by hand as outside of one. Conditions: those that each theorem names.
-/
namespace Go.Proofs.YtdaimejlcfhfiaaGreatDoor
open Go.RowKit Go.Shelf

/-- An operation that enters nothing. -/
def stillOp (o : Oper) : Bool :=
  match o.op with
  | .move _ | .assign _ | .pick _ _ _ | .load _ _ | .store _ _ _ | .nilCheck _ | .binOp _ _ _ _ _ | .unOp _ _ _ | .fieldAddr _ _ _ | .indexAddr _ _ _ => true
  | _ => false
def Flat : Result Next → Prop
  | .ok (.value _) _ => True
  | .ok .skip _ => True
  | .halt _ _ => True
  | _ => False
set_option maxRecDepth 100000 in
theorem flat_v (s : Sem Value) (P : Program) (w : World) : Flat ((do pure (Next.value (← s)) : Sem Next).run P w) := by
  simp only [Sem.run_bind]
  cases h : s.run P w with
  | ok v w' => simp [Result.andThen, Sem.run_pure, Flat]
  | halt h w' => simp [Result.andThen, Flat]
set_option maxRecDepth 100000 in
theorem flat_u (s : Sem Unit) (P : Program) (w : World) : Flat ((do s; pure Next.skip : Sem Next).run P w) := by
  simp only [Sem.run_bind]
  cases h : s.run P w with
  | ok v w' => simp [Result.andThen, Sem.run_pure, Flat]
  | halt h w' => simp [Result.andThen, Flat]
set_option maxRecDepth 100000 in
theorem still_flat {o : Oper} (h : stillOp o = true) (ρ : Operand → Value) (P : Program) (w : World) : Flat ((execOp ρ o).run P w) := by
  unfold stillOp at h
  unfold execOp
  cases ho : o.op <;> simp only [ho, Bool.false_eq_true] at h ⊢
  all_goals first | exact flat_v _ _ _ | exact flat_u _ _ _ | skip
  · simp only [Sem.run_pure, Flat]
  · simp only [Sem.run_pure, Flat]
  · simp only [Sem.run_bind]
    generalize Sem.run P (asBool _) w = r
    cases r <;> simp [Result.andThen, Sem.run_pure, Flat]
  · split
    · trivial
    · trivial
    · trivial
    · split
      · trivial
      · simp only [Sem.run_bind]
        generalize Sem.run P program w = r
        cases r with
        | halt _ _ => simp [Result.andThen, Flat]
        | ok v w1 =>
          simp only [Result.andThen_ok]
          generalize Sem.run P (nilAhead _ _ _ _) w1 = r2
          cases r2 with
          | halt _ _ => simp [Result.andThen, Flat]
          | ok v2 w2 =>
            simp only [Result.andThen_ok]
            split
            · simp only [Sem.run_bind]
              trivial
            · simp only [Sem.run_pure, Flat]
      · simp only [Sem.run_pure, Flat]
    · simp only [Sem.run_pure, Flat]

set_option maxRecDepth 100000 in
theorem upon_in {F : Fence} {n : Nat} {P : Program} {o : Oper} {a : Act} {K : Act → World → Prop} {Q : Exit → Act → World → Prop} {r : Result Next} (hr : Flat r) (h : o.upon P a K Q r) : o.uponIn F n P a K Q r := by
  cases r with
  | ok x w' => cases x <;> first | exact h | exact hr.elim
  | halt x w' => cases x <;> exact h
set_option maxRecDepth 100000 in
theorem still_about {o : Oper} (h : stillOp o = true) (P : Program) (w : World) (ρ : Operand → Value) : o.about P w ρ = none := by
  unfold stillOp at h
  unfold Oper.about
  cases ho : o.op <;> simp only [ho, Bool.false_eq_true] at h ⊢
set_option maxRecDepth 100000 in
theorem still_in {F : Fence} {n : Nat} {P : Program} {o : Oper} {a : Act} {w : World} {K : Act → World → Prop} {Q : Exit → Act → World → Prop} (hs : stillOp o = true) (h : o.wp P a w K Q) : o.wpIn F n P a w K Q := by
  refine ⟨fun f hf => (by rw [still_about hs] at hf; cases hf), ?_⟩
  rw [Oper.semAt_eq _ _ _ (fun c hc => by unfold stillOp at hs; rw [hc] at hs; cases hs)]
  exact upon_in (still_flat hs _ _ _) h
section
variable {F : Fence} {n : Nat} {P : Program} {ops : Array Oper} {Q : Exit → Act → World → Prop} {S : World → Prop}
set_option maxRecDepth 100000 in
theorem stillOp_in (hall : ops.all stillOp = true) (hL : ∀ a w, ¬ Q .outgrown a w) {i : Nat} {K : Act → World → Prop} {a : Act} {w : World} (h : wpOp P ops Q i K a w) : wpOpIn F n P ops Q i K a w := by
  unfold wpOp at h
  unfold wpOpIn
  cases ho : ops[i]? with
  | none => rw [ho] at h; exact h
  | some o =>
    rw [ho] at h
    have hs : stillOp o = true := by
      have := Array.all_eq_true_iff_forall_mem.1 hall o (Array.mem_of_getElem? ho)
      exact this
    dsimp only at h ⊢
    split
    · rename_i hw
      rw [if_pos hw] at h
      rcases h with h | h
      · exact still_in hs h
      · exact h.2.elim fun a h => h.elim fun w h => (hL a w h).elim
    · rename_i hw
      rw [if_neg hw] at h
      exact ⟨fun f hf => (by rw [still_about hs] at hf; cases hf), h⟩
set_option maxRecDepth 100000 in
theorem stillAny_in (hall : ops.all stillOp = true) (hL : ∀ a w, ¬ Q .outgrown a w) : ∀ (fuel : Nat) (listed : Array Bool) (a : Act) (w : World), wpAny P .any ops Q fuel listed a w → wpAnyIn F n P .any ops Q fuel listed a w
  | 0, _, _, _, h => h
  | fuel + 1, _, _, _, h => ⟨h.1, fun i hi => wpOpIn_mono (fun a' w' h' => stillAny_in hall hL fuel _ a' w' h') (stillOp_in hall hL (h.2 i hi))⟩
set_option maxRecDepth 100000 in
/-- Such a region, by hand, in any fence. -/
theorem wpIn_region_hand {id : Nat} {a : Act} {w : World} (hm : P.follows .mixedOrders = true) (hall : ops.all stillOp = true) (hL : ∀ a w, ¬ Q .outgrown a w) (hS : S w.drew)
    (h : S w.drew → wpAnyH P .any ops Q S ops.size (Array.replicate ops.size false) a w.drew) : (Code.region id ops true).wpIn F n P Q a w :=
  wpIn_region_any hm (stillAny_in hall hL _ _ _ _ (wpAny_of_held _ _ _ _ (h hS)))
end

end Go.Proofs.YtdaimejlcfhfiaaGreatDoor
