/-
  Texts that the walks of the statements over logs lean on, joined (NumMath, NumKit, Mem, Hand, RegRound, RegionInv, RegT). Conditions: those that each theorem names.
-/
import Derived.RangeFuncNested
import Derived.RangeFuncBound
import Derived.RangeFuncCalls
import Derived.RangeFuncLeaves
import Derived.RangeFuncBox
import Derived.Shelf.Abstract
import Derived.Shelf.RegionOpen
import Derived.WalkKit
import Derived.WalkSpells
import Derived.WalkLawsBesides
import Derived.OwnWalkIn
import Derived.TacticsInMore
import Derived.LoopNIn
import Derived.LoopIn
import Derived.Maps.AppendAt
import Derived.Lib.Hide
import Derived.ScopeJumps
import Derived.Deep.QuietTactic
import Derived.BigQuiet
import Derived.Deep.Draws
import Derived.Deep.AppendLies
import Derived.Test.YtdaimejlcfhfiaaGreatDoorRows
import Derived.Laws.BytesArg
import Derived.Deep.RegionHeld3
import Derived.OpenShut
import Derived.Laws.AppendOwnNone
import Derived.OrdersIn

/-
  Plain facts on numbers' bytes (no program): the digits by 128, what is taken back of bytes, and rows of them. Conditions: those that each theorem names.
-/
namespace Go.Proofs.YtdaimejlcfhfiaaGreatDoor

/-- The bytes of a number. -/
def put (n : Nat) : List Nat := if n < 128 then [n] else (n % 128 + 128) :: put (n / 128)
  termination_by n
  decreasing_by omega

set_option maxRecDepth 100000 in
theorem put_small {n : Nat} (h : n < 128) : put n = [n] := by rw [put, if_pos h]
set_option maxRecDepth 100000 in
theorem put_big {n : Nat} (h : ¬ n < 128) : put n = (n % 128 + 128) :: put (n / 128) := by rw [put, if_neg h]

set_option maxRecDepth 100000 in
theorem put_bytes : ∀ (n x : Nat), x ∈ put n → x < 256 := by
  intro n
  induction n using Nat.strongRecOn with
  | _ n ih =>
    intro x hx
    by_cases h : n < 128
    · rw [put_small h] at hx; simp at hx; omega
    · rw [put_big h] at hx
      simp only [List.mem_cons] at hx
      rcases hx with hx | hx
      · omega
      · exact ih (n / 128) (by omega) x hx

set_option maxRecDepth 100000 in
theorem put_pos : ∀ (n : Nat), 0 < (put n).length := by
  intro n
  by_cases h : n < 128
  · rw [put_small h]; simp
  · rw [put_big h]; simp

set_option maxRecDepth 100000 in
/-- A number of k digits lies below the k-th power. -/
theorem put_lt : ∀ (n : Nat), n < 128 ^ (put n).length := by
  intro n
  induction n using Nat.strongRecOn with
  | _ n ih =>
    by_cases h : n < 128
    · rw [put_small h]; simpa using h
    · rw [put_big h]
      have := ih (n / 128) (by omega)
      simp only [List.length_cons, Nat.pow_succ]
      omega

set_option maxRecDepth 100000 in
theorem put_ge : ∀ (n : Nat), 1 < (put n).length → 128 ^ ((put n).length - 1) ≤ n := by
  intro n
  induction n using Nat.strongRecOn with
  | _ n ih =>
    intro hl
    by_cases h : n < 128
    · rw [put_small h] at hl; simp at hl
    · rw [put_big h] at hl ⊢
      have h0 := ih (n / 128) (by omega)
      have hp := put_pos (n / 128)
      simp only [List.length_cons, Nat.add_sub_cancel] at *
      by_cases h1 : 1 < (put (n / 128)).length
      · have h2 := h0 h1
        obtain ⟨k, hk⟩ : ∃ k, (put (n / 128)).length = k + 1 := ⟨(put (n / 128)).length - 1, by omega⟩
        rw [hk] at h2 ⊢
        simp only [Nat.add_sub_cancel, Nat.pow_succ] at *
        omega
      · have : (put (n / 128)).length = 1 := by omega
        rw [this]; omega

set_option maxRecDepth 100000 in
theorem put_len_le {n k : Nat} (h : n < 128 ^ k) (hk : 0 < k) : (put n).length ≤ k := by
  rcases Nat.lt_or_ge k (put n).length with hlt | hge
  · have h1 := put_ge n (by omega)
    have h2 : 128 ^ k ≤ 128 ^ ((put n).length - 1) := Nat.pow_le_pow_right (by omega) (by omega)
    omega
  · exact hge

set_option maxRecDepth 100000 in
theorem put_six {n : Nat} (h : n ≤ 1099511627776) : (put n).length ≤ 6 := put_len_le (by omega) (by omega)

set_option maxRecDepth 100000 in
theorem put_len_mono {n m : Nat} (h : n ≤ m) : (put n).length ≤ (put m).length :=
  put_len_le (Nat.lt_of_le_of_lt h (put_lt m)) (put_pos m)

set_option maxRecDepth 100000 in
/-- Numbers whose bytes begin one another's are one. -/
theorem put_prefix : ∀ (n m : Nat) (r s : List Nat), put n ++ r = put m ++ s → n = m ∧ r = s := by
  intro n
  induction n using Nat.strongRecOn with
  | _ n ih =>
    intro m r s he
    by_cases h : n < 128
    · by_cases h' : m < 128
      · rw [put_small h, put_small h'] at he
        simpa using he
      · rw [put_small h, put_big h'] at he
        simp at he; omega
    · by_cases h' : m < 128
      · rw [put_big h, put_small h'] at he
        simp at he; omega
      · rw [put_big h, put_big h'] at he
        simp only [List.cons_append, List.cons.injEq] at he
        obtain ⟨h1, h2⟩ := he
        obtain ⟨h3, h4⟩ := ih (n / 128) (by omega) (m / 128) r s h2
        exact ⟨by omega, h4⟩

/-- What comes of taking a number: the number, how many bytes it has, an error's number. -/
def scan (n long : Nat) : List Nat → Nat × Nat × Nat
  | [] => (0, 0, 10)
  | d :: r =>
    if 128 ≤ d ∧ long + 1 < 6 then scan (n + d % 128 * 128 ^ long) (long + 1) r
    else if 128 ≤ d ∨ (d = 0 ∧ 1 < long + 1) ∨ 1099511627776 < n + d % 128 * 128 ^ long then (0, 0, 11)
    else (n + d % 128 * 128 ^ long, long + 1, 0)

def first (bs : List Nat) : Nat × Nat × Nat := scan 0 0 bs

set_option maxRecDepth 100000 in
theorem scan_cases : ∀ (bs : List Nat) (n long : Nat), scan n long bs = (0, 0, 10) ∨ scan n long bs = (0, 0, 11) ∨
    ∃ N K, scan n long bs = (N, K, 0) ∧ N ≤ 1099511627776 ∧ long < K ∧ K ≤ long + bs.length := by
  intro bs
  induction bs with
  | nil => intro n long; left; rfl
  | cons d r ih =>
    intro n long
    simp only [scan]
    split
    · rcases ih (n + d % 128 * 128 ^ long) (long + 1) with h | h | ⟨N, K, h, h1, h2, h3⟩
      · exact .inl h
      · exact .inr (.inl h)
      · exact .inr (.inr ⟨N, K, h, h1, by omega, by simp; omega⟩)
    · split
      · exact .inr (.inl rfl)
      · rename_i _ hn
        exact .inr (.inr ⟨_, _, rfl, by omega, by omega, by simp⟩)

set_option maxRecDepth 100000 in
theorem scan_put : ∀ (m n long : Nat) (rest : List Nat), long + (put m).length ≤ 6 → (0 < m ∨ long = 0) → n + m * 128 ^ long ≤ 1099511627776 →
    scan n long (put m ++ rest) = (n + m * 128 ^ long, long + (put m).length, 0) := by
  intro m
  induction m using Nat.strongRecOn with
  | _ m ih =>
    intro n long rest hl h0 hm
    by_cases h : m < 128
    · rw [put_small h]
      simp only [List.cons_append, List.nil_append, scan, List.length_singleton]
      have hmod : m % 128 = m := Nat.mod_eq_of_lt h
      rw [hmod, if_neg (by omega), if_neg (by omega)]
    · rw [put_big h] at hl ⊢
      have hp := put_pos (m / 128)
      simp only [List.cons_append, List.length_cons] at *
      simp only [scan]
      have e1 : (m % 128 + 128) % 128 = m % 128 := by omega
      have e2 : m * 128 ^ long = m % 128 * 128 ^ long + m / 128 * 128 ^ (long + 1) := by
        have h1 : m = m % 128 + 128 * (m / 128) := by omega
        have h2 : m * 128 ^ long = (m % 128 + 128 * (m / 128)) * 128 ^ long := by rw [← h1]
        rw [h2, Nat.add_mul, Nat.pow_succ]
        congr 1
        rw [Nat.mul_comm 128 (m / 128), Nat.mul_assoc, Nat.mul_comm 128 (128 ^ long)]
      rw [e1, if_pos (by omega), ih (m / 128) (by omega) _ _ _ (by omega) (.inl (by omega)) (by omega)]
      simp only [Prod.mk.injEq]
      exact ⟨by omega, by omega, trivial⟩

set_option maxRecDepth 100000 in
theorem first_put {m : Nat} (h : m ≤ 1099511627776) (rest : List Nat) : first (put m ++ rest) = (m, (put m).length, 0) := by
  have := scan_put m 0 0 rest (by have := put_six h; omega) (.inr rfl) (by omega)
  simpa [first] using this

set_option maxRecDepth 100000 in
/-- What was taken is put as the bytes that were there. -/
theorem scan_only : ∀ (bs : List Nat) (n long N K : Nat), (∀ x ∈ bs, x < 256) → scan n long bs = (N, K, 0) →
    ∃ m, N = n + m * 128 ^ long ∧ bs = put m ++ bs.drop (K - long) ∧ K = long + (put m).length ∧ (0 < m ∨ long = 0) := by
  intro bs
  induction bs with
  | nil => intro n long N K _ h; simp [scan] at h
  | cons d r ih =>
    intro n long N K hb h
    have hd : d < 256 := hb d (by simp)
    simp only [scan] at h
    split at h
    · rename_i hc
      obtain ⟨m, h1, h2, h3, h4⟩ := ih _ _ _ _ (fun x hx => hb x (by simp [hx])) h
      have hm : 0 < m := by omega
      have hp := put_pos m
      refine ⟨d % 128 + 128 * m, ?_, ?_, ?_, .inl (by omega)⟩
      · rw [h1, Nat.add_mul, Nat.pow_succ, ← Nat.add_assoc]
        congr 1
        rw [Nat.mul_comm 128 m, Nat.mul_assoc, Nat.mul_comm 128 (128 ^ long)]
      · rw [put_big (by omega)]
        have e1 : (d % 128 + 128 * m) % 128 + 128 = d := by omega
        have e2 : (d % 128 + 128 * m) / 128 = m := by omega
        have e3 : K - long = (K - (long + 1)) + 1 := by omega
        rw [e1, e2, e3, List.drop_succ_cons, List.cons_append, ← h2]
      · rw [put_big (by omega)]
        have e2 : (d % 128 + 128 * m) / 128 = m := by omega
        rw [e2, List.length_cons]; omega
    · rename_i hc
      split at h
      · simp at h
      · rename_i hn
        simp only [Prod.mk.injEq] at h
        obtain ⟨h1, h2, _⟩ := h
        have hlt : d < 128 := by omega
        have hmod : d % 128 = d := Nat.mod_eq_of_lt hlt
        refine ⟨d, by rw [hmod] at h1; omega, ?_, ?_, by omega⟩
        · rw [put_small hlt]
          have e3 : K - long = 1 := by omega
          rw [e3]; simp
        · rw [put_small hlt]; simp; omega

set_option maxRecDepth 100000 in
theorem first_only {bs : List Nat} {N K : Nat} (hb : ∀ x ∈ bs, x < 256) (h : first bs = (N, K, 0)) : bs = put N ++ bs.drop K ∧ K = (put N).length ∧ N ≤ 1099511627776 := by
  obtain ⟨m, h1, h2, h3, _⟩ := scan_only bs 0 0 N K hb h
  have hN : N = m := by omega
  subst hN
  rcases scan_cases bs 0 0 with hc | hc | ⟨N', K', hc, h4, _⟩
  · unfold first at h; rw [hc] at h; simp at h
  · unfold first at h; rw [hc] at h; simp at h
  · unfold first at h; rw [hc] at h
    simp only [Prod.mk.injEq] at h
    exact ⟨by simpa using h2, by omega, by omega⟩

set_option maxRecDepth 100000 in
/-- A part of the bytes that is cut off at its end is too short. -/
theorem scan_cut : ∀ (m n long k : Nat), long + (put m).length ≤ 6 → k < (put m).length → scan n long ((put m).take k) = (0, 0, 10) := by
  intro m
  induction m using Nat.strongRecOn with
  | _ m ih =>
    intro n long k hl hk
    cases k with
    | zero => simp [scan]
    | succ k =>
      by_cases h : m < 128
      · rw [put_small h] at hk; simp at hk
      · rw [put_big h] at hk hl ⊢
        simp only [List.length_cons] at hk hl
        have hp := put_pos (m / 128)
        simp only [List.take_succ_cons, scan]
        rw [if_pos (by omega)]
        exact ih (m / 128) (by omega) _ _ k (by omega) (by omega)

set_option maxRecDepth 100000 in
theorem first_cut {m k : Nat} (h : m ≤ 1099511627776) (hk : k < (put m).length) : first ((put m).take k) = (0, 0, 10) :=
  scan_cut m 0 0 k (by have := put_six h; omega) hk

/-! ### rows -/

/-- The bytes of a row's numbers, one behind the other. -/
def puts (l : List Nat) : List Nat := l.flatMap put

set_option maxRecDepth 100000 in
theorem puts_snoc (l : List Nat) (n : Nat) : puts (l ++ [n]) = puts l ++ put n := by simp [puts]
set_option maxRecDepth 100000 in
theorem puts_cons (l : List Nat) (n : Nat) : puts (n :: l) = put n ++ puts l := by simp [puts]

/-- What comes of taking k numbers one behind the other: how many bytes they have, the numbers, an error. -/
def takes : Nat → List Nat → Nat × List Nat × Nat
  | 0, _ => (0, [], 0)
  | k + 1, bs =>
    if (first bs).2.2 = 0 then ((first bs).2.1 + (takes k (bs.drop (first bs).2.1)).1, (first bs).1 :: (takes k (bs.drop (first bs).2.1)).2.1, (takes k (bs.drop (first bs).2.1)).2.2)
    else (0, [], (first bs).2.2)

/-- What comes of taking a row: how many bytes it has, the numbers, an error. -/
def takeRow (bs : List Nat) : Nat × List Nat × Nat :=
  if (first bs).2.2 ≠ 0 then (0, [], (first bs).2.2)
  else if 40 < (first bs).1 then (0, [], 11)
  else if (takes (first bs).1 (bs.drop (first bs).2.1)).2.2 ≠ 0 then (0, [], (takes (first bs).1 (bs.drop (first bs).2.1)).2.2)
  else ((first bs).2.1 + (takes (first bs).1 (bs.drop (first bs).2.1)).1, (takes (first bs).1 (bs.drop (first bs).2.1)).2.1, 0)

def row (l : List Nat) : List Nat := put l.length ++ puts l

set_option maxRecDepth 100000 in
theorem first_ok {bs : List Nat} (hb : ∀ x ∈ bs, x < 256) (h : (first bs).2.2 = 0) :
    bs = put (first bs).1 ++ bs.drop (first bs).2.1 ∧ (first bs).2.1 = (put (first bs).1).length ∧ (first bs).1 ≤ 1099511627776 :=
  first_only hb (by rw [← h])

set_option maxRecDepth 100000 in
theorem first_err {bs : List Nat} (h : (first bs).2.2 ≠ 0) : (first bs).1 = 0 ∧ (first bs).2.1 = 0 ∧ ((first bs).2.2 = 10 ∨ (first bs).2.2 = 11) := by
  rcases scan_cases bs 0 0 with hc | hc | ⟨N', K', hc, _⟩
  · unfold first at *; rw [hc] at h ⊢; simp
  · unfold first at *; rw [hc] at h ⊢; simp
  · unfold first at *; rw [hc] at h; simp at h

set_option maxRecDepth 100000 in
theorem takes_puts : ∀ (l : List Nat) (rest : List Nat), (∀ n ∈ l, n ≤ 1099511627776) → takes l.length (puts l ++ rest) = ((puts l).length, l, 0) := by
  intro l
  induction l with
  | nil => intro rest _; rfl
  | cons n l ih =>
    intro rest h
    have hn : n ≤ 1099511627776 := h n (by simp)
    have h0 := ih rest (fun x hx => h x (by simp [hx]))
    rw [puts_cons, List.append_assoc, List.length_cons, takes, first_put hn, if_pos rfl]
    have e : (put n ++ (puts l ++ rest)).drop (put n).length = puts l ++ rest := List.drop_left
    simp only [e, h0, List.length_append]

set_option maxRecDepth 100000 in
theorem takeRow_row {l : List Nat} (hl : l.length ≤ 40) (h : ∀ n ∈ l, n ≤ 1099511627776) (rest : List Nat) : takeRow (row l ++ rest) = ((row l).length, l, 0) := by
  unfold takeRow row
  rw [List.append_assoc, first_put (by omega)]
  have e : (put l.length ++ (puts l ++ rest)).drop (put l.length).length = puts l ++ rest := List.drop_left
  simp only [e, takes_puts l rest h]
  rw [if_neg (by simp), if_neg (by omega), if_neg (by simp), List.length_append]

set_option maxRecDepth 100000 in
theorem takes_only : ∀ (k : Nat) (bs : List Nat), (∀ x ∈ bs, x < 256) → (takes k bs).2.2 = 0 →
    bs = puts (takes k bs).2.1 ++ bs.drop (takes k bs).1 ∧ (takes k bs).1 = (puts (takes k bs).2.1).length ∧ (takes k bs).2.1.length = k ∧ ∀ n ∈ (takes k bs).2.1, n ≤ 1099511627776 := by
  intro k
  induction k with
  | zero => intro bs _ _; simp [takes, puts]
  | succ k ih =>
    intro bs hb h
    simp only [takes] at h ⊢
    by_cases h0 : (first bs).2.2 = 0
    · rw [if_pos h0] at h ⊢
      obtain ⟨h1, h2, h3⟩ := first_ok hb h0
      obtain ⟨h4, h5, h6, h7⟩ := ih (bs.drop (first bs).2.1) (fun x hx => hb x (List.mem_of_mem_drop hx)) h
      simp only at h4 h5 h6 h7 ⊢
      refine ⟨?_, ?_, by simp [h6], ?_⟩
      · rw [puts_cons, List.append_assoc, ← List.drop_drop, ← h4, ← h1]
      · rw [puts_cons, List.length_append, ← h2, ← h5]
      · intro n hn
        simp only [List.mem_cons] at hn
        rcases hn with rfl | hn
        · exact h3
        · exact h7 n hn
    · rw [if_neg h0] at h; exact absurd h h0

set_option maxRecDepth 100000 in
theorem takes_err (k : Nat) : ∀ (bs : List Nat), (takes k bs).2.2 ≠ 0 → (takes k bs).2.2 = 10 ∨ (takes k bs).2.2 = 11 := by
  induction k with
  | zero => intro bs h; simp [takes] at h
  | succ k ih =>
    intro bs h
    simp only [takes] at h ⊢
    by_cases h0 : (first bs).2.2 = 0
    · rw [if_pos h0] at h ⊢; exact ih _ h
    · rw [if_neg h0]; exact (first_err h0).2.2

set_option maxRecDepth 100000 in
theorem takeRow_only {bs : List Nat} (hb : ∀ x ∈ bs, x < 256) (h : (takeRow bs).2.2 = 0) :
    bs = row (takeRow bs).2.1 ++ bs.drop (takeRow bs).1 ∧ (takeRow bs).2.1.length ≤ 40 ∧ (∀ n ∈ (takeRow bs).2.1, n ≤ 1099511627776) ∧ (takeRow bs).1 = (row (takeRow bs).2.1).length := by
  unfold takeRow at h ⊢
  by_cases h0 : (first bs).2.2 = 0
  · rw [if_neg (by simpa using h0)] at h ⊢
    by_cases h1 : 40 < (first bs).1
    · rw [if_pos h1] at h; simp at h
    · rw [if_neg h1] at h ⊢
      by_cases h2 : (takes (first bs).1 (bs.drop (first bs).2.1)).2.2 = 0
      · rw [if_neg (by simpa using h2)]
        obtain ⟨h3, h4, h5⟩ := first_ok hb h0
        obtain ⟨h6, h7, h8, h9⟩ := takes_only _ _ (fun x hx => hb x (List.mem_of_mem_drop hx)) h2
        simp only
        refine ⟨?_, by omega, h9, ?_⟩
        · rw [row, h8, List.append_assoc, ← List.drop_drop, ← h6, ← h3]
        · rw [row, List.length_append, h8, ← h4, ← h7]
      · rw [if_pos h2] at h; exact absurd h h2
  · rw [if_pos h0] at h; exact absurd h h0

set_option maxRecDepth 100000 in
theorem takeRow_err {bs : List Nat} (h : (takeRow bs).2.2 ≠ 0) : (takeRow bs).2.1 = [] ∧ ((takeRow bs).2.2 = 10 ∨ (takeRow bs).2.2 = 11) := by
  unfold takeRow at h ⊢
  by_cases h0 : (first bs).2.2 = 0
  · rw [if_neg (by simpa using h0)] at h ⊢
    by_cases h1 : 40 < (first bs).1
    · rw [if_pos h1]; simp
    · rw [if_neg h1] at h ⊢
      by_cases h2 : (takes (first bs).1 (bs.drop (first bs).2.1)).2.2 = 0
      · rw [if_neg (by simpa using h2)] at h; simp at h
      · rw [if_pos h2]
        exact ⟨rfl, takes_err _ _ h2⟩
  · rw [if_pos h0]
    exact ⟨rfl, (first_err h0).2.2⟩

set_option maxRecDepth 100000 in
theorem takes_cut : ∀ (l : List Nat) (k : Nat), (∀ n ∈ l, n ≤ 1099511627776) → k < (puts l).length → (takes l.length ((puts l).take k)).2.2 = 10 := by
  intro l
  induction l with
  | nil => intro k _ hk; simp [puts] at hk
  | cons n l ih =>
    intro k h hk
    have hn : n ≤ 1099511627776 := h n (by simp)
    rw [puts_cons, List.length_append] at hk
    rw [puts_cons, List.take_append, List.length_cons]
    by_cases h1 : k < (put n).length
    · have e : k - (put n).length = 0 := by omega
      rw [e, List.take_zero, List.append_nil, takes, first_cut hn h1]
      simp
    · rw [List.take_of_length_le (by omega), takes, first_put hn, if_pos rfl]
      have e : (put n ++ List.take (k - (put n).length) (puts l)).drop (put n).length = List.take (k - (put n).length) (puts l) := List.drop_left
      simp only [e]
      exact ih _ (fun x hx => h x (by simp [hx])) (by omega)

set_option maxRecDepth 100000 in
theorem takeRow_cut {l : List Nat} {k : Nat} (hl : l.length ≤ 40) (h : ∀ n ∈ l, n ≤ 1099511627776) (hk : k < (row l).length) : (takeRow ((row l).take k)).2.2 = 10 := by
  unfold row at hk ⊢
  rw [List.length_append] at hk
  rw [List.take_append]
  unfold takeRow
  by_cases h1 : k < (put l.length).length
  · have e : k - (put l.length).length = 0 := by omega
    rw [e, List.take_zero, List.append_nil, first_cut (by omega) h1]
    simp
  · rw [List.take_of_length_le (by omega), first_put (by omega)]
    have e : (put l.length ++ List.take (k - (put l.length).length) (puts l)).drop (put l.length).length = List.take (k - (put l.length).length) (puts l) := List.drop_left
    have h2 := takes_cut l (k - (put l.length).length) h (by omega)
    simp only [e, h2]
    rw [if_neg (by simp), if_neg (by omega), if_pos (by simp)]

end Go.Proofs.YtdaimejlcfhfiaaGreatDoor

/-
  Small words on memory: slices that read as a list, rows of the call's own, what stays. Conditions: those that each theorem names.
-/
namespace Go.Proofs.YtdaimejlcfhfiaaGreatDoor
open Go.RowKit Go.Shelf

/-- Bytes, and integers, as values. -/
def bv (l : List Nat) : List Value := l.map fun x : Nat => Value.int .u8 (x : Int)
def iv (l : List Int) : List Value := l.map (Value.int .i64)

set_option maxRecDepth 100000 in
theorem bv_append (l m : List Nat) : bv (l ++ m) = bv l ++ bv m := by simp [bv]
set_option maxRecDepth 100000 in
theorem bv_length (l : List Nat) : (bv l).length = l.length := by simp [bv]
set_option maxRecDepth 100000 in
theorem iv_length (l : List Int) : (iv l).length = l.length := by simp [iv]
set_option maxRecDepth 100000 in
theorem bv_one (l : List Nat) : ∀ u ∈ bv l, u.oneCell' = true := by
  intro u hu
  simp only [bv, List.mem_map] at hu
  obtain ⟨x, _, rfl⟩ := hu
  rfl
set_option maxRecDepth 100000 in
theorem iv_one (l : List Int) : ∀ u ∈ iv l, u.oneCell' = true := by
  intro u hu
  simp only [iv, List.mem_map] at hu
  obtain ⟨x, _, rfl⟩ := hu
  rfl

/-- A slice of n one-cell elements that reads as the list xs, in a block below B. -/
def Rd (w : World) (B : Nat) (A : Option Addr) (n : Nat) (xs : List Value) : Prop :=
  xs.length = n ∧ (0 < n → ∃ b off, A = some ⟨b, off, none⟩ ∧ b < B ∧ ∀ j, j < n → w.cell? ⟨b, off + j, none⟩ = xs[j]?)

section
variable {w w' : World} {B B' n : Nat} {A : Option Addr} {xs : List Value}
set_option maxRecDepth 100000 in
theorem Rd.nil_ (w : World) (B : Nat) (A : Option Addr) : Rd w B A 0 [] := ⟨rfl, fun h => absurd h (by omega)⟩
set_option maxRecDepth 100000 in
theorem Rd.keep (h : Rd w B A n xs) (hk : ∀ p : Addr, p.block < B → w'.cell? p = w.cell? p) : Rd w' B A n xs :=
  ⟨h.1, fun hn => by
    obtain ⟨b, off, e, hb, hc⟩ := h.2 hn
    exact ⟨b, off, e, hb, fun j hj => (hk ⟨b, off + j, none⟩ hb).trans (hc j hj)⟩⟩
set_option maxRecDepth 100000 in
theorem Rd.more (h : Rd w B A n xs) (hB : B ≤ B') : Rd w B' A n xs :=
  ⟨h.1, fun hn => by
    obtain ⟨b, off, e, hb, hc⟩ := h.2 hn
    exact ⟨b, off, e, by omega, hc⟩⟩
set_option maxRecDepth 100000 in
theorem Rd.below (h : Rd w B A n xs) (hb : Below B w w') : Rd w' B A n xs := h.keep fun _ hp => hb.cell hp
set_option maxRecDepth 100000 in
theorem Rd.alloc (h : Rd w B A n xs) (hB : B ≤ w.heap.size) (o : Obj) : Rd (w.alloc o) B A n xs := h.below ((Below.refl B w).alloc hB o)
set_option maxRecDepth 100000 in
theorem Rd.of_own {base : Nat} {e : TypeId} {c : Nat} (h : w.ownsRow base e 1 (.slice A n c) n xs) : Rd w w.heap.size A n xs := by
  refine ⟨by have := h.1; omega, fun hn => ?_⟩
  obtain ⟨g, cap, hv, _, hlt⟩ := h.form hn
  injection hv with hA _ hc
  subst hA; subst hc
  refine ⟨g, 0, rfl, hlt, fun j hj => ?_⟩
  rw [Nat.zero_add]
  exact h.cellAt j (by omega)
set_option maxRecDepth 100000 in
/-- The slice's rest from k on, as the model cuts it. -/
theorem Rd.cut {k : Nat} (h : Rd w B A n xs) (hk : k ≤ n) (A' : Option Addr) (hA : k < n → ∀ b off, A = some ⟨b, off, none⟩ → A' = some ⟨b, off + k, none⟩) : Rd w B A' (n - k) (xs.drop k) := by
  refine ⟨by rw [List.length_drop, h.1], fun hn => ?_⟩
  obtain ⟨b, off, e, hb, hc⟩ := h.2 (by omega)
  refine ⟨b, off + k, hA (by omega) b off e, hb, fun j hj => ?_⟩
  rw [Nat.add_assoc, hc (k + j) (by omega), List.getElem?_drop]
end

set_option maxRecDepth 100000 in
theorem cell_new (w : World) (cs : Array Value) (t : TypeId) (i : Nat) : (w.alloc (.cells cs t)).cell? ⟨w.heap.size, i, none⟩ = cs[i]? := cell_of_row _ _ i cs t (0, 0) (heap_alloc_new w _)

set_option maxRecDepth 100000 in
/-- A row of the call's own holds cells: what is no cells stays while it grows. -/
theorem keeps_row {W W' : World} {base : Nat} {e : TypeId} {size n : Nat} {v : Value} {xs : List Value} (hr : W.ownsRow base e size v n xs) (hg : W.grownBy W' v.ownBlock) : KeepsOthers W W' :=
  KeepsOthers.of_grownBy hg fun j o hj ho => by
    rcases hr.2 with ⟨rfl, _⟩ | ⟨g, cap, cur, rfl, _, hc, _⟩
    · simp [Value.ownBlock] at hj
    · simp only [Value.ownBlock, Option.some.injEq] at hj
      subst hj
      rw [hc] at ho
      injection ho with ho
      subst ho
      rfl

set_option maxRecDepth 100000 in
theorem below_row {W W' : World} {base : Nat} {e : TypeId} {size n : Nat} {v : Value} {xs : List Value} (hr : W.ownsRow base e size v n xs) (hg : W.grownBy W' v.ownBlock) (hb : base ≤ W.heap.size) : Below base W W' :=
  (Below.refl base W).grown hg hb fun k hk => (hr.lt k hk).1

set_option maxRecDepth 100000 in
/-- A scope that begins with its label, at which the run comes back: what holds there, and a measure. -/
theorem wp_scope_back {P : Program} {a : Act} {w : World} {Q : Exit → Act → World → Prop} {rest : Code} (l : Nat) (J : Act → World → Prop) (μ : Act → World → Nat) (h0 : J a w)
    (pass : ∀ a w, J a w → rest.wp P (Exit.jump l (fun a' w' => J a' w' ∧ μ a' w' < μ a w) Q) a w) : (Code.scope ((Code.label l).seq rest)).wp P Q a w := by
  refine wp_scope_jumps l J μ (rest := Code.skip.seq rest) (by simp [findLabel]) (wp_seq (wp_label (wp_mono (pass a w h0) ?_))) (fun a w hJ => wp_seq (wp_skip (pass a w hJ)))
  rintro (_ | _ | l | _ | _ | _) a1 w1 h
  all_goals first | exact h | exact ⟨h.1, h.2.1⟩

set_option maxRecDepth 100000 in
/-- The same where code without the label stands ahead of it. -/
theorem wp_scope_back_behind {P : Program} {a : Act} {w : World} {Q : Exit → Act → World → Prop} {pre rest : Code} (l : Nat) (J : Act → World → Prop) (μ : Act → World → Nat) (hn : findLabel pre l = none)
    (h0 : pre.wp P (fun e a w => e = .normal ∧ J a w) a w)
    (pass : ∀ a w, J a w → rest.wp P (Exit.jump l (fun a' w' => J a' w' ∧ μ a' w' < μ a w) Q) a w) : (Code.scope (pre.seq ((Code.label l).seq rest))).wp P Q a w := by
  refine wp_scope_jumps l J μ (rest := Code.skip.seq rest) (by simp [findLabel, hn]) (wp_seq (wp_mono h0 ?_)) (fun a w hJ => wp_seq (wp_skip (pass a w hJ)))
  rintro e a1 w1 ⟨rfl, h1⟩
  refine wp_seq (wp_label (wp_mono (pass a1 w1 h1) ?_))
  rintro (_ | _ | l | _ | _ | _) a2 w2 h
  all_goals first | exact h | exact ⟨h.1, h.2.1⟩

/-- A number that is one. -/
def isNum (n : Int) : Bool := decide (0 ≤ n) && decide (n ≤ 1099511627776)
set_option maxRecDepth 100000 in
theorem isNum_yes {n : Int} (h0 : 0 ≤ n) (h1 : n ≤ 1099511627776) : isNum n = true := by simp [isNum, h0, h1]
set_option maxRecDepth 100000 in
theorem isNum_iff {n : Int} : isNum n = true ↔ 0 ≤ n ∧ n ≤ 1099511627776 := by simp [isNum]

end Go.Proofs.YtdaimejlcfhfiaaGreatDoor

/-
  Small words on memory that no package's functions enter: rows of bytes, blocks known whole, appends, slices cut, strings. Conditions: those that each theorem names.
-/
namespace Go.Proofs.YtdaimejlcfhfiaaGreatDoor
open Go.RowKit Go.Shelf

/-- The numbers as they are counted. -/
def nats (l : List Int) : List Nat := l.map Int.toNat

set_option maxRecDepth 100000 in
theorem info_u8 : (Tryz.prog.info? 5).map (fun i => (i.zero, i.size, i.bytes)) = some (some (.int .u8 0), 1, 1) := by kernel_rfl

set_option maxRecDepth 100000 in
theorem own_form {w : World} {base : Nat} {e : TypeId} {n : Nat} {v : Value} {xs : List Value} (h : w.ownsRow base e 1 v n xs) : ∃ A c, v = .slice A n c := by
  rcases h.2 with ⟨rfl, rfl⟩ | ⟨g, cap, cur, rfl, _⟩
  · exact ⟨_, _, rfl⟩
  · exact ⟨_, _, rfl⟩

set_option maxRecDepth 100000 in
theorem info_int : (Tryz.prog.info? 3).map (fun i => (i.zero, i.size, i.bytes)) = some (some (.int .i64 0), 1, 8) := by kernel_rfl

set_option maxRecDepth 100000 in
theorem keeps_drewN (w : World) (k : Nat) : KeepsOthers w (w.drewN k) := ⟨Nat.le_refl _, fun _ _ h _ => h⟩

set_option maxRecDepth 100000 in
theorem own_weaker {w : World} {base base' : Nat} {e : TypeId} {size n : Nat} {v : Value} {xs : List Value} (h : w.ownsRow base' e size v n xs) (hb : base ≤ base') : w.ownsRow base e size v n xs := by
  refine ⟨h.1, ?_⟩
  rcases h.2 with h2 | ⟨g, cap, cur, h2, h3, h4⟩
  · exact .inl h2
  · exact .inr ⟨g, cap, cur, h2, by omega, h4⟩

/-- Block b is just these cells, all of which may be written. -/
def Whole (w : World) (b : Nat) (t : TypeId) (cs : Array Value) : Prop := w.heap[b]? = some (.cells cs t (0, 0))
section
variable {w w' : World} {b : Nat} {t : TypeId} {cs : Array Value}
set_option maxRecDepth 100000 in
theorem Whole.new (w : World) (t : TypeId) (cs : Array Value) : Whole (w.alloc (.cells cs t)) w.heap.size t cs := heap_alloc_new w _
set_option maxRecDepth 100000 in
theorem Whole.lt (h : Whole w b t cs) : b < w.heap.size := by
  rcases Nat.lt_or_ge b w.heap.size with h1 | h1
  · exact h1
  · unfold Whole at h; rw [Array.getElem?_eq_none h1] at h; cases h
set_option maxRecDepth 100000 in
theorem Whole.cell (h : Whole w b t cs) (i : Nat) : w.cell? ⟨b, i, none⟩ = cs[i]? := cell_of_row w b i cs t (0, 0) h
set_option maxRecDepth 100000 in
theorem Whole.frozen (h : Whole w b t cs) (i : Nat) : w.frozen? ⟨b, i, none⟩ = false := by unfold Whole at h; simp [World.frozen?, h]
set_option maxRecDepth 100000 in
theorem Whole.alloc (h : Whole w b t cs) (o : Obj) : Whole (w.alloc o) b t cs := (Below.heap_alloc w o b h.lt).trans h
set_option maxRecDepth 100000 in
theorem Whole.below (h : Whole w b t cs) {B : Nat} (hb : Below B w w') (hB : b < B) : Whole w' b t cs := (hb.block b hB).trans h
set_option maxRecDepth 100000 in
theorem Whole.under (h : Whole w b t cs) (hb : Below w.heap.size w w') : Whole w' b t cs := h.below hb h.lt
set_option maxRecDepth 100000 in
theorem Whole.grown (h : Whole w b t cs) {row : Option Nat} (hg : w.grownBy w' row) (hne : some b ≠ row) : Whole w' b t cs := (hg.block b h.lt hne).trans h
set_option maxRecDepth 100000 in
theorem Whole.set (h : Whole w b t cs) (i : Nat) (u : Value) : Whole (w.setCell ⟨b, i, none⟩ u) b t (cs.setIfInBounds i u) := by
  unfold Whole at h ⊢
  simp [World.setCell, Array.getElem?_modify, h]
set_option maxRecDepth 100000 in
theorem Whole.far (h : Whole w b t cs) {p : Addr} (hp : b ≠ p.block) (u : Value) : Whole (w.setCell p u) b t cs := (Below.heap_setCell w p u b hp).trans h
end

/-- The string of a list of bytes. -/
def strB (bs : List Nat) : ByteArray := strOfNums (bs.map fun x : Nat => (x : Int))

set_option maxRecDepth 100000 in
theorem strB_inj {a b : List Nat} (ha : ∀ x ∈ a, x < 256) (hb : ∀ x ∈ b, x < 256) : ((strB a).toList == (strB b).toList) = decide (a = b) := by
  have h2 : ∀ (l : List Nat), (∀ x ∈ l, x < 256) → (strB l).toList.map UInt8.toNat = l := by
    intro l hl
    rw [ByteArray.toList_eq, strB, strOfNums_data, List.map_map, List.map_map]
    conv => rhs; rw [← List.map_id l]
    refine List.map_congr_left fun x hx => ?_
    have := hl x hx
    simp
    omega
  by_cases h : a = b
  · subst h; simp
  · have h' : ¬ (strB a).toList = (strB b).toList := fun e => h (by rw [← h2 a ha, ← h2 b hb, e])
    rw [decide_eq_false h]
    exact beq_eq_false_iff_ne.2 h'

set_option maxRecDepth 100000 in
/-- A literal slice reads as it is written. -/
theorem rd_lit (W : World) (cs : List Value) (t : TypeId) (n : Nat) (hn : cs.length = n) : Rd (W.alloc (.cells cs.toArray t)) (W.heap.size + 1) (some ⟨W.heap.size, 0, none⟩) n cs := by
  refine ⟨hn, fun _ => ⟨W.heap.size, 0, rfl, by omega, fun j hj => ?_⟩⟩
  rw [Nat.zero_add, cell_new]
  simp

set_option maxRecDepth 100000 in
theorem rd_lit_at (W : World) (cs : List Value) (t : TypeId) (n b : Nat) (hn : cs.length = n) (hb : W.heap.size = b) : Rd (W.alloc (.cells cs.toArray t)) (b + 1) (some ⟨b, 0, none⟩) n cs := by
  subst hb; exact rd_lit W cs t n hn

set_option maxRecDepth 100000 in
/-- It reads so behind whatever leaves what was there. -/
theorem Rd.on {W W' : World} {B n : Nat} {A : Option Addr} {xs : List Value} (h : Rd W B A n xs) (hB : B ≤ W.heap.size) (hb : Below W.heap.size W W') : Rd W' B A n xs := h.below (hb.mono hB)

def WakePost (w : World) (e : Ending) (w' : World) : Prop := e = .returned (.bool true) ∧ Below w.heap.size w w'

set_option maxRecDepth 100000 in
theorem Rd.take {w : World} {B n k : Nat} {A : Option Addr} {xs : List Value} (h : Rd w B A n xs) (hk : k ≤ n) : Rd w B A k (xs.take k) := by
  refine ⟨by rw [List.length_take, h.1]; omega, fun hp => ?_⟩
  obtain ⟨b, off, e, hb, hc⟩ := h.2 (by omega)
  refine ⟨b, off, e, hb, fun j hj => ?_⟩
  rw [hc j (by omega), List.getElem?_take, if_pos hj]

set_option maxRecDepth 100000 in
/-- What came in as a slice of integers reads as a list. -/
theorem rd_of_ints {w : World} {a : Option Addr} {len cap : Nat} {zs : List Int}
    (h : (a = none ∧ len = 0 ∧ cap = 0 ∧ zs = []) ∨ ∃ x, a = some x ∧ len ≤ cap ∧ cap ≤ maxLen ∧ zs.length = cap ∧ (∀ i, i < zs.length → w.cell? (x.add i) = some (.int .i64 (zs.getD i 0))) ∧ ∀ n ∈ zs, (Lit.int .i64 n).wf = true) :
    Rd w w.heap.size a len (iv (zs.take len)) ∧ len ≤ cap ∧ cap ≤ maxLen := by
  rcases h with ⟨rfl, rfl, rfl, rfl⟩ | ⟨x, rfl, hl, hm, hz, hc, _⟩
  · exact ⟨⟨rfl, fun h => absurd h (by omega)⟩, Nat.le_refl _, by omega⟩
  · refine ⟨⟨by rw [iv_length, List.length_take]; omega, fun hp => ?_⟩, hl, hm⟩
    obtain ⟨b, off, rfl, hc'⟩ := ints_at hc (by omega)
    refine ⟨b, off, rfl, World.block_lt_of_cell? w _ (hc' 0 (by omega)), fun j hj => ?_⟩
    rw [hc' j (by omega), iv, List.getElem?_map, List.getElem?_take, if_pos hj, List.getElem?_eq_getElem (by omega)]
    simp [List.getD, List.getElem?_eq_getElem (show j < zs.length by omega)]

set_option maxRecDepth 100000 in
theorem rd_of_bytes {w : World} {a : Option Addr} {len cap : Nat} {zs : List Int}
    (h : (a = none ∧ len = 0 ∧ cap = 0 ∧ zs = []) ∨ ∃ x, a = some x ∧ len ≤ cap ∧ cap ≤ maxLen ∧ zs.length = cap ∧ (∀ i, i < zs.length → w.cell? (x.add i) = some (.int .u8 (zs.getD i 0))) ∧ ∀ n ∈ zs, (Lit.int .u8 n).wf = true) :
    ∃ bs : List Nat, Rd w w.heap.size a len (bv bs) ∧ (∀ x ∈ bs, x < 256) ∧ len ≤ cap ∧ cap ≤ maxLen := by
  rcases h with ⟨rfl, rfl, rfl, rfl⟩ | ⟨x, rfl, hl, hm, hz, hc, hw⟩
  · exact ⟨[], ⟨rfl, fun h => absurd h (by omega)⟩, by simp, Nat.le_refl _, by omega⟩
  · have hr : ∀ n ∈ zs, 0 ≤ n ∧ n < 256 := fun n hn => by
      have := hw n hn
      have := bounds_u8 this
      omega
    refine ⟨nats (zs.take len), ⟨by rw [bv_length, nats, List.length_map, List.length_take]; omega, fun hp => ?_⟩, ?_, hl, hm⟩
    · obtain ⟨b, off, rfl, hc'⟩ := ints_at hc (by omega)
      refine ⟨b, off, rfl, World.block_lt_of_cell? w _ (hc' 0 (by omega)), fun j hj => ?_⟩
      have hjz : j < zs.length := by omega
      rw [hc' j hjz, bv, nats, List.getElem?_map, List.getElem?_map, List.getElem?_take, if_pos hj, List.getElem?_eq_getElem hjz]
      have := hr zs[j] (List.getElem_mem hjz)
      simp [List.getD, List.getElem?_eq_getElem hjz]
      omega
    · intro y hy
      simp only [nats, List.mem_map] at hy
      obtain ⟨z, hz1, rfl⟩ := hy
      have := hr z (List.mem_of_mem_take hz1)
      omega

set_option maxRecDepth 100000 in
/-- An append whose run is known, guarded or not. -/
theorem wpList_app {P : Program} {w : World} {ops : Array Oper} {rest : List Oper} {o : Oper} {a : Act} {Q : Exit → Act → World → Prop} (hw : Region.wanted o (yielded ops a.tmps) = true) (s x : Operand) (t : TypeId)
    (ho : o.op = .call { callee := .builtin .append, args := #[s, x], argTypes := #[t, t] }) (vs vx v' : Value) (w' : World) (hs : a.eval s = vs) (hx : a.eval x = vx)
    (hr : (Builtin.append_ #[t, t] o.type #[vs, vx]).run P w = .ok v' w') (h : wpList P ops Q rest (a.put o.dst v') w') : wpList P ops Q (o :: rest) a w := by
  unfold wpList
  rw [if_pos hw]
  left
  unfold Oper.wp execOp
  simp only [ho, resolve, invoke, builtin, Sem.run_bind, Sem.run_pure, Result.andThen_ok, List.map_toArray, List.map_cons, List.map_nil, hs, hx, hr]
  exact h

/-- What a round that goes on keeps: what lies below n₀, and the box of what is gone over. -/
def KpB (n₀ Bn : Nat) (W W' : World) : Prop := Below n₀ W W' ∧ W'.heap[Bn]? = W.heap[Bn]?

set_option maxRecDepth 100000 in
theorem kpB_t {n₀ Bn : Nat} {A B C : World} (h : KpB n₀ Bn A B) (k : KpB n₀ Bn B C) : KpB n₀ Bn A C := ⟨h.1.trans k.1, k.2.trans h.2⟩

set_option maxRecDepth 100000 in
theorem kpB_b {n₀ Bn : Nat} {w : World} (hn : n₀ ≤ w.heap.size) (hBn : Bn < w.heap.size) (W : World) (l : Nat) (o o' : Obj) (hl : w.heap.size ≤ l) (h : W.heap[l]? = some o) (h1 : o.isCells = false) (h2 : o.isWalk = false) : KpB n₀ Bn W (W.putObj l o') :=
  ⟨belowK_b hn W l o o' hl h h1 h2, World.putObj_heap_other (by omega)⟩

def BoolPost (v : Bool) (w : World) (e : Ending) (w' : World) : Prop := e = .returned (.bool v) ∧ Below w.heap.size w w'

set_option maxRecDepth 100000 in
theorem kpB_refl {n₀ Bn : Nat} {W : World} : KpB n₀ Bn W W := ⟨Below.refl _ _, rfl⟩

set_option maxRecDepth 100000 in
/-- A scope in which the run jumps ahead to one label: what holds there. -/
theorem wp_scope_fwd {P : Program} {a : Act} {w : World} {Q : Exit → Act → World → Prop} {c rest : Code} (l : Nat) (J : Act → World → Prop) (hf : findLabel c l = some rest)
    (first : c.wp P (Exit.jump l J Q) a w) (tail : ∀ a w, J a w → rest.wp P (Exit.jump l (fun _ _ => False) Q) a w) : (Code.scope c).wp P Q a w := by
  refine wp_scope_jumps l J (fun _ _ => 0) hf first (fun a w hJ => wp_mono (tail a w hJ) ?_)
  rintro (_ | _ | l | _ | _ | _) a1 w1 h
  all_goals first | exact h | exact h.2.elim

set_option maxRecDepth 100000 in
/-- 'x[k:]' of integers, as the model cuts it: the address under one name. -/
theorem run_restI (A : Option Addr) (n c k : Nat) (hk : k ≤ n) : ∃ A', (∀ w : World, (Instr.slice 22 (.slice A n c) (some (.int .i64 (k : Int))) none none).run Tryz.prog w = .ok (.slice A' (n - k) (c - k)) w) ∧
    ((k < n ∧ n ≤ c) → ∀ b off, A = some ⟨b, off, none⟩ → A' = some ⟨b, off + k, none⟩) := by
  obtain ⟨i0, hi, hz0, hz1, hz2⟩ := info_parts info_int
  refine ⟨if c = k then A else A.map (·.add (k * 1)), fun w => ?_, ?_⟩
  · have hz : (sizeOf (Tryz.prog.elem 22)).run Tryz.prog w = .ok 1 w := by
      have he : Tryz.prog.elem 22 = 3 := by kernel_rfl
      simp [he, Go.sizeOf, typeInfo, hi, hz1]
    have h63 : (k : Int).toNat = k := by omega
    rw [run_slice_l (P := Tryz.prog) w 22 A n c Tryz.underlying22 .i64 (k : Int) (by omega) (by omega), hz, h63]
    rfl
  · rintro ⟨h1, h2⟩ b off rfl
    rw [if_neg (by omega), Nat.mul_one, Option.map_some, Addr.add_lit]

set_option maxRecDepth 100000 in
theorem own_under {w w' : World} {base : Nat} {e : TypeId} {size n : Nat} {v : Value} {xs : List Value} (h : w.ownsRow base e size v n xs) (hb : Below w.heap.size w w') : w'.ownsRow base e size v n xs := by
  refine h.kept (row := none) ⟨hb.os, hb.tape, hb.output, hb.size, fun i hi _ => hb.block i hi⟩ ?_
  rcases h.2 with ⟨rfl, _⟩ | ⟨g, cap, cur, rfl, _⟩
  · exact .inl rfl
  · exact .inr (by simp [Value.ownBlock])

set_option maxRecDepth 100000 in
theorem own_cap {w : World} {base : Nat} {e : TypeId} {n c : Nat} {A : Option Addr} {xs : List Value} (h : w.ownsRow base e 1 (.slice A n c) n xs) : n ≤ c := by
  rcases h.2 with ⟨h1, h2⟩ | ⟨g, cap, cur, h1, _, _, h2, _⟩
  · omega
  · injection h1 with _ _ h3
    omega

set_option maxRecDepth 100000 in
/-- 'append(v, x...)' at integers: v of the call's own, x whatever reads. -/
theorem run_appI (w : World) (base : Nat) (v : Value) (n : Nat) (xs : List Value) (hown : w.ownsRow base 3 1 v n xs) (B : Nat) (A : Option Addr) (m c : Nat) (zs : List Int) (hr : Rd w B A m (iv zs)) (hm : n + m ≤ 1000000) (hbase : base ≤ w.heap.size) :
    ∃ v' w', (Builtin.append_ #[22, 22] 22 #[v, .slice A m c]).run Tryz.prog w = .ok v' w' ∧ w'.ownsRow base 3 1 v' (n + m) (xs ++ iv zs) ∧ w.grownBy w' v.ownBlock := by
  obtain ⟨i0, hi, hz0, hz1, hz2⟩ := info_parts info_int
  rcases A with _ | ad
  · have hm0 : m = 0 := by
      rcases Nat.eq_zero_or_pos m with h | h
      · exact h
      · obtain ⟨b, off, e, _⟩ := hr.2 h
        cases e
    subst hm0
    have hb : zs = [] := by have := hr.1; rw [iv_length] at this; exact List.eq_nil_of_length_eq_zero this
    subst hb
    have ht := Tryz.underlying22
    refine ⟨v, w, ?_, by simpa [iv] using hown, World.grownBy.refl w _⟩
    rcases hown.2 with ⟨rfl, _⟩ | ⟨g, cap, cur, rfl, _, _, hnc, _⟩
    · simp [Builtin.append_, run_underlying ht, sizeOf, typeInfo, hi, Builtin.lenOf, Builtin.firstCells]
    · simp [Builtin.append_, run_underlying ht, sizeOf, typeInfo, hi, Builtin.lenOf, Builtin.firstCells, hnc, storeCells]
  · have hcells : ∀ j u, (iv zs)[j]? = some u → w.cell? (ad.add j) = some u := by
      intro j u hu
      have hj : j < m := by rw [← hr.1]; exact (List.getElem?_eq_some_iff.1 hu).1
      obtain ⟨b, off, e, _, hc⟩ := hr.2 (by omega)
      injection e with e
      subst e
      rw [Addr.add_lit, hc j hj, hu]
    obtain ⟨v', w', h1, h2, h3, _⟩ := run_append_own (P := Tryz.prog) w base 22 22 3 i0 (.int .i64 0) 1 8 Tryz.underlying22 hi hz0 hz1 hz2 rfl (by decide) v n xs hown ad m c (iv zs) (by rw [hr.1, Nat.mul_one]) hcells (iv_one zs) (by unfold maxLen; omega) (by omega) hbase
    exact ⟨v', w', h1, h2, h3⟩

def TruePost (w : World) (e : Ending) (w' : World) : Prop := e = .returned (.bool true) ∧ Below w.heap.size w w'

set_option maxRecDepth 100000 in
/-- A row of one element type lies in no block of another one. -/
theorem own_apart_of {w : World} {base n b : Nat} {e t : TypeId} {v : Value} {xs : List Value} {cs : Array Value} (hne : e ≠ t) (ho : w.ownsRow base e 1 v n xs) (hw : Whole w b t cs) : v.ownBlock ≠ some b := by
  rcases ho.2 with ⟨rfl, _⟩ | ⟨g, cap, cur, rfl, _, hg, _⟩
  · simp [Value.ownBlock]
  · simp only [Value.ownBlock, ne_eq, Option.some.injEq]
    intro e
    subst e
    unfold Whole at hw
    rw [hw] at hg
    injection hg with hg
    injection hg with _ h _
    exact absurd h.symm hne

set_option maxRecDepth 100000 in
theorem boxed_turn {W W' : World} {B : Nat} {t : TypeId} {v : Value} {row : Option Nat} (h : Boxed W B t v) (hg : W.grownBy W' row) (hr : ∀ r, row = some r → ∃ o : Obj, W.heap[r]? = some o ∧ o.isCells = false) : Boxed W' B t v :=
  h.kept hg fun e => by
    obtain ⟨o, ho, hc⟩ := hr B e.symm
    rw [show W.heap[B]? = _ from h] at ho
    cases ho; cases hc

set_option maxRecDepth 100000 in
theorem own_turn {W W' : World} {base : Nat} {e : TypeId} {size k : Nat} {v : Value} {xs : List Value} {row : Option Nat} (h : W.ownsRow base e size v k xs) (hg : W.grownBy W' row) (hr : ∀ r, row = some r → ∃ o : Obj, W.heap[r]? = some o ∧ o.isCells = false) : W'.ownsRow base e size v k xs := by
  refine h.kept hg ?_
  rcases h.2 with ⟨rfl, _⟩ | ⟨g, cap, cur, rfl, _, hc, _⟩
  · exact .inl rfl
  · right
    intro e
    obtain ⟨o, ho, hcc⟩ := hr g e.symm
    rw [hc] at ho
    cases ho; cases hcc

set_option maxRecDepth 100000 in
theorem Whole.turn {W W' : World} {b : Nat} {t : TypeId} {cs : Array Value} {row : Option Nat} (h : Whole W b t cs) (hg : W.grownBy W' row) (hr : ∀ r, row = some r → ∃ o : Obj, W.heap[r]? = some o ∧ o.isCells = false) : Whole W' b t cs :=
  h.grown hg (fun e => by
    obtain ⟨o, ho, hc⟩ := hr b e.symm
    unfold Whole at h
    rw [h] at ho
    injection ho with ho
    subst ho
    cases hc)
set_option maxRecDepth 100000 in
/-- What leaves all that was there keeps what is no cells. -/
theorem keeps_under {W W' : World} (hb : Below W.heap.size W W') : KeepsOthers W W' :=
  ⟨hb.size, fun i o h _ => by
    have hlt := (Array.getElem?_eq_some_iff.1 h).1
    rw [hb.block i hlt]; exact h⟩

set_option maxRecDepth 100000 in
/-- A store into a block that is older than the row. -/
theorem own_set {w : World} {base : Nat} {e : TypeId} {size n : Nat} {v : Value} {xs : List Value} (h : w.ownsRow base e size v n xs) {b off : Nat} (hb : b < base) (u : Value) : (w.setCell ⟨b, off, none⟩ u).ownsRow base e size v n xs :=
  ownsRow_setCell_other (a := ⟨b, off, none⟩) h (fun e => by have h1 := (h.lt _ e).1; simp at h1; omega) u

end Go.Proofs.YtdaimejlcfhfiaaGreatDoor

/-
  A region that draws its order, taken by hand under a condition: one step an operation, those whose guard is false too. Conditions: those that each theorem names.
-/
namespace Go.Proofs.YtdaimejlcfhfiaaGreatDoor
open Go.RowKit Go.Shelf

section
variable {P : Program} {ops : Array Oper} {Q : Exit → Act → World → Prop} {S : World → Prop} {md : Region.Mode} {fuel i : Nat} {listed : Array Bool} {a : Act} {w : World} {d : Option Tmp} {op : Op} {t : TypeId} {pos : String} {after : Array Edge} {g : Option (Nat × Bool)}

set_option maxRecDepth 100000 in
/-- An operation that yields v in every world that meets S. -/
theorem takeH {v : Value} (hi : ops[i]? = some { dst := d, op := op, type := t, pos := pos, after := after, guard := g })
    (hs : Region.noSelect ops = true) (hf : Region.free md ops listed i = true) (hr : (Region.ready md ops listed).contains i = true)
    (hQ : ∀ c a w, Q (.panic c) (a.put d v) w → Q (.panic c) a w) (hw : Region.wanted { dst := d, op := op, type := t, pos := pos, after := after, guard := g } (yielded ops a.tmps) = true)
    (hy : ∀ w, S w → (execOp a.eval { dst := d, op := op, type := t, pos := pos, after := after, guard := g }).run P w = .ok (.value v) w) (hS : S w)
    (h : wpAnyH P md ops Q S fuel (listed.setIfInBounds i true) (a.put d v) w) : wpAnyH P md ops Q S (fuel + 1) listed a w :=
  wpAnyH_take hi hs hf hr hQ (Or.inl ⟨hw, hy⟩) hS h

set_option maxRecDepth 100000 in
/-- An operation whose guard says no. -/
theorem skipH (hi : ops[i]? = some { dst := d, op := op, type := t, pos := pos, after := after, guard := g })
    (hs : Region.noSelect ops = true) (hf : Region.free md ops listed i = true) (hr : (Region.ready md ops listed).contains i = true)
    (hQ : ∀ c a w, Q (.panic c) (a.put d undef) w → Q (.panic c) a w) (hw : Region.wanted { dst := d, op := op, type := t, pos := pos, after := after, guard := g } (yielded ops a.tmps) = false) (hS : S w)
    (h : wpAnyH P md ops Q S fuel (listed.setIfInBounds i true) (a.put d undef) w) : wpAnyH P md ops Q S (fuel + 1) listed a w :=
  wpAnyH_take hi hs hf hr hQ (Or.inr ⟨hw, rfl⟩) hS h

set_option maxRecDepth 100000 in
/-- An operation that is all that may come up. -/
theorem oneH (hi : ops[i]? = some { dst := d, op := op, type := t, pos := pos, after := after, guard := g }) (hr : Region.ready md ops listed = [i])
    (hw : Region.wanted { dst := d, op := op, type := t, pos := pos, after := after, guard := g } (yielded ops a.tmps) = true)
    (h : ∀ K' : Act → World → Prop, Shut (∀ a w, S w → (S w → wpAnyH P md ops Q S fuel (listed.setIfInBounds i true) a w) → K' a w) → ({ dst := d, op := op, type := t, pos := pos, after := after, guard := g } : Oper).wp P a w K' Q) : wpAnyH P md ops Q S (fuel + 1) listed a w :=
  wpAnyH_ready hr (by simp) (AllReadyH.cons hi (fun K' hK => by rw [if_pos hw]; exact h K' hK) AllReadyH.nil)

set_option maxRecDepth 100000 in
/-- Two operations of which either may come up. -/
theorem twoH {j : Nat} {d' : Option Tmp} {op' : Op} {t' : TypeId} {pos' : String} {after' : Array Edge} {g' : Option (Nat × Bool)} (hi : ops[i]? = some { dst := d, op := op, type := t, pos := pos, after := after, guard := g }) (hj : ops[j]? = some { dst := d', op := op', type := t', pos := pos', after := after', guard := g' }) (hr : Region.ready md ops listed = [i, j])
    (hw : Region.wanted { dst := d, op := op, type := t, pos := pos, after := after, guard := g } (yielded ops a.tmps) = true) (hw' : Region.wanted { dst := d', op := op', type := t', pos := pos', after := after', guard := g' } (yielded ops a.tmps) = true)
    (h : ∀ K' : Act → World → Prop, Shut (∀ a w, S w → (S w → wpAnyH P md ops Q S fuel (listed.setIfInBounds i true) a w) → K' a w) → ({ dst := d, op := op, type := t, pos := pos, after := after, guard := g } : Oper).wp P a w K' Q)
    (h' : ∀ K' : Act → World → Prop, Shut (∀ a w, S w → (S w → wpAnyH P md ops Q S fuel (listed.setIfInBounds j true) a w) → K' a w) → ({ dst := d', op := op', type := t', pos := pos', after := after', guard := g' } : Oper).wp P a w K' Q) : wpAnyH P md ops Q S (fuel + 1) listed a w :=
  wpAnyH_ready hr (by simp) (AllReadyH.cons hi (fun K' hK => by rw [if_pos hw]; exact h K' hK) (AllReadyH.cons hj (fun K' hK => by rw [if_pos hw']; exact h' K' hK) AllReadyH.nil))

set_option maxRecDepth 100000 in
/-- An append whose run is known. -/
theorem wp_appendH {P : Program} {K : Act → World → Prop} {Q : Exit → Act → World → Prop} {a : Act} {w w' : World} {dst : Option Tmp} {u t : TypeId} {pos : String} {after : Array Edge} {g : Option (Nat × Bool)} {x y : Operand} {vs vx v' : Value} (hx : a.eval x = vs) (hy : a.eval y = vx) (hr : (Builtin.append_ #[u, u] t #[vs, vx]).run P w = .ok v' w') (h : K (a.put dst v') w') :
    ({ dst := dst, op := .call { callee := .builtin .append, args := #[x, y], argTypes := #[u, u] }, type := t, pos := pos, after := after, guard := g } : Oper).wp P a w K Q := by
  unfold Oper.wp execOp
  simp only [resolve, invoke, builtin, Sem.run_bind, Sem.run_pure, Result.andThen_ok, List.map_toArray, List.map_cons, List.map_nil, hx, hy, hr]
  exact h
end

end Go.Proofs.YtdaimejlcfhfiaaGreatDoor

/-
  A region that draws its order, of operations that enter nothing, inside any fence, in a round or not: taken by hand as outside of one. Conditions: those that each theorem names.
-/
namespace Go.Proofs.YtdaimejlcfhfiaaGreatDoor
open Go.RowKit Go.Shelf

/-- An operation that enters nothing. -/
def stillOp (o : Oper) : Bool :=
  match o.op with
  | .move _ | .assign _ | .pick _ _ _ | .load _ _ | .store _ _ _ | .nilCheck _ | .binOp _ _ _ _ _ | .unOp _ _ _ | .fieldAddr _ _ _ | .indexAddr _ _ _ => true
  | _ => false
def Flat : Result Next → Prop
  | .ok (.value _) _ => True
  | .ok .skip _ => True
  | .halt _ _ => True
  | _ => False
set_option maxRecDepth 100000 in
theorem flat_v (s : Sem Value) (P : Program) (w : World) : Flat ((do pure (Next.value (← s)) : Sem Next).run P w) := by
  simp only [Sem.run_bind]
  cases h : s.run P w with
  | ok v w' => simp [Result.andThen, Sem.run_pure, Flat]
  | halt h w' => simp [Result.andThen, Flat]
set_option maxRecDepth 100000 in
theorem flat_u (s : Sem Unit) (P : Program) (w : World) : Flat ((do s; pure Next.skip : Sem Next).run P w) := by
  simp only [Sem.run_bind]
  cases h : s.run P w with
  | ok v w' => simp [Result.andThen, Sem.run_pure, Flat]
  | halt h w' => simp [Result.andThen, Flat]
set_option maxRecDepth 100000 in
theorem still_flat {o : Oper} (h : stillOp o = true) (ρ : Operand → Value) (P : Program) (w : World) : Flat ((execOp ρ o).run P w) := by
  unfold stillOp at h
  unfold execOp
  cases ho : o.op <;> simp only [ho, Bool.false_eq_true] at h ⊢
  all_goals first | exact flat_v _ _ _ | exact flat_u _ _ _ | skip
  · simp only [Sem.run_pure, Flat]
  · simp only [Sem.run_pure, Flat]
  · simp only [Sem.run_bind]
    generalize Sem.run P (asBool _) w = r
    cases r <;> simp [Result.andThen, Sem.run_pure, Flat]
  · split
    · trivial
    · trivial
    · trivial
    · split
      · trivial
      · simp only [Sem.run_bind]
        generalize Sem.run P program w = r
        cases r with
        | halt _ _ => simp [Result.andThen, Flat]
        | ok v w1 =>
          simp only [Result.andThen_ok]
          generalize Sem.run P (nilAhead _ _ _ _) w1 = r2
          cases r2 with
          | halt _ _ => simp [Result.andThen, Flat]
          | ok v2 w2 =>
            simp only [Result.andThen_ok]
            split
            · simp only [Sem.run_bind]
              trivial
            · simp only [Sem.run_pure, Flat]
      · simp only [Sem.run_pure, Flat]
    · simp only [Sem.run_pure, Flat]

set_option maxRecDepth 100000 in
theorem upon_in {F : Fence} {n : Nat} {P : Program} {o : Oper} {a : Act} {K : Act → World → Prop} {Q : Exit → Act → World → Prop} {r : Result Next} (hr : Flat r) (h : o.upon P a K Q r) : o.uponIn F n P a K Q r := by
  cases r with
  | ok x w' => cases x <;> first | exact h | exact hr.elim
  | halt x w' => cases x <;> exact h
set_option maxRecDepth 100000 in
theorem still_about {o : Oper} (h : stillOp o = true) (P : Program) (w : World) (ρ : Operand → Value) : o.about P w ρ = none := by
  unfold stillOp at h
  unfold Oper.about
  cases ho : o.op <;> simp only [ho, Bool.false_eq_true] at h ⊢
set_option maxRecDepth 100000 in
theorem still_in {F : Fence} {n : Nat} {P : Program} {o : Oper} {a : Act} {w : World} {K : Act → World → Prop} {Q : Exit → Act → World → Prop} (hs : stillOp o = true) (h : o.wp P a w K Q) : o.wpIn F n P a w K Q := by
  refine ⟨fun f hf => (by rw [still_about hs] at hf; cases hf), ?_⟩
  rw [Oper.semAt_eq _ _ _ (fun c hc => by unfold stillOp at hs; rw [hc] at hs; cases hs)]
  exact upon_in (still_flat hs _ _ _) h
section
variable {F : Fence} {n : Nat} {P : Program} {ops : Array Oper} {Q : Exit → Act → World → Prop} {S : World → Prop}
set_option maxRecDepth 100000 in
theorem stillOp_in (hall : ops.all stillOp = true) (hL : ∀ a w, ¬ Q .outgrown a w) {i : Nat} {K : Act → World → Prop} {a : Act} {w : World} (h : wpOp P ops Q i K a w) : wpOpIn F n P ops Q i K a w := by
  unfold wpOp at h
  unfold wpOpIn
  cases ho : ops[i]? with
  | none => rw [ho] at h; exact h
  | some o =>
    rw [ho] at h
    have hs : stillOp o = true := by
      have := Array.all_eq_true_iff_forall_mem.1 hall o (Array.mem_of_getElem? ho)
      exact this
    dsimp only at h ⊢
    split
    · rename_i hw
      rw [if_pos hw] at h
      rcases h with h | h
      · exact still_in hs h
      · exact h.2.elim fun a h => h.elim fun w h => (hL a w h).elim
    · rename_i hw
      rw [if_neg hw] at h
      exact ⟨fun f hf => (by rw [still_about hs] at hf; cases hf), h⟩
set_option maxRecDepth 100000 in
theorem stillAny_in (hall : ops.all stillOp = true) (hL : ∀ a w, ¬ Q .outgrown a w) : ∀ (fuel : Nat) (listed : Array Bool) (a : Act) (w : World), wpAny P .any ops Q fuel listed a w → wpAnyIn F n P .any ops Q fuel listed a w
  | 0, _, _, _, h => h
  | fuel + 1, _, _, _, h => ⟨h.1, fun i hi => wpOpIn_mono (fun a' w' h' => stillAny_in hall hL fuel _ a' w' h') (stillOp_in hall hL (h.2 i hi))⟩
set_option maxRecDepth 100000 in
/-- Such a region, by hand, in any fence. -/
theorem wpIn_region_hand {id : Nat} {a : Act} {w : World} (hm : P.follows .mixedOrders = true) (hall : ops.all stillOp = true) (hL : ∀ a w, ¬ Q .outgrown a w) (hS : S w.drew)
    (h : S w.drew → wpAnyH P .any ops Q S ops.size (Array.replicate ops.size false) a w.drew) : (Code.region id ops true).wpIn F n P Q a w :=
  wpIn_region_any hm (stillAny_in hall hL _ _ _ _ (wpAny_of_held _ _ _ _ (h hS)))
end

end Go.Proofs.YtdaimejlcfhfiaaGreatDoor

/-
  A region that draws its order, by an invariant: what holds behind any operations that have come up. One step a operation, whatever the order. Conditions: those that each theorem names.
-/
namespace Go.Proofs.YtdaimejlcfhfiaaGreatDoor
open Go.RowKit Go.Shelf

section
variable {P : Program} {ops : Array Oper} {Q : Exit → Act → World → Prop}

/-- Every operation waits only for operations that stand ahead of it. -/
def lowOnly (ops : Array Oper) : Bool := (List.range ops.size).all fun i => ((ops[i]?).map (·.after.all fun e => !Region.binds .any e || decide (e.on < i))).getD true

set_option maxRecDepth 100000 in
theorem lowOnly_at (h : lowOnly ops = true) {i : Nat} {o : Oper} (ho : ops[i]? = some o) : ∀ e ∈ o.after, Region.binds .any e = true → e.on < i := by
  intro e he hb
  have hlt : i < ops.size := (Array.getElem?_eq_some_iff.1 ho).1
  have h1 := List.all_eq_true.1 h i (List.mem_range.2 hlt)
  simp only [ho, Option.map_some, Option.getD_some, Array.all_eq_true_iff_forall_mem] at h1
  have h2 := h1 e he
  simpa [hb] using h2

set_option maxRecDepth 100000 in
theorem ready_none {listed : Array Bool} (hl : lowOnly ops = true) (hs : listed.size = ops.size) (h : Region.ready .any ops listed = []) : ∀ n i, i < n → i < ops.size → listed.getD i false = true := by
  intro n
  induction n with
  | zero => intro i h; omega
  | succ n ih =>
    intro i hi hlt
    cases hv : listed.getD i false with
    | true => rfl
    | false =>
      exfalso
      have hm : i ∈ Region.ready .any ops listed := by
        refine mem_ready.2 ⟨?_, ops[i], Array.getElem?_eq_getElem hlt, fun e he hb => ?_⟩
        · have : i < listed.size := by omega
          simp [this] at hv ⊢
          exact hv
        · have := lowOnly_at hl (Array.getElem?_eq_getElem hlt) e he hb
          exact ih e.on (by omega) (by omega)
      rw [h] at hm
      cases hm

set_option maxRecDepth 100000 in
theorem count_zero_all {l : List Bool} (h : l.count false = 0) : ∀ i, i < l.length → l[i]? = some true := by
  intro i hi
  rw [List.getElem?_eq_getElem hi]
  cases hv : l[i] with
  | true => rfl
  | false => exact absurd (List.getElem_mem hi) (by rw [hv]; exact List.count_eq_zero.1 h)

set_option maxRecDepth 100000 in
theorem set_L {listed : Array Bool} {i : Nat} (hi : i < listed.size) : (fun j => (listed.setIfInBounds i true).getD j false) = fun j => if j = i then true else listed.getD j false := by
  funext j
  by_cases h : j = i
  · subst h; simp [hi]
  · rw [if_neg h, getD_set_ne false (Ne.symm h)]

set_option maxRecDepth 100000 in
theorem count_set {listed : Array Bool} {i : Nat} (h : listed.getD i true = false) : (listed.setIfInBounds i true).toList.count false < listed.toList.count false := by
  have hi : i < listed.size := by
    rcases Nat.lt_or_ge i listed.size with h' | h'
    · exact h'
    · simp [Array.getElem?_eq_none h'] at h
  have hv : listed.toList[i]'(by simpa using hi) = false := by simpa [hi] using h
  have hpos : 0 < listed.toList.count false := List.count_pos_iff.2 (hv ▸ List.getElem_mem _)
  rw [Array.toList_setIfInBounds, List.count_set (by simpa using hi)]
  simp only [hv]
  simp only [beq_self_eq_true, if_true, show ((true == false) = true) = False by simp, if_false]
  omega

set_option maxRecDepth 100000 in
theorem wpAny_inv (hl : lowOnly ops = true) (Φ : (Nat → Bool) → Act → World → Prop)
    (step : ∀ i o L a w, ops[i]? = some o → L i = false → (∀ e ∈ o.after, Region.binds .any e = true → L e.on = true) → Φ L a w → wpOp P ops Q i (Φ (fun j => if j = i then true else L j)) a w)
    (fin : ∀ L a w, (∀ i, i < ops.size → L i = true) → Φ L a w → Q .normal a w) :
    ∀ (fuel : Nat) (listed : Array Bool) (a : Act) (w : World), listed.size = ops.size → listed.toList.count false ≤ fuel → Φ (fun j => listed.getD j false) a w → wpAny P .any ops Q fuel listed a w := by
  intro fuel
  induction fuel with
  | zero =>
    intro listed a w hs hc hΦ
    have hall := count_zero_all (Nat.le_zero.1 hc)
    have hall' : ∀ i, i < ops.size → listed.getD i false = true := fun i hi => by
      have := hall i (by simp; omega)
      simp at this
      simp [this]
    refine ⟨?_, fin _ _ _ hall' hΦ⟩
    refine List.eq_nil_iff_forall_not_mem.2 fun i hm => ?_
    obtain ⟨h1, o, ho, _⟩ := mem_ready.1 hm
    have hlt : i < ops.size := (Array.getElem?_eq_some_iff.1 ho).1
    have h2 := hall' i hlt
    have : i < listed.size := by omega
    simp [this] at h1 h2
    rw [h1] at h2; cases h2
  | succ fuel ih =>
    intro listed a w hs hc hΦ
    refine ⟨fun h0 => fin _ _ _ (fun i hi => ready_none hl hs h0 (i + 1) i (by omega) hi) hΦ, fun i hi => ?_⟩
    obtain ⟨h1, o, ho, hall⟩ := mem_ready.1 hi
    have hlt : i < listed.size := by have := (Array.getElem?_eq_some_iff.1 ho).1; omega
    refine wpOp_mono (fun a' w' h => ih (listed.setIfInBounds i true) a' w' (by simpa using hs) ?_ (by rw [set_L hlt]; exact h)) (step i o _ a w ho (by simp [hlt] at h1 ⊢; exact h1) hall hΦ)
    have := count_set h1
    omega

set_option maxRecDepth 100000 in
theorem region_inv {id : Nat} {a : Act} {w : World} (hm : P.follows .mixedOrders = true) (hl : lowOnly ops = true) (Φ : (Nat → Bool) → Act → World → Prop) (h0 : Φ (fun _ => false) a w.drew)
    (step : ∀ i o L a w, ops[i]? = some o → L i = false → (∀ e ∈ o.after, Region.binds .any e = true → L e.on = true) → Φ L a w → wpOp P ops Q i (Φ (fun j => if j = i then true else L j)) a w)
    (fin : ∀ L a w, (∀ i, i < ops.size → L i = true) → Φ L a w → Q .normal a w) : (Code.region id ops true).wp P Q a w := by
  refine wp_region_any hm (wpAny_inv hl Φ step fin _ _ _ _ (by simp) ?_ ?_)
  · simp
  · have e : (fun j => (Array.replicate ops.size false).getD j false) = fun _ => false := by
      funext j
      by_cases h : j < ops.size <;> simp [h]
    rw [e]
    exact h0

/-- What has come up has come up behind what it waits for. -/
def Clo (ops : Array Oper) (L : Nat → Bool) : Prop := ∀ i o, ops[i]? = some o → L i = true → ∀ e ∈ o.after, Region.binds .any e = true → L e.on = true

set_option maxRecDepth 100000 in
/-- The same, and the steps know that what has come up has come up behind what it waits for. -/
theorem region_clo {id : Nat} {a : Act} {w : World} (hm : P.follows .mixedOrders = true) (hl : lowOnly ops = true) (Φ : (Nat → Bool) → Act → World → Prop) (h0 : Φ (fun _ => false) a w.drew)
    (step : ∀ i o L a w, ops[i]? = some o → L i = false → Clo ops L → (∀ e ∈ o.after, Region.binds .any e = true → L e.on = true) → Φ L a w → wpOp P ops Q i (Φ (fun j => if j = i then true else L j)) a w)
    (fin : ∀ L a w, (∀ i, i < ops.size → L i = true) → Φ L a w → Q .normal a w) : (Code.region id ops true).wp P Q a w := by
  refine region_inv hm hl (fun L a w => Clo ops L ∧ Φ L a w) ⟨fun _ _ _ h => (by cases h), h0⟩ ?_ (fun L a w hall h => fin L a w hall h.2)
  intro i o L a w ho hi hall h
  refine wpOp_mono (fun a' w' h' => ⟨?_, h'⟩) (step i o L a w ho hi h.1 hall h.2)
  intro j o' ho' hj e he hb
  by_cases hji : j = i
  · subst hji
    rw [ho] at ho'
    injection ho' with e'
    subst e'
    simp [hall e he hb]
  · have := h.1 j o' ho' (by simpa [hji] using hj) e he hb
    simp [this]

/-- Operation i of these is that one, without a guard, and waits for those. -/
def At (ops : Array Oper) (i : Nat) (dst : Option Tmp) (op : Op) (t : TypeId) (js : List Nat) : Prop :=
  ∃ o, ops[i]? = some o ∧ o.dst = dst ∧ o.op = op ∧ o.type = t ∧ o.guard = none ∧ (js.all fun j => o.after.any fun e => Region.binds .any e && e.on == j) = true

set_option maxRecDepth 100000 in
theorem At.needs {i : Nat} {dst : Option Tmp} {op : Op} {t : TypeId} {js : List Nat} (h : At ops i dst op t js) {o : Oper} (ho : ops[i]? = some o) {L : Nat → Bool} (hall : ∀ e ∈ o.after, Region.binds .any e = true → L e.on = true) : ∀ j ∈ js, L j = true := by
  obtain ⟨o', ho', _, _, _, _, hj⟩ := h
  rw [ho] at ho'
  injection ho' with e
  subst e
  intro j hjs
  have h1 := List.all_eq_true.1 hj j hjs
  rw [Array.any_eq_true'] at h1
  obtain ⟨e, he, h2⟩ := h1
  simp only [Bool.and_eq_true, beq_iff_eq] at h2
  rw [← h2.2]
  exact hall e he h2.1

set_option maxRecDepth 100000 in
theorem At.clo {i : Nat} {dst : Option Tmp} {op : Op} {t : TypeId} {js : List Nat} (h : At ops i dst op t js) {L : Nat → Bool} (hc : Clo ops L) (hi : L i = true) : ∀ j ∈ js, L j = true := by
  obtain ⟨o, ho, _⟩ := id h
  exact h.needs ho (hc i o ho hi)
set_option maxRecDepth 100000 in
theorem At.not {i : Nat} {dst : Option Tmp} {op : Op} {t : TypeId} {js : List Nat} (h : At ops i dst op t js) {L : Nat → Bool} (hc : Clo ops L) {j : Nat} (hj : j ∈ js) (hn : L j = false) : L i = false := by
  cases hv : L i with
  | false => rfl
  | true => have := h.clo hc hv j hj; rw [hn] at this; cases this

set_option maxRecDepth 100000 in
theorem At.run {i : Nat} {dst : Option Tmp} {op : Op} {t : TypeId} {js : List Nat} (h : At ops i dst op t js) {K : Act → World → Prop} {a : Act} {w : World}
    (hr : ∀ pos after, ({ dst := dst, op := op, type := t, pos := pos, after := after, guard := none } : Oper).wp P a w K Q) : wpOp P ops Q i K a w := by
  obtain ⟨o, ho, h1, h2, h3, h4, _⟩ := h
  unfold wpOp
  rw [ho]
  dsimp only
  rw [if_pos (by unfold Region.wanted; rw [h4])]
  left
  subst h1; subst h2; subst h3
  have := hr o.pos o.after
  rw [← h4] at this
  exact this

/-- What one frame has in common with another: all but these slots. -/
structure Agree (ds : List Nat) (a0 a : Act) : Prop where
  defers : a.defers = a0.defers
  size : a.tmps.size = a0.tmps.size
  out : ∀ t, t ∉ ds → a.tmps[t]? = a0.tmps[t]?

set_option maxRecDepth 100000 in
theorem Agree.refl (ds : List Nat) (a : Act) : Agree ds a a := ⟨rfl, rfl, fun _ _ => rfl⟩
set_option maxRecDepth 100000 in
theorem Agree.put {ds : List Nat} {a0 a : Act} (h : Agree ds a0 a) {d : Nat} (hd : d ∈ ds) (v : Value) : Agree ds a0 (a.put (some d) v) :=
  ⟨h.defers, by simpa [Act.put] using h.size, fun t ht => by
    have hne : d ≠ t := fun e => ht (e ▸ hd)
    simp only [Act.put]
    rw [Array.getElem?_setIfInBounds_ne hne]
    exact h.out t ht⟩
set_option maxRecDepth 100000 in
theorem Agree.eval {ds : List Nat} {a0 a : Act} (h : Agree ds a0 a) {t : Nat} (ht : t ∉ ds) : a.eval (.tmp t) = a0.eval (.tmp t) := by
  simp only [Act.eval, Array.getD_eq_getD_getElem?, h.out t ht]
set_option maxRecDepth 100000 in
theorem eval_new {a : Act} {d : Nat} (hd : d < a.tmps.size) (v : Value) : (a.put (some d) v).eval (.tmp d) = v := by
  simp [Act.eval, Act.put, hd]
set_option maxRecDepth 100000 in
theorem eval_old {a : Act} {d t : Nat} (hne : d ≠ t) (v : Value) : (a.put (some d) v).eval (.tmp t) = a.eval (.tmp t) :=
  Act.eval_put (dst := some d) fun d' e h => hne (by injection e with e; injection h with h; rw [e, h])

/-- The frame laid anew. -/
def lay (σ : Nat → Value) (ds : List Nat) (a : Act) : Act := ds.foldl (fun a d => a.put (some d) (σ d)) a
set_option maxRecDepth 100000 in
theorem lay_defers (σ : Nat → Value) (ds : List Nat) (a : Act) : (lay σ ds a).defers = a.defers := by
  induction ds generalizing a with
  | nil => rfl
  | cons d ds ih => exact (ih _).trans rfl
set_option maxRecDepth 100000 in
theorem lay_size (σ : Nat → Value) (ds : List Nat) (a : Act) : (lay σ ds a).tmps.size = a.tmps.size := by
  induction ds generalizing a with
  | nil => rfl
  | cons d ds ih => exact (ih _).trans (by simp [Act.put])
set_option maxRecDepth 100000 in
theorem lay_out (σ : Nat → Value) (ds : List Nat) (a : Act) (t : Nat) (ht : t ∉ ds) : (lay σ ds a).tmps[t]? = a.tmps[t]? := by
  induction ds generalizing a with
  | nil => rfl
  | cons d ds ih =>
    refine (ih _ fun h => ht (List.mem_cons_of_mem _ h)).trans ?_
    have hne : d ≠ t := fun e => ht (e ▸ List.mem_cons_self ..)
    simp only [Act.put]
    rw [Array.getElem?_setIfInBounds_ne hne]
set_option maxRecDepth 100000 in
theorem lay_in (σ : Nat → Value) (ds : List Nat) (a : Act) (t : Nat) (ht : t ∈ ds) (hs : t < a.tmps.size) : (lay σ ds a).tmps[t]? = some (σ t) := by
  induction ds generalizing a with
  | nil => cases ht
  | cons d ds ih =>
    by_cases h : t ∈ ds
    · exact ih _ h (by simpa [Act.put] using hs)
    · have e : t = d := by simpa [h] using ht
      subst e
      refine (lay_out σ ds _ t h).trans ?_
      simp [Act.put, hs]
set_option maxRecDepth 100000 in
theorem Agree.lay {ds : List Nat} {a0 a : Act} (h : Agree ds a0 a) (hds : ∀ d ∈ ds, d < a0.tmps.size) : a = lay (fun d => a.eval (.tmp d)) ds a0 := by
  have ht : a.tmps = (Proofs.YtdaimejlcfhfiaaGreatDoor.lay (fun d => a.eval (.tmp d)) ds a0).tmps := by
    refine Array.ext_getElem? fun t => ?_
    by_cases hm : t ∈ ds
    · have hlt : t < a.tmps.size := by rw [h.size]; exact hds t hm
      rw [lay_in _ _ _ _ hm (hds t hm)]
      simp [Act.eval, hlt]
    · rw [lay_out _ _ _ _ hm, h.out t hm]
  have hd := (lay_defers (fun d => a.eval (.tmp d)) ds a0)
  cases a with
  | mk tm df =>
    cases hl : Proofs.YtdaimejlcfhfiaaGreatDoor.lay (fun d => ({ tmps := tm, defers := df } : Act).eval (.tmp d)) ds a0 with
    | mk tm' df' =>
      rw [hl] at ht hd
      have := h.defers
      simp only at ht hd this
      rw [ht, hd, this]

end

end Go.Proofs.YtdaimejlcfhfiaaGreatDoor

/-
  A region that draws its order: what reads is taken first, as long as what it reads stands; that it stands is shown behind each operation but some late ones, which wait for those that read. Outside of a fence, and in a round. Conditions: those that each theorem names.
-/
namespace Go.Proofs.YtdaimejlcfhfiaaGreatDoor
open Go.RowKit Go.Shelf

/-- Each of the late operations waits for operation i. -/
def lateB (ops : Array Oper) (md : Region.Mode) (ls : List Nat) (i : Nat) : Bool := ls.all fun j => match ops[j]? with
  | some o => o.after.any fun e => Region.binds md e && e.on == i
  | none => false
/-- None of the late ones has come up. -/
def fresh (ls : List Nat) (listed : Array Bool) : Bool := ls.all fun l => !listed.getD l true
theorem fresh_set {ls : List Nat} {listed : Array Bool} {i : Nat} (hi : ls.contains i = false) : fresh ls (listed.setIfInBounds i true) = fresh ls listed := by
  unfold fresh
  have hn : ∀ l ∈ ls, i ≠ l := fun l hl e => by
    subst e
    have : ls.contains i = true := by simpa using hl
    rw [this] at hi; cases hi
  rw [Bool.eq_iff_iff, List.all_eq_true, List.all_eq_true]
  exact ⟨fun h l hl => by rw [← getD_set_ne true (hn l hl)]; exact h l hl, fun h l hl => by rw [getD_set_ne true (hn l hl)]; exact h l hl⟩
theorem fresh_of_set {ls : List Nat} {listed : Array Bool} {i : Nat} (h : fresh ls (listed.setIfInBounds i true) = true) : fresh ls listed = true := by
  unfold fresh at *
  rw [List.all_eq_true] at *
  intro l hl
  by_cases e : i = l
  · subst e
    have := h i hl
    rcases Nat.lt_or_ge i listed.size with h1 | h1
    · simp [h1] at this
    · simp [h1] at this
  · rw [← getD_set_ne true e]; exact h l hl

section
variable {ops : Array Oper} {md : Region.Mode} {ls : List Nat} {i : Nat} {listed : Array Bool}
/-- What can come up from here on without operation i. -/
def growR (ops : Array Oper) (md : Region.Mode) (i : Nat) (R : Array Bool) : Array Bool := (Array.range ops.size).map fun j => R.getD j true || (j != i && match ops[j]? with
  | some o => o.after.all fun e => !Region.binds md e || R.getD e.on true
  | none => false)
def reachR (ops : Array Oper) (md : Region.Mode) (i : Nat) : Nat → Array Bool → Array Bool
  | 0, R => R
  | k + 1, R => reachR ops md i k (growR ops md i R)
/-- None of the late ones can come up ahead of operation i. -/
def lateR (ops : Array Oper) (md : Region.Mode) (ls : List Nat) (i : Nat) (listed : Array Bool) : Bool :=
  let R := reachR ops md i ops.size listed
  ((List.range ops.size).all fun j => R.getD j true || j == i || !(match ops[j]? with
    | some o => o.after.all fun e => !Region.binds md e || R.getD e.on true
    | none => false)) &&
  (((List.range ops.size).all fun j => !listed.getD j true || R.getD j true) && (R.size == ops.size && (listed.size == ops.size && ls.all fun l => !R.getD l true)))
/-- The same, told by a set that is closed. -/
def LateAt (ops : Array Oper) (md : Region.Mode) (ls : List Nat) (i : Nat) (listed : Array Bool) : Prop :=
  ∃ R : Nat → Bool, (∀ j o, ops[j]? = some o → j ≠ i → (∀ e ∈ o.after, Region.binds md e = true → R e.on = true) → R j = true) ∧ (∀ j, listed.getD j true = true → R j = true) ∧ ∀ l ∈ ls, R l = false
theorem lateAt_of (h : lateR ops md ls i listed = true) : LateAt ops md ls i listed := by
  unfold lateR at h
  revert h
  generalize reachR ops md i ops.size listed = R
  intro h
  simp only [Bool.and_eq_true, List.all_eq_true, List.mem_range, beq_iff_eq, Bool.not_eq_true', Bool.or_eq_true] at h
  obtain ⟨h1, h2, h3, h4, h5⟩ := h
  refine ⟨fun j => R.getD j true, fun j o ho hne ha => ?_, fun j hj => ?_, h5⟩
  · have hlt : j < ops.size := (Array.getElem?_eq_some_iff.1 ho).1
    rcases h1 j hlt with (h | h) | h
    · exact h
    · exact absurd h hne
    · rw [ho] at h
      dsimp only at h
      have : (o.after.all fun e => !Region.binds md e || R.getD e.on true) = true := by
        rw [Array.all_eq_true']
        intro e he
        cases hb : Region.binds md e with
        | false => rfl
        | true => simp only [Bool.not_true, Bool.false_or]; exact ha e he hb
      rw [this] at h; cases h
  · rcases Nat.lt_or_ge j ops.size with hlt | hge
    · rcases h2 j hlt with h | h
      · rw [hj] at h; cases h
      · exact h
    · show R.getD j true = true
      simp [Array.getD, Nat.not_lt.2 (by omega : R.size ≤ j)]
def lateOk (ops : Array Oper) (md : Region.Mode) (ls : List Nat) (i : Nat) (listed : Array Bool) : Bool :=
  (ls.isEmpty || ((lateB ops md ls i && fresh ls listed) || lateR ops md ls i listed)) && !ls.contains i
theorem lateAt_ok (hu : listed.getD i true = false) (h : lateOk ops md ls i listed = true) : LateAt ops md ls i listed := by
  unfold lateOk at h
  simp only [Bool.and_eq_true, Bool.or_eq_true, Bool.not_eq_true'] at h
  obtain ⟨h | h | h, hc⟩ := h
  · have e : ls = [] := by simpa using h
    subst e
    exact ⟨fun _ => true, fun _ _ _ _ _ => rfl, fun _ _ => rfl, by simp⟩
  · obtain ⟨h1, h2⟩ := h
    refine ⟨fun k => !ls.contains k && k != i, fun j o ho hne ha => ?_, fun j hj => ?_, fun l hl => by simp [hl]⟩
    · by_cases hj : j ∈ ls
      · have h3 := List.all_eq_true.1 h1 j hj
        simp only [ho] at h3
        rw [Array.any_eq_true'] at h3
        obtain ⟨e, he, h4⟩ := h3
        simp only [Bool.and_eq_true, beq_iff_eq] at h4
        have := ha e he h4.1
        simp [h4.2] at this
      · simp [hj, hne]
    · have hne : j ≠ i := by
        rintro rfl
        rw [hu] at hj; cases hj
      by_cases hl : j ∈ ls
      · have := List.all_eq_true.1 h2 j hl
        rw [hj] at this; simp at this
      · simp [hl, hne]
  · exact lateAt_of h
theorem LateAt.fresh_ (h : LateAt ops md ls i listed) : fresh ls listed = true := by
  obtain ⟨R, _, h2, h3⟩ := h
  unfold fresh
  rw [List.all_eq_true]
  intro l hl
  cases hc : listed.getD l true with
  | false => rfl
  | true => have := h2 l hc; rw [h3 l hl] at this; cases this
theorem LateAt.step {j : Nat} {o : Oper} (h : LateAt ops md ls i listed) (ho : ops[j]? = some o) (hne : j ≠ i) (ha : ∀ e ∈ o.after, Region.binds md e = true → listed.getD e.on true = true) : LateAt ops md ls i (listed.setIfInBounds j true) := by
  obtain ⟨R, h1, h2, h3⟩ := h
  refine ⟨R, h1, fun k hk => ?_, h3⟩
  by_cases e : j = k
  · subst e; exact h1 _ o ho hne fun e he hb => h2 _ (ha e he hb)
  · rw [getD_set_ne true e] at hk; exact h2 k hk

end

section
variable {P : Program} {ops : Array Oper} {Q : Exit → Act → World → Prop} {md : Region.Mode} {ls : List Nat} {T : World → Prop}

/-- Whatever order is picked from here on; behind every operation T holds, as long as none of the late ones has come up. -/
def wpAnyT (P : Program) (md : Region.Mode) (ops : Array Oper) (Q : Exit → Act → World → Prop) (ls : List Nat) (T : World → Prop) : Nat → Array Bool → Act → World → Prop
  | 0, listed, a, w => Region.ready md ops listed = [] ∧ Q .normal a w
  | fuel + 1, listed, a, w =>
    (Region.ready md ops listed = [] → Q .normal a w) ∧
    ∀ i ∈ Region.ready md ops listed, wpOp P ops Q i (fun a' w' => (fresh ls (listed.setIfInBounds i true) = true → T w') ∧ wpAnyT P md ops Q ls T fuel (listed.setIfInBounds i true) a' w') a w

theorem wpAny_of_T : ∀ (fuel : Nat) (listed : Array Bool) (a : Act) (w : World), wpAnyT P md ops Q ls T fuel listed a w → wpAny P md ops Q fuel listed a w
  | 0, _, _, _, h => h
  | fuel + 1, _, _, _, h => ⟨h.1, fun i hi => wpOp_mono (fun a' w' h' => wpAny_of_T fuel _ a' w' h'.2) (h.2 i hi)⟩

theorem wpAnyT_first {i : Nat} {oi : Oper} {v : Value} (T' : World → Prop) (hil : ls.contains i = false) (hi : ops[i]? = some oi) (hsel : ∀ (j : Nat) (o : Oper) cs b, ops[j]? = some o → o.op ≠ .select cs b)
    (hQ : ∀ c a w, Q (.panic c) (a.put oi.dst v) w → Q (.panic c) a w) :
    ∀ (fuel : Nat) (listed : Array Bool) (a : Act) (w : World),
      (∀ j oj, ops[j]? = some oj → j ≠ i → listed.getD j true = false → (∀ e ∈ oj.after, Region.binds md e = true → e.on ≠ i) → oi.apart ops oj = true) →
      i ∈ Region.ready md ops listed → YieldsIf P ops T' oi v a → T' w → ((∀ w, T' w) ∨ (LateAt ops md ls i listed ∧ ∀ w, T w → T' w)) → (fresh ls listed = true → T w) →
      wpAnyT P md ops Q ls T fuel (listed.setIfInBounds i true) (a.put oi.dst v) w → wpAnyT P md ops Q ls T (fuel + 1) listed a w := by
  intro fuel
  induction fuel with
  | zero =>
    intro listed a w _ hr hy hS _ hS2 H
    refine ⟨fun h => (by rw [h] at hr; cases hr), fun j hj => ?_⟩
    by_cases hji : j = i
    · subst hji; exact hy.wpOp hi hS ⟨fun h => hS2 (fresh_of_set h), H⟩
    · have := ready_mono hj hji
      rw [H.1] at this
      cases this
  | succ fuel ih =>
    intro listed a w hfree hr hy hS hT' hS2 H
    refine ⟨fun h => (by rw [h] at hr; cases hr), fun j hj => ?_⟩
    by_cases hji : j = i
    · subst hji; exact hy.wpOp hi hS ⟨fun h => hS2 (fresh_of_set h), H⟩
    · have h1 := H.2 j (ready_mono hj hji)
      obtain ⟨hjun, oj, hoj, hall⟩ := mem_ready.1 hj
      have hnot : ∀ e ∈ oj.after, Region.binds md e = true → e.on ≠ i := fun e he hb heq => by
        have h1 := hall e he hb
        have h0 := (mem_ready.1 hr).1
        rw [heq] at h1
        rcases Nat.lt_or_ge i listed.size with h' | h'
        · simp [h'] at h0 h1; rw [h0] at h1; cases h1
        · simp [Array.getElem?_eq_none h'] at h1
      have h2 := wpOp_putIf hoj (hfree j oj hoj hji hjun hnot) (fun cs b => hsel i oi cs b hi) (fun cs b => hsel j oj cs b hoj) hQ hy h1
      have hfree' : ∀ k ok, ops[k]? = some ok → k ≠ i → (listed.setIfInBounds j true).getD k true = false →
          (∀ e ∈ ok.after, Region.binds md e = true → e.on ≠ i) → oi.apart ops ok = true := fun k ok hk hki hun hno => by
        refine hfree k ok hk hki ?_ hno
        by_cases hjk : j = k
        · subst hjk; exact hjun
        · rw [getD_set_ne true hjk] at hun; exact hun
      refine wpOp_mono (fun a' w' h3 => ?_) h2
      have hTw : fresh ls (listed.setIfInBounds j true) = true → T w' := fun h => h3.2.1 (by
        rw [Array.setIfInBounds_comm _ _ (Ne.symm hji), fresh_set hil]; exact h)
      have hT2 : (∀ w, T' w) ∨ (LateAt ops md ls i (listed.setIfInBounds j true) ∧ ∀ w, T w → T' w) := by
        rcases hT' with h | ⟨h1, h3⟩
        · exact .inl h
        · refine .inr ⟨h1.step hoj hji fun e he hb => ?_, h3⟩
          have h1 := hall e he hb
          rcases Nat.lt_or_ge e.on listed.size with h' | h'
          · simp [h'] at h1 ⊢; exact h1
          · simp [Array.getElem?_eq_none h'] at h1
      refine ⟨hTw, ih (listed.setIfInBounds j true) a' w' hfree' (ready_mono hr (Ne.symm hji)) h3.1 ?_ hT2 hTw ?_⟩
      · rcases hT2 with h | ⟨h4, h5⟩
        · exact h w'
        · exact h5 w' (hTw h4.fresh_)
      · rw [Array.setIfInBounds_comm _ _ hji]
        exact h3.2.2

section
variable {fuel i : Nat} {listed : Array Bool} {a : Act} {w : World} {d : Option Tmp} {op : Op} {t : TypeId} {pos : String} {after : Array Edge} {g : Option (Nat × Bool)}

/-- An operation that yields v in every world that meets T: the late ones wait for it. -/
theorem takeT {v : Value} (hi : ops[i]? = some { dst := d, op := op, type := t, pos := pos, after := after, guard := g })
    (hs : Region.noSelect ops = true) (hf : Region.free md ops listed i = true) (hr : (Region.ready md ops listed).contains i = true) (hl : lateOk ops md ls i listed = true)
    (hQ : ∀ c a w, Q (.panic c) (a.put d v) w → Q (.panic c) a w) (hw : Region.wanted { dst := d, op := op, type := t, pos := pos, after := after, guard := g } (yielded ops a.tmps) = true)
    (hy : ∀ w, T w → (execOp a.eval { dst := d, op := op, type := t, pos := pos, after := after, guard := g }).run P w = .ok (.value v) w) (hT : T w)
    (h : wpAnyT P md ops Q ls T fuel (listed.setIfInBounds i true) (a.put d v) w) : wpAnyT P md ops Q ls T (fuel + 1) listed a w :=
  wpAnyT_first T (by unfold lateOk at hl; simp only [Bool.and_eq_true, Bool.not_eq_true'] at hl; exact hl.2) hi (Region.noSelect_spec hs) hQ fuel listed a w (Region.free_spec hi hf) (by simpa using hr) (Or.inl ⟨hw, hy⟩) hT
    (.inr ⟨lateAt_ok (mem_ready.1 (by simpa using hr)).1 hl, fun _ h => h⟩) (fun _ => hT) h
/-- An operation that yields v in every world. -/
theorem takeP {v : Value} (hi : ops[i]? = some { dst := d, op := op, type := t, pos := pos, after := after, guard := g })
    (hs : Region.noSelect ops = true) (hf : Region.free md ops listed i = true) (hr : (Region.ready md ops listed).contains i = true) (hl : ls.contains i = false)
    (hQ : ∀ c a w, Q (.panic c) (a.put d v) w → Q (.panic c) a w) (hw : Region.wanted { dst := d, op := op, type := t, pos := pos, after := after, guard := g } (yielded ops a.tmps) = true)
    (hy : ∀ w, (execOp a.eval { dst := d, op := op, type := t, pos := pos, after := after, guard := g }).run P w = .ok (.value v) w) (hT : fresh ls listed = true → T w)
    (h : wpAnyT P md ops Q ls T fuel (listed.setIfInBounds i true) (a.put d v) w) : wpAnyT P md ops Q ls T (fuel + 1) listed a w :=
  wpAnyT_first (fun _ => True) hl hi (Region.noSelect_spec hs) hQ fuel listed a w (Region.free_spec hi hf) (by simpa using hr) (Or.inl ⟨hw, fun w _ => hy w⟩) trivial (.inl fun _ => trivial) hT h

/-- An operation whose guard says no. -/
theorem skipT (hi : ops[i]? = some { dst := d, op := op, type := t, pos := pos, after := after, guard := g })
    (hs : Region.noSelect ops = true) (hf : Region.free md ops listed i = true) (hr : (Region.ready md ops listed).contains i = true) (hl : ls.contains i = false)
    (hQ : ∀ c a w, Q (.panic c) (a.put d undef) w → Q (.panic c) a w) (hw : Region.wanted { dst := d, op := op, type := t, pos := pos, after := after, guard := g } (yielded ops a.tmps) = false) (hT : fresh ls listed = true → T w)
    (h : wpAnyT P md ops Q ls T fuel (listed.setIfInBounds i true) (a.put d undef) w) : wpAnyT P md ops Q ls T (fuel + 1) listed a w :=
  wpAnyT_first (fun _ => True) hl hi (Region.noSelect_spec hs) hQ fuel listed a w (Region.free_spec hi hf) (by simpa using hr) (Or.inr ⟨hw, rfl⟩) trivial (.inl fun _ => trivial) hT h

/-- An operation that is all that may come up. -/
theorem oneT (hi : ops[i]? = some { dst := d, op := op, type := t, pos := pos, after := after, guard := g }) (hr : Region.ready md ops listed = [i])
    (hw : Region.wanted { dst := d, op := op, type := t, pos := pos, after := after, guard := g } (yielded ops a.tmps) = true)
    (h : ∀ K' : Act → World → Prop, Shut (∀ a w, (fresh ls (listed.setIfInBounds i true) = true → T w) → wpAnyT P md ops Q ls T fuel (listed.setIfInBounds i true) a w → K' a w) → ({ dst := d, op := op, type := t, pos := pos, after := after, guard := g } : Oper).wp P a w K' Q) : wpAnyT P md ops Q ls T (fuel + 1) listed a w := by
  refine ⟨fun h0 => (by rw [hr] at h0; cases h0), fun j hj => ?_⟩
  rw [hr] at hj
  simp only [List.mem_singleton] at hj
  subst hj
  exact wpOp_step hi (fun K' hK => by rw [if_pos hw]; exact h K' (fun a w hT hW => hK a w ⟨hT, hW⟩))
/-- A late one that is all that may come up. -/
theorem oneL (hl : fresh ls (listed.setIfInBounds i true) = false) (hi : ops[i]? = some { dst := d, op := op, type := t, pos := pos, after := after, guard := g }) (hr : Region.ready md ops listed = [i])
    (hw : Region.wanted { dst := d, op := op, type := t, pos := pos, after := after, guard := g } (yielded ops a.tmps) = true)
    (h : ∀ K' : Act → World → Prop, Shut (∀ a w, wpAnyT P md ops Q ls T fuel (listed.setIfInBounds i true) a w → K' a w) → ({ dst := d, op := op, type := t, pos := pos, after := after, guard := g } : Oper).wp P a w K' Q) : wpAnyT P md ops Q ls T (fuel + 1) listed a w :=
  oneT hi hr hw fun K' hK => h K' (fun a w hW => hK a w (fun h => by rw [hl] at h; cases h) hW)
theorem doneT {listed : Array Bool} {a : Act} {w : World} (hr : Region.ready md ops listed = []) (h : Q .normal a w) : ∀ fuel, wpAnyT P md ops Q ls T fuel listed a w
  | 0 => ⟨hr, h⟩
  | _ + 1 => ⟨fun _ => h, by rw [hr]; simp⟩
theorem wpOp_at (hi : ops[i]? = some { dst := d, op := op, type := t, pos := pos, after := after, guard := g }) {K : Act → World → Prop}
    (hw : Region.wanted { dst := d, op := op, type := t, pos := pos, after := after, guard := g } (yielded ops a.tmps) = true)
    (h : ({ dst := d, op := op, type := t, pos := pos, after := after, guard := g } : Oper).wp P a w K Q) : wpOp P ops Q i K a w := by
  unfold wpOp
  rw [hi]
  dsimp only
  rw [if_pos hw]
  exact .inl h
/-- What is left are operations each of which leaves the frame, and T, as they are: whatever the order. -/
theorem wpAnyT_steady (ds : List Nat) (step : ∀ i ∈ ds, ∀ w K, T w → (∀ w', T w' → K a w') → wpOp P ops Q i K a w) (fin : ∀ w, T w → Q .normal a w) :
    ∀ (fuel : Nat) (listed : Array Bool) (w : World), (∀ i, i < ops.size → listed.getD i true = false → i ∈ ds) → listed.size = ops.size → listed.toList.count false ≤ fuel → T w → wpAnyT P md ops Q ls T fuel listed a w := by
  intro fuel
  induction fuel with
  | zero =>
    intro listed w _ hs hc hT
    have hall := count_zero_all (Nat.le_zero.1 hc)
    refine ⟨?_, fin w hT⟩
    refine List.eq_nil_iff_forall_not_mem.2 fun i hm => ?_
    obtain ⟨h1, o, ho, _⟩ := mem_ready.1 hm
    have hlt : i < ops.size := (Array.getElem?_eq_some_iff.1 ho).1
    have h2 := hall i (by simp; omega)
    have : i < listed.size := by omega
    simp [this] at h1 h2
    rw [h1] at h2; cases h2
  | succ fuel ih =>
    intro listed w hd hs hc hT
    refine ⟨fun _ => fin w hT, fun i hi => ?_⟩
    obtain ⟨h1, o, ho, _⟩ := mem_ready.1 hi
    have hlt : i < ops.size := (Array.getElem?_eq_some_iff.1 ho).1
    refine step i (hd i hlt h1) w _ hT (fun w' hT' => ⟨fun _ => hT', ih (listed.setIfInBounds i true) w' ?_ (by simpa using hs) ?_ hT'⟩)
    · intro j hj hu
      by_cases e : i = j
      · subst e; exact hd i hj h1
      · rw [getD_set_ne true e] at hu; exact hd j hj hu
    · have := count_set h1
      omega
theorem unlisted_in {ops : Array Oper} {listed : Array Bool} {ds : List Nat} (h : ((List.range ops.size).all fun i => listed.getD i true || ds.contains i) = true) : ∀ i, i < ops.size → listed.getD i true = false → i ∈ ds := by
  intro i hi hu
  have := List.all_eq_true.1 h i (List.mem_range.2 hi)
  rw [hu, Bool.false_or] at this
  simpa using this
theorem wp_region_T {id : Nat} {a : Act} {w : World} (hm : P.follows .mixedOrders = true) (h : wpAnyT P .any ops Q ls T ops.size (Array.replicate ops.size false) a w.drew) : (Code.region id ops true).wp P Q a w :=
  wp_region_any hm (wpAny_of_T _ _ _ _ h)
end
end

section
variable {P : Program} {ops : Array Oper} {Q : Exit → Act → World → Prop} {l m : Nat}
/-- No operation that defers a call. -/
def noDeferT (ops : Array Oper) : Bool := ops.all fun o => match o.op with | .defer _ => false | _ => true
theorem noDeferT_at {i : Nat} {o : Oper} (h : noDeferT ops = true) (ho : ops[i]? = some o) : ∀ c, o.op ≠ .defer c := by
  intro c hc
  have := Array.all_eq_true_iff_forall_mem.1 h o (Array.mem_of_getElem? ho)
  simp [hc] at this
theorem round_of_wp {o : Oper} {a : Act} {w : World} {K : Act → World → Prop} (hd : ∀ c, o.op ≠ .defer c) (h : o.wp P a w K Q) : o.wpIn (Fence.wide.inRound l) m P a w K Q := by
  refine ⟨fun _ _ => trivial, ?_⟩
  rw [Oper.semAt_eq _ _ _ hd]
  unfold Oper.wp at h
  generalize (execOp a.eval o).run P w = r at h
  cases r with
  | ok x w' =>
    cases x with
    | value v => exact h
    | skip => exact h
    | defer d => exact h
    | enter f args => exact ⟨fun h => (by cases h), callsIn_wide.2 h⟩
    | row r args => exact ⟨fun h => (by cases h), fun c cs _ => let ⟨v, w', r, s⟩ := h c cs; ⟨v, w', r, stepsIn_wide.2 s⟩⟩
    | _ => exact h.elim
  | halt x w' => cases x <;> exact h
theorem roundOp {i : Nat} {K : Act → World → Prop} {a : Act} {w : World} (hd : noDeferT ops = true) (hL : ∀ a w, ¬ Q .outgrown a w) (h : wpOp P ops Q i K a w) : wpOpIn (Fence.wide.inRound l) m P ops Q i K a w := by
  unfold wpOp at h
  unfold wpOpIn
  cases ho : ops[i]? with
  | none => rw [ho] at h; exact h
  | some o =>
    rw [ho] at h
    dsimp only at h ⊢
    split
    · rename_i hw
      rw [if_pos hw] at h
      rcases h with h | h
      · exact round_of_wp (noDeferT_at hd ho) h
      · exact h.2.elim fun a h => h.elim fun w h => (hL a w h).elim
    · rename_i hw
      rw [if_neg hw] at h
      exact ⟨fun _ _ => trivial, h⟩
theorem roundAny (hd : noDeferT ops = true) (hL : ∀ a w, ¬ Q .outgrown a w) : ∀ (fuel : Nat) (listed : Array Bool) (a : Act) (w : World), wpAny P .any ops Q fuel listed a w → wpAnyIn (Fence.wide.inRound l) m P .any ops Q fuel listed a w
  | 0, _, _, _, h => h
  | fuel + 1, _, _, _, h => ⟨h.1, fun i hi => wpOpIn_mono (fun a' w' h' => roundAny hd hL fuel _ a' w' h') (roundOp hd hL (h.2 i hi))⟩
/-- Such a region in a round. -/
theorem wpIn_region_T {id : Nat} {a : Act} {w : World} {ls : List Nat} {T : World → Prop} (hm : P.follows .mixedOrders = true) (hd : noDeferT ops = true) (hL : ∀ a w, ¬ Q .outgrown a w)
    (h : wpAnyT P .any ops Q ls T ops.size (Array.replicate ops.size false) a w.drew) : (Code.region id ops true).wpIn (Fence.wide.inRound l) m P Q a w :=
  wpIn_region_any hm (roundAny hd hL _ _ _ _ (wpAny_of_T _ _ _ _ h))
end

end Go.Proofs.YtdaimejlcfhfiaaGreatDoor
