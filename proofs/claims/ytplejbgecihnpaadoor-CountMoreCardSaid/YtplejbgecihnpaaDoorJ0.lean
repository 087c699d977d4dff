/-
  Texts that the walks of the statements over logs lean on, joined (NumMath, NumKit, Mem, CfMath, KpMath). Conditions: those that each theorem names.
-/
import Derived.RangeFuncNested
import Derived.RangeFuncBound
import Derived.RangeFuncCalls
import Derived.RangeFuncLeaves
import Derived.RangeFuncBox
import Derived.Shelf.Abstract
import Derived.Shelf.RegionOpen
import Derived.WalkKit
import Derived.WalkSpells
import Derived.WalkLawsBesides
import Derived.OwnWalkIn
import Derived.TacticsInMore
import Derived.LoopNIn
import Derived.LoopIn
import Derived.Maps.AppendAt
import Derived.Lib.Hide
import Derived.ScopeJumps
import Derived.Deep.QuietTactic
import Derived.BigQuiet
import Derived.Deep.Draws
import Derived.Deep.AppendLies
import Derived.Test.YtplejbgecihnpaaDoorRows
import Derived.Laws.BytesArg
import Derived.Deep.RegionHeld3
import Derived.OpenShut
import Derived.Laws.AppendOwnNone

/-
  Plain facts on numbers' bytes (no program): the digits by 128, what is taken back of bytes, and rows of them. Conditions: those that each theorem names.
-/
namespace Go.Proofs.YtplejbgecihnpaaDoor

/-- The bytes of a number. -/
def put (n : Nat) : List Nat := if n < 128 then [n] else (n % 128 + 128) :: put (n / 128)
  termination_by n
  decreasing_by omega

set_option maxRecDepth 100000 in
theorem put_small {n : Nat} (h : n < 128) : put n = [n] := by rw [put, if_pos h]
set_option maxRecDepth 100000 in
theorem put_big {n : Nat} (h : ¬ n < 128) : put n = (n % 128 + 128) :: put (n / 128) := by rw [put, if_neg h]

set_option maxRecDepth 100000 in
theorem put_bytes : ∀ (n x : Nat), x ∈ put n → x < 256 := by
  intro n
  induction n using Nat.strongRecOn with
  | _ n ih =>
    intro x hx
    by_cases h : n < 128
    · rw [put_small h] at hx; simp at hx; omega
    · rw [put_big h] at hx
      simp only [List.mem_cons] at hx
      rcases hx with hx | hx
      · omega
      · exact ih (n / 128) (by omega) x hx

set_option maxRecDepth 100000 in
theorem put_pos : ∀ (n : Nat), 0 < (put n).length := by
  intro n
  by_cases h : n < 128
  · rw [put_small h]; simp
  · rw [put_big h]; simp

set_option maxRecDepth 100000 in
/-- A number of k digits lies below the k-th power. -/
theorem put_lt : ∀ (n : Nat), n < 128 ^ (put n).length := by
  intro n
  induction n using Nat.strongRecOn with
  | _ n ih =>
    by_cases h : n < 128
    · rw [put_small h]; simpa using h
    · rw [put_big h]
      have := ih (n / 128) (by omega)
      simp only [List.length_cons, Nat.pow_succ]
      omega

set_option maxRecDepth 100000 in
theorem put_ge : ∀ (n : Nat), 1 < (put n).length → 128 ^ ((put n).length - 1) ≤ n := by
  intro n
  induction n using Nat.strongRecOn with
  | _ n ih =>
    intro hl
    by_cases h : n < 128
    · rw [put_small h] at hl; simp at hl
    · rw [put_big h] at hl ⊢
      have h0 := ih (n / 128) (by omega)
      have hp := put_pos (n / 128)
      simp only [List.length_cons, Nat.add_sub_cancel] at *
      by_cases h1 : 1 < (put (n / 128)).length
      · have h2 := h0 h1
        obtain ⟨k, hk⟩ : ∃ k, (put (n / 128)).length = k + 1 := ⟨(put (n / 128)).length - 1, by omega⟩
        rw [hk] at h2 ⊢
        simp only [Nat.add_sub_cancel, Nat.pow_succ] at *
        omega
      · have : (put (n / 128)).length = 1 := by omega
        rw [this]; omega

set_option maxRecDepth 100000 in
theorem put_len_le {n k : Nat} (h : n < 128 ^ k) (hk : 0 < k) : (put n).length ≤ k := by
  rcases Nat.lt_or_ge k (put n).length with hlt | hge
  · have h1 := put_ge n (by omega)
    have h2 : 128 ^ k ≤ 128 ^ ((put n).length - 1) := Nat.pow_le_pow_right (by omega) (by omega)
    omega
  · exact hge

set_option maxRecDepth 100000 in
theorem put_six {n : Nat} (h : n ≤ 1099511627776) : (put n).length ≤ 6 := put_len_le (by omega) (by omega)

set_option maxRecDepth 100000 in
theorem put_len_mono {n m : Nat} (h : n ≤ m) : (put n).length ≤ (put m).length :=
  put_len_le (Nat.lt_of_le_of_lt h (put_lt m)) (put_pos m)

set_option maxRecDepth 100000 in
/-- Numbers whose bytes begin one another's are one. -/
theorem put_prefix : ∀ (n m : Nat) (r s : List Nat), put n ++ r = put m ++ s → n = m ∧ r = s := by
  intro n
  induction n using Nat.strongRecOn with
  | _ n ih =>
    intro m r s he
    by_cases h : n < 128
    · by_cases h' : m < 128
      · rw [put_small h, put_small h'] at he
        simpa using he
      · rw [put_small h, put_big h'] at he
        simp at he; omega
    · by_cases h' : m < 128
      · rw [put_big h, put_small h'] at he
        simp at he; omega
      · rw [put_big h, put_big h'] at he
        simp only [List.cons_append, List.cons.injEq] at he
        obtain ⟨h1, h2⟩ := he
        obtain ⟨h3, h4⟩ := ih (n / 128) (by omega) (m / 128) r s h2
        exact ⟨by omega, h4⟩

/-- What comes of taking a number: the number, how many bytes it has, an error's number. -/
def scan (n long : Nat) : List Nat → Nat × Nat × Nat
  | [] => (0, 0, 10)
  | d :: r =>
    if 128 ≤ d ∧ long + 1 < 6 then scan (n + d % 128 * 128 ^ long) (long + 1) r
    else if 128 ≤ d ∨ (d = 0 ∧ 1 < long + 1) ∨ 1099511627776 < n + d % 128 * 128 ^ long then (0, 0, 11)
    else (n + d % 128 * 128 ^ long, long + 1, 0)

def first (bs : List Nat) : Nat × Nat × Nat := scan 0 0 bs

set_option maxRecDepth 100000 in
theorem scan_cases : ∀ (bs : List Nat) (n long : Nat), scan n long bs = (0, 0, 10) ∨ scan n long bs = (0, 0, 11) ∨
    ∃ N K, scan n long bs = (N, K, 0) ∧ N ≤ 1099511627776 ∧ long < K ∧ K ≤ long + bs.length := by
  intro bs
  induction bs with
  | nil => intro n long; left; rfl
  | cons d r ih =>
    intro n long
    simp only [scan]
    split
    · rcases ih (n + d % 128 * 128 ^ long) (long + 1) with h | h | ⟨N, K, h, h1, h2, h3⟩
      · exact .inl h
      · exact .inr (.inl h)
      · exact .inr (.inr ⟨N, K, h, h1, by omega, by simp; omega⟩)
    · split
      · exact .inr (.inl rfl)
      · rename_i _ hn
        exact .inr (.inr ⟨_, _, rfl, by omega, by omega, by simp⟩)

set_option maxRecDepth 100000 in
theorem scan_put : ∀ (m n long : Nat) (rest : List Nat), long + (put m).length ≤ 6 → (0 < m ∨ long = 0) → n + m * 128 ^ long ≤ 1099511627776 →
    scan n long (put m ++ rest) = (n + m * 128 ^ long, long + (put m).length, 0) := by
  intro m
  induction m using Nat.strongRecOn with
  | _ m ih =>
    intro n long rest hl h0 hm
    by_cases h : m < 128
    · rw [put_small h]
      simp only [List.cons_append, List.nil_append, scan, List.length_singleton]
      have hmod : m % 128 = m := Nat.mod_eq_of_lt h
      rw [hmod, if_neg (by omega), if_neg (by omega)]
    · rw [put_big h] at hl ⊢
      have hp := put_pos (m / 128)
      simp only [List.cons_append, List.length_cons] at *
      simp only [scan]
      have e1 : (m % 128 + 128) % 128 = m % 128 := by omega
      have e2 : m * 128 ^ long = m % 128 * 128 ^ long + m / 128 * 128 ^ (long + 1) := by
        have h1 : m = m % 128 + 128 * (m / 128) := by omega
        have h2 : m * 128 ^ long = (m % 128 + 128 * (m / 128)) * 128 ^ long := by rw [← h1]
        rw [h2, Nat.add_mul, Nat.pow_succ]
        congr 1
        rw [Nat.mul_comm 128 (m / 128), Nat.mul_assoc, Nat.mul_comm 128 (128 ^ long)]
      rw [e1, if_pos (by omega), ih (m / 128) (by omega) _ _ _ (by omega) (.inl (by omega)) (by omega)]
      simp only [Prod.mk.injEq]
      exact ⟨by omega, by omega, trivial⟩

set_option maxRecDepth 100000 in
theorem first_put {m : Nat} (h : m ≤ 1099511627776) (rest : List Nat) : first (put m ++ rest) = (m, (put m).length, 0) := by
  have := scan_put m 0 0 rest (by have := put_six h; omega) (.inr rfl) (by omega)
  simpa [first] using this

set_option maxRecDepth 100000 in
/-- What was taken is put as the bytes that were there. -/
theorem scan_only : ∀ (bs : List Nat) (n long N K : Nat), (∀ x ∈ bs, x < 256) → scan n long bs = (N, K, 0) →
    ∃ m, N = n + m * 128 ^ long ∧ bs = put m ++ bs.drop (K - long) ∧ K = long + (put m).length ∧ (0 < m ∨ long = 0) := by
  intro bs
  induction bs with
  | nil => intro n long N K _ h; simp [scan] at h
  | cons d r ih =>
    intro n long N K hb h
    have hd : d < 256 := hb d (by simp)
    simp only [scan] at h
    split at h
    · rename_i hc
      obtain ⟨m, h1, h2, h3, h4⟩ := ih _ _ _ _ (fun x hx => hb x (by simp [hx])) h
      have hm : 0 < m := by omega
      have hp := put_pos m
      refine ⟨d % 128 + 128 * m, ?_, ?_, ?_, .inl (by omega)⟩
      · rw [h1, Nat.add_mul, Nat.pow_succ, ← Nat.add_assoc]
        congr 1
        rw [Nat.mul_comm 128 m, Nat.mul_assoc, Nat.mul_comm 128 (128 ^ long)]
      · rw [put_big (by omega)]
        have e1 : (d % 128 + 128 * m) % 128 + 128 = d := by omega
        have e2 : (d % 128 + 128 * m) / 128 = m := by omega
        have e3 : K - long = (K - (long + 1)) + 1 := by omega
        rw [e1, e2, e3, List.drop_succ_cons, List.cons_append, ← h2]
      · rw [put_big (by omega)]
        have e2 : (d % 128 + 128 * m) / 128 = m := by omega
        rw [e2, List.length_cons]; omega
    · rename_i hc
      split at h
      · simp at h
      · rename_i hn
        simp only [Prod.mk.injEq] at h
        obtain ⟨h1, h2, _⟩ := h
        have hlt : d < 128 := by omega
        have hmod : d % 128 = d := Nat.mod_eq_of_lt hlt
        refine ⟨d, by rw [hmod] at h1; omega, ?_, ?_, by omega⟩
        · rw [put_small hlt]
          have e3 : K - long = 1 := by omega
          rw [e3]; simp
        · rw [put_small hlt]; simp; omega

set_option maxRecDepth 100000 in
theorem first_only {bs : List Nat} {N K : Nat} (hb : ∀ x ∈ bs, x < 256) (h : first bs = (N, K, 0)) : bs = put N ++ bs.drop K ∧ K = (put N).length ∧ N ≤ 1099511627776 := by
  obtain ⟨m, h1, h2, h3, _⟩ := scan_only bs 0 0 N K hb h
  have hN : N = m := by omega
  subst hN
  rcases scan_cases bs 0 0 with hc | hc | ⟨N', K', hc, h4, _⟩
  · unfold first at h; rw [hc] at h; simp at h
  · unfold first at h; rw [hc] at h; simp at h
  · unfold first at h; rw [hc] at h
    simp only [Prod.mk.injEq] at h
    exact ⟨by simpa using h2, by omega, by omega⟩

set_option maxRecDepth 100000 in
/-- A part of the bytes that is cut off at its end is too short. -/
theorem scan_cut : ∀ (m n long k : Nat), long + (put m).length ≤ 6 → k < (put m).length → scan n long ((put m).take k) = (0, 0, 10) := by
  intro m
  induction m using Nat.strongRecOn with
  | _ m ih =>
    intro n long k hl hk
    cases k with
    | zero => simp [scan]
    | succ k =>
      by_cases h : m < 128
      · rw [put_small h] at hk; simp at hk
      · rw [put_big h] at hk hl ⊢
        simp only [List.length_cons] at hk hl
        have hp := put_pos (m / 128)
        simp only [List.take_succ_cons, scan]
        rw [if_pos (by omega)]
        exact ih (m / 128) (by omega) _ _ k (by omega) (by omega)

set_option maxRecDepth 100000 in
theorem first_cut {m k : Nat} (h : m ≤ 1099511627776) (hk : k < (put m).length) : first ((put m).take k) = (0, 0, 10) :=
  scan_cut m 0 0 k (by have := put_six h; omega) hk

/-! ### rows -/

/-- The bytes of a row's numbers, one behind the other. -/
def puts (l : List Nat) : List Nat := l.flatMap put

set_option maxRecDepth 100000 in
theorem puts_snoc (l : List Nat) (n : Nat) : puts (l ++ [n]) = puts l ++ put n := by simp [puts]
set_option maxRecDepth 100000 in
theorem puts_cons (l : List Nat) (n : Nat) : puts (n :: l) = put n ++ puts l := by simp [puts]

/-- What comes of taking k numbers one behind the other: how many bytes they have, the numbers, an error. -/
def takes : Nat → List Nat → Nat × List Nat × Nat
  | 0, _ => (0, [], 0)
  | k + 1, bs =>
    if (first bs).2.2 = 0 then ((first bs).2.1 + (takes k (bs.drop (first bs).2.1)).1, (first bs).1 :: (takes k (bs.drop (first bs).2.1)).2.1, (takes k (bs.drop (first bs).2.1)).2.2)
    else (0, [], (first bs).2.2)

/-- What comes of taking a row: how many bytes it has, the numbers, an error. -/
def takeRow (bs : List Nat) : Nat × List Nat × Nat :=
  if (first bs).2.2 ≠ 0 then (0, [], (first bs).2.2)
  else if 40 < (first bs).1 then (0, [], 11)
  else if (takes (first bs).1 (bs.drop (first bs).2.1)).2.2 ≠ 0 then (0, [], (takes (first bs).1 (bs.drop (first bs).2.1)).2.2)
  else ((first bs).2.1 + (takes (first bs).1 (bs.drop (first bs).2.1)).1, (takes (first bs).1 (bs.drop (first bs).2.1)).2.1, 0)

def row (l : List Nat) : List Nat := put l.length ++ puts l

set_option maxRecDepth 100000 in
theorem first_ok {bs : List Nat} (hb : ∀ x ∈ bs, x < 256) (h : (first bs).2.2 = 0) :
    bs = put (first bs).1 ++ bs.drop (first bs).2.1 ∧ (first bs).2.1 = (put (first bs).1).length ∧ (first bs).1 ≤ 1099511627776 :=
  first_only hb (by rw [← h])

set_option maxRecDepth 100000 in
theorem first_err {bs : List Nat} (h : (first bs).2.2 ≠ 0) : (first bs).1 = 0 ∧ (first bs).2.1 = 0 ∧ ((first bs).2.2 = 10 ∨ (first bs).2.2 = 11) := by
  rcases scan_cases bs 0 0 with hc | hc | ⟨N', K', hc, _⟩
  · unfold first at *; rw [hc] at h ⊢; simp
  · unfold first at *; rw [hc] at h ⊢; simp
  · unfold first at *; rw [hc] at h; simp at h

set_option maxRecDepth 100000 in
theorem takes_puts : ∀ (l : List Nat) (rest : List Nat), (∀ n ∈ l, n ≤ 1099511627776) → takes l.length (puts l ++ rest) = ((puts l).length, l, 0) := by
  intro l
  induction l with
  | nil => intro rest _; rfl
  | cons n l ih =>
    intro rest h
    have hn : n ≤ 1099511627776 := h n (by simp)
    have h0 := ih rest (fun x hx => h x (by simp [hx]))
    rw [puts_cons, List.append_assoc, List.length_cons, takes, first_put hn, if_pos rfl]
    have e : (put n ++ (puts l ++ rest)).drop (put n).length = puts l ++ rest := List.drop_left
    simp only [e, h0, List.length_append]

set_option maxRecDepth 100000 in
theorem takeRow_row {l : List Nat} (hl : l.length ≤ 40) (h : ∀ n ∈ l, n ≤ 1099511627776) (rest : List Nat) : takeRow (row l ++ rest) = ((row l).length, l, 0) := by
  unfold takeRow row
  rw [List.append_assoc, first_put (by omega)]
  have e : (put l.length ++ (puts l ++ rest)).drop (put l.length).length = puts l ++ rest := List.drop_left
  simp only [e, takes_puts l rest h]
  rw [if_neg (by simp), if_neg (by omega), if_neg (by simp), List.length_append]

set_option maxRecDepth 100000 in
theorem takes_only : ∀ (k : Nat) (bs : List Nat), (∀ x ∈ bs, x < 256) → (takes k bs).2.2 = 0 →
    bs = puts (takes k bs).2.1 ++ bs.drop (takes k bs).1 ∧ (takes k bs).1 = (puts (takes k bs).2.1).length ∧ (takes k bs).2.1.length = k ∧ ∀ n ∈ (takes k bs).2.1, n ≤ 1099511627776 := by
  intro k
  induction k with
  | zero => intro bs _ _; simp [takes, puts]
  | succ k ih =>
    intro bs hb h
    simp only [takes] at h ⊢
    by_cases h0 : (first bs).2.2 = 0
    · rw [if_pos h0] at h ⊢
      obtain ⟨h1, h2, h3⟩ := first_ok hb h0
      obtain ⟨h4, h5, h6, h7⟩ := ih (bs.drop (first bs).2.1) (fun x hx => hb x (List.mem_of_mem_drop hx)) h
      simp only at h4 h5 h6 h7 ⊢
      refine ⟨?_, ?_, by simp [h6], ?_⟩
      · rw [puts_cons, List.append_assoc, ← List.drop_drop, ← h4, ← h1]
      · rw [puts_cons, List.length_append, ← h2, ← h5]
      · intro n hn
        simp only [List.mem_cons] at hn
        rcases hn with rfl | hn
        · exact h3
        · exact h7 n hn
    · rw [if_neg h0] at h; exact absurd h h0

set_option maxRecDepth 100000 in
theorem takes_err (k : Nat) : ∀ (bs : List Nat), (takes k bs).2.2 ≠ 0 → (takes k bs).2.2 = 10 ∨ (takes k bs).2.2 = 11 := by
  induction k with
  | zero => intro bs h; simp [takes] at h
  | succ k ih =>
    intro bs h
    simp only [takes] at h ⊢
    by_cases h0 : (first bs).2.2 = 0
    · rw [if_pos h0] at h ⊢; exact ih _ h
    · rw [if_neg h0]; exact (first_err h0).2.2

set_option maxRecDepth 100000 in
theorem takeRow_only {bs : List Nat} (hb : ∀ x ∈ bs, x < 256) (h : (takeRow bs).2.2 = 0) :
    bs = row (takeRow bs).2.1 ++ bs.drop (takeRow bs).1 ∧ (takeRow bs).2.1.length ≤ 40 ∧ (∀ n ∈ (takeRow bs).2.1, n ≤ 1099511627776) ∧ (takeRow bs).1 = (row (takeRow bs).2.1).length := by
  unfold takeRow at h ⊢
  by_cases h0 : (first bs).2.2 = 0
  · rw [if_neg (by simpa using h0)] at h ⊢
    by_cases h1 : 40 < (first bs).1
    · rw [if_pos h1] at h; simp at h
    · rw [if_neg h1] at h ⊢
      by_cases h2 : (takes (first bs).1 (bs.drop (first bs).2.1)).2.2 = 0
      · rw [if_neg (by simpa using h2)]
        obtain ⟨h3, h4, h5⟩ := first_ok hb h0
        obtain ⟨h6, h7, h8, h9⟩ := takes_only _ _ (fun x hx => hb x (List.mem_of_mem_drop hx)) h2
        simp only
        refine ⟨?_, by omega, h9, ?_⟩
        · rw [row, h8, List.append_assoc, ← List.drop_drop, ← h6, ← h3]
        · rw [row, List.length_append, h8, ← h4, ← h7]
      · rw [if_pos h2] at h; exact absurd h h2
  · rw [if_pos h0] at h; exact absurd h h0

set_option maxRecDepth 100000 in
theorem takeRow_err {bs : List Nat} (h : (takeRow bs).2.2 ≠ 0) : (takeRow bs).2.1 = [] ∧ ((takeRow bs).2.2 = 10 ∨ (takeRow bs).2.2 = 11) := by
  unfold takeRow at h ⊢
  by_cases h0 : (first bs).2.2 = 0
  · rw [if_neg (by simpa using h0)] at h ⊢
    by_cases h1 : 40 < (first bs).1
    · rw [if_pos h1]; simp
    · rw [if_neg h1] at h ⊢
      by_cases h2 : (takes (first bs).1 (bs.drop (first bs).2.1)).2.2 = 0
      · rw [if_neg (by simpa using h2)] at h; simp at h
      · rw [if_pos h2]
        exact ⟨rfl, takes_err _ _ h2⟩
  · rw [if_pos h0]
    exact ⟨rfl, (first_err h0).2.2⟩

set_option maxRecDepth 100000 in
theorem takes_cut : ∀ (l : List Nat) (k : Nat), (∀ n ∈ l, n ≤ 1099511627776) → k < (puts l).length → (takes l.length ((puts l).take k)).2.2 = 10 := by
  intro l
  induction l with
  | nil => intro k _ hk; simp [puts] at hk
  | cons n l ih =>
    intro k h hk
    have hn : n ≤ 1099511627776 := h n (by simp)
    rw [puts_cons, List.length_append] at hk
    rw [puts_cons, List.take_append, List.length_cons]
    by_cases h1 : k < (put n).length
    · have e : k - (put n).length = 0 := by omega
      rw [e, List.take_zero, List.append_nil, takes, first_cut hn h1]
      simp
    · rw [List.take_of_length_le (by omega), takes, first_put hn, if_pos rfl]
      have e : (put n ++ List.take (k - (put n).length) (puts l)).drop (put n).length = List.take (k - (put n).length) (puts l) := List.drop_left
      simp only [e]
      exact ih _ (fun x hx => h x (by simp [hx])) (by omega)

set_option maxRecDepth 100000 in
theorem takeRow_cut {l : List Nat} {k : Nat} (hl : l.length ≤ 40) (h : ∀ n ∈ l, n ≤ 1099511627776) (hk : k < (row l).length) : (takeRow ((row l).take k)).2.2 = 10 := by
  unfold row at hk ⊢
  rw [List.length_append] at hk
  rw [List.take_append]
  unfold takeRow
  by_cases h1 : k < (put l.length).length
  · have e : k - (put l.length).length = 0 := by omega
    rw [e, List.take_zero, List.append_nil, first_cut (by omega) h1]
    simp
  · rw [List.take_of_length_le (by omega), first_put (by omega)]
    have e : (put l.length ++ List.take (k - (put l.length).length) (puts l)).drop (put l.length).length = List.take (k - (put l.length).length) (puts l) := List.drop_left
    have h2 := takes_cut l (k - (put l.length).length) h (by omega)
    simp only [e, h2]
    rw [if_neg (by simp), if_neg (by omega), if_pos (by simp)]

end Go.Proofs.YtplejbgecihnpaaDoor

/-
  Small words on memory: slices that read as a list, rows of the call's own, what stays. Conditions: those that each theorem names.
-/
namespace Go.Proofs.YtplejbgecihnpaaDoor
open Go.RowKit Go.Shelf

/-- Bytes, and integers, as values. -/
def bv (l : List Nat) : List Value := l.map fun x : Nat => Value.int .u8 (x : Int)
def iv (l : List Int) : List Value := l.map (Value.int .i64)

set_option maxRecDepth 100000 in
theorem bv_append (l m : List Nat) : bv (l ++ m) = bv l ++ bv m := by simp [bv]
set_option maxRecDepth 100000 in
theorem bv_length (l : List Nat) : (bv l).length = l.length := by simp [bv]
set_option maxRecDepth 100000 in
theorem iv_length (l : List Int) : (iv l).length = l.length := by simp [iv]
set_option maxRecDepth 100000 in
theorem bv_one (l : List Nat) : ∀ u ∈ bv l, u.oneCell' = true := by
  intro u hu
  simp only [bv, List.mem_map] at hu
  obtain ⟨x, _, rfl⟩ := hu
  rfl
set_option maxRecDepth 100000 in
theorem iv_one (l : List Int) : ∀ u ∈ iv l, u.oneCell' = true := by
  intro u hu
  simp only [iv, List.mem_map] at hu
  obtain ⟨x, _, rfl⟩ := hu
  rfl

/-- A slice of n one-cell elements that reads as the list xs, in a block below B. -/
def Rd (w : World) (B : Nat) (A : Option Addr) (n : Nat) (xs : List Value) : Prop :=
  xs.length = n ∧ (0 < n → ∃ b off, A = some ⟨b, off, none⟩ ∧ b < B ∧ ∀ j, j < n → w.cell? ⟨b, off + j, none⟩ = xs[j]?)

section
variable {w w' : World} {B B' n : Nat} {A : Option Addr} {xs : List Value}
set_option maxRecDepth 100000 in
theorem Rd.nil_ (w : World) (B : Nat) (A : Option Addr) : Rd w B A 0 [] := ⟨rfl, fun h => absurd h (by omega)⟩
set_option maxRecDepth 100000 in
theorem Rd.keep (h : Rd w B A n xs) (hk : ∀ p : Addr, p.block < B → w'.cell? p = w.cell? p) : Rd w' B A n xs :=
  ⟨h.1, fun hn => by
    obtain ⟨b, off, e, hb, hc⟩ := h.2 hn
    exact ⟨b, off, e, hb, fun j hj => (hk ⟨b, off + j, none⟩ hb).trans (hc j hj)⟩⟩
set_option maxRecDepth 100000 in
theorem Rd.more (h : Rd w B A n xs) (hB : B ≤ B') : Rd w B' A n xs :=
  ⟨h.1, fun hn => by
    obtain ⟨b, off, e, hb, hc⟩ := h.2 hn
    exact ⟨b, off, e, by omega, hc⟩⟩
set_option maxRecDepth 100000 in
theorem Rd.below (h : Rd w B A n xs) (hb : Below B w w') : Rd w' B A n xs := h.keep fun _ hp => hb.cell hp
set_option maxRecDepth 100000 in
theorem Rd.alloc (h : Rd w B A n xs) (hB : B ≤ w.heap.size) (o : Obj) : Rd (w.alloc o) B A n xs := h.below ((Below.refl B w).alloc hB o)
set_option maxRecDepth 100000 in
theorem Rd.of_own {base : Nat} {e : TypeId} {c : Nat} (h : w.ownsRow base e 1 (.slice A n c) n xs) : Rd w w.heap.size A n xs := by
  refine ⟨by have := h.1; omega, fun hn => ?_⟩
  obtain ⟨g, cap, hv, _, hlt⟩ := h.form hn
  injection hv with hA _ hc
  subst hA; subst hc
  refine ⟨g, 0, rfl, hlt, fun j hj => ?_⟩
  rw [Nat.zero_add]
  exact h.cellAt j (by omega)
set_option maxRecDepth 100000 in
/-- The slice's rest from k on, as the model cuts it. -/
theorem Rd.cut {k : Nat} (h : Rd w B A n xs) (hk : k ≤ n) (A' : Option Addr) (hA : k < n → ∀ b off, A = some ⟨b, off, none⟩ → A' = some ⟨b, off + k, none⟩) : Rd w B A' (n - k) (xs.drop k) := by
  refine ⟨by rw [List.length_drop, h.1], fun hn => ?_⟩
  obtain ⟨b, off, e, hb, hc⟩ := h.2 (by omega)
  refine ⟨b, off + k, hA (by omega) b off e, hb, fun j hj => ?_⟩
  rw [Nat.add_assoc, hc (k + j) (by omega), List.getElem?_drop]
end

set_option maxRecDepth 100000 in
theorem cell_new (w : World) (cs : Array Value) (t : TypeId) (i : Nat) : (w.alloc (.cells cs t)).cell? ⟨w.heap.size, i, none⟩ = cs[i]? := cell_of_row _ _ i cs t (0, 0) (heap_alloc_new w _)

set_option maxRecDepth 100000 in
/-- A row of the call's own holds cells: what is no cells stays while it grows. -/
theorem keeps_row {W W' : World} {base : Nat} {e : TypeId} {size n : Nat} {v : Value} {xs : List Value} (hr : W.ownsRow base e size v n xs) (hg : W.grownBy W' v.ownBlock) : KeepsOthers W W' :=
  KeepsOthers.of_grownBy hg fun j o hj ho => by
    rcases hr.2 with ⟨rfl, _⟩ | ⟨g, cap, cur, rfl, _, hc, _⟩
    · simp [Value.ownBlock] at hj
    · simp only [Value.ownBlock, Option.some.injEq] at hj
      subst hj
      rw [hc] at ho
      injection ho with ho
      subst ho
      rfl

set_option maxRecDepth 100000 in
theorem below_row {W W' : World} {base : Nat} {e : TypeId} {size n : Nat} {v : Value} {xs : List Value} (hr : W.ownsRow base e size v n xs) (hg : W.grownBy W' v.ownBlock) (hb : base ≤ W.heap.size) : Below base W W' :=
  (Below.refl base W).grown hg hb fun k hk => (hr.lt k hk).1

set_option maxRecDepth 100000 in
/-- A scope that begins with its label, at which the run comes back: what holds there, and a measure. -/
theorem wp_scope_back {P : Program} {a : Act} {w : World} {Q : Exit → Act → World → Prop} {rest : Code} (l : Nat) (J : Act → World → Prop) (μ : Act → World → Nat) (h0 : J a w)
    (pass : ∀ a w, J a w → rest.wp P (Exit.jump l (fun a' w' => J a' w' ∧ μ a' w' < μ a w) Q) a w) : (Code.scope ((Code.label l).seq rest)).wp P Q a w := by
  refine wp_scope_jumps l J μ (rest := Code.skip.seq rest) (by simp [findLabel]) (wp_seq (wp_label (wp_mono (pass a w h0) ?_))) (fun a w hJ => wp_seq (wp_skip (pass a w hJ)))
  rintro (_ | _ | l | _ | _ | _) a1 w1 h
  all_goals first | exact h | exact ⟨h.1, h.2.1⟩

set_option maxRecDepth 100000 in
/-- The same where code without the label stands ahead of it. -/
theorem wp_scope_back_behind {P : Program} {a : Act} {w : World} {Q : Exit → Act → World → Prop} {pre rest : Code} (l : Nat) (J : Act → World → Prop) (μ : Act → World → Nat) (hn : findLabel pre l = none)
    (h0 : pre.wp P (fun e a w => e = .normal ∧ J a w) a w)
    (pass : ∀ a w, J a w → rest.wp P (Exit.jump l (fun a' w' => J a' w' ∧ μ a' w' < μ a w) Q) a w) : (Code.scope (pre.seq ((Code.label l).seq rest))).wp P Q a w := by
  refine wp_scope_jumps l J μ (rest := Code.skip.seq rest) (by simp [findLabel, hn]) (wp_seq (wp_mono h0 ?_)) (fun a w hJ => wp_seq (wp_skip (pass a w hJ)))
  rintro e a1 w1 ⟨rfl, h1⟩
  refine wp_seq (wp_label (wp_mono (pass a1 w1 h1) ?_))
  rintro (_ | _ | l | _ | _ | _) a2 w2 h
  all_goals first | exact h | exact ⟨h.1, h.2.1⟩

/-- A number that is one. -/
def isNum (n : Int) : Bool := decide (0 ≤ n) && decide (n ≤ 1099511627776)
set_option maxRecDepth 100000 in
theorem isNum_yes {n : Int} (h0 : 0 ≤ n) (h1 : n ≤ 1099511627776) : isNum n = true := by simp [isNum, h0, h1]
set_option maxRecDepth 100000 in
theorem isNum_iff {n : Int} : isNum n = true ↔ 0 ≤ n ∧ n ≤ 1099511627776 := by simp [isNum]

end Go.Proofs.YtplejbgecihnpaaDoor

/-
  Small words on memory that no package's functions enter: rows of bytes, blocks known whole, appends, slices cut, strings. Conditions: those that each theorem names.
-/
namespace Go.Proofs.YtplejbgecihnpaaDoor
open Go.RowKit Go.Shelf

/-- The numbers as they are counted. -/
def nats (l : List Int) : List Nat := l.map Int.toNat

set_option maxRecDepth 100000 in
theorem info_u8 : (Tryd.prog.info? 5).map (fun i => (i.zero, i.size, i.bytes)) = some (some (.int .u8 0), 1, 1) := by kernel_rfl

set_option maxRecDepth 100000 in
theorem own_form {w : World} {base : Nat} {e : TypeId} {n : Nat} {v : Value} {xs : List Value} (h : w.ownsRow base e 1 v n xs) : ∃ A c, v = .slice A n c := by
  rcases h.2 with ⟨rfl, rfl⟩ | ⟨g, cap, cur, rfl, _⟩
  · exact ⟨_, _, rfl⟩
  · exact ⟨_, _, rfl⟩

set_option maxRecDepth 100000 in
theorem info_int : (Tryd.prog.info? 3).map (fun i => (i.zero, i.size, i.bytes)) = some (some (.int .i64 0), 1, 8) := by kernel_rfl

set_option maxRecDepth 100000 in
theorem keeps_drewN (w : World) (k : Nat) : KeepsOthers w (w.drewN k) := ⟨Nat.le_refl _, fun _ _ h _ => h⟩

set_option maxRecDepth 100000 in
theorem own_weaker {w : World} {base base' : Nat} {e : TypeId} {size n : Nat} {v : Value} {xs : List Value} (h : w.ownsRow base' e size v n xs) (hb : base ≤ base') : w.ownsRow base e size v n xs := by
  refine ⟨h.1, ?_⟩
  rcases h.2 with h2 | ⟨g, cap, cur, h2, h3, h4⟩
  · exact .inl h2
  · exact .inr ⟨g, cap, cur, h2, by omega, h4⟩

/-- Block b is just these cells, all of which may be written. -/
def Whole (w : World) (b : Nat) (t : TypeId) (cs : Array Value) : Prop := w.heap[b]? = some (.cells cs t (0, 0))
section
variable {w w' : World} {b : Nat} {t : TypeId} {cs : Array Value}
set_option maxRecDepth 100000 in
theorem Whole.new (w : World) (t : TypeId) (cs : Array Value) : Whole (w.alloc (.cells cs t)) w.heap.size t cs := heap_alloc_new w _
set_option maxRecDepth 100000 in
theorem Whole.lt (h : Whole w b t cs) : b < w.heap.size := by
  rcases Nat.lt_or_ge b w.heap.size with h1 | h1
  · exact h1
  · unfold Whole at h; rw [Array.getElem?_eq_none h1] at h; cases h
set_option maxRecDepth 100000 in
theorem Whole.cell (h : Whole w b t cs) (i : Nat) : w.cell? ⟨b, i, none⟩ = cs[i]? := cell_of_row w b i cs t (0, 0) h
set_option maxRecDepth 100000 in
theorem Whole.frozen (h : Whole w b t cs) (i : Nat) : w.frozen? ⟨b, i, none⟩ = false := by unfold Whole at h; simp [World.frozen?, h]
set_option maxRecDepth 100000 in
theorem Whole.alloc (h : Whole w b t cs) (o : Obj) : Whole (w.alloc o) b t cs := (Below.heap_alloc w o b h.lt).trans h
set_option maxRecDepth 100000 in
theorem Whole.below (h : Whole w b t cs) {B : Nat} (hb : Below B w w') (hB : b < B) : Whole w' b t cs := (hb.block b hB).trans h
set_option maxRecDepth 100000 in
theorem Whole.under (h : Whole w b t cs) (hb : Below w.heap.size w w') : Whole w' b t cs := h.below hb h.lt
set_option maxRecDepth 100000 in
theorem Whole.grown (h : Whole w b t cs) {row : Option Nat} (hg : w.grownBy w' row) (hne : some b ≠ row) : Whole w' b t cs := (hg.block b h.lt hne).trans h
set_option maxRecDepth 100000 in
theorem Whole.set (h : Whole w b t cs) (i : Nat) (u : Value) : Whole (w.setCell ⟨b, i, none⟩ u) b t (cs.setIfInBounds i u) := by
  unfold Whole at h ⊢
  simp [World.setCell, Array.getElem?_modify, h]
set_option maxRecDepth 100000 in
theorem Whole.far (h : Whole w b t cs) {p : Addr} (hp : b ≠ p.block) (u : Value) : Whole (w.setCell p u) b t cs := (Below.heap_setCell w p u b hp).trans h
end

/-- The string of a list of bytes. -/
def strB (bs : List Nat) : ByteArray := strOfNums (bs.map fun x : Nat => (x : Int))

set_option maxRecDepth 100000 in
theorem strB_inj {a b : List Nat} (ha : ∀ x ∈ a, x < 256) (hb : ∀ x ∈ b, x < 256) : ((strB a).toList == (strB b).toList) = decide (a = b) := by
  have h2 : ∀ (l : List Nat), (∀ x ∈ l, x < 256) → (strB l).toList.map UInt8.toNat = l := by
    intro l hl
    rw [ByteArray.toList_eq, strB, strOfNums_data, List.map_map, List.map_map]
    conv => rhs; rw [← List.map_id l]
    refine List.map_congr_left fun x hx => ?_
    have := hl x hx
    simp
    omega
  by_cases h : a = b
  · subst h; simp
  · have h' : ¬ (strB a).toList = (strB b).toList := fun e => h (by rw [← h2 a ha, ← h2 b hb, e])
    rw [decide_eq_false h]
    exact beq_eq_false_iff_ne.2 h'

set_option maxRecDepth 100000 in
/-- A literal slice reads as it is written. -/
theorem rd_lit (W : World) (cs : List Value) (t : TypeId) (n : Nat) (hn : cs.length = n) : Rd (W.alloc (.cells cs.toArray t)) (W.heap.size + 1) (some ⟨W.heap.size, 0, none⟩) n cs := by
  refine ⟨hn, fun _ => ⟨W.heap.size, 0, rfl, by omega, fun j hj => ?_⟩⟩
  rw [Nat.zero_add, cell_new]
  simp

set_option maxRecDepth 100000 in
theorem rd_lit_at (W : World) (cs : List Value) (t : TypeId) (n b : Nat) (hn : cs.length = n) (hb : W.heap.size = b) : Rd (W.alloc (.cells cs.toArray t)) (b + 1) (some ⟨b, 0, none⟩) n cs := by
  subst hb; exact rd_lit W cs t n hn

set_option maxRecDepth 100000 in
/-- It reads so behind whatever leaves what was there. -/
theorem Rd.on {W W' : World} {B n : Nat} {A : Option Addr} {xs : List Value} (h : Rd W B A n xs) (hB : B ≤ W.heap.size) (hb : Below W.heap.size W W') : Rd W' B A n xs := h.below (hb.mono hB)

def WakePost (w : World) (e : Ending) (w' : World) : Prop := e = .returned (.bool true) ∧ Below w.heap.size w w'

set_option maxRecDepth 100000 in
theorem Rd.take {w : World} {B n k : Nat} {A : Option Addr} {xs : List Value} (h : Rd w B A n xs) (hk : k ≤ n) : Rd w B A k (xs.take k) := by
  refine ⟨by rw [List.length_take, h.1]; omega, fun hp => ?_⟩
  obtain ⟨b, off, e, hb, hc⟩ := h.2 (by omega)
  refine ⟨b, off, e, hb, fun j hj => ?_⟩
  rw [hc j (by omega), List.getElem?_take, if_pos hj]

set_option maxRecDepth 100000 in
/-- What came in as a slice of integers reads as a list. -/
theorem rd_of_ints {w : World} {a : Option Addr} {len cap : Nat} {zs : List Int}
    (h : (a = none ∧ len = 0 ∧ cap = 0 ∧ zs = []) ∨ ∃ x, a = some x ∧ len ≤ cap ∧ cap ≤ maxLen ∧ zs.length = cap ∧ (∀ i, i < zs.length → w.cell? (x.add i) = some (.int .i64 (zs.getD i 0))) ∧ ∀ n ∈ zs, (Lit.int .i64 n).wf = true) :
    Rd w w.heap.size a len (iv (zs.take len)) ∧ len ≤ cap ∧ cap ≤ maxLen := by
  rcases h with ⟨rfl, rfl, rfl, rfl⟩ | ⟨x, rfl, hl, hm, hz, hc, _⟩
  · exact ⟨⟨rfl, fun h => absurd h (by omega)⟩, Nat.le_refl _, by omega⟩
  · refine ⟨⟨by rw [iv_length, List.length_take]; omega, fun hp => ?_⟩, hl, hm⟩
    obtain ⟨b, off, rfl, hc'⟩ := ints_at hc (by omega)
    refine ⟨b, off, rfl, World.block_lt_of_cell? w _ (hc' 0 (by omega)), fun j hj => ?_⟩
    rw [hc' j (by omega), iv, List.getElem?_map, List.getElem?_take, if_pos hj, List.getElem?_eq_getElem (by omega)]
    simp [List.getD, List.getElem?_eq_getElem (show j < zs.length by omega)]

set_option maxRecDepth 100000 in
theorem rd_of_bytes {w : World} {a : Option Addr} {len cap : Nat} {zs : List Int}
    (h : (a = none ∧ len = 0 ∧ cap = 0 ∧ zs = []) ∨ ∃ x, a = some x ∧ len ≤ cap ∧ cap ≤ maxLen ∧ zs.length = cap ∧ (∀ i, i < zs.length → w.cell? (x.add i) = some (.int .u8 (zs.getD i 0))) ∧ ∀ n ∈ zs, (Lit.int .u8 n).wf = true) :
    ∃ bs : List Nat, Rd w w.heap.size a len (bv bs) ∧ (∀ x ∈ bs, x < 256) ∧ len ≤ cap ∧ cap ≤ maxLen := by
  rcases h with ⟨rfl, rfl, rfl, rfl⟩ | ⟨x, rfl, hl, hm, hz, hc, hw⟩
  · exact ⟨[], ⟨rfl, fun h => absurd h (by omega)⟩, by simp, Nat.le_refl _, by omega⟩
  · have hr : ∀ n ∈ zs, 0 ≤ n ∧ n < 256 := fun n hn => by
      have := hw n hn
      have := bounds_u8 this
      omega
    refine ⟨nats (zs.take len), ⟨by rw [bv_length, nats, List.length_map, List.length_take]; omega, fun hp => ?_⟩, ?_, hl, hm⟩
    · obtain ⟨b, off, rfl, hc'⟩ := ints_at hc (by omega)
      refine ⟨b, off, rfl, World.block_lt_of_cell? w _ (hc' 0 (by omega)), fun j hj => ?_⟩
      have hjz : j < zs.length := by omega
      rw [hc' j hjz, bv, nats, List.getElem?_map, List.getElem?_map, List.getElem?_take, if_pos hj, List.getElem?_eq_getElem hjz]
      have := hr zs[j] (List.getElem_mem hjz)
      simp [List.getD, List.getElem?_eq_getElem hjz]
      omega
    · intro y hy
      simp only [nats, List.mem_map] at hy
      obtain ⟨z, hz1, rfl⟩ := hy
      have := hr z (List.mem_of_mem_take hz1)
      omega

set_option maxRecDepth 100000 in
/-- An append whose run is known, guarded or not. -/
theorem wpList_app {P : Program} {w : World} {ops : Array Oper} {rest : List Oper} {o : Oper} {a : Act} {Q : Exit → Act → World → Prop} (hw : Region.wanted o (yielded ops a.tmps) = true) (s x : Operand) (t : TypeId)
    (ho : o.op = .call { callee := .builtin .append, args := #[s, x], argTypes := #[t, t] }) (vs vx v' : Value) (w' : World) (hs : a.eval s = vs) (hx : a.eval x = vx)
    (hr : (Builtin.append_ #[t, t] o.type #[vs, vx]).run P w = .ok v' w') (h : wpList P ops Q rest (a.put o.dst v') w') : wpList P ops Q (o :: rest) a w := by
  unfold wpList
  rw [if_pos hw]
  left
  unfold Oper.wp execOp
  simp only [ho, resolve, invoke, builtin, Sem.run_bind, Sem.run_pure, Result.andThen_ok, List.map_toArray, List.map_cons, List.map_nil, hs, hx, hr]
  exact h

/-- What a round that goes on keeps: what lies below n₀, and the box of what is gone over. -/
def KpB (n₀ Bn : Nat) (W W' : World) : Prop := Below n₀ W W' ∧ W'.heap[Bn]? = W.heap[Bn]?

set_option maxRecDepth 100000 in
theorem kpB_t {n₀ Bn : Nat} {A B C : World} (h : KpB n₀ Bn A B) (k : KpB n₀ Bn B C) : KpB n₀ Bn A C := ⟨h.1.trans k.1, k.2.trans h.2⟩

set_option maxRecDepth 100000 in
theorem kpB_b {n₀ Bn : Nat} {w : World} (hn : n₀ ≤ w.heap.size) (hBn : Bn < w.heap.size) (W : World) (l : Nat) (o o' : Obj) (hl : w.heap.size ≤ l) (h : W.heap[l]? = some o) (h1 : o.isCells = false) (h2 : o.isWalk = false) : KpB n₀ Bn W (W.putObj l o') :=
  ⟨belowK_b hn W l o o' hl h h1 h2, World.putObj_heap_other (by omega)⟩

def BoolPost (v : Bool) (w : World) (e : Ending) (w' : World) : Prop := e = .returned (.bool v) ∧ Below w.heap.size w w'

set_option maxRecDepth 100000 in
theorem kpB_refl {n₀ Bn : Nat} {W : World} : KpB n₀ Bn W W := ⟨Below.refl _ _, rfl⟩

set_option maxRecDepth 100000 in
/-- A scope in which the run jumps ahead to one label: what holds there. -/
theorem wp_scope_fwd {P : Program} {a : Act} {w : World} {Q : Exit → Act → World → Prop} {c rest : Code} (l : Nat) (J : Act → World → Prop) (hf : findLabel c l = some rest)
    (first : c.wp P (Exit.jump l J Q) a w) (tail : ∀ a w, J a w → rest.wp P (Exit.jump l (fun _ _ => False) Q) a w) : (Code.scope c).wp P Q a w := by
  refine wp_scope_jumps l J (fun _ _ => 0) hf first (fun a w hJ => wp_mono (tail a w hJ) ?_)
  rintro (_ | _ | l | _ | _ | _) a1 w1 h
  all_goals first | exact h | exact h.2.elim

set_option maxRecDepth 100000 in
/-- 'x[k:]' of integers, as the model cuts it: the address under one name. -/
theorem run_restI (A : Option Addr) (n c k : Nat) (hk : k ≤ n) : ∃ A', (∀ w : World, (Instr.slice 22 (.slice A n c) (some (.int .i64 (k : Int))) none none).run Tryd.prog w = .ok (.slice A' (n - k) (c - k)) w) ∧
    ((k < n ∧ n ≤ c) → ∀ b off, A = some ⟨b, off, none⟩ → A' = some ⟨b, off + k, none⟩) := by
  obtain ⟨i0, hi, hz0, hz1, hz2⟩ := info_parts info_int
  refine ⟨if c = k then A else A.map (·.add (k * 1)), fun w => ?_, ?_⟩
  · have hz : (sizeOf (Tryd.prog.elem 22)).run Tryd.prog w = .ok 1 w := by
      have he : Tryd.prog.elem 22 = 3 := by kernel_rfl
      simp [he, Go.sizeOf, typeInfo, hi, hz1]
    have h63 : (k : Int).toNat = k := by omega
    rw [run_slice_l (P := Tryd.prog) w 22 A n c Tryd.underlying22 .i64 (k : Int) (by omega) (by omega), hz, h63]
    rfl
  · rintro ⟨h1, h2⟩ b off rfl
    rw [if_neg (by omega), Nat.mul_one, Option.map_some, Addr.add_lit]

set_option maxRecDepth 100000 in
theorem own_under {w w' : World} {base : Nat} {e : TypeId} {size n : Nat} {v : Value} {xs : List Value} (h : w.ownsRow base e size v n xs) (hb : Below w.heap.size w w') : w'.ownsRow base e size v n xs := by
  refine h.kept (row := none) ⟨hb.os, hb.tape, hb.output, hb.size, fun i hi _ => hb.block i hi⟩ ?_
  rcases h.2 with ⟨rfl, _⟩ | ⟨g, cap, cur, rfl, _⟩
  · exact .inl rfl
  · exact .inr (by simp [Value.ownBlock])

set_option maxRecDepth 100000 in
theorem own_cap {w : World} {base : Nat} {e : TypeId} {n c : Nat} {A : Option Addr} {xs : List Value} (h : w.ownsRow base e 1 (.slice A n c) n xs) : n ≤ c := by
  rcases h.2 with ⟨h1, h2⟩ | ⟨g, cap, cur, h1, _, _, h2, _⟩
  · omega
  · injection h1 with _ _ h3
    omega

set_option maxRecDepth 100000 in
/-- 'append(v, x...)' at integers: v of the call's own, x whatever reads. -/
theorem run_appI (w : World) (base : Nat) (v : Value) (n : Nat) (xs : List Value) (hown : w.ownsRow base 3 1 v n xs) (B : Nat) (A : Option Addr) (m c : Nat) (zs : List Int) (hr : Rd w B A m (iv zs)) (hm : n + m ≤ 1000000) (hbase : base ≤ w.heap.size) :
    ∃ v' w', (Builtin.append_ #[22, 22] 22 #[v, .slice A m c]).run Tryd.prog w = .ok v' w' ∧ w'.ownsRow base 3 1 v' (n + m) (xs ++ iv zs) ∧ w.grownBy w' v.ownBlock := by
  obtain ⟨i0, hi, hz0, hz1, hz2⟩ := info_parts info_int
  rcases A with _ | ad
  · have hm0 : m = 0 := by
      rcases Nat.eq_zero_or_pos m with h | h
      · exact h
      · obtain ⟨b, off, e, _⟩ := hr.2 h
        cases e
    subst hm0
    have hb : zs = [] := by have := hr.1; rw [iv_length] at this; exact List.eq_nil_of_length_eq_zero this
    subst hb
    have ht := Tryd.underlying22
    refine ⟨v, w, ?_, by simpa [iv] using hown, World.grownBy.refl w _⟩
    rcases hown.2 with ⟨rfl, _⟩ | ⟨g, cap, cur, rfl, _, _, hnc, _⟩
    · simp [Builtin.append_, run_underlying ht, sizeOf, typeInfo, hi, Builtin.lenOf, Builtin.firstCells]
    · simp [Builtin.append_, run_underlying ht, sizeOf, typeInfo, hi, Builtin.lenOf, Builtin.firstCells, hnc, storeCells]
  · have hcells : ∀ j u, (iv zs)[j]? = some u → w.cell? (ad.add j) = some u := by
      intro j u hu
      have hj : j < m := by rw [← hr.1]; exact (List.getElem?_eq_some_iff.1 hu).1
      obtain ⟨b, off, e, _, hc⟩ := hr.2 (by omega)
      injection e with e
      subst e
      rw [Addr.add_lit, hc j hj, hu]
    obtain ⟨v', w', h1, h2, h3, _⟩ := run_append_own (P := Tryd.prog) w base 22 22 3 i0 (.int .i64 0) 1 8 Tryd.underlying22 hi hz0 hz1 hz2 rfl (by decide) v n xs hown ad m c (iv zs) (by rw [hr.1, Nat.mul_one]) hcells (iv_one zs) (by unfold maxLen; omega) (by omega) hbase
    exact ⟨v', w', h1, h2, h3⟩

def TruePost (w : World) (e : Ending) (w' : World) : Prop := e = .returned (.bool true) ∧ Below w.heap.size w w'

set_option maxRecDepth 100000 in
/-- A row of one element type lies in no block of another one. -/
theorem own_apart_of {w : World} {base n b : Nat} {e t : TypeId} {v : Value} {xs : List Value} {cs : Array Value} (hne : e ≠ t) (ho : w.ownsRow base e 1 v n xs) (hw : Whole w b t cs) : v.ownBlock ≠ some b := by
  rcases ho.2 with ⟨rfl, _⟩ | ⟨g, cap, cur, rfl, _, hg, _⟩
  · simp [Value.ownBlock]
  · simp only [Value.ownBlock, ne_eq, Option.some.injEq]
    intro e
    subst e
    unfold Whole at hw
    rw [hw] at hg
    injection hg with hg
    injection hg with _ h _
    exact absurd h.symm hne

set_option maxRecDepth 100000 in
theorem boxed_turn {W W' : World} {B : Nat} {t : TypeId} {v : Value} {row : Option Nat} (h : Boxed W B t v) (hg : W.grownBy W' row) (hr : ∀ r, row = some r → ∃ o : Obj, W.heap[r]? = some o ∧ o.isCells = false) : Boxed W' B t v :=
  h.kept hg fun e => by
    obtain ⟨o, ho, hc⟩ := hr B e.symm
    rw [show W.heap[B]? = _ from h] at ho
    cases ho; cases hc

set_option maxRecDepth 100000 in
theorem own_turn {W W' : World} {base : Nat} {e : TypeId} {size k : Nat} {v : Value} {xs : List Value} {row : Option Nat} (h : W.ownsRow base e size v k xs) (hg : W.grownBy W' row) (hr : ∀ r, row = some r → ∃ o : Obj, W.heap[r]? = some o ∧ o.isCells = false) : W'.ownsRow base e size v k xs := by
  refine h.kept hg ?_
  rcases h.2 with ⟨rfl, _⟩ | ⟨g, cap, cur, rfl, _, hc, _⟩
  · exact .inl rfl
  · right
    intro e
    obtain ⟨o, ho, hcc⟩ := hr g e.symm
    rw [hc] at ho
    cases ho; cases hcc

set_option maxRecDepth 100000 in
theorem Whole.turn {W W' : World} {b : Nat} {t : TypeId} {cs : Array Value} {row : Option Nat} (h : Whole W b t cs) (hg : W.grownBy W' row) (hr : ∀ r, row = some r → ∃ o : Obj, W.heap[r]? = some o ∧ o.isCells = false) : Whole W' b t cs :=
  h.grown hg (fun e => by
    obtain ⟨o, ho, hc⟩ := hr b e.symm
    unfold Whole at h
    rw [h] at ho
    injection ho with ho
    subst ho
    cases hc)
set_option maxRecDepth 100000 in
/-- What leaves all that was there keeps what is no cells. -/
theorem keeps_under {W W' : World} (hb : Below W.heap.size W W') : KeepsOthers W W' :=
  ⟨hb.size, fun i o h _ => by
    have hlt := (Array.getElem?_eq_some_iff.1 h).1
    rw [hb.block i hlt]; exact h⟩

set_option maxRecDepth 100000 in
/-- A store into a block that is older than the row. -/
theorem own_set {w : World} {base : Nat} {e : TypeId} {size n : Nat} {v : Value} {xs : List Value} (h : w.ownsRow base e size v n xs) {b off : Nat} (hb : b < base) (u : Value) : (w.setCell ⟨b, off, none⟩ u).ownsRow base e size v n xs :=
  ownsRow_setCell_other (a := ⟨b, off, none⟩) h (fun e => by have h1 := (h.lt _ e).1; simp at h1; omega) u

end Go.Proofs.YtplejbgecihnpaaDoor

/-
  Groups as they count: their thirteen numbers, whether one skips, their marks; which may be, floors, bounds, rows. Plain: no walk. Conditions: those that each theorem names.
-/
namespace Go.Proofs.YtplejbgecihnpaaDoor
open Go.RowKit Go.Shelf

/-- A group, as it lies: its numbers, Skip, and the slice of its marks with what is read there. -/
structure Cf where
  f0 : Int
  f1 : Int
  f2 : Int
  f3 : Int
  f4 : Int
  f5 : Int
  f6 : Int
  f7 : Int
  f8 : Int
  f9 : Int
  f10 : Int
  f11 : Int
  f12 : Int
  sk : Bool
  A : Option Addr
  n : Nat
  c : Nat
  ms : List Int

abbrev Cf.cells (x : Cf) : Array Value := #[.int .i64 x.f0, .int .i64 x.f1, .int .i64 x.f2, .int .i64 x.f3, .int .i64 x.f4, .int .i64 x.f5, .int .i64 x.f6, .int .i64 x.f7, .int .i64 x.f8, .int .i64 x.f9, .int .i64 x.f10, .int .i64 x.f11, .int .i64 x.f12, .bool x.sk, .slice x.A x.n x.c]
abbrev Cf.v (x : Cf) : Value := .agg #[.int .i64 x.f0, .int .i64 x.f1, .int .i64 x.f2, .int .i64 x.f3, .int .i64 x.f4, .int .i64 x.f5, .int .i64 x.f6, .int .i64 x.f7, .int .i64 x.f8, .int .i64 x.f9, .int .i64 x.f10, .int .i64 x.f11, .int .i64 x.f12, .bool x.sk, .slice x.A x.n x.c]
/-- Its numbers, in the row's order. -/
def Cf.fs (x : Cf) : List Int := [x.f0, x.f1, x.f2, x.f3, x.f4, x.f5, x.f6, x.f7, x.f8, x.f9, x.f10, x.f11, x.f12]
def Cf.at (x : Cf) (k : Nat) : Int := x.fs.getD k 0
/-- From where to where. -/
def loB (k : Nat) : Int := [0, 0, 0, 0, 0, 0, 0, 0, 1, 1, 1, 0, 1].getD k 0
def hiB (k : Nat) : Int := [6, 100, 3, 3, 20, 20, 20, 20, 20, 20, 20, 20, 1099511627776].getD k 0
def fitK (x : Cf) (k : Nat) : Bool := decide (loB k ≤ x.at k) && decide (x.at k ≤ hiB k)
def inB (x : Cf) : Bool := (List.range 13).all (fitK x)
def upB : Int → List Int → Bool
  | _, [] => true
  | last, m :: r => decide (last < m) && decide (m ≤ 100) && upB m r
def fl (x : Cf) : Int := (x.f0 * x.f1 + 99) / 100
def roomB (x : Cf) : Bool := decide (x.f0 = 0) || decide (1 ≤ x.f2 + x.f0 - fl x)
def marksB (l : List Int) : Bool := decide (l.length ≤ 4) && upB 0 l
/-- A group may be. -/
def may (x : Cf) : Bool := inB x && (marksB x.ms && roomB x)
def er (b : Bool) : Int := if b = true then 0 else 70
def floorOf (x : Cf) : Int := if may x = true then fl x else 0
def boundOf (x : Cf) : Int := if may x = true then x.f0 + x.f2 + x.f3 else 0
def skI (b : Bool) : Int := if b = true then 1 else 0
def rowOf (x : Cf) : List Int := x.fs ++ skI x.sk :: x.ms
def sameC (x y : Cf) : Bool := decide (x.fs = y.fs) && (decide (x.sk = y.sk) && decide (x.ms = y.ms))

set_option maxRecDepth 100000 in
theorem Cf.fs_len (x : Cf) : x.fs.length = 13 := rfl
set_option maxRecDepth 100000 in
theorem rowOf_len (x : Cf) : (rowOf x).length = 14 + x.ms.length := by simp [rowOf, Cf.fs]; omega

set_option maxRecDepth 100000 in
theorem inB_iff {x : Cf} : inB x = true ↔ ((0 ≤ x.f0 ∧ x.f0 ≤ 6) ∧ (0 ≤ x.f1 ∧ x.f1 ≤ 100) ∧ (0 ≤ x.f2 ∧ x.f2 ≤ 3) ∧ (0 ≤ x.f3 ∧ x.f3 ≤ 3)) ∧ ((0 ≤ x.f4 ∧ x.f4 ≤ 20) ∧ (0 ≤ x.f5 ∧ x.f5 ≤ 20) ∧ (0 ≤ x.f6 ∧ x.f6 ≤ 20) ∧ (0 ≤ x.f7 ∧ x.f7 ≤ 20)) ∧ ((1 ≤ x.f8 ∧ x.f8 ≤ 20) ∧ (1 ≤ x.f9 ∧ x.f9 ≤ 20) ∧ (1 ≤ x.f10 ∧ x.f10 ≤ 20) ∧ (0 ≤ x.f11 ∧ x.f11 ≤ 20) ∧ (1 ≤ x.f12 ∧ x.f12 ≤ 1099511627776)) := by
  have e : List.range 13 = [0, 1, 2, 3, 4, 5, 6, 7, 8, 9, 10, 11, 12] := rfl
  simp only [inB, e, List.all_cons, List.all_nil, Bool.and_true, Bool.and_eq_true, fitK, decide_eq_true_eq, Cf.at, Cf.fs, loB, hiB, List.getD_cons_zero, List.getD_cons_succ]
  constructor
  · rintro ⟨h0, h1, h2, h3, h4, h5, h6, h7, h8, h9, h10, h11, h12⟩
    exact ⟨⟨h0, h1, h2, h3⟩, ⟨h4, h5, h6, h7⟩, h8, h9, h10, h11, h12⟩
  · rintro ⟨⟨h0, h1, h2, h3⟩, ⟨h4, h5, h6, h7⟩, h8, h9, h10, h11, h12⟩
    exact ⟨h0, h1, h2, h3, h4, h5, h6, h7, h8, h9, h10, h11, h12⟩

set_option maxRecDepth 100000 in
theorem not_inB {x : Cf} {k : Nat} (hk : k < 13) (h : x.at k < loB k ∨ hiB k < x.at k) : may x = false := by
  have h1 : fitK x k = false := by
    rcases h with h | h
    · simp [fitK, show ¬ loB k ≤ x.at k by omega]
    · simp [fitK, show ¬ x.at k ≤ hiB k by omega]
  have h2 : inB x = false := by
    cases hv : inB x with
    | false => rfl
    | true =>
      have := List.all_eq_true.1 hv k (List.mem_range.2 hk)
      rw [h1] at this; cases this
  simp [may, h2]

set_option maxRecDepth 100000 in
/-- What all rounds have found. -/
theorem inB_all {x : Cf} (h : ∀ k, k < 13 → fitK x k = true) : inB x = true := List.all_eq_true.2 fun k hk => h k (List.mem_range.1 hk)

set_option maxRecDepth 100000 in
theorem fl_bd {x : Cf} (h : inB x = true) : 0 ≤ x.f0 * x.f1 ∧ x.f0 * x.f1 ≤ 600 ∧ 0 ≤ fl x ∧ fl x ≤ x.f0 := by
  obtain ⟨⟨⟨a0, a1⟩, ⟨b0, b1⟩, _⟩, _⟩ := inB_iff.1 h
  have h1 : 0 ≤ x.f0 * x.f1 := Int.mul_nonneg a0 b0
  have h2 : x.f0 * x.f1 ≤ x.f0 * 100 := Int.mul_le_mul_of_nonneg_left b1 a0
  unfold fl
  exact ⟨h1, by omega, by omega, by omega⟩

/-- A group told by a row. -/
def ofRow (l : List Int) (A : Option Addr) (n c : Nat) : Cf := ⟨l.getD 0 0, l.getD 1 0, l.getD 2 0, l.getD 3 0, l.getD 4 0, l.getD 5 0, l.getD 6 0, l.getD 7 0, l.getD 8 0, l.getD 9 0, l.getD 10 0, l.getD 11 0, l.getD 12 0, decide (l.getD 13 0 = 1), A, n, c, l.drop 14⟩
def cf0 : Cf := ⟨0, 0, 0, 0, 0, 0, 0, 0, 0, 0, 0, 0, 0, false, none, 0, 0, []⟩
set_option maxRecDepth 100000 in
theorem may_cf0 : may cf0 = false := rfl
/-- A row that may be a group's, by its shape. -/
def shapeB (l : List Int) : Bool := decide (14 ≤ l.length) && (decide (l.getD 13 0 = 0) || decide (l.getD 13 0 = 1))
/-- Of this row a group is told. -/
def isRow (l : List Int) : Bool := shapeB l && may (ofRow l none 0 0)

set_option maxRecDepth 100000 in
theorem may_row (l : List Int) (A A' : Option Addr) (n n' c c' : Nat) : may (ofRow l A n c) = may (ofRow l A' n' c') := rfl

set_option maxRecDepth 100000 in
theorem row_of {l : List Int} {A : Option Addr} {n c : Nat} (h : shapeB l = true) : rowOf (ofRow l A n c) = l := by
  simp only [shapeB, Bool.and_eq_true, decide_eq_true_eq, Bool.or_eq_true] at h
  obtain ⟨h1, h2⟩ := h
  match l, h1 with
  | a0 :: a1 :: a2 :: a3 :: a4 :: a5 :: a6 :: a7 :: a8 :: a9 :: a10 :: a11 :: a12 :: a13 :: r, _ =>
    simp only [List.getD_cons_zero, List.getD_cons_succ] at h2
    have e : skI (decide (a13 = 1)) = a13 := by rcases h2 with rfl | rfl <;> rfl
    simp [rowOf, ofRow, Cf.fs, e]

set_option maxRecDepth 100000 in
theorem of_row (x : Cf) (A : Option Addr) (n c : Nat) : ofRow (rowOf x) A n c = { x with A := A, n := n, c := c } ∧ shapeB (rowOf x) = true := by
  have e : decide (skI x.sk = 1) = x.sk := by cases x.sk <;> rfl
  constructor
  · simp [rowOf, ofRow, Cf.fs, e]
  · simp only [shapeB, Bool.and_eq_true, decide_eq_true_eq, rowOf_len, Bool.or_eq_true]
    refine ⟨by omega, ?_⟩
    simp only [rowOf, Cf.fs, List.cons_append, List.nil_append, List.getD_cons_zero, List.getD_cons_succ]
    cases x.sk <;> simp [skI]

set_option maxRecDepth 100000 in
theorem sameC_iff {x y : Cf} : sameC x y = true ↔ x.fs = y.fs ∧ x.sk = y.sk ∧ x.ms = y.ms := by simp [sameC]
set_option maxRecDepth 100000 in
theorem sameC_row {x y : Cf} : sameC x y = decide (rowOf x = rowOf y) := by
  have h : sameC x y = true ↔ rowOf x = rowOf y := by
    rw [sameC_iff]
    constructor
    · rintro ⟨h1, h2, h3⟩; rw [rowOf, rowOf, h1, h2, h3]
    · intro h
      have h1 := List.append_inj h (by rw [Cf.fs_len, Cf.fs_len])
      injection h1.2 with h2 h3
      refine ⟨h1.1, ?_, h3⟩
      cases hx : x.sk <;> cases hy : y.sk <;> simp [hx, hy, skI] at h2 ⊢
  cases hv : sameC x y with
  | true => simp [h.1 hv]
  | false =>
    have : ¬ rowOf x = rowOf y := fun e => by rw [h.2 e] at hv; cases hv
    simp [this]
set_option maxRecDepth 100000 in
theorem may_same {x y : Cf} (h : sameC x y = true) : may x = may y := by
  obtain ⟨h1, h2, h3⟩ := sameC_iff.1 h
  have ha : ∀ k, x.at k = y.at k := fun k => by unfold Cf.at; rw [h1]
  have e0 : x.f0 = y.f0 := ha 0
  have e1 : x.f1 = y.f1 := ha 1
  have e2 : x.f2 = y.f2 := ha 2
  have hf : fitK x = fitK y := by funext k; unfold fitK; rw [ha k]
  unfold may inB marksB roomB fl
  rw [hf, h3, e0, e1, e2]
set_option maxRecDepth 100000 in
theorem sameC_refl (x : Cf) : sameC x x = true := sameC_iff.2 ⟨rfl, rfl, rfl⟩

/-- Groups as they lie: the slice of marks reads as they are. -/
structure Lies (x : Cf) (w : World) (B : Nat) : Prop where
  rd : Rd w B x.A x.n (iv x.ms)
  cap : x.n ≤ x.c
  max : x.c ≤ maxLen
set_option maxRecDepth 100000 in
theorem Lies.below {x : Cf} {w w' : World} {B : Nat} (h : Lies x w B) (hb : Below B w w') : Lies x w' B := ⟨h.rd.below hb, h.cap, h.max⟩
set_option maxRecDepth 100000 in
theorem Lies.more {x : Cf} {w : World} {B B' : Nat} (h : Lies x w B) (hB : B ≤ B') : Lies x w B' := ⟨h.rd.more hB, h.cap, h.max⟩
set_option maxRecDepth 100000 in
theorem Lies.len {x : Cf} {w : World} {B : Nat} (h : Lies x w B) : x.ms.length = x.n := by have := h.rd.1; rwa [iv_length] at this
set_option maxRecDepth 100000 in
theorem Lies.on {x : Cf} {w w' : World} {B : Nat} (h : Lies x w B) (hB : B ≤ w.heap.size) (hb : Below w.heap.size w w') : Lies x w' B := h.below (hb.mono hB)
set_option maxRecDepth 100000 in
theorem lies_cf0 (w : World) (B : Nat) : Lies cf0 w B := ⟨Rd.nil_ _ _ _, Nat.le_refl _, Nat.zero_le _⟩

/-- The table of bounds lies there, in the first block. -/
def Tab (w : World) : Prop := 0 < w.heap.size ∧ ∀ k, k < 13 → w.cell? ⟨0, k * 2, none⟩ = some (.int .i64 (loB k)) ∧ w.cell? ⟨0, k * 2 + 1, none⟩ = some (.int .i64 (hiB k))
set_option maxRecDepth 100000 in
theorem Tab.under {w w' : World} (h : Tab w) (hb : Below w.heap.size w w') : Tab w' :=
  ⟨Nat.lt_of_lt_of_le h.1 hb.size, fun k hk => ⟨(hb.cell (p := ⟨0, k * 2, none⟩) h.1).trans (h.2 k hk).1, (hb.cell (p := ⟨0, k * 2 + 1, none⟩) h.1).trans (h.2 k hk).2⟩⟩
set_option maxRecDepth 100000 in
theorem Tab.below {w w' : World} {B : Nat} (h : Tab w) (hB : w.heap.size ≤ B) (hb : Below B w w') : Tab w' := h.under (hb.mono hB)

end Go.Proofs.YtplejbgecihnpaaDoor

/-
  An instance that is kept, as plain data.
-/
namespace Go.Proofs.YtplejbgecihnpaaDoor
open Go.RowKit Go.Shelf

structure Kp where
  id : Int
  tok : Int
  ver : Int
  zone : Int
  phase : Int
  since : Int
  guard : Bool
  done : Bool
  deriving DecidableEq

end Go.Proofs.YtplejbgecihnpaaDoor
