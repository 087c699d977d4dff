/-
  Plain facts on numbers' bytes (no program): the digits by 128, what is taken back of bytes, and rows of them. Conditions: those that each theorem names.
-/
namespace Go.Proofs.YtgjipbhhdiacmaaDoor

/-- The bytes of a number. -/
def put (n : Nat) : List Nat := if n < 128 then [n] else (n % 128 + 128) :: put (n / 128)
  termination_by n
  decreasing_by omega

set_option maxRecDepth 100000 in
theorem put_small {n : Nat} (h : n < 128) : put n = [n] := by rw [put, if_pos h]
set_option maxRecDepth 100000 in
theorem put_big {n : Nat} (h : ¬ n < 128) : put n = (n % 128 + 128) :: put (n / 128) := by rw [put, if_neg h]

set_option maxRecDepth 100000 in
theorem put_bytes : ∀ (n x : Nat), x ∈ put n → x < 256 := by
  intro n
  induction n using Nat.strongRecOn with
  | _ n ih =>
    intro x hx
    by_cases h : n < 128
    · rw [put_small h] at hx; simp at hx; omega
    · rw [put_big h] at hx
      simp only [List.mem_cons] at hx
      rcases hx with hx | hx
      · omega
      · exact ih (n / 128) (by omega) x hx

set_option maxRecDepth 100000 in
theorem put_pos : ∀ (n : Nat), 0 < (put n).length := by
  intro n
  by_cases h : n < 128
  · rw [put_small h]; simp
  · rw [put_big h]; simp

set_option maxRecDepth 100000 in
/-- A number of k digits lies below the k-th power. -/
theorem put_lt : ∀ (n : Nat), n < 128 ^ (put n).length := by
  intro n
  induction n using Nat.strongRecOn with
  | _ n ih =>
    by_cases h : n < 128
    · rw [put_small h]; simpa using h
    · rw [put_big h]
      have := ih (n / 128) (by omega)
      simp only [List.length_cons, Nat.pow_succ]
      omega

set_option maxRecDepth 100000 in
theorem put_ge : ∀ (n : Nat), 1 < (put n).length → 128 ^ ((put n).length - 1) ≤ n := by
  intro n
  induction n using Nat.strongRecOn with
  | _ n ih =>
    intro hl
    by_cases h : n < 128
    · rw [put_small h] at hl; simp at hl
    · rw [put_big h] at hl ⊢
      have h0 := ih (n / 128) (by omega)
      have hp := put_pos (n / 128)
      simp only [List.length_cons, Nat.add_sub_cancel] at *
      by_cases h1 : 1 < (put (n / 128)).length
      · have h2 := h0 h1
        obtain ⟨k, hk⟩ : ∃ k, (put (n / 128)).length = k + 1 := ⟨(put (n / 128)).length - 1, by omega⟩
        rw [hk] at h2 ⊢
        simp only [Nat.add_sub_cancel, Nat.pow_succ] at *
        omega
      · have : (put (n / 128)).length = 1 := by omega
        rw [this]; omega

set_option maxRecDepth 100000 in
theorem put_len_le {n k : Nat} (h : n < 128 ^ k) (hk : 0 < k) : (put n).length ≤ k := by
  rcases Nat.lt_or_ge k (put n).length with hlt | hge
  · have h1 := put_ge n (by omega)
    have h2 : 128 ^ k ≤ 128 ^ ((put n).length - 1) := Nat.pow_le_pow_right (by omega) (by omega)
    omega
  · exact hge

set_option maxRecDepth 100000 in
theorem put_six {n : Nat} (h : n ≤ 1099511627776) : (put n).length ≤ 6 := put_len_le (by omega) (by omega)

set_option maxRecDepth 100000 in
theorem put_len_mono {n m : Nat} (h : n ≤ m) : (put n).length ≤ (put m).length :=
  put_len_le (Nat.lt_of_le_of_lt h (put_lt m)) (put_pos m)

set_option maxRecDepth 100000 in
/-- Numbers whose bytes begin one another's are one. -/
theorem put_prefix : ∀ (n m : Nat) (r s : List Nat), put n ++ r = put m ++ s → n = m ∧ r = s := by
  intro n
  induction n using Nat.strongRecOn with
  | _ n ih =>
    intro m r s he
    by_cases h : n < 128
    · by_cases h' : m < 128
      · rw [put_small h, put_small h'] at he
        simpa using he
      · rw [put_small h, put_big h'] at he
        simp at he; omega
    · by_cases h' : m < 128
      · rw [put_big h, put_small h'] at he
        simp at he; omega
      · rw [put_big h, put_big h'] at he
        simp only [List.cons_append, List.cons.injEq] at he
        obtain ⟨h1, h2⟩ := he
        obtain ⟨h3, h4⟩ := ih (n / 128) (by omega) (m / 128) r s h2
        exact ⟨by omega, h4⟩

/-- What comes of taking a number: the number, how many bytes it has, an error's number. -/
def scan (n long : Nat) : List Nat → Nat × Nat × Nat
  | [] => (0, 0, 10)
  | d :: r =>
    if 128 ≤ d ∧ long + 1 < 6 then scan (n + d % 128 * 128 ^ long) (long + 1) r
    else if 128 ≤ d ∨ (d = 0 ∧ 1 < long + 1) ∨ 1099511627776 < n + d % 128 * 128 ^ long then (0, 0, 11)
    else (n + d % 128 * 128 ^ long, long + 1, 0)

def first (bs : List Nat) : Nat × Nat × Nat := scan 0 0 bs

set_option maxRecDepth 100000 in
theorem scan_cases : ∀ (bs : List Nat) (n long : Nat), scan n long bs = (0, 0, 10) ∨ scan n long bs = (0, 0, 11) ∨
    ∃ N K, scan n long bs = (N, K, 0) ∧ N ≤ 1099511627776 ∧ long < K ∧ K ≤ long + bs.length := by
  intro bs
  induction bs with
  | nil => intro n long; left; rfl
  | cons d r ih =>
    intro n long
    simp only [scan]
    split
    · rcases ih (n + d % 128 * 128 ^ long) (long + 1) with h | h | ⟨N, K, h, h1, h2, h3⟩
      · exact .inl h
      · exact .inr (.inl h)
      · exact .inr (.inr ⟨N, K, h, h1, by omega, by simp; omega⟩)
    · split
      · exact .inr (.inl rfl)
      · rename_i _ hn
        exact .inr (.inr ⟨_, _, rfl, by omega, by omega, by simp⟩)

set_option maxRecDepth 100000 in
theorem scan_put : ∀ (m n long : Nat) (rest : List Nat), long + (put m).length ≤ 6 → (0 < m ∨ long = 0) → n + m * 128 ^ long ≤ 1099511627776 →
    scan n long (put m ++ rest) = (n + m * 128 ^ long, long + (put m).length, 0) := by
  intro m
  induction m using Nat.strongRecOn with
  | _ m ih =>
    intro n long rest hl h0 hm
    by_cases h : m < 128
    · rw [put_small h]
      simp only [List.cons_append, List.nil_append, scan, List.length_singleton]
      have hmod : m % 128 = m := Nat.mod_eq_of_lt h
      rw [hmod, if_neg (by omega), if_neg (by omega)]
    · rw [put_big h] at hl ⊢
      have hp := put_pos (m / 128)
      simp only [List.cons_append, List.length_cons] at *
      simp only [scan]
      have e1 : (m % 128 + 128) % 128 = m % 128 := by omega
      have e2 : m * 128 ^ long = m % 128 * 128 ^ long + m / 128 * 128 ^ (long + 1) := by
        have h1 : m = m % 128 + 128 * (m / 128) := by omega
        have h2 : m * 128 ^ long = (m % 128 + 128 * (m / 128)) * 128 ^ long := by rw [← h1]
        rw [h2, Nat.add_mul, Nat.pow_succ]
        congr 1
        rw [Nat.mul_comm 128 (m / 128), Nat.mul_assoc, Nat.mul_comm 128 (128 ^ long)]
      rw [e1, if_pos (by omega), ih (m / 128) (by omega) _ _ _ (by omega) (.inl (by omega)) (by omega)]
      simp only [Prod.mk.injEq]
      exact ⟨by omega, by omega, trivial⟩

set_option maxRecDepth 100000 in
theorem first_put {m : Nat} (h : m ≤ 1099511627776) (rest : List Nat) : first (put m ++ rest) = (m, (put m).length, 0) := by
  have := scan_put m 0 0 rest (by have := put_six h; omega) (.inr rfl) (by omega)
  simpa [first] using this

set_option maxRecDepth 100000 in
/-- What was taken is put as the bytes that were there. -/
theorem scan_only : ∀ (bs : List Nat) (n long N K : Nat), (∀ x ∈ bs, x < 256) → scan n long bs = (N, K, 0) →
    ∃ m, N = n + m * 128 ^ long ∧ bs = put m ++ bs.drop (K - long) ∧ K = long + (put m).length ∧ (0 < m ∨ long = 0) := by
  intro bs
  induction bs with
  | nil => intro n long N K _ h; simp [scan] at h
  | cons d r ih =>
    intro n long N K hb h
    have hd : d < 256 := hb d (by simp)
    simp only [scan] at h
    split at h
    · rename_i hc
      obtain ⟨m, h1, h2, h3, h4⟩ := ih _ _ _ _ (fun x hx => hb x (by simp [hx])) h
      have hm : 0 < m := by omega
      have hp := put_pos m
      refine ⟨d % 128 + 128 * m, ?_, ?_, ?_, .inl (by omega)⟩
      · rw [h1, Nat.add_mul, Nat.pow_succ, ← Nat.add_assoc]
        congr 1
        rw [Nat.mul_comm 128 m, Nat.mul_assoc, Nat.mul_comm 128 (128 ^ long)]
      · rw [put_big (by omega)]
        have e1 : (d % 128 + 128 * m) % 128 + 128 = d := by omega
        have e2 : (d % 128 + 128 * m) / 128 = m := by omega
        have e3 : K - long = (K - (long + 1)) + 1 := by omega
        rw [e1, e2, e3, List.drop_succ_cons, List.cons_append, ← h2]
      · rw [put_big (by omega)]
        have e2 : (d % 128 + 128 * m) / 128 = m := by omega
        rw [e2, List.length_cons]; omega
    · rename_i hc
      split at h
      · simp at h
      · rename_i hn
        simp only [Prod.mk.injEq] at h
        obtain ⟨h1, h2, _⟩ := h
        have hlt : d < 128 := by omega
        have hmod : d % 128 = d := Nat.mod_eq_of_lt hlt
        refine ⟨d, by rw [hmod] at h1; omega, ?_, ?_, by omega⟩
        · rw [put_small hlt]
          have e3 : K - long = 1 := by omega
          rw [e3]; simp
        · rw [put_small hlt]; simp; omega

set_option maxRecDepth 100000 in
theorem first_only {bs : List Nat} {N K : Nat} (hb : ∀ x ∈ bs, x < 256) (h : first bs = (N, K, 0)) : bs = put N ++ bs.drop K ∧ K = (put N).length ∧ N ≤ 1099511627776 := by
  obtain ⟨m, h1, h2, h3, _⟩ := scan_only bs 0 0 N K hb h
  have hN : N = m := by omega
  subst hN
  rcases scan_cases bs 0 0 with hc | hc | ⟨N', K', hc, h4, _⟩
  · unfold first at h; rw [hc] at h; simp at h
  · unfold first at h; rw [hc] at h; simp at h
  · unfold first at h; rw [hc] at h
    simp only [Prod.mk.injEq] at h
    exact ⟨by simpa using h2, by omega, by omega⟩

set_option maxRecDepth 100000 in
/-- A part of the bytes that is cut off at its end is too short. -/
theorem scan_cut : ∀ (m n long k : Nat), long + (put m).length ≤ 6 → k < (put m).length → scan n long ((put m).take k) = (0, 0, 10) := by
  intro m
  induction m using Nat.strongRecOn with
  | _ m ih =>
    intro n long k hl hk
    cases k with
    | zero => simp [scan]
    | succ k =>
      by_cases h : m < 128
      · rw [put_small h] at hk; simp at hk
      · rw [put_big h] at hk hl ⊢
        simp only [List.length_cons] at hk hl
        have hp := put_pos (m / 128)
        simp only [List.take_succ_cons, scan]
        rw [if_pos (by omega)]
        exact ih (m / 128) (by omega) _ _ k (by omega) (by omega)

set_option maxRecDepth 100000 in
theorem first_cut {m k : Nat} (h : m ≤ 1099511627776) (hk : k < (put m).length) : first ((put m).take k) = (0, 0, 10) :=
  scan_cut m 0 0 k (by have := put_six h; omega) hk

/-! ### rows -/

/-- The bytes of a row's numbers, one behind the other. -/
def puts (l : List Nat) : List Nat := l.flatMap put

set_option maxRecDepth 100000 in
theorem puts_snoc (l : List Nat) (n : Nat) : puts (l ++ [n]) = puts l ++ put n := by simp [puts]
set_option maxRecDepth 100000 in
theorem puts_cons (l : List Nat) (n : Nat) : puts (n :: l) = put n ++ puts l := by simp [puts]

/-- What comes of taking k numbers one behind the other: how many bytes they have, the numbers, an error. -/
def takes : Nat → List Nat → Nat × List Nat × Nat
  | 0, _ => (0, [], 0)
  | k + 1, bs =>
    if (first bs).2.2 = 0 then ((first bs).2.1 + (takes k (bs.drop (first bs).2.1)).1, (first bs).1 :: (takes k (bs.drop (first bs).2.1)).2.1, (takes k (bs.drop (first bs).2.1)).2.2)
    else (0, [], (first bs).2.2)

/-- What comes of taking a row: how many bytes it has, the numbers, an error. -/
def takeRow (bs : List Nat) : Nat × List Nat × Nat :=
  if (first bs).2.2 ≠ 0 then (0, [], (first bs).2.2)
  else if 40 < (first bs).1 then (0, [], 11)
  else if (takes (first bs).1 (bs.drop (first bs).2.1)).2.2 ≠ 0 then (0, [], (takes (first bs).1 (bs.drop (first bs).2.1)).2.2)
  else ((first bs).2.1 + (takes (first bs).1 (bs.drop (first bs).2.1)).1, (takes (first bs).1 (bs.drop (first bs).2.1)).2.1, 0)

def row (l : List Nat) : List Nat := put l.length ++ puts l

set_option maxRecDepth 100000 in
theorem first_ok {bs : List Nat} (hb : ∀ x ∈ bs, x < 256) (h : (first bs).2.2 = 0) :
    bs = put (first bs).1 ++ bs.drop (first bs).2.1 ∧ (first bs).2.1 = (put (first bs).1).length ∧ (first bs).1 ≤ 1099511627776 :=
  first_only hb (by rw [← h])

set_option maxRecDepth 100000 in
theorem first_err {bs : List Nat} (h : (first bs).2.2 ≠ 0) : (first bs).1 = 0 ∧ (first bs).2.1 = 0 ∧ ((first bs).2.2 = 10 ∨ (first bs).2.2 = 11) := by
  rcases scan_cases bs 0 0 with hc | hc | ⟨N', K', hc, _⟩
  · unfold first at *; rw [hc] at h ⊢; simp
  · unfold first at *; rw [hc] at h ⊢; simp
  · unfold first at *; rw [hc] at h; simp at h

set_option maxRecDepth 100000 in
theorem takes_puts : ∀ (l : List Nat) (rest : List Nat), (∀ n ∈ l, n ≤ 1099511627776) → takes l.length (puts l ++ rest) = ((puts l).length, l, 0) := by
  intro l
  induction l with
  | nil => intro rest _; rfl
  | cons n l ih =>
    intro rest h
    have hn : n ≤ 1099511627776 := h n (by simp)
    have h0 := ih rest (fun x hx => h x (by simp [hx]))
    rw [puts_cons, List.append_assoc, List.length_cons, takes, first_put hn, if_pos rfl]
    have e : (put n ++ (puts l ++ rest)).drop (put n).length = puts l ++ rest := List.drop_left
    simp only [e, h0, List.length_append]

set_option maxRecDepth 100000 in
theorem takeRow_row {l : List Nat} (hl : l.length ≤ 40) (h : ∀ n ∈ l, n ≤ 1099511627776) (rest : List Nat) : takeRow (row l ++ rest) = ((row l).length, l, 0) := by
  unfold takeRow row
  rw [List.append_assoc, first_put (by omega)]
  have e : (put l.length ++ (puts l ++ rest)).drop (put l.length).length = puts l ++ rest := List.drop_left
  simp only [e, takes_puts l rest h]
  rw [if_neg (by simp), if_neg (by omega), if_neg (by simp), List.length_append]

set_option maxRecDepth 100000 in
theorem takes_only : ∀ (k : Nat) (bs : List Nat), (∀ x ∈ bs, x < 256) → (takes k bs).2.2 = 0 →
    bs = puts (takes k bs).2.1 ++ bs.drop (takes k bs).1 ∧ (takes k bs).1 = (puts (takes k bs).2.1).length ∧ (takes k bs).2.1.length = k ∧ ∀ n ∈ (takes k bs).2.1, n ≤ 1099511627776 := by
  intro k
  induction k with
  | zero => intro bs _ _; simp [takes, puts]
  | succ k ih =>
    intro bs hb h
    simp only [takes] at h ⊢
    by_cases h0 : (first bs).2.2 = 0
    · rw [if_pos h0] at h ⊢
      obtain ⟨h1, h2, h3⟩ := first_ok hb h0
      obtain ⟨h4, h5, h6, h7⟩ := ih (bs.drop (first bs).2.1) (fun x hx => hb x (List.mem_of_mem_drop hx)) h
      simp only at h4 h5 h6 h7 ⊢
      refine ⟨?_, ?_, by simp [h6], ?_⟩
      · rw [puts_cons, List.append_assoc, ← List.drop_drop, ← h4, ← h1]
      · rw [puts_cons, List.length_append, ← h2, ← h5]
      · intro n hn
        simp only [List.mem_cons] at hn
        rcases hn with rfl | hn
        · exact h3
        · exact h7 n hn
    · rw [if_neg h0] at h; exact absurd h h0

set_option maxRecDepth 100000 in
theorem takes_err (k : Nat) : ∀ (bs : List Nat), (takes k bs).2.2 ≠ 0 → (takes k bs).2.2 = 10 ∨ (takes k bs).2.2 = 11 := by
  induction k with
  | zero => intro bs h; simp [takes] at h
  | succ k ih =>
    intro bs h
    simp only [takes] at h ⊢
    by_cases h0 : (first bs).2.2 = 0
    · rw [if_pos h0] at h ⊢; exact ih _ h
    · rw [if_neg h0]; exact (first_err h0).2.2

set_option maxRecDepth 100000 in
theorem takeRow_only {bs : List Nat} (hb : ∀ x ∈ bs, x < 256) (h : (takeRow bs).2.2 = 0) :
    bs = row (takeRow bs).2.1 ++ bs.drop (takeRow bs).1 ∧ (takeRow bs).2.1.length ≤ 40 ∧ (∀ n ∈ (takeRow bs).2.1, n ≤ 1099511627776) ∧ (takeRow bs).1 = (row (takeRow bs).2.1).length := by
  unfold takeRow at h ⊢
  by_cases h0 : (first bs).2.2 = 0
  · rw [if_neg (by simpa using h0)] at h ⊢
    by_cases h1 : 40 < (first bs).1
    · rw [if_pos h1] at h; simp at h
    · rw [if_neg h1] at h ⊢
      by_cases h2 : (takes (first bs).1 (bs.drop (first bs).2.1)).2.2 = 0
      · rw [if_neg (by simpa using h2)]
        obtain ⟨h3, h4, h5⟩ := first_ok hb h0
        obtain ⟨h6, h7, h8, h9⟩ := takes_only _ _ (fun x hx => hb x (List.mem_of_mem_drop hx)) h2
        simp only
        refine ⟨?_, by omega, h9, ?_⟩
        · rw [row, h8, List.append_assoc, ← List.drop_drop, ← h6, ← h3]
        · rw [row, List.length_append, h8, ← h4, ← h7]
      · rw [if_pos h2] at h; exact absurd h h2
  · rw [if_pos h0] at h; exact absurd h h0

set_option maxRecDepth 100000 in
theorem takeRow_err {bs : List Nat} (h : (takeRow bs).2.2 ≠ 0) : (takeRow bs).2.1 = [] ∧ ((takeRow bs).2.2 = 10 ∨ (takeRow bs).2.2 = 11) := by
  unfold takeRow at h ⊢
  by_cases h0 : (first bs).2.2 = 0
  · rw [if_neg (by simpa using h0)] at h ⊢
    by_cases h1 : 40 < (first bs).1
    · rw [if_pos h1]; simp
    · rw [if_neg h1] at h ⊢
      by_cases h2 : (takes (first bs).1 (bs.drop (first bs).2.1)).2.2 = 0
      · rw [if_neg (by simpa using h2)] at h; simp at h
      · rw [if_pos h2]
        exact ⟨rfl, takes_err _ _ h2⟩
  · rw [if_pos h0]
    exact ⟨rfl, (first_err h0).2.2⟩

set_option maxRecDepth 100000 in
theorem takes_cut : ∀ (l : List Nat) (k : Nat), (∀ n ∈ l, n ≤ 1099511627776) → k < (puts l).length → (takes l.length ((puts l).take k)).2.2 = 10 := by
  intro l
  induction l with
  | nil => intro k _ hk; simp [puts] at hk
  | cons n l ih =>
    intro k h hk
    have hn : n ≤ 1099511627776 := h n (by simp)
    rw [puts_cons, List.length_append] at hk
    rw [puts_cons, List.take_append, List.length_cons]
    by_cases h1 : k < (put n).length
    · have e : k - (put n).length = 0 := by omega
      rw [e, List.take_zero, List.append_nil, takes, first_cut hn h1]
      simp
    · rw [List.take_of_length_le (by omega), takes, first_put hn, if_pos rfl]
      have e : (put n ++ List.take (k - (put n).length) (puts l)).drop (put n).length = List.take (k - (put n).length) (puts l) := List.drop_left
      simp only [e]
      exact ih _ (fun x hx => h x (by simp [hx])) (by omega)

set_option maxRecDepth 100000 in
theorem takeRow_cut {l : List Nat} {k : Nat} (hl : l.length ≤ 40) (h : ∀ n ∈ l, n ≤ 1099511627776) (hk : k < (row l).length) : (takeRow ((row l).take k)).2.2 = 10 := by
  unfold row at hk ⊢
  rw [List.length_append] at hk
  rw [List.take_append]
  unfold takeRow
  by_cases h1 : k < (put l.length).length
  · have e : k - (put l.length).length = 0 := by omega
    rw [e, List.take_zero, List.append_nil, first_cut (by omega) h1]
    simp
  · rw [List.take_of_length_le (by omega), first_put (by omega)]
    have e : (put l.length ++ List.take (k - (put l.length).length) (puts l)).drop (put l.length).length = List.take (k - (put l.length).length) (puts l) := List.drop_left
    have h2 := takes_cut l (k - (put l.length).length) h (by omega)
    simp only [e, h2]
    rw [if_neg (by simp), if_neg (by omega), if_pos (by simp)]

end Go.Proofs.YtgjipbhhdiacmaaDoor
