/-
  Whole numbers as floats of 64 bits (no program): sums, differences, products, how they stand to each other, and what they are as integers, are exact. Conditions: those that each theorem names.
-/
import Derived.Laws.ComplexArith
namespace Go.Proofs.Ytpjmmjkgcoongaa
open Ieee

/-- A size with its sign. -/
def sv (s : Bool) (m : Nat) : Int := if s then -(m : Int) else (m : Int)
set_option maxRecDepth 100000 in
theorem sv_not (s : Bool) (m : Nat) : sv (!s) m = -sv s m := by cases s <;> simp [sv]
set_option maxRecDepth 100000 in
theorem sv_xor (s t : Bool) (m n : Nat) : sv (s ^^ t) (m * n) = sv s m * sv t n := by
  cases s <;> cases t <;> simp [sv, Int.natCast_mul, Int.neg_mul, Int.mul_neg]
set_option maxRecDepth 100000 in
theorem signed_sv (s : Bool) (m up : Nat) : signed s m up = sv s m * ((2 ^ up : Nat) : Int) := by
  cases s
  · simp [signed, sv, Nat.shiftLeft_eq]
  · simp [signed, sv, Nat.shiftLeft_eq, Int.neg_mul]

/-- This datum stands for the whole number n (for nought, of either sign). -/
def IsD (d : Datum) (n : Int) : Prop := ∃ (s : Bool) (m k : Nat), d = .number s m (-(k : Int)) ∧ sv s m = n * ((2 ^ k : Nat) : Int)
/-- These bits stand for the whole number n. -/
def IsW (x : Nat) (n : Int) : Prop := IsD (double.read x) n

set_option maxRecDepth 100000 in
theorem d_binade : double.binade = 4503599627370496 := by decide
set_option maxRecDepth 100000 in
theorem d_sign : double.signWeight = 9223372036854775808 := by decide
set_option maxRecDepth 100000 in
theorem d_inf : double.infRung = 2047 * 4503599627370496 := by decide
set_option maxRecDepth 100000 in
theorem d_least : double.leastPlace = -1074 := by decide

set_option maxRecDepth 100000 in
theorem cut_zero (s : Bool) (n : Nat) : Toward.even.cut s n 0 = n := by
  simp [Toward.cut, Nat.mod_one]
set_option maxRecDepth 100000 in
theorem cut_exact (s : Bool) (N d : Nat) (h : d ≤ (N * 2 ^ d).log2 + 2) : Toward.even.cut s (N * 2 ^ d) d = N := by
  have hg : (1 <<< min d ((N * 2 ^ d).log2 + 2)) = 2 ^ d := by rw [Nat.min_eq_left h, Nat.shiftLeft_eq, Nat.one_mul]
  have hp : 0 < 2 ^ d := Nat.two_pow_pos d
  simp only [Toward.cut, hg]
  rw [Nat.mul_div_cancel _ hp, Nat.mul_mod_left]
  have h1 : ¬ (2 ^ d < 2 * 0) := by omega
  have h2 : (2 ^ d == 2 * 0) = false := by simp
  simp

set_option maxRecDepth 100000 in
theorem read_word (s : Bool) (rung : Nat) (h1 : double.binade ≤ rung) (h2 : rung < double.infRung) :
    double.read (double.word s rung) = .number s (double.binade + rung % double.binade) (double.leastPlace + (rung / double.binade - 1 : Nat)) := by
  have hlt : rung < double.signWeight := by rw [d_inf] at h2; rw [d_sign]; omega
  have e1 : double.word s rung % double.signWeight = rung := by
    unfold Format.word
    cases s
    · simp [Nat.mod_eq_of_lt hlt]
    · simp [Nat.mod_eq_of_lt hlt]
  have e2 : (double.word s rung / double.signWeight % 2 == 1) = s := by
    unfold Format.word
    cases s
    · simp [Nat.div_eq_of_lt hlt]
    · have hp : 0 < double.signWeight := by rw [d_sign]; omega
      have : (double.signWeight + rung) / double.signWeight = 1 := by rw [Nat.add_div_left _ hp, Nat.div_eq_of_lt hlt]
      simp [this]
  unfold Format.read
  simp only [e1, e2]
  rw [if_neg (by omega), if_pos h2]
set_option maxRecDepth 100000 in
theorem num_eq (s : Bool) {a b : Nat} {i j : Int} (h : a = b) (h' : i = j) : Datum.number s a i = .number s b j := by rw [h, h']
set_option maxRecDepth 100000 in
theorem rung_ok (e M : Nat) (he : e ≤ 52) (h1 : 4503599627370496 ≤ M) (h2 : M < 9007199254740992) : double.binade ≤ (e + 1022) * 4503599627370496 + M ∧ (e + 1022) * 4503599627370496 + M < double.infRung := by
  rewrite [d_binade, d_inf]
  constructor
  · omega
  · omega
set_option maxRecDepth 100000 in
theorem rung_part (e M : Nat) (h1 : 4503599627370496 ≤ M) (h2 : M < 9007199254740992) : double.binade + ((e + 1022) * 4503599627370496 + M) % double.binade = M := by
  rewrite [d_binade]
  omega
set_option maxRecDepth 100000 in
theorem rung_place (e M d : Nat) (he : e ≤ 52) (hd : 52 - e = d) (h1 : 4503599627370496 ≤ M) (h2 : M < 9007199254740992) : double.leastPlace + ((((e + 1022) * 4503599627370496 + M) / double.binade - 1 : Nat) : Int) = -(d : Int) := by
  rewrite [d_binade, d_least]
  omega
set_option maxRecDepth 100000 in
theorem read_zero (s : Bool) : double.read (double.word s 0) = .number s 0 (-1074) := by
  have hp : 0 < double.signWeight := by rw [d_sign]; omega
  have e1 : double.word s 0 % double.signWeight = 0 := by
    unfold Format.word
    cases s
    · simp
    · simp
  have e2 : (double.word s 0 / double.signWeight % 2 == 1) = s := by
    unfold Format.word
    cases s
    · simp
    · simp [Nat.div_self hp]
  unfold Format.read
  simp only [e1, e2]
  rw [if_pos (by rw [d_binade]; omega), d_least]

set_option maxRecDepth 100000 in
/-- A whole number that is written reads as what it is. -/
theorem near_read (s : Bool) (N k : Nat) (hN : N < 2 ^ 53) : ∃ (m k' : Nat), double.read (double.nearest s (N * 2 ^ k) (-(k : Int))) = .number s m (-(k' : Int)) ∧ m = N * 2 ^ k' := by
  have hpk : 0 < 2 ^ k := Nat.two_pow_pos k
  rcases Nat.eq_zero_or_pos N with h0 | h0
  · subst h0
    obtain ⟨q, hq⟩ : ∃ q : Nat, (1074 : Int) = (q : Int) := ⟨1074, rfl⟩
    refine ⟨0, q, ?_, (Nat.zero_mul _).symm⟩
    unfold Format.nearest
    rw [if_pos (Nat.zero_mul _), read_zero, hq]
  · obtain ⟨e, he⟩ : ∃ e, N.log2 = e := ⟨_, rfl⟩
    have hne : N ≠ 0 := by omega
    have hlo : 2 ^ e ≤ N := by rw [← he]; exact Nat.log2_self_le hne
    have hhi : N < 2 ^ (e + 1) := by rw [← he]; exact Nat.lt_log2_self
    have he52 : e ≤ 52 := by
      rcases Nat.lt_or_ge 52 e with h | h
      · have h1 : 2 ^ 53 ≤ 2 ^ e := Nat.pow_le_pow_right (by omega) (by omega)
        omega
      · exact h
    have hmag : N * 2 ^ k ≠ 0 := by have := Nat.mul_pos h0 hpk; omega
    have hlog : (N * 2 ^ k).log2 = e + k := by
      refine (Nat.log2_eq_iff hmag).2 ⟨?_, ?_⟩
      · rw [Nat.pow_add]; exact Nat.mul_le_mul_right _ hlo
      · rw [show e + k + 1 = e + 1 + k by omega, Nat.pow_add]; exact Nat.mul_lt_mul_of_pos_right hhi hpk
    obtain ⟨d, hd⟩ : ∃ d, 52 - e = d := ⟨_, rfl⟩
    have hlast : max (-(k : Int) + ((N * 2 ^ k).log2 : Int) - (double.fractionBits : Int)) double.leastPlace = (e : Int) - 52 := by
      rw [hlog, d_least, show double.fractionBits = 52 from rfl]
      omega
    have hkept : Toward.even.cut s ((N * 2 ^ k) <<< (-(k : Int) - ((e : Int) - 52)).toNat) (((e : Int) - 52) - -(k : Int)).toNat = N * 2 ^ d := by
      rcases Nat.lt_or_ge d k with h | h
      · have e1 : (-(k : Int) - ((e : Int) - 52)).toNat = 0 := by omega
        have e2 : (((e : Int) - 52) - -(k : Int)).toNat = k - d := by omega
        rw [e1, e2, Nat.shiftLeft_zero]
        have e3 : N * 2 ^ k = N * 2 ^ d * 2 ^ (k - d) := by rw [Nat.mul_assoc, ← Nat.pow_add]; congr 2; omega
        rw [e3]
        refine cut_exact s (N * 2 ^ d) (k - d) ?_
        rw [← e3, hlog]; omega
      · have e1 : (-(k : Int) - ((e : Int) - 52)).toNat = d - k := by omega
        have e2 : (((e : Int) - 52) - -(k : Int)).toNat = 0 := by omega
        rw [e1, e2, cut_zero, Nat.shiftLeft_eq, Nat.mul_assoc, ← Nat.pow_add]
        congr 2; omega
    have hb1 : 4503599627370496 ≤ N * 2 ^ d := by
      have h1 : 2 ^ e * 2 ^ d ≤ N * 2 ^ d := Nat.mul_le_mul_right _ hlo
      rw [← Nat.pow_add, show e + d = 52 by omega] at h1
      exact h1
    have hb2 : N * 2 ^ d < 9007199254740992 := by
      have h1 : N * 2 ^ d < 2 ^ (e + 1) * 2 ^ d := Nat.mul_lt_mul_of_pos_right hhi (Nat.two_pow_pos d)
      rw [← Nat.pow_add, show e + 1 + d = 53 by omega] at h1
      exact h1
    obtain ⟨M, hM⟩ : ∃ M, N * 2 ^ d = M := ⟨_, rfl⟩
    rw [hM] at hb1 hb2 hkept
    have hrung : (((e : Int) - 52) - double.leastPlace).toNat * double.binade + M = (e + 1022) * 4503599627370496 + M := by
      have h9 : (((e : Int) - 52) - double.leastPlace).toNat = e + 1022 := by rw [d_least]; omega
      rw [h9, d_binade]
    have hmin : min ((e + 1022) * 4503599627370496 + M) double.infRung = (e + 1022) * 4503599627370496 + M := by
      have h9 := d_inf
      exact Nat.min_eq_left (by omega)
    refine ⟨M, d, ?_, hM.symm⟩
    unfold Format.nearest
    rw [if_neg hmag]
    simp only [hlast, hkept, hrung, hmin]
    obtain ⟨hge, hlt⟩ := rung_ok e M he52 hb1 hb2
    refine (read_word s _ hge hlt).trans (num_eq s (rung_part e M hb1 hb2) (rung_place e M d he52 hd hb1 hb2))

set_option maxRecDepth 100000 in
theorem isW_write {s : Bool} {M : Nat} {i : Int} {n : Int} (hi : i ≤ 0) (hv : sv s M = n * ((2 ^ (-i).toNat : Nat) : Int)) (hn : n.natAbs < 2 ^ 53) : IsW (double.write (.number s M i)) n := by
  obtain ⟨k, hk⟩ : ∃ k, (-i).toNat = k := ⟨_, rfl⟩
  have hik : i = -(k : Int) := by omega
  rw [hk] at hv
  have hp : (0 : Int) < ((2 ^ k : Nat) : Int) := by have := Nat.two_pow_pos k; omega
  have hM : M = n.natAbs * 2 ^ k := by
    have h1 : (M : Int).natAbs = (n * ((2 ^ k : Nat) : Int)).natAbs := by
      rw [← hv]; cases s <;> simp [sv]
    rw [Int.natAbs_mul] at h1
    simpa using h1
  rw [hik, hM]
  obtain ⟨m, k', h1, h2⟩ := near_read s n.natAbs k hn
  refine ⟨s, m, k', h1, ?_⟩
  rw [h2]
  have hpull : ∀ j : Nat, sv s (n.natAbs * j) = sv s n.natAbs * (j : Int) := by
    intro j; cases s <;> simp [sv, Int.natCast_mul, Int.neg_mul]
  have hsg : sv s n.natAbs = n := by
    rw [hM, hpull] at hv
    exact Int.eq_of_mul_eq_mul_right (by omega) hv
  rw [hpull, hsg]

set_option maxRecDepth 100000 in
/-- float64(n). -/
theorem isW_of_int (n : Int) (hn : n.natAbs < 2 ^ 53) : IsW (floatOfInt .f64 n) n := by
  refine isW_write (s := decide (n < 0)) (M := n.natAbs) (i := 0) (by omega) ?_ hn
  by_cases h : n < 0
  · simp [h, sv]; omega
  · simp [h, sv]; omega

set_option maxRecDepth 100000 in
theorem pow_up {k K : Nat} (h : k ≤ K) (a : Int) : a * ((2 ^ k : Nat) : Int) * ((2 ^ (K - k) : Nat) : Int) = a * ((2 ^ K : Nat) : Int) := by
  rw [Int.mul_assoc, ← Int.natCast_mul, ← Nat.pow_add, show k + (K - k) = K by omega]

set_option maxRecDepth 100000 in
theorem isD_not {d : Datum} {a : Int} (h : IsD d a) : IsD d.opposite (-a) := by
  obtain ⟨s, m, k, rfl, hv⟩ := h
  exact ⟨!s, m, k, rfl, by rw [sv_not, hv, Int.neg_mul]⟩

set_option maxRecDepth 100000 in
theorem isD_sum {x y : Datum} {a b : Int} (hx : IsD x a) (hy : IsD y b) (hn : (a + b).natAbs < 2 ^ 53) : ∃ r, (x.sum y).map double.write = some r ∧ IsW r (a + b) := by
  obtain ⟨s, m, k, rfl, hv⟩ := hx
  obtain ⟨t, n, l, rfl, hu⟩ := hy
  obtain ⟨K, hK⟩ : ∃ K, max k l = K := ⟨_, rfl⟩
  have hb : min (-(k : Int)) (-(l : Int)) = -(K : Int) := by omega
  have e1 : (-(k : Int) - -(K : Int)).toNat = K - k := by omega
  have e2 : (-(l : Int) - -(K : Int)).toNat = K - l := by omega
  refine ⟨_, rfl, ?_⟩
  have htot : signed s m (-(k : Int) - min (-(k : Int)) (-(l : Int))).toNat + signed t n (-(l : Int) - min (-(k : Int)) (-(l : Int))).toNat = (a + b) * ((2 ^ K : Nat) : Int) := by
    rw [hb, e1, e2, signed_sv, signed_sv, hv, hu, pow_up (by omega), pow_up (by omega), Int.add_mul]
  obtain ⟨T, hT⟩ : ∃ T, signed s m (-(k : Int) - min (-(k : Int)) (-(l : Int))).toNat + signed t n (-(l : Int) - min (-(k : Int)) (-(l : Int))).toNat = T := ⟨_, rfl⟩
  simp only [hT]
  rw [hT] at htot
  rw [hb]
  refine isW_write (by omega) ?_ hn
  rw [show (- -(K : Int)).toNat = K by omega, ← htot]
  by_cases h0 : T = 0
  · subst h0; cases s <;> cases t <;> simp [sv]
  · by_cases h1 : T < 0
    · simp [h0, h1, sv]; omega
    · simp [h0, h1, sv]; omega

set_option maxRecDepth 100000 in
theorem isW_add {x y : Nat} {a b : Int} (hx : IsW x a) (hy : IsW y b) (hn : (a + b).natAbs < 2 ^ 53) : ∃ r, double.add x y = some r ∧ IsW r (a + b) := isD_sum hx hy hn
set_option maxRecDepth 100000 in
theorem isW_sub {x y : Nat} {a b : Int} (hx : IsW x a) (hy : IsW y b) (hn : (a - b).natAbs < 2 ^ 53) : ∃ r, double.sub x y = some r ∧ IsW r (a - b) := by
  rw [Int.sub_eq_add_neg] at hn ⊢
  exact isD_sum hx (isD_not hy) hn
set_option maxRecDepth 100000 in
theorem isW_mul {x y : Nat} {a b : Int} (hx : IsW x a) (hy : IsW y b) (hn : (a * b).natAbs < 2 ^ 53) : ∃ r, double.mul x y = some r ∧ IsW r (a * b) := by
  obtain ⟨s, m, k, hx, hv⟩ := hx
  obtain ⟨t, n, l, hy, hu⟩ := hy
  refine ⟨double.write (.number (s ^^ t) (m * n) (-(k : Int) + -(l : Int))), ?_, ?_⟩
  · unfold Format.mul
    rw [hx, hy]; rfl
  · refine isW_write (by omega) ?_ hn
    rw [show (-(-(k : Int) + -(l : Int))).toNat = k + l by omega, sv_xor, hv, hu, Nat.pow_add, Int.natCast_mul]
    simp only [Int.mul_assoc, Int.mul_left_comm]

set_option maxRecDepth 100000 in
/-- How they stand to each other. -/
theorem isW_order {x y : Nat} {a b : Int} (hx : IsW x a) (hy : IsW y b) : double.order x y = some (compare a b) := by
  obtain ⟨s, m, k, hx, hv⟩ := hx
  obtain ⟨t, n, l, hy, hu⟩ := hy
  obtain ⟨K, hK⟩ : ∃ K, max k l = K := ⟨_, rfl⟩
  have hb : min (-(k : Int)) (-(l : Int)) = -(K : Int) := by omega
  have e1 : (-(k : Int) - -(K : Int)).toNat = K - k := by omega
  have e2 : (-(l : Int) - -(K : Int)).toNat = K - l := by omega
  have hp : (0 : Int) < ((2 ^ K : Nat) : Int) := by have := Nat.two_pow_pos K; omega
  unfold Format.order
  rw [hx, hy]
  show some (compare (signed s m (-(k : Int) - min (-(k : Int)) (-(l : Int))).toNat) (signed t n (-(l : Int) - min (-(k : Int)) (-(l : Int))).toNat)) = _
  rw [hb, e1, e2, signed_sv, signed_sv, hv, hu, pow_up (by omega), pow_up (by omega)]
  congr 1
  obtain ⟨Q, hQ⟩ : ∃ Q, ((2 ^ K : Nat) : Int) = Q := ⟨_, rfl⟩
  rw [hQ] at hp ⊢
  rcases Int.lt_trichotomy a b with h | h | h
  · have h1 := Int.mul_lt_mul_of_pos_right h hp
    simp only [compare, compareOfLessAndEq, if_pos h, if_pos h1]
  · subst h
    simp [compare, compareOfLessAndEq]
  · have h1 := Int.mul_lt_mul_of_pos_right h hp
    simp only [compare, compareOfLessAndEq]
    rw [if_neg (by omega), if_neg (by omega), if_neg (by omega), if_neg (by omega)]

set_option maxRecDepth 100000 in
/-- What they are as integers. -/
theorem isW_toInt {x : Nat} {a : Int} (hx : IsW x a) : (double.read x).toInt .zero = some a := by
  obtain ⟨s, m, k, hx, hv⟩ := hx
  rw [hx]
  have hpk : 0 < 2 ^ k := Nat.two_pow_pos k
  have hm : m = a.natAbs * 2 ^ k := by
    have h1 : (sv s m).natAbs = (a * ((2 ^ k : Nat) : Int)).natAbs := by rw [hv]
    rw [Int.natAbs_mul] at h1
    have h2 : (sv s m).natAbs = m := by cases s <;> simp [sv]
    rw [h2] at h1
    simpa using h1
  have hcut : Toward.zero.cut s (m <<< (-(k : Int)).toNat) (- -(k : Int)).toNat = a.natAbs := by
    rw [show (-(k : Int)).toNat = 0 by omega, show (- -(k : Int)).toNat = k by omega, Nat.shiftLeft_zero, hm]
    rcases Nat.eq_zero_or_pos a.natAbs with h0 | h0
    · rw [h0, Nat.zero_mul]
      simp [Toward.cut]
    · have hne : a.natAbs * 2 ^ k ≠ 0 := by have := Nat.mul_pos h0 hpk; omega
      have hlog : k ≤ (a.natAbs * 2 ^ k).log2 := by
        refine (Nat.le_log2 hne).2 ?_
        exact Nat.le_mul_of_pos_left _ h0
      have hg : (1 <<< min k ((a.natAbs * 2 ^ k).log2 + 2)) = 2 ^ k := by rw [Nat.min_eq_left (by omega), Nat.shiftLeft_eq, Nat.one_mul]
      simp only [Toward.cut, hg]
      rw [Nat.mul_div_cancel _ hpk]
      simp
  show some (signed s (Toward.zero.cut s (m <<< (-(k : Int)).toNat) (- -(k : Int)).toNat) 0) = _
  rw [hcut, signed_sv]
  have hpull : sv s (a.natAbs * 2 ^ k) = sv s a.natAbs * ((2 ^ k : Nat) : Int) := by
    cases s <;> simp [sv, Int.natCast_mul, Int.neg_mul]
  rw [hm, hpull] at hv
  have h3 : sv s a.natAbs = a := Int.eq_of_mul_eq_mul_right (by omega) hv
  rw [h3]
  simp

set_option maxRecDepth 100000 in
theorem isW_int {x : Nat} {a : Int} {k : IntKind} (hx : IsW x a) (h1 : k.min ≤ a) (h2 : a ≤ k.max) : floatToIntVal .f64 x k = some a := by
  unfold floatToIntVal
  have h : (FloatKind.f64.decode x).toInt .zero = some a := isW_toInt hx
  rw [h]
  have h3 : k.min ≤ a ∧ a ≤ k.max := ⟨h1, h2⟩
  simp only [h3, and_self, if_true]

set_option maxRecDepth 100000 in
/-- The sign's bit turned. -/
theorem read_turn (x : Nat) : double.read (Op.negFloat .f64 x) = (double.read x).opposite := by
  have hS : double.signWeight = 2 ^ 63 := by decide
  have e0 : Op.negFloat .f64 x = x ^^^ 2 ^ 63 := rfl
  have e1 : (x ^^^ 2 ^ 63) % 2 ^ 63 = x % 2 ^ 63 := by
    rw [Nat.xor_mod_two_pow]; simp
  have e2 : (x ^^^ 2 ^ 63) / 2 ^ 63 = (x / 2 ^ 63) ^^^ 1 := by
    rw [Nat.xor_div_two_pow]
  have e3 : (((x / 2 ^ 63) ^^^ 1) % 2 == 1) = !(x / 2 ^ 63 % 2 == 1) := by
    have h : ((x / 2 ^ 63) ^^^ 1) % 2 = (x / 2 ^ 63 % 2) ^^^ 1 := by
      have h9 := Nat.xor_mod_two_pow (a := x / 2 ^ 63) (b := 1) (n := 1)
      simpa using h9
    rw [h]
    rcases Nat.mod_two_eq_zero_or_one (x / 2 ^ 63) with h | h <;> rw [h] <;> rfl
  rw [e0]
  unfold Format.read
  simp only [hS, e1, e2, e3]
  split
  · rfl
  · split
    · rfl
    · split <;> rfl
set_option maxRecDepth 100000 in
theorem isW_turn {x : Nat} {a : Int} (hx : IsW x a) : IsW (Op.negFloat .f64 x) (-a) := by
  show IsD (double.read (Op.negFloat .f64 x)) (-a)
  rw [read_turn]
  exact isD_not hx
set_option maxRecDepth 100000 in
theorem isW_eq {x y : Nat} {a b : Int} (hx : IsW x a) (hy : IsW y b) : Op.floatEq .f64 x y = decide (a = b) := by
  have h : double.order x y = some (compare a b) := isW_order hx hy
  show (double.order x y == some .eq) = _
  rw [h]
  by_cases hab : a = b
  · subst hab; simp [compare, compareOfLessAndEq]
  · rcases Int.lt_trichotomy a b with h1 | h1 | h1
    · simp [compare, compareOfLessAndEq, h1, hab]
    · exact absurd h1 hab
    · have h2 : ¬ a < b := by omega
      simp [compare, compareOfLessAndEq, h2, hab]

set_option maxRecDepth 100000 in
/-- One word stands for one whole number. -/
theorem isW_one {x : Nat} {a b : Int} (ha : IsW x a) (hb : IsW x b) : a = b := by
  have h1 := isW_toInt ha
  have h2 := isW_toInt hb
  rw [h1] at h2
  exact Option.some.inj h2

set_option maxRecDepth 100000 in
/-- A number of a place above nought has all its digits. -/
theorem read_high {x : Nat} {s : Bool} {m : Nat} {i : Int} (h : double.read x = .number s m i) (hi : 0 < i) : 4503599627370496 ≤ m := by
  unfold Format.read at h
  simp only at h
  split at h
  · cases h
    rw [d_least] at hi; omega
  · split at h
    · cases h
      rewrite [d_binade]
      exact Nat.le_add_right _ _
    · split at h <;> cases h

set_option maxRecDepth 100000 in
/-- What is alike to a whole number is that number. -/
theorem isW_of_eq {x y : Nat} {n : Int} (hn : n.natAbs < 4503599627370496) (hy : IsW y n) (h : double.order x y = some .eq) : IsW x n := by
  obtain ⟨t, m', l, hy, hu⟩ := hy
  unfold Format.order at h
  rw [hy] at h
  show IsD (double.read x) n
  cases hx : double.read x with
  | nan a b => rw [hx] at h; cases h
  | infinity a => rw [hx] at h; cases a <;> cases h
  | number s m i =>
    rw [hx] at h
    have h1 : compare (signed s m (i - min i (-(l : Int))).toNat) (signed t m' (-(l : Int) - min i (-(l : Int))).toNat) = .eq := Option.some.inj h
    have h2 : signed s m (i - min i (-(l : Int))).toNat = signed t m' (-(l : Int) - min i (-(l : Int))).toNat := by
      simp only [compare, compareOfLessAndEq] at h1
      split at h1
      · cases h1
      · split at h1
        · assumption
        · cases h1
    rw [signed_sv, signed_sv, hu] at h2
    rcases Int.lt_or_le 0 i with hi | hi
    · exfalso
      have hm := read_high hx hi
      obtain ⟨q, hq⟩ : ∃ q : Nat, i = (q : Int) + 1 := ⟨(i - 1).toNat, by omega⟩
      have hb : min i (-(l : Int)) = -(l : Int) := by omega
      have e1 : (i - -(l : Int)).toNat = q + 1 + l := by omega
      have e2 : (-(l : Int) - -(l : Int)).toNat = 0 := by omega
      rw [hb, e1, e2] at h2
      have h3 : sv s m * ((2 ^ (q + 1) : Nat) : Int) * ((2 ^ l : Nat) : Int) = n * ((2 ^ l : Nat) : Int) := by
        rw [Int.mul_assoc, ← Int.natCast_mul, ← Nat.pow_add, h2]; simp
      have hp : (0 : Int) < ((2 ^ l : Nat) : Int) := by have := Nat.two_pow_pos l; omega
      have h4 := Int.eq_of_mul_eq_mul_right (by omega) h3
      have h5 : n.natAbs = m * 2 ^ (q + 1) := by
        rw [← h4, Int.natAbs_mul]
        have h6 : (sv s m).natAbs = m := by cases s <;> simp [sv]
        rw [h6]; simp
      have h7 : m ≤ m * 2 ^ (q + 1) := Nat.le_mul_of_pos_right _ (Nat.two_pow_pos _)
      omega
    · obtain ⟨k, hk⟩ : ∃ k : Nat, i = -(k : Int) := ⟨(-i).toNat, by omega⟩
      obtain ⟨K, hK⟩ : ∃ K, max k l = K := ⟨_, rfl⟩
      have hb : min i (-(l : Int)) = -(K : Int) := by omega
      have e1 : (i - -(K : Int)).toNat = K - k := by omega
      have e2 : (-(l : Int) - -(K : Int)).toNat = K - l := by omega
      rw [hb, e1, e2, pow_up (by omega)] at h2
      refine ⟨s, m, k, by rw [hk], ?_⟩
      have hp : (0 : Int) < ((2 ^ (K - k) : Nat) : Int) := by have := Nat.two_pow_pos (K - k); omega
      refine Int.eq_of_mul_eq_mul_right (by omega) (h2.trans ?_)
      rw [pow_up (by omega)]

set_option maxRecDepth 100000 in
/-- Numbers of some thousand millions at most. -/
theorem small_mul {a b : Int} (ha : a.natAbs ≤ 2 ^ 25) (hb : b.natAbs ≤ 2 ^ 25) : (a * b).natAbs ≤ 2 ^ 50 := by
  rw [Int.natAbs_mul]
  have h : a.natAbs * b.natAbs ≤ 2 ^ 25 * 2 ^ 25 := Nat.mul_le_mul ha hb
  rw [← Nat.pow_add] at h
  exact h
section
variable {P : Program} (w : World)
set_option maxRecDepth 100000 in
theorem run_cmulW (t : TypeId) {a b c d : Nat} {p q u v : Int} (ha : IsW a p) (hb : IsW b q) (hc : IsW c u) (hd : IsW d v) (hp : p.natAbs ≤ 2 ^ 25) (hq : q.natAbs ≤ 2 ^ 25) (hu : u.natAbs ≤ 2 ^ 25) (hv : v.natAbs ≤ 2 ^ 25) :
    ∃ re im, (binOp .mul t (.complex .f64 a b) (.complex .f64 c d)).run P w = .ok (.complex .f64 re im) w ∧ IsW re (p * u - q * v) ∧ IsW im (p * v + q * u) := by
  have k1 := small_mul hp hu
  have k2 := small_mul hq hv
  have k3 := small_mul hp hv
  have k4 := small_mul hq hu
  obtain ⟨ac, h1, i1⟩ := isW_mul ha hc (by omega)
  obtain ⟨bd, h2, i2⟩ := isW_mul hb hd (by omega)
  obtain ⟨re, h3, i3⟩ := isW_sub i1 i2 (by omega)
  obtain ⟨ad, h4, i4⟩ := isW_mul ha hd (by omega)
  obtain ⟨bc, h5, i5⟩ := isW_mul hb hc (by omega)
  obtain ⟨im, h6, i6⟩ := isW_add i4 i5 (by omega)
  refine ⟨re, im, run_complex_mul w t a b c d re im ?_, i3, i6⟩
  have g1 : floatBits .mul .f64 a c = some ac := h1
  have g2 : floatBits .mul .f64 b d = some bd := h2
  have g3 : floatBits .sub .f64 ac bd = some re := h3
  have g4 : floatBits .mul .f64 a d = some ad := h4
  have g5 : floatBits .mul .f64 b c = some bc := h5
  have g6 : floatBits .add .f64 ad bc = some im := h6
  unfold cMulBits
  simp only [g1, g2, g3, g4, g5, g6, Option.bind_some]
set_option maxRecDepth 100000 in
theorem run_caddW (t : TypeId) {a b c d : Nat} {p q u v : Int} (ha : IsW a p) (hb : IsW b q) (hc : IsW c u) (hd : IsW d v) (h1 : (p + u).natAbs < 2 ^ 53) (h2 : (q + v).natAbs < 2 ^ 53) :
    ∃ re im, (binOp .add t (.complex .f64 a b) (.complex .f64 c d)).run P w = .ok (.complex .f64 re im) w ∧ IsW re (p + u) ∧ IsW im (q + v) := by
  obtain ⟨re, h1, i1⟩ := isW_add ha hc h1
  obtain ⟨im, h2, i2⟩ := isW_add hb hd h2
  refine ⟨re, im, run_complex_sum w .add (Or.inl rfl) t .f64 a b c d re im ?_, i1, i2⟩
  have g1 : floatBits .add .f64 a c = some re := h1
  have g2 : floatBits .add .f64 b d = some im := h2
  unfold cSumBits
  simp only [g1, g2, Option.bind_some]
end

end Go.Proofs.Ytpjmmjkgcoongaa
