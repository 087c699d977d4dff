/-
  What is on its way, as plain data: places, what is sent, taken, sent twice. Conditions: those that each theorem names.
-/
import Derived.Test.YtcbbjloojngoiaaAkRow
import Derived.Test.YtcbbjloojngoiaaSnMath
namespace Go.Proofs.Ytcbbjloojngoiaa
open Go.RowKit Go.Shelf

/-- What is told. -/
structure Tl where
  call : Int
  kind : Int
  code : Int
  id : Int
  seen : List Sn
  more : Bool
  deriving DecidableEq
/-- What is on its way. -/
structure Nt where
  ks : List Ak
  ts : List Tl
  deriving DecidableEq

/-- A place of a row of n: its rest, never below 0. -/
def placeN (at_ : Int) (n : Nat) : Nat := (at_ % (n : Int)).toNat
set_option maxRecDepth 100000 in
theorem placeN_lt {n : Nat} (h : 0 < n) (at_ : Int) : placeN at_ n < n := by
  have h1 := Int.emod_nonneg at_ (show (n : Int) ≠ 0 by omega)
  have h2 := Int.emod_lt_of_pos at_ (show (0 : Int) < n by omega)
  unfold placeN
  omega
set_option maxRecDepth 100000 in
theorem placeN_last {n : Nat} (h : 0 < n) : placeN (-1) n = n - 1 := by
  unfold placeN
  have e : (-1 : Int) % (n : Int) = (n : Int) - 1 := by
    rw [show (-1 : Int) = ((n : Int) - 1) + (n : Int) * (-1) by omega, Int.add_mul_emod_self_left, Int.emod_eq_of_lt (by omega) (by omega)]
  rw [e]
  omega
set_option maxRecDepth 100000 in
theorem placeN_zero (n : Nat) : placeN 0 n = 0 := by simp [placeN]
set_option maxRecDepth 100000 in
theorem tmod_bounds {n : Nat} (h : 0 < n) (at_ : Int) : -(n : Int) < at_.tmod n ∧ at_.tmod n < n := by
  have h1 := Int.tmod_lt_of_pos at_ (show (0 : Int) < n by omega)
  have h2 := Int.tmod_lt_of_pos (-at_) (show (0 : Int) < n by omega)
  rw [Int.neg_tmod] at h2
  exact ⟨by omega, h1⟩
set_option maxRecDepth 100000 in
/-- As Go's remainders tell it: (at % n + n) % n. -/
theorem placeN_twice {n : Nat} (h : 0 < n) (at_ : Int) : (at_.tmod n + n).tmod n = (placeN at_ n : Int) := by
  obtain ⟨h1, h2⟩ := tmod_bounds h at_
  have hnn := Int.emod_nonneg at_ (show (n : Int) ≠ 0 by omega)
  rw [Int.tmod_eq_emod_of_nonneg (by omega)]
  have e : (at_.tmod n + n) % (n : Int) = at_ % (n : Int) := by
    rw [Int.add_emod_right]
    have := Int.tmod_add_mul_tdiv at_ n
    conv => rhs; rw [← this]
    rw [Int.add_mul_emod_self_left]
  rw [e, placeN]
  omega
set_option maxRecDepth 100000 in
/-- at %= n; if at < 0 { at += n }. -/
theorem placeN_neg {n : Nat} (h : 0 < n) (at_ : Int) (hn : at_.tmod n < 0) : at_.tmod n + n = (placeN at_ n : Int) := by
  obtain ⟨h1, h2⟩ := tmod_bounds h at_
  rw [← placeN_twice h, Int.tmod_eq_emod_of_nonneg (a := at_.tmod n + n) (by omega), Int.emod_eq_of_lt (by omega) (by omega)]
set_option maxRecDepth 100000 in
theorem placeN_pos {n : Nat} (h : 0 < n) (at_ : Int) (hn : 0 ≤ at_.tmod n) : at_.tmod n = (placeN at_ n : Int) := by
  obtain ⟨h1, h2⟩ := tmod_bounds h at_
  rw [← placeN_twice h, Int.tmod_eq_emod_of_nonneg (a := at_.tmod n + n) (by omega), Int.add_emod_right, Int.emod_eq_of_lt hn h2]

def sendN (s : Nt) (a : Ak) : Nt := if 60 ≤ s.ks.length then s else ⟨s.ks ++ [a], s.ts⟩
def postN (s : Nt) (t : Tl) : Nt := if 60 ≤ s.ts.length then s else ⟨s.ks, s.ts ++ [t]⟩
/-- The error of a row of n. -/
def fullE (n : Nat) : Int := if 60 ≤ n then 110 else 0
def askN (s : Nt) (at_ : Int) : Nt := ⟨s.ks.eraseIdx (placeN at_ s.ks.length), s.ts⟩
def askA (s : Nt) (at_ : Int) : Option Ak := s.ks[placeN at_ s.ks.length]?
def tellN (s : Nt) (at_ : Int) : Nt := ⟨s.ks, s.ts.eraseIdx (placeN at_ s.ts.length)⟩
def tellT (s : Nt) (at_ : Int) : Option Tl := s.ts[placeN at_ s.ts.length]?
def twiceN (s : Nt) (at_ : Int) (tells : Bool) : Nt :=
  if tells then (match tellT s at_ with | some t => postN s t | none => s) else (match askA s at_ with | some a => sendN s a | none => s)
def twiceE (s : Nt) (tells : Bool) : Int := if tells then fullE s.ts.length else fullE s.ks.length

set_option maxRecDepth 100000 in
theorem askA_nil {s : Nt} (h : s.ks = []) (at_ : Int) : askA s at_ = none := by simp [askA, h]
set_option maxRecDepth 100000 in
theorem askN_nil {s : Nt} (h : s.ks = []) (at_ : Int) : askN s at_ = s := by cases s; simp only at h; subst h; rfl
set_option maxRecDepth 100000 in
theorem tellT_nil {s : Nt} (h : s.ts = []) (at_ : Int) : tellT s at_ = none := by simp [tellT, h]
set_option maxRecDepth 100000 in
theorem tellN_nil {s : Nt} (h : s.ts = []) (at_ : Int) : tellN s at_ = s := by cases s; simp only at h; subst h; rfl
set_option maxRecDepth 100000 in
theorem askA_some {s : Nt} (h : 0 < s.ks.length) (at_ : Int) : ∃ a, askA s at_ = some a := ⟨_, List.getElem?_eq_getElem (placeN_lt h at_)⟩
set_option maxRecDepth 100000 in
theorem tellT_some {s : Nt} (h : 0 < s.ts.length) (at_ : Int) : ∃ t, tellT s at_ = some t := ⟨_, List.getElem?_eq_getElem (placeN_lt h at_)⟩
set_option maxRecDepth 100000 in
theorem eraseIdx_last {α : Type} (l : List α) (a : α) : (l ++ [a]).eraseIdx l.length = l := by
  rw [List.eraseIdx_append_of_length_le (Nat.le_refl _), Nat.sub_self]
  simp
set_option maxRecDepth 100000 in
/-- What was sent last is at place -1. -/
theorem ask_last (l : List Ak) (a : Ak) (ts : List Tl) : askA ⟨l ++ [a], ts⟩ (-1) = some a ∧ askN ⟨l ++ [a], ts⟩ (-1) = ⟨l, ts⟩ := by
  have e : placeN (-1) (l ++ [a]).length = l.length := by rw [placeN_last (by simp)]; simp
  exact ⟨by rw [askA, e]; simp, by rw [askN, e, eraseIdx_last]⟩
set_option maxRecDepth 100000 in
theorem tell_last (l : List Tl) (t : Tl) (ks : List Ak) : tellT ⟨ks, l ++ [t]⟩ (-1) = some t ∧ tellN ⟨ks, l ++ [t]⟩ (-1) = ⟨ks, l⟩ := by
  have e : placeN (-1) (l ++ [t]).length = l.length := by rw [placeN_last (by simp)]; simp
  exact ⟨by rw [tellT, e]; simp, by rw [tellN, e, eraseIdx_last]⟩
set_option maxRecDepth 100000 in
/-- As the code lays it: what stands ahead of it, what stands behind it. -/
theorem eraseIdx_two {α : Type} (l : List α) (k : Nat) : l.take k ++ l.drop (k + 1) = l.eraseIdx k := (List.eraseIdx_eq_take_drop_succ l k).symm
set_option maxRecDepth 100000 in
/-- What is taken, and what is left, are as many of each as there were. -/
theorem taken_count {α : Type} [DecidableEq α] {l : List α} {k : Nat} {x : α} (h : l[k]? = some x) (y : α) : (l.eraseIdx k).count y + (if x = y then 1 else 0) = l.count y := by
  induction l generalizing k with
  | nil => simp at h
  | cons z l ih =>
    cases k with
    | zero =>
      simp only [List.getElem?_cons_zero, Option.some.injEq] at h
      subst h
      rw [List.eraseIdx_cons_zero, List.count_cons]
      simp
    | succ k =>
      rw [List.getElem?_cons_succ] at h
      rw [List.eraseIdx_cons_succ, List.count_cons, List.count_cons, ← ih h]
      omega

/-- Behind i rounds, each of which takes an ask and a tell, if there are any: what is left of n, what was taken. -/
structure Once (n o : Nt) (ks : List Ak) (ts : List Tl) (i : Nat) : Prop where
  kl : ks.length = min i n.ks.length
  kr : o.ks.length = n.ks.length - i
  kc : ∀ y, o.ks.count y + ks.count y = n.ks.count y
  tl : ts.length = min i n.ts.length
  tr : o.ts.length = n.ts.length - i
  tc : ∀ y, o.ts.count y + ts.count y = n.ts.count y
set_option maxRecDepth 100000 in
theorem once_start (n : Nt) : Once n n [] [] 0 := ⟨by simp, by simp, by simp, by simp, by simp, by simp⟩
set_option maxRecDepth 100000 in
theorem Once.step {n o : Nt} {ks : List Ak} {ts : List Tl} {i : Nat} (h : Once n o ks ts i) (at_ : Int) : Once n (tellN (askN o at_) at_) (ks ++ (askA o at_).toList) (ts ++ (tellT o at_).toList) (i + 1) := by
  have hk : (ks ++ (askA o at_).toList).length = min (i + 1) n.ks.length ∧ (askN o at_).ks.length = n.ks.length - (i + 1) ∧ ∀ y, (askN o at_).ks.count y + (ks ++ (askA o at_).toList).count y = n.ks.count y := by
    rcases Nat.eq_zero_or_pos o.ks.length with h0 | h0
    · have hn : o.ks = [] := List.eq_nil_of_length_eq_zero h0
      have h1 := h.kr
      have h2 := h.kl
      rw [askA_nil hn, askN_nil hn]
      refine ⟨by simp; omega, by omega, fun y => by simpa using h.kc y⟩
    · obtain ⟨a, ha⟩ := askA_some h0 at_
      have h1 := h.kr
      have h2 := h.kl
      have hlt := placeN_lt h0 at_
      refine ⟨by rw [ha]; simp; omega, by simp only [askN]; rw [List.length_eraseIdx_of_lt hlt]; omega, fun y => ?_⟩
      have h3 := taken_count (y := y) ha
      have h4 := h.kc y
      have h5 : (ks ++ (askA o at_).toList).count y = ks.count y + (if a = y then 1 else 0) := by
        rw [ha, List.count_append, Option.toList_some, List.count_singleton]
        simp
      simp only [askN]
      rw [h5]
      omega
  have ht : (ts ++ (tellT o at_).toList).length = min (i + 1) n.ts.length ∧ (tellN o at_).ts.length = n.ts.length - (i + 1) ∧ ∀ y, (tellN o at_).ts.count y + (ts ++ (tellT o at_).toList).count y = n.ts.count y := by
    rcases Nat.eq_zero_or_pos o.ts.length with h0 | h0
    · have hn : o.ts = [] := List.eq_nil_of_length_eq_zero h0
      have h1 := h.tr
      have h2 := h.tl
      rw [tellT_nil hn, tellN_nil hn]
      refine ⟨by simp; omega, by omega, fun y => by simpa using h.tc y⟩
    · obtain ⟨t, ht⟩ := tellT_some h0 at_
      have h1 := h.tr
      have h2 := h.tl
      have hlt := placeN_lt h0 at_
      refine ⟨by rw [ht]; simp; omega, by simp only [tellN]; rw [List.length_eraseIdx_of_lt hlt]; omega, fun y => ?_⟩
      have h3 := taken_count (y := y) ht
      have h4 := h.tc y
      have h5 : (ts ++ (tellT o at_).toList).count y = ts.count y + (if t = y then 1 else 0) := by
        rw [ht, List.count_append, Option.toList_some, List.count_singleton]
        simp
      simp only [tellN]
      rw [h5]
      omega
  exact ⟨hk.1, hk.2.1, hk.2.2, ht.1, ht.2.1, ht.2.2⟩
set_option maxRecDepth 100000 in
theorem Once.done {n o : Nt} {ks : List Ak} {ts : List Tl} (h : Once n o ks ts (n.ks.length + n.ts.length)) : o.ks = [] ∧ o.ts = [] ∧ ks.length = n.ks.length ∧ ts.length = n.ts.length ∧ (∀ y, ks.count y = n.ks.count y) ∧ ∀ y, ts.count y = n.ts.count y := by
  have h1 := h.kl
  have h2 := h.kr
  have h3 := h.tl
  have h4 := h.tr
  have e1 : o.ks = [] := List.eq_nil_of_length_eq_zero (by omega)
  have e2 : o.ts = [] := List.eq_nil_of_length_eq_zero (by omega)
  refine ⟨e1, e2, by omega, by omega, fun y => ?_, fun y => ?_⟩
  · have := h.kc y; rw [e1] at this; simpa using this
  · have := h.tc y; rw [e2] at this; simpa using this
/-- How often y stands among the first j. -/
def cntF {α : Type} [DecidableEq α] (l : List α) (y : α) (j : Nat) : Nat := (l.take j).count y
set_option maxRecDepth 100000 in
theorem cntF_zero {α : Type} [DecidableEq α] (l : List α) (y : α) : cntF l y 0 = 0 := by simp [cntF]
set_option maxRecDepth 100000 in
theorem cntF_succ {α : Type} [DecidableEq α] {l : List α} {j : Nat} {x : α} (h : l[j]? = some x) (y : α) : cntF l y (j + 1) = cntF l y j + (if x = y then 1 else 0) := by
  have hj : j < l.length := (List.getElem?_eq_some_iff.1 h).1
  rw [List.getElem?_eq_getElem hj] at h
  rw [cntF, List.take_succ_eq_append_getElem hj, List.count_append, Option.some.inj h, List.count_singleton, cntF]
  simp
set_option maxRecDepth 100000 in
theorem cntF_all {α : Type} [DecidableEq α] {l : List α} {j : Nat} (h : l.length ≤ j) (y : α) : cntF l y j = l.count y := by rw [cntF, List.take_of_length_le h]

/-- More than is asked. -/
def greatN (s : Nt) : Bool := ((s.ts.take 71).any fun t => decide (60 < t.seen.length)) || (decide (70 < s.ks.length) || decide (70 < s.ts.length))
set_option maxRecDepth 100000 in
theorem greatN_no {s : Nt} (h : greatN s = false) : s.ks.length ≤ 70 ∧ s.ts.length ≤ 70 ∧ ∀ t ∈ s.ts, t.seen.length ≤ 60 := by
  simp only [greatN, Bool.or_eq_false_iff, decide_eq_false_iff_not, List.any_eq_false, decide_eq_true_eq] at h
  obtain ⟨h1, h2, h3⟩ := h
  refine ⟨by omega, by omega, fun t ht => ?_⟩
  have := h1 t (by rw [List.take_of_length_le (by omega)]; exact ht)
  omega

end Go.Proofs.Ytcbbjloojngoiaa
