/-
  What is done to a cloud, as plain data: which clouds may be behind it, who is counted, what is told when it is asked again. Conditions: those that each theorem names.
-/
import Derived.Test.YtoiegffnmjlkdaaCdSame
namespace Go.Proofs.Ytoiegffnmjlkdaa
open Go.RowKit Go.Shelf

variable {x : Cw} {q : Ak}

set_option maxRecDepth 100000 in
theorem right_few (h : right x = true) : x.l.length ≤ 60 := by
  simp only [right, Bool.and_eq_true, decide_eq_true_eq] at h
  exact h.1.1
set_option maxRecDepth 100000 in
theorem right_at (h : right x = true) {j : Nat} {y : Bx} (hy : x.l[j]? = some y) : okAt x.l j y = true := by
  simp only [right, Bool.and_eq_true] at h
  exact okTo_at h.2 (List.getElem?_eq_some_iff.1 hy).1 hy
set_option maxRecDepth 100000 in
theorem right_id (h : right x = true) {j : Nat} {y : Bx} (hy : x.l[j]? = some y) : y.id = (j : Int) + 1 := by
  have := right_at h hy
  simp only [okAt, Bool.and_eq_true, beq_iff_eq] at this
  exact this.1.1
set_option maxRecDepth 100000 in
theorem right_sound (h : right x = true) {j : Nat} {y : Bx} (hy : x.l[j]? = some y) : sound y = true := by
  have := right_at h hy
  simp only [okAt, Bool.and_eq_true] at this
  exact this.1.2
set_option maxRecDepth 100000 in
theorem right_dup (h : right x = true) {j : Nat} {y : Bx} (hy : x.l[j]? = some y) : dup (x.l.take j) y = false := by
  have := right_at h hy
  simp only [okAt, Bool.and_eq_true, Bool.not_eq_true'] at this
  exact this.2
set_option maxRecDepth 100000 in
theorem right_of {L : List Bx} (h : right x = true) (h1 : L.length ≤ 60) (h2 : ∀ j y, L[j]? = some y → okAt L j y = true) : right { x with l := L } = true := by
  simp only [right, Bool.and_eq_true, decide_eq_true_eq] at h ⊢
  exact ⟨⟨h1, h.1.2⟩, okTo_of fun j y _ hy => h2 j y hy⟩
set_option maxRecDepth 100000 in
theorem no_dup {l : List Bx} {y : Bx} : dup l y = false ↔ ¬ (0 < y.tok ∧ ∃ z ∈ l, z.tok = y.tok) := by
  unfold dup
  by_cases h : 0 < y.tok
  · simp [h]
  · simp [h]
set_option maxRecDepth 100000 in
/-- Of a token there is one box at most. -/
theorem right_tok (h : right x = true) {i j : Nat} {y z : Bx} (hy : x.l[i]? = some y) (hz : x.l[j]? = some z) (he : y.tok = z.tok) (h0 : 0 < y.tok) : i = j := by
  have key : ∀ {i j : Nat} {y z : Bx}, x.l[i]? = some y → x.l[j]? = some z → y.tok = z.tok → 0 < y.tok → ¬ i < j := by
    intro i j y z hy hz he h0 hlt
    refine no_dup.1 (right_dup h hz) ⟨by omega, y, ?_, he⟩
    have : (x.l.take j)[i]? = some y := by rw [List.getElem?_take, if_pos hlt]; exact hy
    exact List.mem_of_getElem? this
  have h1 := key hy hz he h0
  have h2 := key hz hy he.symm (by omega)
  omega

set_option maxRecDepth 100000 in
theorem hN_cons (y : Bx) (l : List Bx) : hN (y :: l) = hN l + if cnt y then 1 else 0 := by
  unfold hN
  by_cases h : cnt y <;> simp [h]
set_option maxRecDepth 100000 in
theorem hN_set {l : List Bx} {j : Nat} {y : Bx} (z : Bx) (hy : l[j]? = some y) : hN (l.set j z) + (if cnt y then 1 else 0) = hN l + if cnt z then 1 else 0 := by
  induction l generalizing j with
  | nil => simp at hy
  | cons a l ih =>
    cases j with
    | zero =>
      simp at hy
      subst hy
      rw [List.set_cons_zero, hN_cons, hN_cons]
      omega
    | succ j =>
      have := ih (j := j) (by simpa using hy)
      rw [List.set_cons_succ, hN_cons, hN_cons]
      omega

/-- The box behind what was done to it. -/
def doneB (x : Cw) (q : Ak) (y : Bx) : Bx := { touched x.nw x.dr q.kind y with fen := q.call }
set_option maxRecDepth 100000 in
theorem doneB_id (y : Bx) : (doneB x q y).id = y.id := by show (touched x.nw x.dr q.kind y).id = _; unfold touched; (repeat' split) <;> rfl
set_option maxRecDepth 100000 in
theorem doneB_tok (y : Bx) : (doneB x q y).tok = y.tok := by show (touched x.nw x.dr q.kind y).tok = _; unfold touched; (repeat' split) <;> rfl
set_option maxRecDepth 100000 in
theorem doneB_ver (y : Bx) : (doneB x q y).ver = y.ver := by show (touched x.nw x.dr q.kind y).ver = _; unfold touched; (repeat' split) <;> rfl
set_option maxRecDepth 100000 in
theorem doneB_zone (y : Bx) : (doneB x q y).zone = y.zone := by show (touched x.nw x.dr q.kind y).zone = _; unfold touched; (repeat' split) <;> rfl
set_option maxRecDepth 100000 in
theorem doneB_tag (y : Bx) : (doneB x q y).tag = y.tag := by show (touched x.nw x.dr q.kind y).tag = _; unfold touched; (repeat' split) <;> rfl
set_option maxRecDepth 100000 in
theorem doneB_well (y : Bx) : (doneB x q y).well = y.well := by show (touched x.nw x.dr q.kind y).well = _; unfold touched; (repeat' split) <;> rfl
set_option maxRecDepth 100000 in
theorem doneB_fen (y : Bx) : (doneB x q y).fen = q.call := rfl
set_option maxRecDepth 100000 in
theorem doneB_gone (y : Bx) (h : q.kind ≠ 6) (hk : q.kind = 2 ∨ q.kind = 3 ∨ q.kind = 4 ∨ q.kind = 5 ∨ q.kind = 6) : (doneB x q y).gone = y.gone := by
  unfold doneB touched
  rcases hk with h1 | h1 | h1 | h1 | h1 <;> simp [h1]
  · split <;> rfl
  · exact absurd h1 h
set_option maxRecDepth 100000 in
theorem doneB_went (y : Bx) (h : q.kind = 6) : (doneB x q y).gone = true := by
  unfold doneB touched
  simp [h]
set_option maxRecDepth 100000 in
theorem code_one {y : Bx} (h : codeOf x q y = 1) : ¬ q.call < y.fen ∧ ¬ ((q.kind = 3 ∨ q.kind = 5 ∨ q.kind = 6) ∧ (cnt y = true ∧ (hN x.l : Int) - 1 < x.fl)) ∧ ¬ (q.kind = 4 ∧ y.on = false) := by
  unfold codeOf at h
  split at h
  · omega
  · split at h
    · omega
    · split at h
      · omega
      · exact ⟨‹_›, ‹_›, ‹_›⟩
set_option maxRecDepth 100000 in
theorem doneB_cnt {y : Bx} (h : codeOf x q y = 1) (hk : q.kind = 2 ∨ q.kind = 3 ∨ q.kind = 4 ∨ q.kind = 5 ∨ q.kind = 6) : (cnt y = true ∧ cnt (doneB x q y) = false → x.fl ≤ (hN x.l : Int) - 1) ∧ (q.kind = 3 ∨ q.kind = 5 ∨ q.kind = 6 → cnt (doneB x q y) = false) := by
  obtain ⟨h1, h2, h3⟩ := code_one h
  rcases hk with k | k | k | k | k
  · refine ⟨fun ⟨a, b⟩ => ?_, fun h => by omega⟩
    simp [doneB, touched, k, cnt] at a b
    exact absurd a.2.2 (b a.2.1)
  · refine ⟨fun ⟨a, b⟩ => ?_, fun _ => by simp [doneB, touched, k, cnt]⟩
    have : ¬ ((hN x.l : Int) - 1 < x.fl) := fun h => h2 ⟨by omega, a, h⟩
    omega
  · refine ⟨fun ⟨a, b⟩ => ?_, fun h => by omega⟩
    simp [doneB, touched, k, cnt] at a b
    simp [a.1, a.2.1] at b
  · refine ⟨fun ⟨a, b⟩ => ?_, fun _ => ?_⟩
    · have : ¬ ((hN x.l : Int) - 1 < x.fl) := fun h => h2 ⟨by omega, a, h⟩
      omega
    · by_cases hl : y.lb = 1 <;> simp [doneB, touched, k, cnt, hl]
  · refine ⟨fun ⟨a, b⟩ => ?_, fun _ => by simp [doneB, touched, k, cnt]⟩
    have : ¬ ((hN x.l : Int) - 1 < x.fl) := fun h => h2 ⟨by omega, a, h⟩
    omega
set_option maxRecDepth 100000 in
theorem doneB_sound {y : Bx} (h : codeOf x q y = 1) (hk : q.kind = 2 ∨ q.kind = 3 ∨ q.kind = 4 ∨ q.kind = 5 ∨ q.kind = 6) (hs : sound y = true) (hg : y.gone = false) : sound (doneB x q y) = true := by
  obtain ⟨h1, h2, h3⟩ := code_one h
  simp only [sound, Bool.and_eq_true, decide_eq_true_eq] at hs
  obtain ⟨⟨⟨⟨⟨s1, s2⟩, s3⟩, s4⟩, s5⟩, s6⟩ := hs
  rcases hk with k | k | k | k | k
  · simp [doneB, touched, k, sound, s1, s2, s3, s4, hg]
  · simp [doneB, touched, k, sound, s1, s2, s3, hg]
  · have : y.on = true := by
      cases ho : y.on with
      | true => rfl
      | false => exact absurd ⟨k, ho⟩ h3
    simp [doneB, touched, k, sound, s1, s2, s3, this, hg]
  · by_cases hl : y.lb = 1
    · simp [hl] at s5
      simp [doneB, touched, k, sound, s1, s2, s3, hl, s5, hg]
    · simp [doneB, touched, k, sound, s1, s2, s3, s4, hl, hg]
      simpa using s5
  · simp [doneB, touched, k, sound, s1, s2, s3]

set_option maxRecDepth 100000 in
theorem cw_same (x : Cw) : { x with l := x.l } = x := rfl
set_option maxRecDepth 100000 in
theorem launch_none (h : right x = true) (h1 : q.kind = 1) : doP x q = launchP x q := by unfold doP; rw [if_pos h, if_pos h1]
set_option maxRecDepth 100000 in
/-- What can be. -/
inductive Did (x : Cw) (q : Ak) : List Bx × Int × Int → Prop
  | same (c i : Int) : Did x q (x.l, c, i)
  | one (j : Nat) (y : Bx) : x.l[j]? = some y → find x.l q.a = some j → codeOf x q y = 1 → (q.kind = 2 ∨ q.kind = 3 ∨ q.kind = 4 ∨ q.kind = 5 ∨ q.kind = 6) → Did x q (x.l.set j (doneB x q y), 1, q.a)
  | made : q.kind = 1 → 1 ≤ q.a → isNum q.a = true → isNum q.b = true → isNum q.c = true → 0 ≤ q.d → firstAt (fun y => y.tok == q.a) x.l = none → x.tg = false → x.l.length < 60 → Did x q (x.l ++ [madeB ((x.l.length : Int) + 1) q], 1, (x.l.length : Int) + 1)
theorem did (x : Cw) (q : Ak) : Did x q (doP x q) := by
  unfold doP
  split
  · split
    · rename_i hk
      unfold launchP
      split
      · exact .same _ _
      · rename_i hv
        simp only [Bool.or_eq_true, decide_eq_true_eq, Bool.not_eq_true', Bool.and_eq_false_iff, not_or] at hv
        split
        · exact .same _ _
        · rename_i hf
          split
          · exact .same _ _
          · rename_i ht
            simp only [Bool.or_eq_true, decide_eq_true_eq, not_or] at ht
            exact .made hk (by omega) (by simpa using hv.1.2.1.1) (by simpa using hv.1.2.1.2) (by simpa using hv.1.2.2) (by omega) hf (by simpa using ht.1) (by omega)
    · split
      · rename_i hk
        unfold oneP
        split
        · exact .same _ _
        · rename_i j hj
          split
          · exact .same _ _
          · rename_i y hy
            split
            · rename_i hc
              exact .one j y hy hj hc hk
            · exact .same _ _
      · exact .same _ _
  · exact .same _ _

set_option maxRecDepth 100000 in
theorem find_gone {l : List Bx} {id : Int} {j : Nat} {y : Bx} (h : find l id = some j) (hy : l[j]? = some y) : y.id = id ∧ y.gone = false := by
  obtain ⟨z, h1, h2, _⟩ := firstAt_some h
  rw [hy] at h1
  rw [← Option.some.inj h1] at h2
  simpa [findB] using h2

set_option maxRecDepth 100000 in
theorem right_did {r : List Bx × Int × Int} (h : right x = true) (hd : Did x q r) : right { x with l := r.1 } = true := by
  cases hd with
  | same c i => exact h
  | one j y hy hf hc hk =>
    have hg := find_gone hf hy
    refine right_of h (by rw [List.length_set]; exact right_few h) fun i z hz => ?_
    have key : ∀ u, x.l[i]? = some u → z.id = u.id → z.tok = u.tok → sound z = true → okAt (x.l.set j (doneB x q y)) i z = true := by
      intro u hu e1 e2 e3
      have d1 := right_dup h hu
      rw [no_dup, ← e2] at d1
      have d2 : dup ((x.l.set j (doneB x q y)).take i) z = false := by
        rw [no_dup]
        rintro ⟨h0, v, hv, he⟩
        obtain ⟨k, hk⟩ := List.getElem?_of_mem hv
        have hlt : k < i := by have := (List.getElem?_eq_some_iff.1 hk).1; rw [List.length_take] at this; omega
        rw [List.getElem?_take, if_pos hlt, List.getElem?_set] at hk
        have hin : ∀ s, x.l[k]? = some s → s.tok = v.tok → False := by
          intro s hs ht
          refine d1 ⟨h0, s, ?_, by omega⟩
          have : (x.l.take i)[k]? = some s := by rw [List.getElem?_take, if_pos hlt]; exact hs
          exact List.mem_of_getElem? this
        by_cases hjk : j = k
        · rw [if_pos hjk] at hk
          subst hjk
          split at hk
          · have := Option.some.inj hk
            exact hin y hy (by rw [← this, doneB_tok])
          · cases hk
        · rw [if_neg hjk] at hk
          exact hin v hk rfl
      simp only [okAt, Bool.and_eq_true, beq_iff_eq, Bool.not_eq_true']
      exact ⟨⟨by rw [e1]; exact right_id h hu, e3⟩, d2⟩
    rw [List.getElem?_set] at hz
    by_cases hji : j = i
    · rw [if_pos hji] at hz
      split at hz
      · have := Option.some.inj hz
        rw [← this]
        rw [← this] at key
        exact key y (hji ▸ hy) (doneB_id y) (doneB_tok y) (doneB_sound hc hk (right_sound h hy) hg.2)
      · cases hz
    · rw [if_neg hji] at hz
      exact key z hz rfl rfl (right_sound h hz)
  | made hk h1 h2 h3 h4 h5 hf ht hl =>
    refine right_of h (by rw [List.length_append, List.length_singleton]; omega) fun i z hz => ?_
    rcases Nat.lt_or_ge i x.l.length with hi | hi
    · rw [List.getElem?_append_left hi] at hz
      have := right_at h hz
      unfold okAt at this ⊢
      rwa [List.take_append_of_le_length (by omega)]
    · rw [List.getElem?_append_right hi] at hz
      have h0 : i - x.l.length = 0 := by
        have := (List.getElem?_eq_some_iff.1 hz).1
        rw [List.length_singleton] at this
        omega
      rw [h0] at hz
      have hz := Option.some.inj hz
      subst hz
      have hi2 : i = x.l.length := by omega
      subst hi2
      have hd : dup x.l (madeB ((x.l.length : Int) + 1) q) = false := by
        rw [no_dup]
        rintro ⟨_, v, hv, he⟩
        have := firstAt_none.1 hf v hv
        have h6 : v.tok = q.a := he
        simp [h6] at this
      simp only [okAt, Bool.and_eq_true, beq_iff_eq, Bool.not_eq_true', List.take_left]
      refine ⟨⟨rfl, ?_⟩, hd⟩
      simp [sound, madeB, h2, h3, h4]
set_option maxRecDepth 100000 in
theorem right_do (h : right x = true) : right (doC x q) = true := right_did h (did x q)

set_option maxRecDepth 100000 in
theorem doC_few (h : right x = true) : (doP x q).1.length ≤ 60 := right_few (right_do h)

set_option maxRecDepth 100000 in
/-- H, behind it. -/
theorem floor_did {r : List Bx × Int × Int} (hd : Did x q r) : ¬ ((hN r.1 : Int) < hN x.l ∧ (hN r.1 : Int) < x.fl) ∧ (hN r.1 : Int) ≤ hN x.l + 1 ∧ (hN x.l : Int) - 1 ≤ hN r.1 := by
  cases hd with
  | same c i => dsimp only; omega
  | one j y hy hf hc hk =>
    obtain ⟨c1, c2⟩ := doneB_cnt hc hk
    have hs := hN_set (doneB x q y) hy
    dsimp only
    by_cases a : cnt y = true
    · by_cases b : cnt (doneB x q y) = true
      · simp only [a, b, if_true] at hs
        omega
      · have b' : cnt (doneB x q y) = false := by simpa using b
        have := c1 ⟨a, b'⟩
        simp only [a, b', if_true, Bool.false_eq_true, if_false] at hs
        omega
    · simp only [show cnt y = false by simpa using a, Bool.false_eq_true, if_false] at hs
      split at hs <;> omega
  | made =>
    rw [hN_snoc]
    have : cnt (madeB ((x.l.length : Int) + 1) q) = false := by simp [cnt, madeB]
    simp only [this, Bool.false_eq_true, if_false]
    omega

set_option maxRecDepth 100000 in
theorem firstAt_snoc {p : Bx → Bool} {l : List Bx} {x : Bx} (h : firstAt p l = none) (hp : p x = true) : firstAt p (l ++ [x]) = some l.length := by
  refine firstAt_is (x := x) (by simp) hp fun i y hi hy => ?_
  rw [List.getElem?_append_left hi] at hy
  exact firstAt_none.1 h y (List.mem_of_getElem? hy)

set_option maxRecDepth 100000 in
theorem doP_one (h : right x = true) (hk : q.kind = 2 ∨ q.kind = 3 ∨ q.kind = 4 ∨ q.kind = 5 ∨ q.kind = 6) : doP x q = ((oneP x q).1, (oneP x q).2, q.a) := by
  unfold doP
  rw [if_pos h, if_neg (by omega), if_pos hk]

set_option maxRecDepth 100000 in
theorem doneB_twice {y : Bx} {x' : Cw} (h1 : x'.nw = x.nw) (h2 : x'.dr = x.dr) : doneB x' q (doneB x q y) = doneB x q y := by
  unfold doneB touched
  rw [h1, h2]
  by_cases k2 : q.kind = 2
  · simp [k2]
  · by_cases k3 : q.kind = 3
    · simp [k3]
    · by_cases k4 : q.kind = 4
      · simp [k4]
      · by_cases k5 : q.kind = 5
        · by_cases hl : y.lb = 1 <;> simp [k5, hl]
        · simp [k2, k3, k4, k5]

set_option maxRecDepth 100000 in
/-- What is asked twice is done once. -/
theorem twice (h : right x = true) : doP (doC x q) q = doP x q := by
  have hR := right_do (q := q) h
  have hd := did x q
  unfold doC at hR ⊢
  cases hd' : doP x q with
  | mk L KI =>
    rw [hd'] at hd hR
    cases hd with
    | same c i => exact hd'
    | one j y hy hf hc hk =>
      obtain ⟨g1, g2⟩ := find_gone hf hy
      obtain ⟨k1, k2, k3⟩ := code_one hc
      have hid := right_id h hy
      have hj : j < x.l.length := (List.getElem?_eq_some_iff.1 hy).1
      rw [doP_one hR hk]
      have hget : (x.l.set j (doneB x q y))[j]? = some (doneB x q y) := by rw [List.getElem?_set, if_pos rfl, if_pos hj]
      by_cases k6 : q.kind = 6
      · have hn : find (x.l.set j (doneB x q y)) q.a = none := by
          refine firstAt_none.2 fun z hz => ?_
          obtain ⟨i, hi⟩ := List.getElem?_of_mem hz
          by_cases hij : i = j
          · subst hij
            rw [hget] at hi
            rw [← Option.some.inj hi]
            simp [findB, doneB_went y k6]
          · have hz2 := right_id hR hi
            simp only [findB, Bool.and_eq_false_iff, beq_eq_false_iff_ne]
            exact .inl (by omega)
        have ha : ((x.l.set j (doneB x q y)).any fun y => y.id == q.a) = true := by
          rw [List.any_eq_true]
          exact ⟨_, List.mem_of_getElem? hget, by simp [doneB_id, g1]⟩
        have : oneP { x with l := x.l.set j (doneB x q y) } q = (x.l.set j (doneB x q y), 1) := by
          unfold oneP
          simp only [hn]
          rw [if_pos ⟨k6, ha⟩]
        rw [this]
      · have hn : find (x.l.set j (doneB x q y)) q.a = some j := by
          refine firstAt_is hget (by simp [findB, doneB_id, g1, doneB_gone y k6 hk, g2]) fun i z hi hz => ?_
          have hz2 := right_id hR hz
          simp only [findB, Bool.and_eq_false_iff, beq_eq_false_iff_ne]
          exact .inl (by omega)
        have hc2 : codeOf { x with l := x.l.set j (doneB x q y) } q (doneB x q y) = 1 := by
          have c2 := (doneB_cnt hc hk).2
          unfold codeOf
          rw [if_neg (by rw [doneB_fen]; omega), if_neg (by rintro ⟨a, b, _⟩; rw [c2 a] at b; cases b), if_neg]
          rintro ⟨a, b⟩
          simp [doneB, touched, a] at b
          exact k3 ⟨a, b⟩
        have : oneP { x with l := x.l.set j (doneB x q y) } q = (x.l.set j (doneB x q y), 1) := by
          unfold oneP
          simp only [hn, hget, hc2, if_true]
          have h9 := doneB_twice (x := x) (q := q) (y := y) (x' := { x with l := x.l.set j (doneB x q y) }) rfl rfl
          unfold doneB at h9 ⊢
          rw [h9, List.set_set]
        rw [this]
    | made hk h1 h2 h3 h4 h5 hf ht hl =>
      rw [launch_none hR hk]
      unfold launchP
      have hF : firstAt (fun y => y.tok == q.a) (x.l ++ [madeB ((x.l.length : Int) + 1) q]) = some x.l.length := firstAt_snoc hf (by simp [madeB])
      rw [if_neg (by simp [h2, h3, h4]; omega)]
      simp only [hF, List.getElem?_concat_length]
      rfl

set_option maxRecDepth 100000 in
/-- With a lesser call than the box's, nothing is done to it. -/
theorem late_not {late : Ak} {i : Nat} {y : Bx} (h : right x = true) (hf : find x.l late.a = some i) (hy : x.l[i]? = some y) (hc : late.call < y.fen) (hk : late.kind ≠ 1) : (doP x late).1 = x.l ∧ (doP x late).2.1 ≠ 1 := by
  unfold doP
  rw [if_pos h, if_neg hk]
  split
  · have : oneP x late = (x.l, 5) := by
      have h5 : codeOf x late y = 5 := by unfold codeOf; rw [if_pos hc]
      unfold oneP
      simp only [hf, hy, h5]
      rfl
    rw [this]
    exact ⟨rfl, show (5 : Int) ≠ 1 by decide⟩
  · exact ⟨rfl, show (3 : Int) ≠ 1 by decide⟩

set_option maxRecDepth 100000 in
/-- Not done: nothing done. -/
theorem not_done {r : List Bx × Int × Int} (hd : Did x q r) (h : r.2.1 ≠ 1) : r.1 = x.l := by
  cases hd with
  | same c i => rfl
  | one => exact absurd rfl h
  | made => exact absurd rfl h

set_option maxRecDepth 100000 in
/-- What is done to one box changes no other one. -/
theorem apart {r : List Bx × Int × Int} (hd : Did x q r) {i : Nat} {y : Bx} (hy : x.l[i]? = some y) :
    ∃ z, r.1[i]? = some z ∧ (z = y ∨ (q.kind ≠ 1 ∧ y.id = q.a ∧ y.gone = false ∧ r.2.1 = 1)) ∧ z.id = y.id ∧ z.tok = y.tok ∧ z.ver = y.ver ∧ z.zone = y.zone ∧ z.tag = y.tag ∧ z.well = y.well := by
  have hi : i < x.l.length := (List.getElem?_eq_some_iff.1 hy).1
  cases hd with
  | same c k => exact ⟨y, hy, .inl rfl, rfl, rfl, rfl, rfl, rfl, rfl⟩
  | one j u hu hf hc hk =>
    by_cases hij : j = i
    · subst hij
      rw [hu] at hy
      obtain rfl := Option.some.inj hy
      obtain ⟨g1, g2⟩ := find_gone hf hu
      exact ⟨doneB x q u, by rw [List.getElem?_set, if_pos rfl, if_pos hi], .inr ⟨by omega, g1, g2, rfl⟩, doneB_id u, doneB_tok u, doneB_ver u, doneB_zone u, doneB_tag u, doneB_well u⟩
    · exact ⟨y, by rw [List.getElem?_set, if_neg hij]; exact hy, .inl rfl, rfl, rfl, rfl, rfl, rfl, rfl⟩
  | made => exact ⟨y, by rw [List.getElem?_append_left hi]; exact hy, .inl rfl, rfl, rfl, rfl, rfl, rfl, rfl⟩
set_option maxRecDepth 100000 in
/-- How many there are. -/
theorem grows {r : List Bx × Int × Int} (hd : Did x q r) : x.l.length ≤ r.1.length ∧ r.1.length ≤ x.l.length + 1 := by
  cases hd with
  | same c k => dsimp only; omega
  | one => dsimp only; rw [List.length_set]; omega
  | made => dsimp only; rw [List.length_append, List.length_singleton]; omega
set_option maxRecDepth 100000 in
/-- The new one. -/
theorem newer {r : List Bx × Int × Int} (hd : Did x q r) {i : Nat} {y : Bx} (hi : x.l.length ≤ i) (hy : r.1[i]? = some y) : cnt y = false ∧ q.kind = 1 ∧ y.tok = q.a := by
  cases hd with
  | same c k => rw [List.getElem?_eq_none hi] at hy; cases hy
  | one => rw [List.getElem?_eq_none (by rw [List.length_set]; exact hi)] at hy; cases hy
  | made hk =>
    rw [List.getElem?_append_right hi] at hy
    have h0 : i - x.l.length = 0 := by
      have := (List.getElem?_eq_some_iff.1 hy).1
      rw [List.length_singleton] at this
      omega
    rw [h0] at hy
    rw [← Option.some.inj hy]
    exact ⟨by simp [cnt, madeB], hk, rfl⟩
set_option maxRecDepth 100000 in
/-- H counts those that were there ahead of it. -/
theorem hN_new {r : List Bx × Int × Int} (hd : Did x q r) : hN r.1 = hN (r.1.take x.l.length) := by
  cases hd with
  | same c k => rw [List.take_length]
  | one => rw [List.take_of_length_le (by rw [List.length_set]; exact Nat.le_refl _)]
  | made =>
    rw [List.take_left, hN_snoc]
    have : cnt (madeB ((x.l.length : Int) + 1) q) = false := by simp [cnt, madeB]
    simp [this]
set_option maxRecDepth 100000 in
/-- Of a cloud without that box nothing is done. -/
theorem not_there {r : List Bx × Int × Int} (hd : Did x q r) (h : find x.l q.a = none) (hk : q.kind ≠ 1) : r.1 = x.l := by
  cases hd with
  | same c k => rfl
  | one j y hy hf => rw [h] at hf; cases hf
  | made h1 => exact absurd h1 hk

set_option maxRecDepth 100000 in
/-- A launch that is done tells the id of the token's box. -/
theorem launched (h : right x = true) (hk : q.kind = 1) (h1 : (doP x q).2.1 = 1) : 0 < q.a ∧ ∃ (j : Nat) (y : Bx), (doP x q).1[j]? = some y ∧ y.tok = q.a ∧ (doP x q).2.2 = (j : Int) + 1 := by
  rw [launch_none h hk] at h1 ⊢
  unfold launchP at h1 ⊢
  split at h1
  · simp at h1
  · rename_i hv
    rw [if_neg hv]
    simp only [Bool.or_eq_true, decide_eq_true_eq, Bool.not_eq_true', not_or] at hv
    refine ⟨by omega, ?_⟩
    cases hf : firstAt (fun y => y.tok == q.a) x.l with
    | some j =>
      obtain ⟨y, hy, hp, _⟩ := firstAt_some hf
      exact ⟨j, y, hy, by simpa using hp, by simp only [hy]; exact right_id h hy⟩
    | none =>
      simp only [hf] at h1 ⊢
      split at h1
      · simp at h1
      · rename_i ht
        rw [if_neg ht]
        exact ⟨x.l.length, _, List.getElem?_concat_length, rfl, rfl⟩

end Go.Proofs.Ytoiegffnmjlkdaa
