/-
  What the statements over events say, of plain data. Conditions: those that each theorem names.
-/
import Derived.Test.YtoiegffnmjlkdaaEvMath
namespace Go.Proofs.Ytoiegffnmjlkdaa
open Go.RowKit Go.Shelf

theorem hN_map {f : Bx → Bx} (h : ∀ y, cnt (f y) = cnt y) (l : List Bx) : hN (l.map f) = hN l := by
  induction l with
  | nil => rfl
  | cons y l ih => rw [List.map_cons, hN_cons, hN_cons, ih, h]
theorem tickB_cnt (nw : Int) (y : Bx) : cnt (tickB nw y) = cnt y := by
  unfold tickB
  split
  · rename_i h
    simp only [ripe, Bool.and_eq_true, beq_iff_eq] at h
    simp [cnt, h.1]
  · rfl
theorem goneB_cnt (y : Bx) : cnt (goneB y) = false := by simp [cnt, goneB]

/-- What can be of a cloud that may be, behind an event. -/
inductive Evd (x : Cw) (e : Ev) : Cw → Prop
  | same : e.kind ≠ 4 → Evd x e x
  | die (j : Nat) (y : Bx) : e.kind = 1 → find x.l e.a = some j → x.l[j]? = some y → y.id = e.a → y.gone = false → Evd x e { x with l := x.l.set j (goneB y) }
  | flip (j : Nat) (y : Bx) : e.kind = 2 → find x.l e.a = some j → x.l[j]? = some y → y.id = e.a → y.gone = false → Evd x e { x with l := x.l.set j (flipB y) }
  | stray : e.kind = 3 → x.l.length < 60 → isNum e.a = true → Evd x e { x with l := x.l ++ [strayB ((x.l.length : Int) + 1) e.a (e.b != 0)] }
  | tight : e.kind = 4 → Evd x e { x with tg := !x.tg }
  | tick : e.kind = 5 → x.nw < 1099511627776 → Evd x e { x with nw := x.nw + 1, l := x.l.map (tickB (x.nw + 1)) }
  | floor : e.kind = 6 → isNum e.a = true → isNum e.b = true → Evd x e { x with fl := e.a, dr := e.b }
theorem evd {x : Cw} (h : right x = true) (e : Ev) : Evd x e (evC x e) := by
  rw [evC_in h]
  unfold evK
  split
  · rename_i k
    rcases atB_cases x.l e.a goneB with ⟨_, h2⟩ | ⟨j, y, h1, hy, h3, h4, h2⟩
    · rw [h2]; exact .same (by omega)
    · rw [h2]; exact .die j y k h1 hy h3 h4
  split
  · rename_i k
    rcases atB_cases x.l e.a flipB with ⟨_, h2⟩ | ⟨j, y, h1, hy, h3, h4, h2⟩
    · rw [h2]; exact .same (by omega)
    · rw [h2]; exact .flip j y k h1 hy h3 h4
  split
  · rename_i k
    unfold strayC
    split
    · rename_i hc
      simp only [Bool.and_eq_true, decide_eq_true_eq] at hc
      exact .stray k hc.1 hc.2
    · exact .same (by omega)
  split
  · rename_i k
    exact .tight k
  split
  · rename_i k
    unfold tickC
    split
    · exact .same (by omega)
    · exact .tick k (by omega)
  split
  · rename_i k
    unfold floorC
    split
    · rename_i hc
      simp only [Bool.and_eq_true] at hc
      exact .floor k hc.1 hc.2
    · exact .same (by omega)
  · exact .same (by omega)

theorem evd_len {x d : Cw} {e : Ev} (h : Evd x e d) : x.l.length ≤ d.l.length ∧ d.l.length ≤ x.l.length + 1 := by
  cases h <;> simp
theorem evd_nw {x d : Cw} {e : Ev} (h : Evd x e d) : x.nw ≤ d.nw ∧ d.nw ≤ x.nw + 1 ∧ (e.kind ≠ 5 → d.nw = x.nw) := by
  cases h <;> refine ⟨by first | exact Int.le_refl _ | (show x.nw ≤ x.nw + 1; omega), by first | exact Int.le_refl _ | (show x.nw ≤ x.nw + 1; omega), fun h => ?_⟩ <;> first | rfl | (exfalso; omega)
theorem evd_fl {x d : Cw} {e : Ev} (h : Evd x e d) (hk : e.kind ≠ 6) : d.fl = x.fl ∧ d.dr = x.dr := by
  cases h <;> first | exact ⟨rfl, rfl⟩ | (exfalso; omega)
theorem evd_tg {x d : Cw} {e : Ev} (h : Evd x e d) : d.tg = if e.kind = 4 then !x.tg else x.tg := by
  cases h with
  | same k => rw [if_neg k]
  | tight k => rw [if_pos k]
  | die j y k => rw [if_neg (by omega)]
  | flip j y k => rw [if_neg (by omega)]
  | stray k => rw [if_neg (by omega)]
  | tick k => rw [if_neg (by omega)]
  | floor k => rw [if_neg (by omega)]
/-- What becomes of a box. -/
theorem evd_at {x d : Cw} {e : Ev} (h : Evd x e d) {i : Nat} {y : Bx} (hy : x.l[i]? = some y) :
    ∃ z, d.l[i]? = some z ∧ z.id = y.id ∧ z.tok = y.tok ∧ z.ver = y.ver ∧ z.fen = y.fen ∧ (y.gone = true → z.gone = true) ∧ (z.on = true → y.on = true) ∧ (z = y ∨ e.kind = 5 ∨ ((e.kind = 1 ∨ e.kind = 2) ∧ y.id = e.a)) := by
  have hi : i < x.l.length := (List.getElem?_eq_some_iff.1 hy).1
  have keep : x.l[i]? = some y → ∃ z, x.l[i]? = some z ∧ z.id = y.id ∧ z.tok = y.tok ∧ z.ver = y.ver ∧ z.fen = y.fen ∧ (y.gone = true → z.gone = true) ∧ (z.on = true → y.on = true) ∧ (z = y ∨ e.kind = 5 ∨ ((e.kind = 1 ∨ e.kind = 2) ∧ y.id = e.a)) := fun h => ⟨y, h, rfl, rfl, rfl, rfl, id, id, .inl rfl⟩
  cases h with
  | same k => exact keep hy
  | tight k => exact keep hy
  | floor k => exact keep hy
  | die j u k _ hu hid _ =>
    dsimp only
    by_cases hij : j = i
    · subst hij
      rw [hu] at hy
      obtain rfl := Option.some.inj hy
      exact ⟨goneB u, by rw [List.getElem?_set, if_pos rfl, if_pos hi], rfl, rfl, rfl, rfl, fun _ => rfl, fun h => by simp [goneB] at h, .inr (.inr ⟨.inl k, hid⟩)⟩
    · rw [List.getElem?_set, if_neg hij]; exact keep hy
  | flip j u k _ hu hid _ =>
    dsimp only
    by_cases hij : j = i
    · subst hij
      rw [hu] at hy
      obtain rfl := Option.some.inj hy
      exact ⟨flipB u, by rw [List.getElem?_set, if_pos rfl, if_pos hi], rfl, rfl, rfl, rfl, id, id, .inr (.inr ⟨.inr k, hid⟩)⟩
    · rw [List.getElem?_set, if_neg hij]; exact keep hy
  | stray k => 
    dsimp only
    rw [List.getElem?_append_left hi]; exact keep hy
  | tick k =>
    dsimp only
    rw [List.getElem?_map, hy]
    refine ⟨tickB (x.nw + 1) y, rfl, tickB_id _ _, tickB_tok _ _, ?_, ?_, ?_, ?_, .inr (.inl k)⟩ <;> unfold tickB <;> split <;> simp
/-- H falls by those two alone, by at most one. -/
theorem evd_fall {x d : Cw} {e : Ev} (h : Evd x e d) : (hN x.l : Int) - hN d.l ≤ 1 ∧ (0 < (hN x.l : Int) - hN d.l → fallsB e = true) := by
  cases h with
  | same k => omega
  | tight k => dsimp only; omega
  | floor k => dsimp only; omega
  | die j u k _ hu _ _ =>
    have hs := hN_set (goneB u) hu
    have hf : fallsB e = true := by simp [fallsB, k]
    dsimp only
    rw [goneB_cnt] at hs
    refine ⟨?_, fun _ => hf⟩
    split at hs <;> simp at hs <;> omega
  | flip j u k _ hu _ _ =>
    have hs := hN_set (flipB u) hu
    have hf : fallsB e = true := by simp [fallsB, k]
    dsimp only
    refine ⟨?_, fun _ => hf⟩
    split at hs <;> split at hs <;> omega
  | stray k =>
    dsimp only
    rw [hN_snoc]
    split <;> omega
  | tick k =>
    dsimp only
    rw [hN_map (tickB_cnt _)]
    omega

/-- So many ticks. -/
def outB (p : Bool) (N : Int) (y : Bx) : Bx := if ((y.lb == 2) && (p && decide (y.unt ≤ N))) = true then { y with lb := 0 } else y
def ticked (x : Cw) (i : Nat) : Cw := { x with nw := x.nw + i, l := x.l.map (outB (decide (0 < i)) (x.nw + i)) }
theorem ticked_zero (x : Cw) : ticked x 0 = x := by
  unfold ticked
  have : x.l.map (outB (decide (0 < 0)) (x.nw + (0 : Nat))) = x.l := by
    refine (List.map_congr_left fun y _ => ?_).trans (List.map_id _)
    simp [outB]
  rw [this]
  simp
theorem ticked_succ {x : Cw} {i : Nat} (h : right (ticked x i) = true) (h1 : x.nw + i < 1099511627776) (a b : Int) : evC (ticked x i) ⟨5, a, b⟩ = ticked x (i + 1) := by
  rw [evC_in h]
  have e : evK (ticked x i) ⟨5, a, b⟩ = tickC (ticked x i) := by simp [evK]
  rw [e]
  unfold tickC
  rw [if_neg (by show ¬ 1099511627776 ≤ x.nw + i; omega)]
  show ({ x with nw := x.nw + i + 1, l := (x.l.map (outB (decide (0 < i)) (x.nw + i))).map (tickB (x.nw + i + 1)) } : Cw) = _
  unfold ticked
  have e1 : x.nw + (i : Int) + 1 = x.nw + ((i + 1 : Nat) : Int) := by omega
  rw [e1, List.map_map]
  congr 1
  refine List.map_congr_left fun y _ => ?_
  simp only [Function.comp_apply]
  by_cases hl : y.lb = 2
  · by_cases hu : y.unt ≤ x.nw + i
    · have hu2 : y.unt ≤ x.nw + ((i + 1 : Nat) : Int) := by omega
      by_cases hi : 0 < i
      · simp [outB, tickB, ripe, hl, hu, hi]
        omega
      · simp [outB, tickB, ripe, hl, hi]
    · simp [outB, tickB, ripe, hl, hu]
  · simp [outB, tickB, ripe, hl]
theorem right_ticked {x : Cw} (h : right x = true) (i : Nat) (h1 : x.nw + i ≤ 1099511627776) : right (ticked x i) = true := by
  induction i with
  | zero => rw [ticked_zero]; exact h
  | succ i ih =>
    have h2 := ih (by omega)
    rw [← ticked_succ h2 (by omega) 0 0]
    exact right_ev h2 _

theorem atB_flip (l : List Bx) (id : Int) : atB (atB l id flipB) id flipB = l := by
  rcases atB_cases l id flipB with ⟨h1, h2⟩ | ⟨j, y, h1, hy, h3, h4, h2⟩
  · rw [h2, h2]
  · rw [h2]
    have hj := (List.getElem?_eq_some_iff.1 hy).1
    have hg : (l.set j (flipB y))[j]? = some (flipB y) := by rw [List.getElem?_set, if_pos rfl, if_pos hj]
    have hf : find (l.set j (flipB y)) id = some j := by
      obtain ⟨z, hz1, hz2, hz3⟩ := firstAt_some h1
      refine firstAt_is hg (by simp [findB, flipB, h3, h4]) fun i u hi hu => ?_
      rw [List.getElem?_set, if_neg (by omega)] at hu
      exact hz3 i u hi hu
    unfold atB
    rw [hf]
    simp only [hg, List.set_set, flip_flip]
    exact List.ext_getElem? fun i => by
      rw [List.getElem?_set]
      split
      · rename_i e
        subst e
        exact hy.symm
      · rfl
theorem find_died {x : Cw} (h : right x = true) (id : Int) : find (atB x.l id goneB) id = none := by
  rcases atB_cases x.l id goneB with ⟨h1, h2⟩ | ⟨j, y, h1, hy, h3, h4, h2⟩
  · rw [h2]; exact h1
  · rw [h2]
    have hj := (List.getElem?_eq_some_iff.1 hy).1
    have hid := right_id h hy
    refine firstAt_none.2 fun z hz => ?_
    obtain ⟨i, hi⟩ := List.getElem?_of_mem hz
    rw [List.getElem?_set] at hi
    split at hi
    · rw [← Option.some.inj hi]
      simp [findB, goneB]
    · have := right_id h hi
      simp only [findB, Bool.and_eq_false_iff, beq_eq_false_iff_ne]
      exact .inl (by omega)
theorem atB_none {l : List Bx} {id : Int} (h : find l id = none) (f : Bx → Bx) : atB l id f = l := by unfold atB; rw [h]

section
variable {x : Cw} (h : right x = true)
include h
theorem ev_twice (id a b a' b' c c' : Int) : evsC x [⟨2, id, c⟩, ⟨4, a, b⟩, ⟨4, a', b'⟩, ⟨2, id, c'⟩] = x := by
  have r1 : right { x with l := atB x.l id flipB } = true := right_atB h _ _ (fun _ => rfl) (fun _ => rfl) fun _ hy => flipB_sound hy
  have e1 : evC x ⟨2, id, c⟩ = { x with l := atB x.l id flipB } := by rw [evC_in h]; simp [evK]
  have r2 : right { x with l := atB x.l id flipB, tg := !x.tg } = true := by
    have := right_ev r1 ⟨4, a, b⟩
    rw [evC_in r1] at this
    simpa [evK] using this
  have e2 : evC { x with l := atB x.l id flipB } ⟨4, a, b⟩ = { x with l := atB x.l id flipB, tg := !x.tg } := by rw [evC_in r1]; simp [evK]
  have e3 : evC { x with l := atB x.l id flipB, tg := !x.tg } ⟨4, a', b'⟩ = { x with l := atB x.l id flipB } := by rw [evC_in r2]; simp [evK]
  have e4 : evC { x with l := atB x.l id flipB } ⟨2, id, c'⟩ = x := by rw [evC_in r1]; simp [evK, atB_flip]
  simp only [evsC, List.foldl_cons, List.foldl_nil, e1, e2, e3, e4]
theorem ev_died (id c : Int) : evC x ⟨1, id, c⟩ = { x with l := atB x.l id goneB } := by rw [evC_in h]; simp [evK]
theorem right_died (id : Int) : right { x with l := atB x.l id goneB } = true := right_atB h _ _ (fun _ => rfl) (fun _ => rfl) fun _ hy => goneB_sound hy
theorem ev_dies (id c c' c2 : Int) : evsC x [⟨1, id, c⟩, ⟨2, id, c'⟩, ⟨1, id, c2⟩] = { x with l := atB x.l id goneB } := by
  have r1 := right_died h id
  have hf := find_died h id
  have e2 : evC { x with l := atB x.l id goneB } ⟨2, id, c'⟩ = { x with l := atB x.l id goneB } := by rw [evC_in r1]; simp [evK, atB_none hf]
  have e3 : evC { x with l := atB x.l id goneB } ⟨1, id, c2⟩ = { x with l := atB x.l id goneB } := by rw [evC_in r1]; simp [evK, atB_none hf]
  simp only [evsC, List.foldl_cons, List.foldl_nil, ev_died h, e2, e3]
theorem ev_set (f d : Int) : evC x ⟨6, f, d⟩ = floorC x f d := by rw [evC_in h]; simp [evK]
theorem ev_sets (f d : Int) : evsC x [⟨6, f, d⟩, ⟨6, f, d⟩] = floorC x f d := by
  have r1 := right_floor h f d
  simp only [evsC, List.foldl_cons, List.foldl_nil, ev_set h, ev_set r1]
  unfold floorC
  split
  · rfl
  · rfl
theorem ev_stray (v d : Int) : evC x ⟨3, v, d⟩ = strayC x v (d != 0) := by rw [evC_in h]; simp [evK]
end

end Go.Proofs.Ytoiegffnmjlkdaa
