/-
  Clouds of which a box is gone: that they may be, what is shown of them. Conditions: those that each theorem names.
-/
import Derived.Test.YtoiegffnmjlkdaaPgWhole
namespace Go.Proofs.Ytoiegffnmjlkdaa
open Go.RowKit Go.Shelf

def goneB (y : Bx) : Bx := { y with gone := true, on := false, lb := 0 }
set_option maxRecDepth 100000 in
theorem goneB_sound {y : Bx} (h : sound y = true) : sound (goneB y) = true := by
  simp only [sound, Bool.and_eq_true, goneB] at h ⊢
  refine ⟨⟨⟨⟨⟨h.1.1.1.1.1, h.1.1.1.1.2⟩, h.1.1.1.2⟩, by simp⟩, by simp⟩, by simp⟩
set_option maxRecDepth 100000 in
theorem dup_map (l : List Bx) (u : Bx) : dup l u = (decide (0 < u.tok) && (l.map fun y => y.tok).any fun t => t == u.tok) := by
  simp [dup, List.any_map, Function.comp_def]
set_option maxRecDepth 100000 in
theorem tok_set {l : List Bx} {j : Nat} {y z : Bx} (hy : l[j]? = some y) (ht : z.tok = y.tok) : (l.set j z).map (fun y => y.tok) = l.map fun y => y.tok := by
  apply List.ext_getElem?
  intro i
  simp only [List.getElem?_map, List.getElem?_set]
  split
  · rename_i h
    subst h
    have hj := (List.getElem?_eq_some_iff.1 hy).1
    rw [if_pos hj, hy]
    simp [ht]
  · rfl
set_option maxRecDepth 100000 in
theorem right_set {x : Cw} (h : right x = true) {j : Nat} {y z : Bx} (hy : x.l[j]? = some y) (hi : z.id = y.id) (ht : z.tok = y.tok) (hs : sound z = true) : right { x with l := x.l.set j z } = true := by
  refine right_of h (by rw [List.length_set]; exact right_few h) fun i u hu => ?_
  have hd : dup ((x.l.set j z).take i) u = dup (x.l.take i) u := by
    rw [dup_map, dup_map, List.map_take, List.map_take, tok_set hy ht]
  rw [List.getElem?_set] at hu
  split at hu
  · rename_i e
    subst e
    have hj := (List.getElem?_eq_some_iff.1 hy).1
    rw [if_pos hj] at hu
    obtain rfl := Option.some.inj hu
    have h1 := right_at h hy
    simp only [okAt, Bool.and_eq_true, hd] at h1 ⊢
    have h3 : dup (x.l.take j) z = dup (x.l.take j) y := by rw [dup_map, dup_map, ht]
    rw [h3, hi]
    exact ⟨⟨h1.1.1, hs⟩, h1.2⟩
  · have h1 := right_at h hu
    simp only [okAt, Bool.and_eq_true, hd] at h1 ⊢
    exact h1
set_option maxRecDepth 100000 in
theorem right_with {x : Cw} (h : right x = true) {fl nw : Int} (hf : isNum fl = true) (hn : isNum nw = true) (tg : Bool) : right { x with fl := fl, nw := nw, tg := tg } = true := by
  simp only [right, Bool.and_eq_true] at h ⊢
  exact ⟨⟨h.1.1, ⟨hf, h.1.2.1.2⟩, hn⟩, h.2⟩
set_option maxRecDepth 100000 in
theorem right_nums {x : Cw} (h : right x = true) : isNum x.fl = true ∧ isNum x.dr = true ∧ isNum x.nw = true := by
  simp only [right, Bool.and_eq_true] at h
  exact ⟨h.1.2.1.1, h.1.2.1.2, h.1.2.2⟩
set_option maxRecDepth 100000 in
theorem right_gone {x : Cw} (h : right x = true) {j : Nat} {y : Bx} (hy : x.l[j]? = some y) : right { x with l := x.l.set j (goneB y) } = true :=
  right_set h hy rfl rfl (goneB_sound (right_sound h hy))

/-- What is shown, but for an id. -/
def dropId (S : List Sn) (i : Int) : List Sn := S.filter fun s => s.id != i
set_option maxRecDepth 100000 in
theorem dropId_append (S T : List Sn) (i : Int) : dropId (S ++ T) i = dropId S i ++ dropId T i := List.filter_append ..
set_option maxRecDepth 100000 in
theorem dropId_le (S : List Sn) (i : Int) : (dropId S i).length ≤ S.length := List.length_filter_le _ _
set_option maxRecDepth 100000 in
theorem dropId_take {S : List Sn} {j : Nat} {s : Sn} (h : S[j]? = some s) (i : Int) : dropId (S.take (j + 1)) i = dropId (S.take j) i ++ if s.id != i then [s] else [] := by
  have hj : j < S.length := (List.getElem?_eq_some_iff.1 h).1
  rw [List.getElem?_eq_getElem hj] at h
  rw [List.take_succ_eq_append_getElem hj, Option.some.inj h, dropId_append]
  congr 1
  by_cases e : s.id = i <;> simp [dropId, e]
set_option maxRecDepth 100000 in
theorem dropId_none {S : List Sn} {i : Int} (h : ∀ s ∈ S, s.id ≠ i) : dropId S i = S := List.filter_eq_self.2 fun s hs => by simpa using h s hs
set_option maxRecDepth 100000 in
theorem shown_append (l m : List Bx) : shown (l ++ m) = shown l ++ shown m := by simp [shown, List.filter_append]
set_option maxRecDepth 100000 in
theorem shown_mem_id {l : List Bx} {s : Sn} (h : s ∈ shown l) : ∃ b ∈ l, s.id = b.id := by
  unfold shown at h
  rw [List.mem_map] at h
  obtain ⟨b, hb, rfl⟩ := h
  exact ⟨b, (List.mem_filter.1 hb).1, rfl⟩
set_option maxRecDepth 100000 in
theorem shown_gone {x : Cw} (h : right x = true) {j : Nat} {y : Bx} (hy : x.l[j]? = some y) : shown (x.l.set j (goneB y)) = dropId (shown x.l) y.id := by
  have hj := (List.getElem?_eq_some_iff.1 hy).1
  have e1 : x.l = x.l.take j ++ y :: x.l.drop (j + 1) := by
    have e := hy
    rw [List.getElem?_eq_getElem hj] at e
    conv => lhs; rw [← List.take_append_drop j x.l, List.drop_eq_getElem_cons hj, Option.some.inj e]
  have e2 : x.l.set j (goneB y) = x.l.take j ++ goneB y :: x.l.drop (j + 1) := List.set_eq_take_append_cons_drop .. |>.trans (by rw [if_pos hj])
  have hid := right_id h hy
  have h1 : ∀ s ∈ shown (x.l.take j), s.id ≠ y.id := by
    intro s hs
    obtain ⟨b, hb, e⟩ := shown_mem_id hs
    obtain ⟨i, hi⟩ := List.getElem?_of_mem hb
    rw [List.getElem?_take] at hi
    split at hi
    · have := right_id h hi; omega
    · cases hi
  have h2 : ∀ s ∈ shown (x.l.drop (j + 1)), s.id ≠ y.id := by
    intro s hs
    obtain ⟨b, hb, e⟩ := shown_mem_id hs
    obtain ⟨i, hi⟩ := List.getElem?_of_mem hb
    rw [List.getElem?_drop] at hi
    have := right_id h hi; omega
  rw [e2]
  conv => rhs; rw [e1]
  rw [show x.l.take j ++ y :: x.l.drop (j + 1) = x.l.take j ++ ([y] ++ x.l.drop (j + 1)) from rfl, show x.l.take j ++ goneB y :: x.l.drop (j + 1) = x.l.take j ++ ([goneB y] ++ x.l.drop (j + 1)) from rfl]
  rw [shown_append, shown_append, shown_append, shown_append, dropId_append, dropId_append, dropId_none h1, dropId_none h2]
  congr 2
  have h3 : shown [goneB y] = [] := by simp [shown, showB, goneB]
  rw [h3]
  by_cases hs : showB y = true
  · simp [shown, hs, dropId, seenB]
  · simp [shown, hs, dropId]
set_option maxRecDepth 100000 in
/-- What is behind an id does not hang on a box of no greater one. -/
theorem restOf_drop {S : List Sn} {i b : Int} (h : i ≤ b) : restOf (dropId S i) b = restOf S b := by
  unfold restOf dropId
  rw [List.filter_filter]
  congr 1
  funext s
  by_cases h1 : b < s.id
  · simp [h1]; omega
  · simp [h1]

set_option maxRecDepth 100000 in
theorem mod_atG (a : Int) (n : Nat) (h : 0 < n) : ∃ j : Nat, (a.tmod n + n).tmod n = (j : Int) ∧ j < n := by
  have h1 := Int.tmod_lt_of_pos a (show (0 : Int) < n by omega)
  have h2 := Int.lt_tmod_of_pos a (show (0 : Int) < n by omega)
  have h3 := Int.tmod_nonneg (n : Int) (show 0 ≤ a.tmod n + n by omega)
  have h4 := Int.tmod_lt_of_pos (a.tmod n + n) (show (0 : Int) < n by omega)
  exact ⟨((a.tmod n + n).tmod n).toNat, by omega, by omega⟩
set_option maxRecDepth 100000 in
theorem mod_wrapG (a : Int) (n : Nat) (h : 0 < n) (hn : n ≤ 100) : IntKind.i64.wrap (a.tmod n + n) = a.tmod n + n := by
  have h1 := Int.tmod_lt_of_pos a (show (0 : Int) < n by omega)
  have h2 := Int.lt_tmod_of_pos a (show (0 : Int) < n by omega)
  exact IntWalk.i64_in _ ⟨by omega, by omega⟩

end Go.Proofs.Ytoiegffnmjlkdaa
