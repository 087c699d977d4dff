/-
  What a cloud shows, page by page, as plain data. Conditions: those that each theorem names.
-/
import Derived.Test.YtoiegffnmjlkdaaCdPlain
namespace Go.Proofs.Ytoiegffnmjlkdaa
open Go.RowKit Go.Shelf

/-- What is shown of a box. -/
structure Sn where
  id : Int
  tok : Int
  ver : Int
  zone : Int
  on : Bool
  well : Bool
  inn : Bool
  deriving DecidableEq
def Sn.vs (s : Sn) : List Value := [.int .i64 s.id, .int .i64 s.tok, .int .i64 s.ver, .int .i64 s.zone, .bool s.on, .bool s.well, .bool s.inn]
def seenB (b : Bx) : Sn := ⟨b.id, b.tok, b.ver, b.zone, b.on, b.well, b.lb == 1⟩
def showB (b : Bx) : Bool := b.tag && !b.gone
/-- All boxes that are shown. -/
def shown (l : List Bx) : List Sn := (l.filter showB).map seenB
/-- Those behind an id. -/
def restOf (S : List Sn) (id : Int) : List Sn := S.filter fun s => decide (id < s.id)
def pageOf (S : List Sn) (id : Int) : List Sn := (restOf S id).take 3
def moreOf (S : List Sn) (id : Int) : Bool := decide (3 < (restOf S id).length)
def nextOf : List Sn → Int → Int
  | [], b => b
  | s :: l, b => nextOf l (max b s.id)

/-- Ids that rise. -/
def Rising (S : List Sn) : Prop := S.Pairwise fun s t => s.id < t.id

set_option maxRecDepth 100000 in
theorem shown_nil : shown [] = [] := rfl
set_option maxRecDepth 100000 in
theorem shown_snoc (l : List Bx) (b : Bx) : shown (l ++ [b]) = shown l ++ if showB b then [seenB b] else [] := by
  unfold shown
  by_cases h : showB b <;> simp [List.filter_append, h]
set_option maxRecDepth 100000 in
theorem shown_take {l : List Bx} {j : Nat} {b : Bx} (h : l[j]? = some b) : shown (l.take (j + 1)) = shown (l.take j) ++ if showB b then [seenB b] else [] := by
  have hj : j < l.length := (List.getElem?_eq_some_iff.1 h).1
  rw [List.take_succ_eq_append_getElem hj, shown_snoc]
  rw [List.getElem?_eq_getElem hj] at h
  rw [Option.some.inj h]
set_option maxRecDepth 100000 in
theorem shown_le (l : List Bx) : (shown l).length ≤ l.length := by
  unfold shown
  rw [List.length_map]
  exact List.length_filter_le _ _

set_option maxRecDepth 100000 in
theorem rising_right {x : Cw} (h : right x = true) : Rising (shown x.l) := by
  have key : ∀ (i j : Nat) (y z : Bx), x.l[i]? = some y → x.l[j]? = some z → i < j → y.id < z.id := fun i j y z hy hz hij => by
    have := right_id h hy
    have := right_id h hz
    omega
  have hp : x.l.Pairwise fun y z => y.id < z.id := by
    rw [List.pairwise_iff_getElem]
    intro i j hi hj hij
    exact key i j _ _ (List.getElem?_eq_getElem hi) (List.getElem?_eq_getElem hj) hij
  unfold Rising shown
  rw [List.pairwise_map]
  exact (List.Pairwise.filter _ hp).imp fun h => h

set_option maxRecDepth 100000 in
theorem restOf_rising {S : List Sn} (h : Rising S) (id : Int) : Rising (restOf S id) := List.Pairwise.filter _ h
set_option maxRecDepth 100000 in
theorem restOf_above {S : List Sn} {id : Int} {s : Sn} (h : s ∈ restOf S id) : id < s.id := by
  have := (List.mem_filter.1 h).2
  simpa using this
set_option maxRecDepth 100000 in
/-- In a row that rises, those behind the k-th are those from k + 1 on. -/
theorem restOf_at {S : List Sn} (h : Rising S) {k : Nat} {s : Sn} (hs : S[k]? = some s) : restOf S s.id = S.drop (k + 1) := by
  induction S generalizing k with
  | nil => simp at hs
  | cons t S ih =>
    have h2 := List.pairwise_cons.1 h
    cases k with
    | zero =>
      simp at hs
      subst hs
      rw [List.drop_succ_cons, List.drop_zero]
      unfold restOf
      rw [List.filter_cons_of_neg (by simp)]
      exact List.filter_eq_self.2 fun u hu => by simpa using h2.1 u hu
    | succ k =>
      have hs' : S[k]? = some s := by simpa using hs
      have hlt : t.id < s.id := h2.1 s (List.mem_of_getElem? hs')
      rw [List.drop_succ_cons, ← ih h2.2 hs']
      unfold restOf
      rw [List.filter_cons_of_neg (by simp; omega)]
set_option maxRecDepth 100000 in
theorem restOf_rest {S : List Sn} {a b : Int} (h : a ≤ b) : restOf (restOf S a) b = restOf S b := by
  unfold restOf
  rw [List.filter_filter]
  congr 1
  funext s
  by_cases h1 : b < s.id
  · simp [h1]; omega
  · simp [h1]
set_option maxRecDepth 100000 in
theorem nextOf_ge (l : List Sn) (b : Int) : b ≤ nextOf l b := by
  induction l generalizing b with
  | nil => exact Int.le_refl _
  | cons s l ih => exact Int.le_trans (Int.le_max_left b s.id) (ih (max b s.id))
set_option maxRecDepth 100000 in
theorem nextOf_append (l m : List Sn) (b : Int) : nextOf (l ++ m) b = nextOf m (nextOf l b) := by
  induction l generalizing b with
  | nil => rfl
  | cons s l ih => exact ih _
set_option maxRecDepth 100000 in
/-- Of a row that rises, above b, the greatest is the last. -/
theorem nextOf_last {l : List Sn} (h : Rising l) {b : Int} (hb : ∀ s ∈ l, b < s.id) {k : Nat} {s : Sn} (hs : l[k]? = some s) (hk : k + 1 = l.length) : nextOf l b = s.id := by
  induction l generalizing b k with
  | nil => simp at hs
  | cons t l ih =>
    have h2 := List.pairwise_cons.1 h
    have ht : b < t.id := hb t (by simp)
    have e : max b t.id = t.id := Int.max_eq_right (by omega)
    cases k with
    | zero =>
      simp at hs
      subst hs
      have : l = [] := List.eq_nil_of_length_eq_zero (by rw [List.length_cons] at hk; omega)
      subst this
      exact e
    | succ k =>
      show nextOf l (max b t.id) = s.id
      rw [e]
      exact ih h2.2 h2.1 (by simpa using hs) (by simpa using hk)

set_option maxRecDepth 100000 in
/-- From a page to the next one: what is behind it. -/
theorem page_next {S : List Sn} (h : Rising S) (id : Int) : restOf S (nextOf (pageOf S id) id) = (restOf S id).drop 3 := by
  have hr := restOf_rising h id
  obtain ⟨R, hR⟩ : ∃ R, restOf S id = R := ⟨_, rfl⟩
  have hab : ∀ s ∈ R, id < s.id := fun s hs => restOf_above (hR ▸ hs)
  rw [hR] at hr
  have e : restOf S (nextOf (pageOf S id) id) = restOf R (nextOf (pageOf S id) id) := by rw [← hR, restOf_rest (nextOf_ge _ _)]
  rw [e]
  unfold pageOf
  rw [hR]
  rcases Nat.eq_zero_or_pos R.length with h0 | h0
  · have : R = [] := List.eq_nil_of_length_eq_zero h0
    subst this
    rfl
  · obtain ⟨k, hk⟩ : ∃ k, min 3 R.length = k + 1 := ⟨min 3 R.length - 1, by omega⟩
    obtain ⟨s, hs⟩ : ∃ s, R[k]? = some s := ⟨_, List.getElem?_eq_getElem (by omega)⟩
    have hn : nextOf (R.take 3) id = s.id := by
      refine nextOf_last (List.Pairwise.sublist (List.take_sublist 3 R) hr) (fun t ht => hab t (List.mem_of_mem_take ht)) (k := k) ?_ (by rw [List.length_take]; omega)
      rw [List.getElem?_take, if_pos (by omega)]
      exact hs
    rw [hn, restOf_at hr hs]
    rcases Nat.lt_or_ge R.length 3 with h3 | h3
    · rw [show k + 1 = R.length by omega, List.drop_length, List.drop_eq_nil_of_le (by omega)]
    · rw [show k + 1 = 3 by omega]
set_option maxRecDepth 100000 in
/-- Of ids from 1 on, all are behind nought. -/
theorem restOf_all {S : List Sn} (h : ∀ s ∈ S, 0 < s.id) : restOf S 0 = S := List.filter_eq_self.2 fun s hs => by simpa using h s hs
set_option maxRecDepth 100000 in
theorem shown_pos {x : Cw} (h : right x = true) : ∀ s ∈ shown x.l, 0 < s.id := by
  intro s hs
  unfold shown at hs
  rw [List.mem_map] at hs
  obtain ⟨b, hb, rfl⟩ := hs
  obtain ⟨j, hj⟩ := List.getElem?_of_mem (List.mem_filter.1 hb).1
  have := right_id h hj
  show 0 < b.id
  omega
set_option maxRecDepth 100000 in
theorem moreOf_drop {S : List Sn} (id : Int) : moreOf S id = true ↔ (restOf S id).drop 3 ≠ [] := by
  unfold moreOf
  rw [decide_eq_true_eq, ne_eq, List.drop_eq_nil_iff]
  omega

end Go.Proofs.Ytoiegffnmjlkdaa
