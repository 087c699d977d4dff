/-
  Texts that the walk of a statement over brains leans on, joined (RecMany, BrFitP, BrDeeds, BrCopy). Conditions: those that each theorem names.
-/
import Derived.Test.YtdaimejlcfhfiaaGreatDoorKQ
import Derived.Test.YtdaimejlcfhfiaaGreatDoorK0
import Derived.Test.YtdaimejlcfhfiaaGreatDoorK2
import Derived.Test.YtdaimejlcfhfiaaGreatDoorK11
import Derived.Test.YtdaimejlcfhfiaaGreatDoorK13
import Derived.Test.YtdaimejlcfhfiaaGreatDoorK14
import Derived.Maps.OwnOps
import Derived.Maps.OwnSet
import Derived.Laws.EntriesVeiled
import Derived.Lib.SlMapMerge
import Derived.Maps.Ext
import Derived.Maps.RangeWalk
import Derived.Laws.IdiomRangeMap
set_option maxRecDepth 100000

namespace Go.Proofs.YtdaimejlcfhfiaaGreatDoor
open Go.RowKit Go.Shelf

/-- The fewest, and the most, numbers of a kind; of none: more than there may be. -/
def loL : List Nat := [1, 0, 14, 3, 3, 1, 3, 1, 5, 2, 1, 2, 0, 0, 1, 0, 0]
def hiL : List Nat := [0, 0, 18, 3, 3, 1, 3, 1, 5, 2, 1, 2, 0, 0, 1, 0, 0]
def lo (k : Nat) : Nat := loL.getD k 1
def hi (k : Nat) : Nat := hiL.getD k 0
theorem lo_out {k : Nat} (h : 17 ≤ k) : lo k = 1 := by simp [lo, loL, List.getD, h]
theorem hi_out {k : Nat} (h : 17 ≤ k) : hi k = 0 := by simp [hi, hiL, List.getD, h]
theorem kind_cases {k : Nat} (h : k < 17) : k = 0 ∨ k = 1 ∨ k = 2 ∨ k = 3 ∨ k = 4 ∨ k = 5 ∨ k = 6 ∨ k = 7 ∨ k = 8 ∨ k = 9 ∨ k = 10 ∨ k = 11 ∨ k = 12 ∨ k = 13 ∨ k = 14 ∨ k = 15 ∨ k = 16 := by omega
theorem hi_le (k : Nat) : hi k ≤ 18 ∧ lo k ≤ 14 := by
  rcases Nat.lt_or_ge k 17 with h | h
  · rcases kind_cases h with rfl | rfl | rfl | rfl | rfl | rfl | rfl | rfl | rfl | rfl | rfl | rfl | rfl | rfl | rfl | rfl | rfl <;> decide
  · rw [hi_out h, lo_out h]; omega

/-- Whether a record may be. -/
def mayB (k : Nat) (zs : List Int) : Bool := decide (lo k ≤ zs.length) && decide (zs.length ≤ hi k) && zs.all isNum

theorem mayB_yes {k : Nat} {zs : List Int} (h : mayB k zs = true) : lo k ≤ zs.length ∧ zs.length ≤ hi k ∧ zs.all isNum = true := by simpa [mayB, and_assoc] using h
theorem mayB_kind {k : Nat} {zs : List Int} (h : mayB k zs = true) : 0 < k ∧ k < 17 := by
  obtain ⟨h1, h2, _⟩ := mayB_yes h
  rcases Nat.lt_or_ge k 17 with h3 | h3
  · refine ⟨?_, h3⟩
    rcases Nat.eq_zero_or_pos k with rfl | h4
    · have e1 : lo 0 = 1 := rfl
      have e2 : hi 0 = 0 := rfl
      omega
    · exact h4
  · rw [lo_out h3] at h1; rw [hi_out h3] at h2; omega

theorem kind_ne {k : Int} (h : 17 ≤ k) (m : Int) (hm : m < 17) : (k == m) = false := by rw [beq_eq_false_iff_ne]; omega

set_option maxHeartbeats 4000000 in
theorem many_any (k : Nat) (w : World) :
    Calls Tryz.prog 60 #[.int .u8 (k : Int)] w fun e w' => e = .returned (.tuple #[.int .i64 (lo k : Int), .int .i64 (hi k : Int)]) ∧ w = w' := by
  rcases Nat.lt_or_ge k 17 with h | h
  · rcases kind_cases h with rfl | rfl | rfl | rfl | rfl | rfl | rfl | rfl | rfl | rfl | rfl | rfl | rfl | rfl | rfl | rfl | rfl
    all_goals
      clear h
      go_enter Tryz.func60, Tryz.ntmps60
      go_wp2
      go_ret2
      exact ⟨rfl, rfl⟩
  · rw [lo_out h, hi_out h]
    obtain ⟨z, hz⟩ : ∃ z : Int, (k : Int) = z := ⟨_, rfl⟩
    have h17 : 17 ≤ z := by omega
    rw [hz]
    clear hz h
    have e1 := kind_ne h17 1 (by omega)
    have e2 := kind_ne h17 2 (by omega)
    have e3 := kind_ne h17 3 (by omega)
    have e4 := kind_ne h17 4 (by omega)
    have e5 := kind_ne h17 5 (by omega)
    have e6 := kind_ne h17 6 (by omega)
    have e7 := kind_ne h17 7 (by omega)
    have e8 := kind_ne h17 8 (by omega)
    have e9 := kind_ne h17 9 (by omega)
    have e10 := kind_ne h17 10 (by omega)
    have e11 := kind_ne h17 11 (by omega)
    have e12 := kind_ne h17 12 (by omega)
    have e13 := kind_ne h17 13 (by omega)
    have e14 := kind_ne h17 14 (by omega)
    have e15 := kind_ne h17 15 (by omega)
    have e16 := kind_ne h17 16 (by omega)
    clear h17
    go_enter Tryz.func60, Tryz.ntmps60
    go_wp2
    go_ret2
    exact ⟨rfl, rfl⟩

end Go.Proofs.YtdaimejlcfhfiaaGreatDoor

namespace Go.Proofs.YtdaimejlcfhfiaaGreatDoor
open Go.RowKit Go.Shelf

section
variable {p : Br} {k : Nat} {zs : List Int}
/-- What no int leaves. -/
structure Good (m : Nat) (p : Br) : Prop where
  len : p.its.length + p.kps.length ≤ m
  ep : -9223372036854775808 ≤ p.ep
  sq : -9223372036854775808 ≤ p.sq
  ph : ∀ x ∈ p.kps, 0 ≤ x.phase
theorem good_apply {m : Nat} (h : Good m p) (k : Int) (zs : List Int) : Good (m + 1) (applyB p k zs) := by
  have h1 := len_apply p k zs
  have h2 := step_apply p k zs
  refine ⟨by have := h.len; omega, Int.le_trans h.ep h2.ep, Int.le_trans h.sq h2.sq, ?_⟩
  have hb := h.ph
  refine apply_cases (P := fun o : Br => ∀ x ∈ o.kps, 0 ≤ x.phase) (fun _ hr => ?_) (fun hn _ _ => ?_) hb
  · unfold confB; rw [if_pos hr]; exact hb
  refine fit_cases (P := fun o : Br => ∀ x ∈ o.kps, 0 ≤ x.phase) (fun e => ?_) (fun e => ?_) (fun e => ?_) (fun e => ?_) (fun e => ?_) (fun e => ?_) (fun e => ?_) (fun e => ?_) (fun e => ?_) (fun _ e => ?_) hb
  · unfold bootB; split <;> exact hb
  · unfold intentB; split <;> exact hb
  · unfold madeB; split
    · exact hb
    · split
      · intro x hx
        rcases putK_mem.1 hx with rfl | hx
        · show (0 : Int) ≤ if _ then 9 else 1
          split <;> decide
        · exact hb x hx
      · exact hb
  · unfold phaseB; split
    · exact hb
    · split
      · rename_i hl
        intro x hx
        rcases setK_mem hx with hx | ⟨z, hz, _, rfl⟩
        · exact hb x hx
        · have := legal_bd hl.2
          show 0 ≤ zs.getD 1 0
          omega
      · exact hb
  · unfold goneB_; split
    · exact hb
    · exact fun x hx => hb x (List.mem_of_mem_eraseP hx)
  · unfold takeB; split
    · intro x hx
      rcases putK_mem.1 hx with rfl | hx
      · show (0 : Int) ≤ 8; decide
      · exact hb x hx
    · exact hb
  · unfold guardB; split
    · exact hb
    · split
      · intro x hx
        rcases setK_mem hx with hx | ⟨z, hz, _, rfl⟩
        · exact hb x hx
        · exact hb z hz
      · exact hb
  · unfold doneB; split
    · exact hb
    · split
      · intro x hx
        rcases setK_mem hx with hx | ⟨z, hz, _, rfl⟩
        · exact hb x hx
        · exact hb z hz
      · exact hb
  · unfold startB; split <;> exact hb
  · unfold refB
    repeat' split
    all_goals exact hb

theorem kept_idx (p : Br) (id : Int) : (p.kps.findIdx? (fun y => decide (y.id = id)) = none ∧ keptB p id = none ∧ findB p id = -1) ∨
    ∃ (i : Nat) (x : Kp), p.kps.findIdx? (fun y => decide (y.id = id)) = some i ∧ p.kps[i]? = some x ∧ keptB p id = some x ∧ findB p id = (i : Int) := by
  cases h : p.kps.findIdx? (fun y => decide (y.id = id)) with
  | none =>
    refine .inl ⟨rfl, ?_, by simp [findB, h]⟩
    rw [List.findIdx?_eq_none_iff] at h
    simp only [keptB, List.find?_eq_none]
    exact fun x hx => by simpa using h x hx
  | some i =>
    have h2 := h
    rw [List.findIdx?_eq_some_iff_getElem] at h2
    obtain ⟨hi, h3, h4⟩ := h2
    refine .inr ⟨i, p.kps[i], rfl, List.getElem?_eq_getElem hi, ?_, by simp [findB, h]⟩
    rw [keptB, List.find?_eq_some_iff_getElem]
    exact ⟨h3, i, hi, rfl, fun j hj => by simpa using h4 j hj⟩
theorem meant_idx (p : Br) (t : Int) : (p.its.findIdx? (fun y => decide (y.tok = t)) = none ∧ meantB p t = none ∧ tokenB p t = -1) ∨
    ∃ (i : Nat) (x : It), p.its.findIdx? (fun y => decide (y.tok = t)) = some i ∧ p.its[i]? = some x ∧ meantB p t = some x ∧ tokenB p t = (i : Int) := by
  cases h : p.its.findIdx? (fun y => decide (y.tok = t)) with
  | none =>
    refine .inl ⟨rfl, ?_, by simp [tokenB, h]⟩
    rw [List.findIdx?_eq_none_iff] at h
    simp only [meantB, List.find?_eq_none]
    exact fun x hx => by simpa using h x hx
  | some i =>
    have h2 := h
    rw [List.findIdx?_eq_some_iff_getElem] at h2
    obtain ⟨hi, h3, h4⟩ := h2
    refine .inr ⟨i, p.its[i], rfl, List.getElem?_eq_getElem hi, ?_, by simp [tokenB, h]⟩
    rw [meantB, List.find?_eq_some_iff_getElem]
    exact ⟨h3, i, hi, rfl, fun j hj => by simpa using h4 j hj⟩
theorem setK_set {id : Int} {f : Kp → Kp} {l : List Kp} {i : Nat} {x : Kp} (h : l.findIdx? (fun y => decide (y.id = id)) = some i) (hx : l[i]? = some x) : setK id f l = l.set i (f x) := by
  apply List.ext_getElem?
  intro j
  rw [setK_get h j]
  have hi := (List.getElem?_eq_some_iff.1 hx).1
  by_cases e : j = i
  · subst e
    rw [if_pos rfl, hx, List.getElem?_set_self hi]
    rfl
  · rw [if_neg e, List.getElem?_set_ne (Ne.symm e)]
theorem fresh_iff (p : Br) (id : Int) : decide (findB p id < 0) = true ↔ keptB p id = none := by
  rcases kept_idx p id with ⟨_, h2, h3⟩ | ⟨i, x, _, _, h2, h3⟩
  · simp [h2, h3]
  · simp [h2, h3]

theorem many_of (h : mayB k zs = true) (h2 : k ≠ 2) : manyB (k : Int) = (zs.length : Int) := by
  obtain ⟨h1, h3, _⟩ := mayB_yes h
  obtain ⟨h4, h5⟩ := mayB_kind h
  rcases kind_cases h5 with rfl | rfl | rfl | rfl | rfl | rfl | rfl | rfl | rfl | rfl | rfl | rfl | rfl | rfl | rfl | rfl | rfl
  all_goals first
    | omega
    | (simp only [lo, hi, loL, hiL, List.getD_cons_succ, List.getD_cons_zero] at h1 h3
       have hl : zs.length = _ := Nat.le_antisymm h3 h1
       rw [hl]; try decide)
theorem apply_fit (h : mayB k zs = true) (h2 : k ≠ 2) : applyB p (k : Int) zs = fitB p (k : Int) (zs.getD 0 0) (zs.getD 1 0) (zs.getD 2 0) (zs.getD 3 0) (zs.getD 4 0) := by
  have hn : numsB zs = true := (mayB_yes h).2.2
  unfold applyB
  rw [if_pos hn, if_neg (by omega), if_pos (many_of h h2)]
theorem len_of (h : mayB k zs = true) (h2 : k ≠ 2) : (zs.length : Int) = manyB (k : Int) := (many_of h h2).symm
theorem apply_conf (h : mayB 2 zs = true) : applyB p 2 zs = confB p zs := by
  have hn : numsB zs = true := (mayB_yes h).2.2
  unfold applyB
  rw [if_pos hn, if_pos rfl]
/-- A record that may not be does nothing. -/
theorem apply_not (h : mayB k zs = false) : applyB p (k : Int) zs = p := by
  by_cases hn : numsB zs = true
  · by_cases h2 : k = 2
    · subst h2
      unfold applyB
      rw [if_pos hn, if_pos (by rfl)]
      unfold confB
      rw [if_neg]
      intro hr
      have hs : shapeB zs = true := by
        unfold isRow at hr
        simp only [Bool.and_eq_true] at hr
        exact hr.1
      have hl : 14 ≤ zs.length ∧ zs.length ≤ 18 := by
        unfold shapeB at hs
        unfold isRow may marksB at hr
        simp only [Bool.and_eq_true, decide_eq_true_eq] at hs hr
        have := hr.2.2.1.1
        simp only [ofRow, List.length_drop] at this
        omega
      have : mayB 2 zs = true := by
        have hn' : zs.all isNum = true := hn
        simp only [mayB, Bool.and_eq_true, decide_eq_true_eq, hn', and_true]
        exact hl
      rw [this] at h; cases h
    · refine not_len (by omega) ?_
      intro hm
      rcases Nat.lt_or_ge k 17 with h5 | h5
      · have : mayB k zs = true := by
          have hn' : zs.all isNum = true := hn
          simp only [mayB, Bool.and_eq_true, decide_eq_true_eq, hn', and_true]
          rcases kind_cases h5 with rfl | rfl | rfl | rfl | rfl | rfl | rfl | rfl | rfl | rfl | rfl | rfl | rfl | rfl | rfl | rfl | rfl
          all_goals first
            | omega
            | (simp only [lo, hi, loL, hiL, List.getD_cons_succ, List.getD_cons_zero]
               revert hm
               simp only [manyB]
               simp
               first | done | omega | (intro h9; exact List.length_eq_zero_iff.1 (by omega)))
        rw [this] at h; cases h
      · have : manyB (k : Int) = -1 := by
          unfold manyB
          rw [if_neg (by omega), if_neg (by omega), if_neg (by omega), if_neg (by omega), if_neg (by omega)]
        omega
  · exact not_nums (by simpa using hn)
end

end Go.Proofs.YtdaimejlcfhfiaaGreatDoor

namespace Go.Proofs.YtdaimejlcfhfiaaGreatDoor
open Go.RowKit Go.Shelf
open Go.Maps (Keyed int_keyed keyOf_int_mk)

def pairOk (l : List Value) : Bool := match l with
  | [x, y] => x.oneCell' && y.oneCell'
  | _ => false
def deedR (v : Value) : Option (DataW Value × List MemPlace) := match v with
  | .agg cs => if pairOk cs.toList then some (.held v, []) else none
  | _ => none
def deedP (c : Value × Value) : Value := .agg #[c.1, c.2]
theorem deedR_inv {v : Value} {y : DataW Value × List MemPlace} (h : deedR v = some y) : ∃ c, v = deedP c := by
  cases v with
  | agg cs =>
    simp only [deedR] at h
    split at h
    · rename_i e
      obtain ⟨l⟩ := cs
      simp only at e
      unfold pairOk at e
      split at e
      · rename_i a b
        exact ⟨(a, b), rfl⟩
      · cases e
    · cases h
  | _ => cases h
theorem deedR_mk {c : Value × Value} {y : DataW Value × List MemPlace} (h : deedR (deedP c) = some y) : c.1.oneCell' = true ∧ c.2.oneCell' = true ∧ y = (.held (deedP c), []) := by
  have h2 : (if (c.1.oneCell' && c.2.oneCell') = true then some ((DataW.held (deedP c), []) : DataW Value × List MemPlace) else none) = some y := h
  by_cases e : (c.1.oneCell' && c.2.oneCell') = true
  · rw [if_pos e] at h2
    simp only [Bool.and_eq_true] at e
    exact ⟨e.1, e.2, by cases h2; rfl⟩
  · rw [if_neg e] at h2
    cases h2
abbrev pB (b : Nat) : Value := .pointer (some ⟨b, 0, none⟩)
abbrev clo (f : Nat) (l : Array Value) : Value := .func (.func f) #[] l
/-- The map under way: its own block is the first one. -/
def DAt (W0 : World) (n : Nat) (D : DataW Value) (W : World) : Prop := W.ownsMap Tryz.prog 5 deedR W0.heap.size n D ∧ Below W0.heap.size W0 W

theorem wpList_deed {W0 W : World} {ops : Array Oper} {rest : List Oper} {o : Oper} {a : Act} {Q : Exit → Act → World → Prop} (n k : Nat) (D : DataW Value) (f : Nat → Value) (h : DAt W0 n D W) (hn : n < 1000) (hk : k < 256) (hg : o.guard = none) (m x v : Operand)
    (hop : o.op = Op.insert 63 m x v) (hm : a.eval m = .map (some W0.heap.size)) (hx : a.eval x = .int .u8 (k : Int)) (hv : a.eval v = f k) (hf : deedR (f k) = some (.held (f k), []))
    (hK : ∀ W', DAt W0 (n + 1) (D.put (.int .u8 (k : Int)) (.held (f k))) W' → wpList Tryz.prog ops Q rest (a.put o.dst undef) W') : wpList Tryz.prog ops Q (o :: rest) a W := by
  refine wpList_plain hg fun K' hK' => ?_
  obtain ⟨w', hrun, r1, r2⟩ := h.1.update (int_keyed Tryz.underlying5) Tryz.underlying63 (by unfold maxLen; omega) (keyOf_int_mk (q := .u8) (a := (k : Int)) Tryz.underlying5 (by
    have h1 : IntKind.u8.min = 0 := rfl
    have h2 : IntKind.u8.max = 255 := rfl
    simp [Lit.wf, h1, h2]; omega)) (val := f k) hf
  unfold Oper.wp
  simp [execOp, hop, hm, hx, hv, hrun, Result.andThen]
  exact hK' _ _ (hK w' ⟨r1, h.2.trans ((Below.refl _ _).grown r2 h.2.size (fun k e => by cases e; exact Nat.le_refl _))⟩)

/-- The map of some deeds, in the order of their kinds. -/
def mapD (l : List (Nat × Value)) : DataW Value := .map (l.map fun x => (.int .u8 (x.1 : Int), .held x.2))
/-- The boxes that the deeds hold. -/
structure Bx where
  (b1 b2 b3 b4 b5 b6 b7 b8 : Nat)
/-- The deeds of the kinds. -/
def deedV (x : Bx) : Nat → Value
  | 1 => .agg #[clo 71 #[pB x.b1], clo 72 #[pB x.b1]]
  | 2 => .agg #[clo 73 #[], clo 74 #[pB x.b1]]
  | 3 => .agg #[clo 76 #[pB x.b1], clo 77 #[pB x.b1]]
  | 4 => .agg #[clo 82 #[pB x.b2, pB x.b4], clo 83 #[pB x.b2]]
  | 5 => .agg #[clo 99 #[pB x.b7], clo 100 #[pB x.b7, pB x.b6]]
  | 6 => .agg #[clo 85 #[pB x.b3, pB x.b5], clo 87 #[pB x.b5]]
  | 7 => .agg #[clo 79 #[pB x.b2], clo 89 #[pB x.b2]]
  | 8 => .agg #[clo 91 #[pB x.b4], clo 92 #[pB x.b2]]
  | 9 => .agg #[clo 94 #[pB x.b3], clo 95 #[pB x.b5]]
  | 10 => .agg #[clo 96 #[pB x.b3, pB x.b5], clo 98 #[pB x.b5]]
  | 11 => .agg #[clo 102 #[pB x.b6, pB x.b8], clo 103 #[pB x.b6, pB x.b7]]
  | 12 => .agg #[clo 99 #[pB x.b7], clo 104 #[pB x.b7]]
  | 13 => .agg #[clo 99 #[pB x.b7], clo 106 #[pB x.b7]]
  | 14 => .agg #[clo 107 #[pB x.b8, pB x.b7], clo 108 #[pB x.b7]]
  | 15 => .agg #[clo 109 #[pB x.b8, pB x.b7], clo 110 #[pB x.b7]]
  | 16 => .agg #[clo 99 #[pB x.b7], clo 111 #[pB x.b7, pB x.b6]]
  | _ => .agg #[]
def deedL (x : Bx) (l : List Nat) : DataW Value := mapD (l.map fun k => (k, deedV x k))

def GroupPost (g : Nat) (w : World) (e : Ending) (w' : World) : Prop := ∃ m b1, e = .returned (.map (some m)) ∧ w.heap.size ≤ m ∧ Below w.heap.size w w' ∧ Whole w' b1 65 #[.pointer (some ⟨g, 0, none⟩)] ∧ ∀ x : Bx, x.b1 = b1 → w'.ownsMap Tryz.prog 5 deedR m 3 (deedL x [1, 2, 3])

set_option maxHeartbeats 2000000 in
theorem ofGroup_any (g : Nat) (w : World) : Calls Tryz.prog 55 #[.pointer (some ⟨g, 0, none⟩)] w (GroupPost g w) := by
  have hmm := @run_makeMap Tryz.prog
  obtain ⟨V, hV⟩ : ∃ V, w.alloc (.cells #[.pointer (some ⟨g, 0, none⟩)] 65) = V := ⟨_, rfl⟩
  have hw : Whole V w.heap.size 65 #[.pointer (some ⟨g, 0, none⟩)] := by rw [← hV]; exact Whole.new _ _ _
  have hb : Below w.heap.size w V := by rw [← hV]; exact (Below.refl _ _).alloc (Nat.le_refl _) _
  have HN : DAt V 0 (.map []) (V.alloc (.map #[] 0)) := ⟨World.ownsMap_made V _ _ _, (Below.refl _ V).alloc (Nat.le_refl _) _⟩
  have HV := Lib.hid hV
  have HW := Lib.hid hw
  have HB := Lib.hid hb
  clear hV hw hb
  go_enter Tryz.func55, Tryz.ntmps55
  go_upto_region 1 with fail
  rw [HV.out]
  go_wp2_with (refine wpList_deed _ _ _ (deedV ⟨w.heap.size, 0, 0, 0, 0, 0, 0, 0⟩) HN (by decide) (by decide) rfl _ _ _ rfl rfl rfl rfl rfl ?_; clear HN; intro w1 HN)
  go_ret
  refine ⟨V.heap.size, w.heap.size, rfl, HB.out.size, HB.out.trans (HN.2.mono HB.out.size), HW.out.under HN.2, fun x hx => ?_⟩
  have e : deedL x [1, 2, 3] = deedL ⟨w.heap.size, 0, 0, 0, 0, 0, 0, 0⟩ [1, 2, 3] := by
    simp only [deedL, List.map_cons, List.map_nil, deedV, hx]
  rw [e]
  exact HN.1

/-- What the box is of. -/
def KBox (w : World) (g b2 b3 b4 b5 : Nat) : Prop :=
  Whole w b2 65 #[.pointer (some ⟨g, 0, none⟩)] ∧ Whole w b3 56 #[clo 79 #[pB b2]] ∧ Whole w b4 78 #[clo 80 #[pB b2]] ∧ Whole w b5 108 #[clo 81 #[pB b2]]
def KeptPost (g : Nat) (w : World) (e : Ending) (w' : World) : Prop := ∃ m b2 b3 b4 b5, e = .returned (.map (some m)) ∧ w.heap.size ≤ m ∧ Below w.heap.size w w' ∧ KBox w' g b2 b3 b4 b5 ∧ ∀ x : Bx, x.b2 = b2 → x.b3 = b3 → x.b4 = b4 → x.b5 = b5 → w'.ownsMap Tryz.prog 5 deedR m 6 (deedL x [4, 6, 7, 8, 9, 10])

set_option maxHeartbeats 2000000 in
theorem ofKept_any (g : Nat) (w : World) : Calls Tryz.prog 57 #[.pointer (some ⟨g, 0, none⟩)] w (KeptPost g w) := by
  have hmm := @run_makeMap Tryz.prog
  obtain ⟨V, hV⟩ : ∃ V, (((w.alloc (.cells #[.pointer (some ⟨g, 0, none⟩)] 65)).alloc (.cells #[clo 79 #[pB w.heap.size]] 56)).alloc (.cells #[clo 80 #[pB w.heap.size]] 78)).alloc (.cells #[clo 81 #[pB w.heap.size]] 108) = V := ⟨_, rfl⟩
  have hb : Below w.heap.size w V := by
    rw [← hV]
    exact ((((Below.refl _ _).alloc (Nat.le_refl _) _).alloc (by simp) _).alloc (by simp; omega) _).alloc (by simp; omega) _
  have hk : KBox V g w.heap.size (w.heap.size + 1) (w.heap.size + 1 + 1) (w.heap.size + 1 + 1 + 1) := by
    rw [← hV]
    refine ⟨(((Whole.new w _ _).alloc _).alloc _).alloc _, ?_, ?_, ?_⟩
    · have := ((Whole.new (w.alloc (.cells #[.pointer (some ⟨g, 0, none⟩)] 65)) 56 #[clo 79 #[pB w.heap.size]]).alloc (.cells #[clo 80 #[pB w.heap.size]] 78)).alloc (.cells #[clo 81 #[pB w.heap.size]] 108)
      simp only [World.size_alloc] at this
      exact this
    · have := (Whole.new ((w.alloc (.cells #[.pointer (some ⟨g, 0, none⟩)] 65)).alloc (.cells #[clo 79 #[pB w.heap.size]] 56)) 78 #[clo 80 #[pB w.heap.size]]).alloc (.cells #[clo 81 #[pB w.heap.size]] 108)
      simp only [World.size_alloc] at this
      exact this
    · have := Whole.new (((w.alloc (.cells #[.pointer (some ⟨g, 0, none⟩)] 65)).alloc (.cells #[clo 79 #[pB w.heap.size]] 56)).alloc (.cells #[clo 80 #[pB w.heap.size]] 78)) 108 #[clo 81 #[pB w.heap.size]]
      simp only [World.size_alloc] at this
      exact this
  have HN : DAt V 0 (.map []) (V.alloc (.map #[] 0)) := ⟨World.ownsMap_made V _ _ _, (Below.refl _ V).alloc (Nat.le_refl _) _⟩
  have q3 := (hk.2.1.alloc (.map #[] 0)).cell 0
  have HV := Lib.hid hV
  have HK := Lib.hid hk
  have HB := Lib.hid hb
  have L3 := Lib.hid hk.2.1.lt
  have Q3 := Lib.hid (hk.2.1.cell 0)
  clear hV hb hk
  go_enter Tryz.func57, Tryz.ntmps57
  go_upto_region 4 with fail
  rw [HV.out]
  go_wp2_with (refine wpList_deed _ _ _ (deedV ⟨0, w.heap.size, w.heap.size + 1, w.heap.size + 1 + 1, w.heap.size + 1 + 1 + 1, 0, 0, 0⟩) HN (by decide) (by decide) rfl _ _ _ rfl rfl rfl rfl rfl ?_; clear HN q3; intro w1 HN; have q3 := (HN.2.cell (p := ⟨w.heap.size + 1, 0, none⟩) L3.out).trans Q3.out; simp only [List.getElem?_toArray, List.getElem?_cons_zero] at q3)
  go_ret
  refine ⟨V.heap.size, _, _, _, _, rfl, HB.out.size, HB.out.trans (HN.2.mono HB.out.size), ⟨HK.out.1.under HN.2, HK.out.2.1.under HN.2, HK.out.2.2.1.under HN.2, HK.out.2.2.2.under HN.2⟩, fun x h2 h3 h4 h5 => ?_⟩
  have e : deedL x [4, 6, 7, 8, 9, 10] = deedL ⟨0, w.heap.size, w.heap.size + 1, w.heap.size + 1 + 1, w.heap.size + 1 + 1 + 1, 0, 0, 0⟩ [4, 6, 7, 8, 9, 10] := by
    simp only [deedL, List.map_cons, List.map_nil, deedV, h2, h3, h4, h5]
  rw [e]
  exact HN.1

/-- What the boxes of a refresh hold. -/
def RBox (w : World) (g b6 b7 b8 : Nat) : Prop :=
  Whole w b6 65 #[.pointer (some ⟨g, 0, none⟩)] ∧ Whole w b7 115 #[.pointer (some ⟨g, 20, none⟩)] ∧ Whole w b8 56 #[clo 99 #[pB b7]]
def RefPost (g : Nat) (w : World) (e : Ending) (w' : World) : Prop := ∃ m b6 b7 b8, e = .returned (.map (some m)) ∧ w.heap.size ≤ m ∧ Below w.heap.size w w' ∧ RBox w' g b6 b7 b8 ∧ ∀ x : Bx, x.b6 = b6 → x.b7 = b7 → x.b8 = b8 → w'.ownsMap Tryz.prog 5 deedR m 7 (deedL x [5, 11, 12, 13, 14, 15, 16])

set_option maxHeartbeats 2000000 in
theorem ofRefresh_any (g : Nat) (w : World) {p : Br} {a : Ad} {base : Nat} (h : BrIn base g w p a) : Calls Tryz.prog 58 #[.pointer (some ⟨g, 0, none⟩)] w (RefPost g w) := by
  have hmm := @run_makeMap Tryz.prog
  obtain ⟨V, hV⟩ : ∃ V, ((w.alloc (.cells #[.pointer (some ⟨g, 0, none⟩)] 65)).alloc (.cells #[.pointer (some ⟨g, 20, none⟩)] 115)).alloc (.cells #[clo 99 #[pB (w.heap.size + 1)]] 56) = V := ⟨_, rfl⟩
  have hb : Below w.heap.size w V := by
    rw [← hV]
    exact (((Below.refl _ _).alloc (Nat.le_refl _) _).alloc (by simp) _).alloc (by simp; omega) _
  have hk : RBox V g w.heap.size (w.heap.size + 1) (w.heap.size + 1 + 1) := by
    rw [← hV]
    refine ⟨((Whole.new w _ _).alloc _).alloc _, ?_, ?_⟩
    · have := (Whole.new (w.alloc (.cells #[.pointer (some ⟨g, 0, none⟩)] 65)) 115 #[.pointer (some ⟨g, 20, none⟩)]).alloc (.cells #[clo 99 #[pB (w.heap.size + 1)]] 56)
      simp only [World.size_alloc] at this
      exact this
    · have := Whole.new ((w.alloc (.cells #[.pointer (some ⟨g, 0, none⟩)] 65)).alloc (.cells #[.pointer (some ⟨g, 20, none⟩)] 115)) 56 #[clo 99 #[pB (w.heap.size + 1)]]
      simp only [World.size_alloc] at this
      exact this
  have HN : DAt V 0 (.map []) (V.alloc (.map #[] 0)) := ⟨World.ownsMap_made V _ _ _, (Below.refl _ V).alloc (Nat.le_refl _) _⟩
  have q3 := (hk.2.2.alloc (.map #[] 0)).cell 0
  have HV := Lib.hid hV
  have HK := Lib.hid hk
  have HB := Lib.hid hb
  have L3 := Lib.hid hk.2.2.lt
  have Q3 := Lib.hid (hk.2.2.cell 0)
  have hgl := h.lt
  have q20 := (cells27 h.box).2.2.2.2.2.2.2.2.2.2.2.2.2.2.2.2.2.2.2.2.1
  clear hV hb hk h
  go_enter Tryz.func58, Tryz.ntmps58
  go_upto_region 3 with fail
  rw [HV.out]
  clear q20
  go_wp2_with (refine wpList_deed _ _ _ (deedV ⟨0, 0, 0, 0, 0, w.heap.size, w.heap.size + 1, w.heap.size + 1 + 1⟩) HN (by decide) (by decide) rfl _ _ _ rfl rfl rfl rfl rfl ?_; clear HN q3; intro w1 HN; have q3 := (HN.2.cell (p := ⟨w.heap.size + 1 + 1, 0, none⟩) L3.out).trans Q3.out; simp only [List.getElem?_toArray, List.getElem?_cons_zero] at q3)
  go_ret
  refine ⟨V.heap.size, _, _, _, rfl, HB.out.size, HB.out.trans (HN.2.mono HB.out.size), ⟨HK.out.1.under HN.2, HK.out.2.1.under HN.2, HK.out.2.2.under HN.2⟩, fun x h6 h7 h8 => ?_⟩
  have e : deedL x [5, 11, 12, 13, 14, 15, 16] = deedL ⟨0, 0, 0, 0, 0, w.heap.size, w.heap.size + 1, w.heap.size + 1 + 1⟩ [5, 11, 12, 13, 14, 15, 16] := by
    simp only [deedL, List.map_cons, List.map_nil, deedV, h6, h7, h8]
  rw [e]
  exact HN.1

end Go.Proofs.YtdaimejlcfhfiaaGreatDoor

namespace Go.Proofs.YtdaimejlcfhfiaaGreatDoor
open Go.RowKit Go.Shelf Go.Maps

abbrev deedM (w : World) (b n : Nat) (D : DataW Value) : Prop := w.ownsMap Tryz.prog 5 deedR b n D
def CopyPost (bd bs nd ns : Nat) (Dd Ds : DataW Value) (w : World) (e : Ending) (w' : World) : Prop :=
  e = .returned (.tuple #[]) ∧ deedM w' bd (nd + Maps.size Ds) (Lib.mergeD Dd Ds) ∧ deedM w' bs ns Ds ∧ w.grownBy w' (some bd)

/-- A deed into its new box. -/
theorem wpList_storeD {ops : Array Oper} {rest : List Oper} {o : Oper} {a : Act} {V : World} {Q : Exit → Act → World → Prop} (hgd : o.guard = none) (x y : Operand) (ho : o.op = .store 71 x y) (c1 c2 : Value) (h1 : c1.oneCell' = true) (h2 : c2.oneCell' = true)
    (b : Nat) (hb : V.heap.size = b) (hx : a.eval x = .pointer (some ⟨b, 0, none⟩)) (hy : a.eval y = .agg #[c1, c2])
    (h : ∀ W2, Whole W2 b 71 #[c1, c2] → V.grownBy W2 none → W2.heap.size = b + 1 → wpList Tryz.prog ops Q rest (a.put o.dst undef) W2) : wpList Tryz.prog ops Q (o :: rest) a (V.alloc (.cells #[.nilFunc, .nilFunc] 71)) := by
  subst hb
  have hn := Whole.new V 71 #[.nilFunc, .nilFunc]
  refine wpList_store_at hgd 71 x y ho V.heap.size 0 #[c1, c2] hx hy 71 #[.nilFunc, .nilFunc] hn (by kernel_rfl) (by simp) (by simp [h1, h2]) (h _ ?_ ?_ ?_)
  · exact setRow_heap _ _ _ _ _ _ hn
  · have hg := World.grownBy_alloc V (.cells #[.nilFunc, .nilFunc] 71) none
    have k := below_rowsetB (Below.refl V.heap.size (V.alloc (.cells #[.nilFunc, .nilFunc] 71))) (Nat.le_refl _) #[c1, c2]
    exact ⟨k.os.trans hg.os, k.tape.trans hg.tape, k.output.trans hg.output, Nat.le_trans hg.size k.size, fun i hi hne => (k.block i hi).trans (hg.block i hi hne)⟩
  · simp [World.setRow]
theorem wpList_loadD {ops : Array Oper} {rest : List Oper} {o : Oper} {a : Act} {w : World} {Q : Exit → Act → World → Prop} (hgd : o.guard = none) (x : Operand) (ho : o.op = .load 71 x) (g : Nat) (c1 c2 : Value) (hx : a.eval x = .pointer (some ⟨g, 0, none⟩)) (hW : Whole w g 71 #[c1, c2])
    (h : wpList Tryz.prog ops Q rest (a.put o.dst (.agg #[c1, c2])) w) : wpList Tryz.prog ops Q (o :: rest) a w := by
  refine wpList_plain hgd fun K hK => ?_
  unfold Oper.wp execOp
  simp only [ho, hx, Instr.loadAt, Instr.sureAddr, Sem.run_bind, Sem.run_pure, Result.andThen_ok, run_loadVar_row (P := Tryz.prog) w g 71 71 #[c1, c2] (0, 0) _ hW Tryz.underlying71 rfl (by kernel_rfl)]
  exact hK _ _ h

set_option maxHeartbeats 4000000 in
theorem copy_any (bd bs nd ns : Nat) (Dd Ds : DataW Value) (w : World) (hd : deedM w bd nd Dd) (hs : deedM w bs ns Ds) (hne : bd ≠ bs) (hroom : nd + Maps.size Ds ≤ maxLen) :
    Calls Tryz.prog 56 #[.map (some bd), .map (some bs)] w (CopyPost bd bs nd ns Dd Ds w) := by
  have K : Keyed Tryz.prog 5 := int_keyed Tryz.underlying5
  have hbd := hd.lt
  have hbs := hs.lt
  go_enter Tryz.func56, Tryz.ntmps56
  go_wp2_with (first
    | (at_range; refine wpList_range_own _ rfl _ 63 rfl 5 71 K Tryz.underlying63 deedR bs ns _ rfl hs ?_; intro w0 hrg0 hg0 hs0)
    | go_in)
  go_frame
  go_loopw [8] (fun _ wr => ∃ (left : Lit → Bool) (cnt : Nat) (Dout : DataW Value), wr.ranges Tryz.prog 5 deedR bs w.heap.size ns Ds left cnt ∧ cnt ≤ Maps.size Ds ∧
      wr.ownsMap Tryz.prog 5 deedR bd (nd + (Maps.size Ds - cnt)) Dout ∧ Merged Dout Dd Ds left ∧ w.grownBy wr (some bd))
    (fun _ wr => wr.rangeLeft bs w.heap.size)
  case atStart =>
    exact ⟨_, _, Dd, hrg0, Nat.le_refl _, (hd.kept hg0 (by simp)).mono (by omega), merged_start Dd Ds, hg0.but _⟩
  case round =>
    obtain ⟨left, cnt, Dout, hrg, hcs, hout, hM, hgw⟩ := hrel
    go_wp2_with (first
      | (at_next; refine wpList_next_ranges _ rfl _ rfl 5 K deedR id deedP (fun key _ _ => ⟨key, rfl⟩) (fun v _ hv => deedR_inv hv) bs w.heap.size ns _ _ _ rfl hrg ?_ ?_)
      | go_in)
    · intro hc0 hl0
      go_wp2
      go_end0
      subst hc0
      have e := merged_eq K.one hM hl0 (hout.canon K) (hd.canonK K) (hs.canonK K)
      subst e
      exact ⟨rfl, by simpa using hout, hrg.owns, hgw⟩
    · intro x c1 c2 kl y1 y2 w1 cnt1 hkey hlx hv hat hrg1 hlt hg1 hs1 hen
      have hout1 := hout.kept hg1 (fun e => by have := Option.some.inj e; omega)
      obtain ⟨k1, k2, k3⟩ := deedR_mk hv
      have hv' : deedR (.agg #[c1, c2]) = some (y1, y2) := hv
      have hen' : (Instr.entry (.pointer (some ⟨w.heap.size, 0, none⟩))).run Tryz.prog w1 = .ok (.tuple #[x, .agg #[c1, c2]]) w1 := hen
      clear hen hv k3
      go_wp2_with (first
        | (refine wpList_storeD rfl _ _ rfl c1 c2 k1 k2 _ hs1 rfl rfl ?_; intro w2 hw2 hg2 hs2)
        | (refine wpList_loadD rfl _ rfl _ c1 c2 rfl hw2 ?_)
        | (at_mapUpdate; refine wpList_mapUpdate_own _ rfl _ _ _ 63 rfl 5 71 K Tryz.underlying63 deedR bd _ _ rfl (hout1.kept hg2 (by simp)) (by omega) _ _ _ rfl rfl hkey y1 y2 hv' ?_; intro w3 hout3 hg3; go_frame)
        | go_in)
      have hrg2 := (hrg1.kept hg2 (by simp) (by simp)).kept hg3 (fun e => hne (Option.some.inj e).symm) (fun e => by have := Option.some.inj e; omega)
      go_roundw
      case rel =>
        exact ⟨_, cnt1, _, hrg2, by omega, hout3.mono (by omega), merged_step hM hout.isMap (K.key hkey) hat, ((hgw.andThen hg1 (fun j hj => .inl (by cases hj; exact Nat.le_refl _))).andThen hg2 (fun j hj => by cases hj)).andThen hg3 (fun j hj => .inr hj)⟩
      case measure => rw [hrg2.left_eq, hrg.left_eq]; exact hlt

theorem size_deedL (x : Bx) (l : List Nat) : Maps.size (deedL x l) = l.length := by simp [deedL, mapD, Maps.size]
/-- All boxes. -/
structure DBox (w : World) (g : Nat) (x : Bx) : Prop where
  e1 : Whole w x.b1 65 #[.pointer (some ⟨g, 0, none⟩)]
  k : KBox w g x.b2 x.b3 x.b4 x.b5
  r : RBox w g x.b6 x.b7 x.b8
theorem KBox.under {w w' : World} {g b2 b3 b4 b5 : Nat} (h : KBox w g b2 b3 b4 b5) (hb : Below w.heap.size w w') : KBox w' g b2 b3 b4 b5 := ⟨h.1.under hb, h.2.1.under hb, h.2.2.1.under hb, h.2.2.2.under hb⟩
theorem RBox.under {w w' : World} {g b6 b7 b8 : Nat} (h : RBox w g b6 b7 b8) (hb : Below w.heap.size w w') : RBox w' g b6 b7 b8 := ⟨h.1.under hb, h.2.1.under hb, h.2.2.under hb⟩
theorem DBox.under {w w' : World} {g : Nat} {x : Bx} (h : DBox w g x) (hb : Below w.heap.size w w') : DBox w' g x := ⟨h.e1.under hb, h.k.under hb, h.r.under hb⟩
theorem DBox.stp {base : Nat} {w w' : World} {g : Nat} {x : Bx} (h : DBox w g x) (hs : Stp base w w') : DBox w' g x :=
  ⟨hs.whole h.e1 (by decide), ⟨hs.whole h.k.1 (by decide), hs.whole h.k.2.1 (by decide), hs.whole h.k.2.2.1 (by decide), hs.whole h.k.2.2.2 (by decide)⟩, ⟨hs.whole h.r.1 (by decide), hs.whole h.r.2.1 (by decide), hs.whole h.r.2.2 (by decide)⟩⟩
/-- No map turns what lies in cells. -/
theorem whole_but {w w' : World} {m b : Nat} {t : TypeId} {cs : Array Value} {n : Nat} {D : DataW Value} (h : Whole w b t cs) (hm : deedM w m n D) (hg : w.grownBy w' (some m)) : Whole w' b t cs :=
  h.grown hg (fun e => by
    cases e
    obtain ⟨es, clock, hb, _⟩ := hm
    unfold Whole at h
    rw [h] at hb; cases hb)
theorem KBox.but {w w' : World} {m n g b2 b3 b4 b5 : Nat} {D : DataW Value} (h : KBox w g b2 b3 b4 b5) (hm : deedM w m n D) (hg : w.grownBy w' (some m)) : KBox w' g b2 b3 b4 b5 := ⟨whole_but h.1 hm hg, whole_but h.2.1 hm hg, whole_but h.2.2.1 hm hg, whole_but h.2.2.2 hm hg⟩
theorem RBox.but {w w' : World} {m n g b6 b7 b8 : Nat} {D : DataW Value} (h : RBox w g b6 b7 b8) (hm : deedM w m n D) (hg : w.grownBy w' (some m)) : RBox w' g b6 b7 b8 := ⟨whole_but h.1 hm hg, whole_but h.2.1 hm hg, whole_but h.2.2 hm hg⟩
def allK : List Nat := [1, 2, 3, 4, 5, 6, 7, 8, 9, 10, 11, 12, 13, 14, 15, 16]
theorem merge1 (x : Bx) : Lib.mergeD (deedL x [1, 2, 3]) (deedL x [4, 6, 7, 8, 9, 10]) = deedL x [1, 2, 3, 4, 6, 7, 8, 9, 10] := by kernel_rfl
theorem merge2 (x : Bx) : Lib.mergeD (deedL x [1, 2, 3, 4, 6, 7, 8, 9, 10]) (deedL x [5, 11, 12, 13, 14, 15, 16]) = deedL x allK := by kernel_rfl
def DeedsPost (g : Nat) (w : World) (e : Ending) (w' : World) : Prop := ∃ m x, e = .returned (.map (some m)) ∧ w.heap.size ≤ m ∧ Below w.heap.size w w' ∧ DBox w' g x ∧ deedM w' m 16 (deedL x allK)

set_option maxHeartbeats 2000000 in
theorem deeds_any (g base : Nat) (w : World) {p : Br} {a : Ad} (h : BrIn base g w p a) : Calls Tryz.prog 35 #[.pointer (some ⟨g, 0, none⟩)] w (DeedsPost g w) := by
  have H := Lib.hid h
  clear h
  go_enter Tryz.func35, Tryz.ntmps35
  go_wp2_with fail
  refine (ofGroup_any g w).mono ?_
  rintro e w1 ⟨m, b1, rfl, hm, hb, hw1, ho⟩
  have HM := Lib.hid hm
  have HB := Lib.hid hb
  have HW := Lib.hid hw1
  have HO := Lib.hid ho
  clear hm hb hw1 ho
  go_wp2_with fail
  refine (ofKept_any g w1).mono ?_
  rintro e w2 ⟨m2, b2, b3, b4, b5, rfl, hm2, hb2, hk2, ho2⟩
  have HM2 := Lib.hid hm2
  have HB2 := Lib.hid hb2
  have HK2 := Lib.hid hk2
  have HO2 := Lib.hid ho2
  clear hm2 hb2 hk2 ho2
  have but : ∀ {W W' : World}, Below W.heap.size W W' → W.grownBy W' none := fun hB => ⟨hB.os, hB.tape, hB.output, hB.size, fun i hi _ => hB.block i hi⟩
  have o1 := HO.out ⟨b1, b2, b3, b4, b5, 0, 0, 0⟩ rfl
  have l1 := o1.lt
  have HC := Lib.hid (copy_any m m2 3 6 _ _ w2 (World.ownsMap.kept o1 (but HB2.out) (by simp)) (HO2.out ⟨b1, b2, b3, b4, b5, 0, 0, 0⟩ rfl rfl rfl rfl) (by have := HM2.out; omega) (by rw [size_deedL]; decide))
  have L1 := Lib.hid l1
  clear o1 l1
  go_wp2_with fail
  refine HC.out.mono ?_
  rintro e w3 ⟨rfl, o3, _, g3⟩
  rw [merge1, size_deedL] at o3
  have o1' := World.ownsMap.kept (HO.out ⟨b1, b2, b3, b4, b5, 0, 0, 0⟩ rfl) (but HB2.out) (by simp)
  have B2 := HB.out.trans (HB2.out.mono HB.out.size)
  have B3 := B2.grown g3 B2.size (fun k e => by cases e; exact HM.out)
  have hk3 := HK2.out.but o1' g3
  have hw3 := whole_but (HW.out.under HB2.out) o1' g3
  have hl3 : w1.heap.size ≤ w3.heap.size := Nat.le_trans HB2.out.size g3.size
  have HR := Lib.hid (ofRefresh_any g w3 (H.out.under B3))
  have HB3 := Lib.hid B3
  have HK3 := Lib.hid hk3
  have HW3 := Lib.hid hw3
  have HL3 := Lib.hid hl3
  have HO3 := Lib.hid o3
  clear o3 g3 o1' B2 B3 hk3 hw3 hl3 HC HO2 HK2 HB2 HM2 HB HW HO H
  go_wp2_with fail
  refine HR.out.mono ?_
  rintro e w4 ⟨m3, b6, b7, b8, rfl, hm4, hb4, hr4, ho4⟩
  have hM4 := Lib.hid hm4
  have hB4 := Lib.hid hb4
  have hR4 := Lib.hid hr4
  have hO4 := Lib.hid ho4
  have o4 : deedM w4 m 9 (deedL ⟨b1, b2, b3, b4, b5, b6, b7, b8⟩ [1, 2, 3, 4, 6, 7, 8, 9, 10]) := by
    have e : deedL ⟨b1, b2, b3, b4, b5, b6, b7, b8⟩ [1, 2, 3, 4, 6, 7, 8, 9, 10] = deedL ⟨b1, b2, b3, b4, b5, 0, 0, 0⟩ [1, 2, 3, 4, 6, 7, 8, 9, 10] := by
      simp only [deedL, List.map_cons, List.map_nil, deedV]
    rw [e]
    exact World.ownsMap.kept HO3.out (but hb4) (by simp)
  have HC := Lib.hid (copy_any m m3 9 7 _ _ w4 o4 (ho4 ⟨b1, b2, b3, b4, b5, b6, b7, b8⟩ rfl rfl rfl) (by have := HL3.out; have := L1.out; omega) (by rw [size_deedL]; decide))
  have HO4 := Lib.hid o4
  clear hm4 hb4 hr4 ho4 o4 HR
  go_wp2_with fail
  refine HC.out.mono ?_
  rintro e w5 ⟨rfl, o5, _, g5⟩
  rw [merge2, size_deedL] at o5
  have HO5 := Lib.hid o5
  have HG5 := Lib.hid g5
  clear o5 g5
  go_wp2_with fail
  go_ret
  have B4 := HB3.out.trans (hB4.out.mono HB3.out.size)
  exact ⟨m, ⟨b1, b2, b3, b4, b5, b6, b7, b8⟩, rfl, HM.out, B4.grown HG5.out B4.size (fun k e => by cases e; exact HM.out), ⟨whole_but (HW3.out.under hB4.out) HO4.out HG5.out, (HK3.out.under hB4.out).but HO4.out HG5.out, hR4.out.but HO4.out HG5.out⟩, HO5.out⟩

end Go.Proofs.YtdaimejlcfhfiaaGreatDoor
