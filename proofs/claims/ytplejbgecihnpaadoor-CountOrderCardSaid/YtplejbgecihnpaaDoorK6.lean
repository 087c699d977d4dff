/-
  Texts that the walk of a statement over brains leans on, joined (BrDrop, BrIns, RegTwo, BrKeep, BrKeepP, BrMade, CfOf, BrRegroup, BrClo1, BrClo2, BrClo3, RecMany, BrFitP, BrDeeds, BrCopy, BrFit, NumAdd, NumFirst, NumClone, NumBehind, NumEach, NumRow, NumTakes, NumTakeRow, NumUse, RecIter, RecRight, KpG, BrVals, BrOwnP, ScopeIn, BrAll, BrApply, BrKit, BrOps, CtRefOf). Conditions: those that each theorem names.
-/
import Derived.Test.YtplejbgecihnpaaDoorK0
import Derived.Test.YtplejbgecihnpaaDoorK1
import Derived.Test.YtplejbgecihnpaaDoorK2
import Derived.Test.YtplejbgecihnpaaDoorK4
import Derived.Test.YtplejbgecihnpaaDoorK5
import Derived.Lib.Overlaps
import Derived.Maps.OwnOps
import Derived.Maps.OwnSet
import Derived.Laws.EntriesVeiled
import Derived.Lib.SlMapMerge
import Derived.Maps.Ext
import Derived.Maps.RangeWalk
import Derived.Laws.IdiomRangeMap
import Derived.Laws.BytesArg
import Derived.Deep.RegionHeld3
import Derived.OpenShut
import Derived.Laws.AppendOwnNone
import Derived.ScopeJumps
import Derived.Deep.MidRow
import Derived.Deep.DeepCutAuto

namespace Go.Proofs.YtplejbgecihnpaaDoor
open Go.RowKit Go.Shelf

set_option maxRecDepth 100000 in
theorem drop_at {l : List Kp} {id : Int} {i : Nat} (h : l.findIdx? (fun x => decide (x.id = id)) = some i) : l.take i ++ l.drop (i + 1) = dropK id l := by
  unfold dropK
  rw [List.eraseP_eq_eraseIdx, h]
  exact (List.eraseIdx_eq_take_drop_succ l i).symm
set_option maxRecDepth 100000 in
theorem dropI_at {l : List It} {t : Int} {i : Nat} (h : l.findIdx? (fun x => decide (x.tok = t)) = some i) : l.take i ++ l.drop (i + 1) = dropI t l := by
  unfold dropI
  rw [List.eraseP_eq_eraseIdx, h]
  exact (List.eraseIdx_eq_take_drop_succ l i).symm
end Go.Proofs.YtplejbgecihnpaaDoor

namespace Go.Proofs.YtplejbgecihnpaaDoor
open Go.RowKit Go.Shelf

end Go.Proofs.YtplejbgecihnpaaDoor

namespace Go.Proofs.YtplejbgecihnpaaDoor
open Go.RowKit Go.Shelf

section
variable {P : Program} {ops : Array Oper} {Q : Exit → Act → World → Prop} {md : Region.Mode} {ls : List Nat} {T : World → Prop} {listed : Array Bool} {a : Act} {w : World} {fuel : Nat} {i j : Nat}
variable {d d' : Option Tmp} {op op' : Op} {t t' : TypeId} {pos pos' : String} {after after' : Array Edge} {g g' : Option (Nat × Bool)}
set_option maxRecDepth 100000 in
/-- Two operations may come up: the walk goes on behind either. -/
theorem twoT (hi : ops[i]? = some { dst := d, op := op, type := t, pos := pos, after := after, guard := g }) (hj : ops[j]? = some { dst := d', op := op', type := t', pos := pos', after := after', guard := g' }) (hr : Region.ready md ops listed = [i, j])
    (hw : Region.wanted { dst := d, op := op, type := t, pos := pos, after := after, guard := g } (yielded ops a.tmps) = true)
    (hw' : Region.wanted { dst := d', op := op', type := t', pos := pos', after := after', guard := g' } (yielded ops a.tmps) = true)
    (h : ∀ K' : Act → World → Prop, Shut (∀ a w, (fresh ls (listed.setIfInBounds i true) = true → T w) → wpAnyT P md ops Q ls T fuel (listed.setIfInBounds i true) a w → K' a w) → ({ dst := d, op := op, type := t, pos := pos, after := after, guard := g } : Oper).wp P a w K' Q)
    (h' : ∀ K' : Act → World → Prop, Shut (∀ a w, (fresh ls (listed.setIfInBounds j true) = true → T w) → wpAnyT P md ops Q ls T fuel (listed.setIfInBounds j true) a w → K' a w) → ({ dst := d', op := op', type := t', pos := pos', after := after', guard := g' } : Oper).wp P a w K' Q) : wpAnyT P md ops Q ls T (fuel + 1) listed a w := by
  refine ⟨fun h0 => (by rw [hr] at h0; cases h0), fun k hk => ?_⟩
  rw [hr] at hk
  simp only [List.mem_cons, List.not_mem_nil, or_false] at hk
  rcases hk with rfl | rfl
  · exact wpOp_step hi (fun K' hK => by rw [if_pos hw]; exact h K' (fun a w hT hW => hK a w ⟨hT, hW⟩))
  · exact wpOp_step hj (fun K' hK => by rw [if_pos hw']; exact h' K' (fun a w hT hW => hK a w ⟨hT, hW⟩))
end

end Go.Proofs.YtplejbgecihnpaaDoor

namespace Go.Proofs.YtplejbgecihnpaaDoor
open Go.RowKit Go.Shelf

set_option maxRecDepth 100000 in
theorem putK_at {l : List Kp} {x : Kp} {j : Nat} (h1 : ∀ y ∈ l.take j, y.id ≤ x.id) (h2 : ∀ y, l[j]? = some y → ¬ y.id ≤ x.id) : putK l x = l.take j ++ [x] ++ l.drop j := by
  induction l generalizing j with
  | nil => simp [putK]
  | cons a l ih =>
    cases j with
    | zero =>
      have ha := h2 a rfl
      simp [putK, ha]
    | succ j =>
      have ha := h1 a (by simp)
      have e : putK (a :: l) x = a :: putK l x := by simp [putK, ha]
      rw [e, ih (j := j) (fun y hy => h1 y (by simp only [List.take_succ_cons, List.mem_cons]; exact .inr hy)) (fun y hy => h2 y (by simpa using hy))]
      simp
set_option maxRecDepth 100000 in
theorem own_capF {w : World} {base size n c : Nat} {e : TypeId} {A : Option Addr} {xs : List Value} (h : w.ownsRow base e size (.slice A n c) n xs) : n ≤ c := by
  rcases h.2 with ⟨h1, h2⟩ | ⟨g, cap, cur, h1, _, _, h2, _⟩
  · omega
  · injection h1 with _ _ h3
    omega
set_option maxRecDepth 100000 in
theorem set19L {w : World} {g : Nat} {p : Br} {a : Ad} (h : Whole w g 30 (brC p a)) (l : List Kp) (B : Option Addr) (d : Nat) : Whole (w.setCell ⟨g, 19, none⟩ (.slice B l.length d)) g 30 (brC { p with kps := l } ⟨a.C, a.e, a.A, a.c, B, d⟩) := by
  have h1 := h.set 19 (.slice B l.length d)
  simp only [List.setIfInBounds_toArray, List.set_cons_zero, List.set_cons_succ] at h1
  exact h1
end Go.Proofs.YtplejbgecihnpaaDoor

namespace Go.Proofs.YtplejbgecihnpaaDoor
open Go.RowKit Go.Shelf

end Go.Proofs.YtplejbgecihnpaaDoor

namespace Go.Proofs.YtplejbgecihnpaaDoor
open Go.RowKit Go.Shelf

end Go.Proofs.YtplejbgecihnpaaDoor

namespace Go.Proofs.YtplejbgecihnpaaDoor
open Go.RowKit Go.Shelf
attribute [local go_sem] Oper.semAt_some

set_option maxRecDepth 100000 in
theorem at_of {l : List Int} {n k : Nat} {w : World} {B : Nat} {A : Option Addr} (hr : Rd w B A n (iv l)) (hk : k < n) : ∃ b off, A = some ⟨b, off, none⟩ ∧ b < B ∧ w.cell? ⟨b, off + k, none⟩ = some (.int .i64 (l.getD k 0)) := by
  obtain ⟨b, off, e, hb, hc⟩ := hr.2 (by omega)
  have hl : l.length = n := by have := hr.1; rwa [iv_length] at this
  refine ⟨b, off, e, hb, (hc k hk).trans ?_⟩
  rw [iv, List.getElem?_map, List.getD_eq_getElem?_getD, List.getElem?_eq_getElem (by omega)]
  rfl

set_option maxRecDepth 100000 in
theorem own_rowset {w : World} {base n g : Nat} {e : TypeId} {size : Nat} {v : Value} {xs : List Value} (ho : w.ownsRow base e size v n xs) (hne : v.ownBlock ≠ some g) (c' : Array Value) : (w.setRow g c').ownsRow base e size v n xs := by
  refine ⟨ho.1, ?_⟩
  rcases ho.2 with h | ⟨k, cap, cur, rfl, h2, h3, h4⟩
  · exact .inl h
  · exact .inr ⟨k, cap, cur, rfl, h2, (setRow_other w g k c' (fun e => hne (by simp [Value.ownBlock, e]))).trans h3, h4⟩
set_option maxRecDepth 100000 in
theorem Whole.rowset_far {w : World} {b g : Nat} {t : TypeId} {cs : Array Value} (h : Whole w b t cs) (hne : b ≠ g) (c' : Array Value) : Whole (w.setRow g c') b t cs := (setRow_other w g b c' hne).trans h

/-- What comes of telling a group by a row. -/
def OfOk (l : List Int) (y : Cf) (base : Nat) (w : World) : Prop :=
  (isRow l = true → y = ofRow l y.A y.n y.c ∧ w.ownsRow base 3 1 (.slice y.A y.n y.c) y.n (iv y.ms)) ∧ (isRow l = false → y = cf0)
def OfIs (l : List Int) (w : World) (e : Ending) (w' : World) : Prop :=
  ∃ y : Cf, e = .returned (.tuple #[y.v, .int .i64 (er (isRow l))]) ∧ OfOk l y w.heap.size w' ∧ Below w.heap.size w w'

end Go.Proofs.YtplejbgecihnpaaDoor

namespace Go.Proofs.YtplejbgecihnpaaDoor
open Go.RowKit Go.Shelf

set_option maxRecDepth 100000 in
/-- A struct is laid over some cells of a block. -/
theorem wpList_store_at {P : Program} {ops : Array Oper} {rest : List Oper} {o : Oper} {a : Act} {w : World} {Q : Exit → Act → World → Prop} (hgd : o.guard = none) (ty : TypeId) (x y : Operand) (ho : o.op = .store ty x y)
    (g off : Nat) (cells : Array Value) (hx : a.eval x = .pointer (some ⟨g, off, none⟩)) (hy : a.eval y = .agg cells)
    (t : TypeId) (old : Array Value) (hg : w.heap[g]? = some (.cells old t (0, 0))) (hi : (P.info? ty).map (·.size) = some cells.size)
    (hfit : off + cells.size ≤ old.size) (h1 : cells.all (·.oneCell') = true)
    (h : wpList P ops Q rest (a.put o.dst undef) (w.setRow g (old.toList.take off ++ cells.toList ++ old.toList.drop (off + cells.size)).toArray)) : wpList P ops Q (o :: rest) a w :=
  wpList_plain hgd fun _ hK => by
    have hst := run_storeCells_at P g off t cells.toList 0 old w hg (by simpa using hfit) (fun v hv => (Array.all_eq_true_iff_forall_mem.1 h1) v (by simpa using hv))
    simp only [Nat.add_zero, Array.length_toList] at hst
    have hv : (storeVar ty ⟨g, off, none⟩ (.agg cells)).run P w = .ok () (w.setRow g (old.toList.take off ++ cells.toList ++ old.toList.drop (off + cells.size)).toArray) := by
      cases hq : P.info? ty with
      | none => simp [hq] at hi
      | some i =>
        have hs : cells.size = i.size := by simp [hq] at hi; omega
        rw [← hst]
        simp [storeVar, sizeOf, typeInfo, hq, Value.cells, hs]
    unfold Oper.wp execOp
    simp only [ho, hx, hy, Instr.storeAt, Instr.sureAddr, Sem.run_bind, Sem.run_pure, Result.andThen_ok, hv]
    exact hK _ _ h
set_option maxRecDepth 100000 in
theorem Stp.row {base g : Nat} {w : World} {t : TypeId} {cs : Array Value} (hw : Whole w g t cs) (ht : mutT t = true) (hg : base ≤ g) (c' : Array Value) (hsz : c'.size = cs.size) : Stp base w (w.setRow g c') := by
  refine ⟨below_rowsetB (Below.refl base w) hg c', fun j o ho hs => ?_, fun j cs1 hj => ?_⟩
  rotate_left
  · by_cases e : j = g
    · subst e
      have e1 : cs1 = cs ∧ t = 30 := by
        unfold Whole at hj hw
        rw [hw] at hj
        cases hj
        exact ⟨rfl, rfl⟩
      obtain ⟨rfl, rfl⟩ := e1
      exact ⟨c', setRow_heap w j _ c' _ _ hw, hsz⟩
    · exact ⟨cs1, (setRow_other w g j c' e).trans hj, rfl⟩
  by_cases e : j = g
  · subst e
    unfold Whole at hw
    rw [hw] at ho
    cases ho
    simp [stayO, ht] at hs
  · exact (setRow_other w g j c' e).trans ho
set_option maxRecDepth 100000 in
theorem er_ok (b : Bool) : (er b == 0) = b := by cases b <;> rfl

set_option maxRecDepth 100000 in
theorem confB_yes {p : Br} {l : List Int} (h : isRow l = true) : confB p l = { p with cf := if p.set then { ofRow l none 0 0 with f12 := p.cf.f12 } else ofRow l none 0 0, set := true } := by
  unfold confB
  rw [if_pos h]

end Go.Proofs.YtplejbgecihnpaaDoor

namespace Go.Proofs.YtplejbgecihnpaaDoor
open Go.RowKit Go.Shelf

set_option maxRecDepth 100000 in
theorem wpList_loadB {ops : Array Oper} {rest : List Oper} {o : Oper} {a : Act} {w : World} {Q : Exit → Act → World → Prop} (hw : Region.wanted o (yielded ops a.tmps) = true) (x : Operand) (ho : o.op = .load 30 x) (g : Nat) (p : Br) (ad : Ad) (hx : a.eval x = .pointer (some ⟨g, 0, none⟩)) (hW : Whole w g 30 (brC p ad))
    (h : wpList Tryd.prog ops Q rest (a.put o.dst (brV p ad)) w) : wpList Tryd.prog ops Q (o :: rest) a w := by
  unfold wpList
  rw [if_pos hw]
  left
  unfold Oper.wp execOp
  simp only [ho, hx, Instr.loadAt, Instr.sureAddr, Sem.run_bind, Sem.run_pure, Result.andThen_ok, run_loadVar_row (P := Tryd.prog) w g 30 30 (brC p ad) (0, 0) _ hW Tryd.underlying30 rfl (by kernel_rfl)]
  exact h

end Go.Proofs.YtplejbgecihnpaaDoor

namespace Go.Proofs.YtplejbgecihnpaaDoor
open Go.RowKit Go.Shelf


end Go.Proofs.YtplejbgecihnpaaDoor

namespace Go.Proofs.YtplejbgecihnpaaDoor
open Go.RowKit Go.Shelf

set_option maxRecDepth 100000 in
theorem wp_store_at {P : Program} {K : Act → World → Prop} {o : Oper} {a : Act} {w : World} {Q : Exit → Act → World → Prop} (ty : TypeId) (x y : Operand) (ho : o.op = .store ty x y)
    (g off : Nat) (cells : Array Value) (hx : a.eval x = .pointer (some ⟨g, off, none⟩)) (hy : a.eval y = .agg cells)
    (t : TypeId) (old : Array Value) (hg : w.heap[g]? = some (.cells old t (0, 0))) (hi : (P.info? ty).map (·.size) = some cells.size)
    (hfit : off + cells.size ≤ old.size) (h1 : cells.all (·.oneCell') = true)
    (h : K (a.put o.dst undef) (w.setRow g (old.toList.take off ++ cells.toList ++ old.toList.drop (off + cells.size)).toArray)) : o.wp P a w K Q := by
  have hst := run_storeCells_at P g off t cells.toList 0 old w hg (by simpa using hfit) (fun v hv => (Array.all_eq_true_iff_forall_mem.1 h1) v (by simpa using hv))
  simp only [Nat.add_zero, Array.length_toList] at hst
  have hv : (storeVar ty ⟨g, off, none⟩ (.agg cells)).run P w = .ok () (w.setRow g (old.toList.take off ++ cells.toList ++ old.toList.drop (off + cells.size)).toArray) := by
    cases hq : P.info? ty with
    | none => simp [hq] at hi
    | some i =>
      have hs : cells.size = i.size := by simp [hq] at hi; omega
      rw [← hst]
      simp [storeVar, sizeOf, typeInfo, hq, Value.cells, hs]
  unfold Oper.wp execOp
  simp only [ho, hx, hy, Instr.storeAt, Instr.sureAddr, Sem.run_bind, Sem.run_pure, Result.andThen_ok, hv]
  exact h

end Go.Proofs.YtplejbgecihnpaaDoor

namespace Go.Proofs.YtplejbgecihnpaaDoor
open Go.RowKit Go.Shelf

/-- The fewest, and the most, numbers of a kind; of none: more than there may be. -/
def loL : List Nat := [1, 0, 14, 3, 3, 1, 3, 1, 5, 2, 1, 2, 0, 0, 1, 0, 0]
def hiL : List Nat := [0, 0, 18, 3, 3, 1, 3, 1, 5, 2, 1, 2, 0, 0, 1, 0, 0]
def lo (k : Nat) : Nat := loL.getD k 1
def hi (k : Nat) : Nat := hiL.getD k 0
end Go.Proofs.YtplejbgecihnpaaDoor

namespace Go.Proofs.YtplejbgecihnpaaDoor
open Go.RowKit Go.Shelf

section
variable {p : Br} {k : Nat} {zs : List Int}
/-- What no int leaves. -/
structure Good (m : Nat) (p : Br) : Prop where
  len : p.its.length + p.kps.length ≤ m
  ep : -9223372036854775808 ≤ p.ep
  sq : -9223372036854775808 ≤ p.sq
  ph : ∀ x ∈ p.kps, 0 ≤ x.phase
set_option maxRecDepth 100000 in
theorem good_apply {m : Nat} (h : Good m p) (k : Int) (zs : List Int) : Good (m + 1) (applyB p k zs) := by
  have h1 := len_apply p k zs
  have h2 := step_apply p k zs
  refine ⟨by have := h.len; omega, Int.le_trans h.ep h2.ep, Int.le_trans h.sq h2.sq, ?_⟩
  have hb := h.ph
  refine apply_cases (P := fun o : Br => ∀ x ∈ o.kps, 0 ≤ x.phase) (fun _ hr => ?_) (fun hn _ _ => ?_) hb
  · unfold confB; rw [if_pos hr]; exact hb
  refine fit_cases (P := fun o : Br => ∀ x ∈ o.kps, 0 ≤ x.phase) (fun e => ?_) (fun e => ?_) (fun e => ?_) (fun e => ?_) (fun e => ?_) (fun e => ?_) (fun e => ?_) (fun e => ?_) (fun e => ?_) (fun _ e => ?_) hb
  · unfold bootB; split <;> exact hb
  · unfold intentB; split <;> exact hb
  · unfold madeB; split
    · exact hb
    · split
      · intro x hx
        rcases putK_mem.1 hx with rfl | hx
        · show (0 : Int) ≤ if _ then 9 else 1
          split <;> decide
        · exact hb x hx
      · exact hb
  · unfold phaseB; split
    · exact hb
    · split
      · rename_i hl
        intro x hx
        rcases setK_mem hx with hx | ⟨z, hz, _, rfl⟩
        · exact hb x hx
        · have := legal_bd hl.2
          show 0 ≤ zs.getD 1 0
          omega
      · exact hb
  · unfold goneB_; split
    · exact hb
    · exact fun x hx => hb x (List.mem_of_mem_eraseP hx)
  · unfold takeB; split
    · intro x hx
      rcases putK_mem.1 hx with rfl | hx
      · show (0 : Int) ≤ 8; decide
      · exact hb x hx
    · exact hb
  · unfold guardB; split
    · exact hb
    · split
      · intro x hx
        rcases setK_mem hx with hx | ⟨z, hz, _, rfl⟩
        · exact hb x hx
        · exact hb z hz
      · exact hb
  · unfold doneB; split
    · exact hb
    · split
      · intro x hx
        rcases setK_mem hx with hx | ⟨z, hz, _, rfl⟩
        · exact hb x hx
        · exact hb z hz
      · exact hb
  · unfold startB; split <;> exact hb
  · unfold refB
    repeat' split
    all_goals exact hb

set_option maxRecDepth 100000 in
theorem kept_idx (p : Br) (id : Int) : (p.kps.findIdx? (fun y => decide (y.id = id)) = none ∧ keptB p id = none ∧ findB p id = -1) ∨
    ∃ (i : Nat) (x : Kp), p.kps.findIdx? (fun y => decide (y.id = id)) = some i ∧ p.kps[i]? = some x ∧ keptB p id = some x ∧ findB p id = (i : Int) := by
  cases h : p.kps.findIdx? (fun y => decide (y.id = id)) with
  | none =>
    refine .inl ⟨rfl, ?_, by simp [findB, h]⟩
    rw [List.findIdx?_eq_none_iff] at h
    simp only [keptB, List.find?_eq_none]
    exact fun x hx => by simpa using h x hx
  | some i =>
    have h2 := h
    rw [List.findIdx?_eq_some_iff_getElem] at h2
    obtain ⟨hi, h3, h4⟩ := h2
    refine .inr ⟨i, p.kps[i], rfl, List.getElem?_eq_getElem hi, ?_, by simp [findB, h]⟩
    rw [keptB, List.find?_eq_some_iff_getElem]
    exact ⟨h3, i, hi, rfl, fun j hj => by simpa using h4 j hj⟩
set_option maxRecDepth 100000 in
theorem meant_idx (p : Br) (t : Int) : (p.its.findIdx? (fun y => decide (y.tok = t)) = none ∧ meantB p t = none ∧ tokenB p t = -1) ∨
    ∃ (i : Nat) (x : It), p.its.findIdx? (fun y => decide (y.tok = t)) = some i ∧ p.its[i]? = some x ∧ meantB p t = some x ∧ tokenB p t = (i : Int) := by
  cases h : p.its.findIdx? (fun y => decide (y.tok = t)) with
  | none =>
    refine .inl ⟨rfl, ?_, by simp [tokenB, h]⟩
    rw [List.findIdx?_eq_none_iff] at h
    simp only [meantB, List.find?_eq_none]
    exact fun x hx => by simpa using h x hx
  | some i =>
    have h2 := h
    rw [List.findIdx?_eq_some_iff_getElem] at h2
    obtain ⟨hi, h3, h4⟩ := h2
    refine .inr ⟨i, p.its[i], rfl, List.getElem?_eq_getElem hi, ?_, by simp [tokenB, h]⟩
    rw [meantB, List.find?_eq_some_iff_getElem]
    exact ⟨h3, i, hi, rfl, fun j hj => by simpa using h4 j hj⟩
set_option maxRecDepth 100000 in
theorem setK_set {id : Int} {f : Kp → Kp} {l : List Kp} {i : Nat} {x : Kp} (h : l.findIdx? (fun y => decide (y.id = id)) = some i) (hx : l[i]? = some x) : setK id f l = l.set i (f x) := by
  apply List.ext_getElem?
  intro j
  rw [setK_get h j]
  have hi := (List.getElem?_eq_some_iff.1 hx).1
  by_cases e : j = i
  · subst e
    rw [if_pos rfl, hx, List.getElem?_set_self hi]
    rfl
  · rw [if_neg e, List.getElem?_set_ne (Ne.symm e)]
end

end Go.Proofs.YtplejbgecihnpaaDoor

namespace Go.Proofs.YtplejbgecihnpaaDoor
open Go.RowKit Go.Shelf
open Go.Maps (Keyed int_keyed keyOf_int_mk)

abbrev clo (f : Nat) (l : Array Value) : Value := .func (.func f) #[] l
/-- The boxes that the deeds hold. -/
structure Bx where
  (b1 b2 b3 b4 b5 b6 b7 b8 : Nat)
end Go.Proofs.YtplejbgecihnpaaDoor

namespace Go.Proofs.YtplejbgecihnpaaDoor
open Go.RowKit Go.Shelf Go.Maps

end Go.Proofs.YtplejbgecihnpaaDoor

namespace Go.Proofs.YtplejbgecihnpaaDoor
open Go.RowKit Go.Shelf

section
variable {base g B n c : Nat} {V : World} {p : Br} {a : Ad} {x : Bx} {A : Option Addr} {zs : List Int}
end
end Go.Proofs.YtplejbgecihnpaaDoor

namespace Go.Proofs.YtplejbgecihnpaaDoor
open Go.RowKit Go.Shelf

def AddInv (base j : Nat) (ys : List Value) (w : World) (v : Value) (w' : World) : Prop :=
  w'.ownsRow base 5 1 v j ys ∧ Below base w w' ∧ KeepsOthers w w' ∧ base ≤ w'.heap.size
end Go.Proofs.YtplejbgecihnpaaDoor

namespace Go.Proofs.YtplejbgecihnpaaDoor
open Go.RowKit Go.Shelf

/-- What holds of the numbers at each digit. -/
structure FirstInv (bs : List Nat) (n N k P : Nat) : Prop where
  le : k ≤ n
  five : k ≤ 5
  pow : P = 128 ^ k
  val : N < P
  same : first bs = scan N k (bs.drop k)

set_option maxRecDepth 100000 in
theorem FirstInv.start (bs : List Nat) (n : Nat) : FirstInv bs n 0 0 1 := ⟨by omega, by omega, rfl, by omega, rfl⟩
set_option maxRecDepth 100000 in
theorem FirstInv.look {bs : List Nat} {n N k P d : Nat} (h : FirstInv bs n N k P) (hd : bs[k]? = some d) :
    first bs = if 128 ≤ d ∧ k + 1 < 6 then scan (N + d % 128 * P) (k + 1) (bs.drop (k + 1)) else if 128 ≤ d ∨ (d = 0 ∧ 1 < k + 1) ∨ 1099511627776 < N + d % 128 * P then (0, 0, 11) else (N + d % 128 * P, k + 1, 0) := by
  rw [h.same, h.pow]
  have hk : k < bs.length := (List.getElem?_eq_some_iff.1 hd).1
  rw [List.drop_eq_getElem_cons hk]
  have e : bs[k] = d := by rw [List.getElem?_eq_getElem hk] at hd; exact Option.some.inj hd
  rw [e]; rfl
set_option maxRecDepth 100000 in
theorem FirstInv.next {bs : List Nat} {n N k P d : Nat} (h : FirstInv bs n N k P) (hl : bs.length = n) (hd : bs[k]? = some d) (h1 : 128 ≤ d) (h2 : k + 1 < 6) :
    FirstInv bs n (N + d % 128 * P) (k + 1) (P * 128) := by
  have hk : k < bs.length := (List.getElem?_eq_some_iff.1 hd).1
  refine ⟨by omega, by omega, by rw [h.pow, Nat.pow_succ], ?_, ?_⟩
  · have h3 := h.val
    have h4 : d % 128 * P ≤ 127 * P := Nat.mul_le_mul (by omega) (Nat.le_refl _)
    omega
  · rw [h.look hd, if_pos ⟨h1, h2⟩]

end Go.Proofs.YtplejbgecihnpaaDoor

namespace Go.Proofs.YtplejbgecihnpaaDoor
open Go.RowKit Go.Shelf

set_option maxRecDepth 100000 in
theorem AddInv.form {base j : Nat} {ys : List Value} {w w' : World} {v : Value} (h : AddInv base j ys w v w') : ∃ A c, v = .slice A j c := by
  rcases h.1.2 with ⟨rfl, rfl⟩ | ⟨g, cap, cur, rfl, _⟩
  · exact ⟨_, _, rfl⟩
  · exact ⟨_, _, rfl⟩

end Go.Proofs.YtplejbgecihnpaaDoor

namespace Go.Proofs.YtplejbgecihnpaaDoor
open Go.RowKit Go.Shelf

/-- What is behind the number. -/
def behind (bs : List Nat) : List Nat := if (first bs).2.2 = 0 then bs.drop (first bs).2.1 else []

set_option maxRecDepth 100000 in
/-- What a callee has made, said of the caller's start. -/
theorem AddInv.after {base base' j : Nat} {ys : List Value} {w w1 w2 : World} {v : Value} (h : AddInv base' j ys w1 v w2) (hb : Below base w w1) (hk : KeepsOthers w w1) (hbb : base ≤ base') : AddInv base j ys w v w2 :=
  ⟨own_weaker h.1 hbb, hb.trans (h.2.1.mono hbb), hk.trans h.2.2.1, by have := h.2.2.2; omega⟩

end Go.Proofs.YtplejbgecihnpaaDoor

namespace Go.Proofs.YtplejbgecihnpaaDoor
open Go.RowKit Go.Shelf
attribute [local go_sem] Oper.semAt_some

end Go.Proofs.YtplejbgecihnpaaDoor

namespace Go.Proofs.YtplejbgecihnpaaDoor
open Go.RowKit Go.Shelf
attribute [local go_sem] Oper.semAt_some

end Go.Proofs.YtplejbgecihnpaaDoor

namespace Go.Proofs.YtplejbgecihnpaaDoor
open Go.RowKit Go.Shelf
attribute [local go_sem] Oper.semAt_some

end Go.Proofs.YtplejbgecihnpaaDoor

namespace Go.Proofs.YtplejbgecihnpaaDoor
open Go.RowKit Go.Shelf
attribute [local go_sem] Oper.semAt_some

end Go.Proofs.YtplejbgecihnpaaDoor

namespace Go.Proofs.YtplejbgecihnpaaDoor
open Go.RowKit Go.Shelf

set_option maxRecDepth 100000 in
theorem AddInv.rd {base j : Nat} {ys : List Value} {w w' : World} {A : Option Addr} {c : Nat} (h : AddInv base j ys w (.slice A j c) w') : Rd w' w'.heap.size A j ys := Rd.of_own h.1

set_option maxRecDepth 100000 in
theorem AddInv.cap {base j : Nat} {ys : List Value} {w w' : World} {A : Option Addr} {c : Nat} (h : AddInv base j ys w (.slice A j c) w') : j ≤ c := by
  rcases h.1.2 with ⟨h1, h2⟩ | ⟨g, cap, cur, h1, _, _, h2, _⟩
  · omega
  · injection h1 with _ _ h3
    omega

end Go.Proofs.YtplejbgecihnpaaDoor

namespace Go.Proofs.YtplejbgecihnpaaDoor
open Go.RowKit Go.Shelf
attribute [local go_sem] Oper.semAt_some

end Go.Proofs.YtplejbgecihnpaaDoor

namespace Go.Proofs.YtplejbgecihnpaaDoor
open Go.RowKit Go.Shelf
attribute [local go_sem] Oper.semAt_some

end Go.Proofs.YtplejbgecihnpaaDoor

namespace Go.Proofs.YtplejbgecihnpaaDoor
open Go.RowKit Go.Shelf

section
variable {G : Nat → Prop} {W W' W'' : World}
end

end Go.Proofs.YtplejbgecihnpaaDoor

namespace Go.Proofs.YtplejbgecihnpaaDoor
open Go.RowKit Go.Shelf
attribute [local go_sem] Oper.semAt_some

/-- A record, as an element of a slice: its kind, its slice of numbers, and what that reads as. -/
structure RE where
  k : Nat
  A : Option Addr
  n : Nat
  c : Nat
  zs : List Int

/-- A slice of records that reads as the list l, in blocks below B. -/
def RdR (w : World) (B : Nat) (A : Option Addr) (n : Nat) (l : List RE) : Prop :=
  l.length = n ∧ (0 < n → ∃ b off, A = some ⟨b, off, none⟩ ∧ b < B ∧ ∀ j x, l[j]? = some x → w.cell? ⟨b, off + j * 2, none⟩ = some (.int .u8 (x.k : Int)) ∧ w.cell? ⟨b, off + j * 2 + 1, none⟩ = some (.slice x.A x.n x.c)) ∧
    ∀ x ∈ l, x.k < 256 ∧ Rd w B x.A x.n (iv x.zs)

section
variable {w w' : World} {B B' n : Nat} {A : Option Addr} {l : List RE}
set_option maxRecDepth 100000 in
theorem RdR.below (h : RdR w B A n l) (hb : Below B w w') : RdR w' B A n l :=
  ⟨h.1, fun hn => by
    obtain ⟨b, off, e, hlt, hc⟩ := h.2.1 hn
    exact ⟨b, off, e, hlt, fun j x hx => ⟨(hb.cell (p := ⟨b, off + j * 2, none⟩) hlt).trans (hc j x hx).1, (hb.cell (p := ⟨b, off + j * 2 + 1, none⟩) hlt).trans (hc j x hx).2⟩⟩,
   fun x hx => ⟨(h.2.2 x hx).1, (h.2.2 x hx).2.below hb⟩⟩
set_option maxRecDepth 100000 in
theorem RdR.more (h : RdR w B A n l) (hB : B ≤ B') : RdR w B' A n l :=
  ⟨h.1, fun hn => by
    obtain ⟨b, off, e, hlt, hc⟩ := h.2.1 hn
    exact ⟨b, off, e, by omega, hc⟩, fun x hx => ⟨(h.2.2 x hx).1, (h.2.2 x hx).2.more hB⟩⟩
end

end Go.Proofs.YtplejbgecihnpaaDoor

namespace Go.Proofs.YtplejbgecihnpaaDoor
open Go.RowKit Go.Shelf

end Go.Proofs.YtplejbgecihnpaaDoor

namespace Go.Proofs.YtplejbgecihnpaaDoor
open Go.RowKit Go.Shelf

section
variable {P : Program} {b : Frame} {a : Act} {k : List Item} {cs : List Frame} {w : World}
end
end Go.Proofs.YtplejbgecihnpaaDoor

namespace Go.Proofs.YtplejbgecihnpaaDoor
open Go.RowKit Go.Shelf Go.Maps
attribute [local go_sem] Oper.semAt_some

def recsB (xs : List RE) : List (Int × List Int) := xs.map fun x => ((x.k : Int), x.zs)
set_option maxRecDepth 100000 in
/-- A brain into its box. -/
theorem wpList_storeB {ops : Array Oper} {rest : List Oper} {o : Oper} {a : Act} {w : World} {Q : Exit → Act → World → Prop} (hgd : o.guard = none) (x y : Operand) (ho : o.op = .store 30 x y) (g : Nat) (p : Br) (ad : Ad) (old : Array Value) (hs : old.size = 27)
    (hx : a.eval x = .pointer (some ⟨g, 0, none⟩)) (hy : a.eval y = brV p ad) (hW : Whole w g 30 old)
    (h : ∀ W2, W2 = w.setRow g (brC p ad) → wpList Tryd.prog ops Q rest (a.put o.dst undef) W2) : wpList Tryd.prog ops Q (o :: rest) a w := by
  refine wpList_store_at hgd 30 x y ho g 0 (brC p ad) hx hy 30 old hW (by kernel_rfl) (by rw [hs]; exact Nat.le_refl _) (by simp [Value.oneCell']) (h _ ?_)
  have e : old.toList.drop (0 + (brC p ad).size) = [] := List.drop_of_length_le (by rw [Array.length_toList, hs]; exact Nat.le_refl _)
  rw [e]
  simp

section
variable {g m tb : Nat} {sl : Value} {w : World} {x : Bx} {p : Br} {pre : List RE} {W W' : World}
set_option maxRecDepth 100000 in
theorem OwB.turn {base : Nat} {a : Ad} {row : Option Nat} (h : OwB base W p a) (hg : W.grownBy W' row) (hr : ∀ r, row = some r → ∃ o : Obj, W.heap[r]? = some o ∧ o.isCells = false) : OwB base W' p a :=
  ⟨own_turn h.ms hg hr, own_turn h.its hg hr, own_turn h.kps hg hr⟩
end

set_option maxRecDepth 100000 in
theorem keepsFrom_alloc (B : Nat) (W : World) (o : Obj) : KeepsFrom B W (W.alloc o) := (keeps_under ((Below.refl _ W).alloc (Nat.le_refl _) o)).from _
end Go.Proofs.YtplejbgecihnpaaDoor

namespace Go.Proofs.YtplejbgecihnpaaDoor
open Go.RowKit Go.Shelf Go.Maps

/-- A brain is handed back, in memory of its own. -/
def ApPost (q : Br) (w : World) (e : Ending) (w' : World) : Prop :=
  ∃ a, e = .returned (brV q a) ∧ OwB w.heap.size w' q a ∧ Below w.heap.size w w'

end Go.Proofs.YtplejbgecihnpaaDoor

namespace Go.Proofs.YtplejbgecihnpaaDoor
open Go.RowKit Go.Shelf

/-- A record that reads; a row of numbers that reads. -/
def RecIs (k : Nat) (zs : List Int) (v : Value) (w : World) : Prop :=
  ∃ A c, v = .agg #[.int .u8 (k : Int), .slice A zs.length c] ∧ Rd w w.heap.size A zs.length (iv zs) ∧ zs.length ≤ c ∧ c ≤ maxLen
def SlIs (zs : List Int) (v : Value) (w : World) : Prop :=
  ∃ A c, v = .slice A zs.length c ∧ Rd w w.heap.size A zs.length (iv zs) ∧ zs.length ≤ c ∧ c ≤ maxLen
set_option maxRecDepth 100000 in
theorem RecIs.under {k : Nat} {zs : List Int} {v : Value} {w w' : World} (hb : Below w.heap.size w w') (h : RecIs k zs v w) : RecIs k zs v w' := by
  obtain ⟨A, c, h1, h2, h3⟩ := h
  exact ⟨A, c, h1, (h2.below hb).more hb.size, h3⟩
set_option maxRecDepth 100000 in
theorem SlIs.under {zs : List Int} {v : Value} {w w' : World} (hb : Below w.heap.size w w') (h : SlIs zs v w) : SlIs zs v w' := by
  obtain ⟨A, c, h1, h2, h3⟩ := h
  exact ⟨A, c, h1, (h2.below hb).more hb.size, h3⟩

def gZ : List Int := [2, 50, 1, 0, 0, 0, 0, 0, 3, 2, 2, 0, 4, 0]
def gB (p : Br) : Bool := decide (40 < p.its.length) || (decide (40 < p.kps.length) || decide (40 < p.cf.ms.length))
set_option maxRecDepth 100000 in
theorem gB_no {p : Br} (h : gB p = false) : p.its.length ≤ 40 ∧ p.kps.length ≤ 40 ∧ p.cf.ms.length ≤ 40 := by
  simp only [gB, Bool.or_eq_false_iff, decide_eq_false_iff_not] at h
  omega
set_option maxRecDepth 100000 in
set_option maxHeartbeats 1000000 in
theorem greatB_any (p : Br) (a : Ad) (w : World) : Calls Tryd.prog 8 #[brV p a] w (BoolPost (gB p) w) := by
  obtain ⟨V, hV⟩ : ∃ V, w.alloc (.cells (brC p a) 30) = V := ⟨_, rfl⟩
  have hw : Whole V w.heap.size 30 (brC p a) := by rw [← hV]; exact Whole.new _ _ _
  have hb : Below w.heap.size w V := by rw [← hV]; exact (Below.refl _ _).alloc (Nat.le_refl _) _
  have c17 := hw.cell 17
  have c18 := hw.cell 18
  have c19 := hw.cell 19
  simp only [List.getElem?_toArray, List.getElem?_cons_zero, List.getElem?_cons_succ] at c17 c18 c19
  have HB := Lib.hid hb
  have HV := Lib.hid hV
  clear hb hw hV
  unfold gB
  have e1 : ∀ n : Nat, decide ((40 : Int) < (n : Int)) = decide (40 < n) := fun n => by
    by_cases h : 40 < n
    · rw [decide_eq_true h, decide_eq_true (by omega)]
    · rw [decide_eq_false h, decide_eq_false (by omega)]
  cases h1 : decide (40 < p.its.length) with
  | true =>
    have d1 : decide ((40 : Int) < (p.its.length : Int)) = true := by rw [e1]; exact h1
    clear h1 e1
    go_enter Tryd.func8, Tryd.ntmps8
    go_upto_region 1 with fail
    rw [HV.out]
    go_wp2_with fail
    go_ret
    exact ⟨rfl, HB.out⟩
  | false =>
    have d1 : decide ((40 : Int) < (p.its.length : Int)) = false := by rw [e1]; exact h1
    cases h2 : decide (40 < p.kps.length) with
    | true =>
      have d2 : decide ((40 : Int) < (p.kps.length : Int)) = true := by rw [e1]; exact h2
      clear h1 h2 e1
      go_enter Tryd.func8, Tryd.ntmps8
      go_upto_region 1 with fail
      rw [HV.out]
      go_wp2_with fail
      go_ret
      exact ⟨rfl, HB.out⟩
    | false =>
      have d2 : decide ((40 : Int) < (p.kps.length : Int)) = false := by rw [e1]; exact h2
      have d3 := e1 p.cf.ms.length
      clear h1 h2 e1
      go_enter Tryd.func8, Tryd.ntmps8
      go_upto_region 1 with fail
      rw [HV.out]
      go_wp2_with fail
      go_ret
      exact ⟨by simp, HB.out⟩

end Go.Proofs.YtplejbgecihnpaaDoor

namespace Go.Proofs.YtplejbgecihnpaaDoor
open Go.RowKit Go.Shelf

/-- A row of records that reads; a brain that reads; a box with a brain of nothing. -/
def RecsIs (ks : List (Int × List Int)) (v : Value) (w : World) : Prop :=
  ∃ A c xs, v = .slice A xs.length c ∧ RdR w w.heap.size A xs.length xs ∧ recsB xs = ks ∧ ∀ x ∈ xs, x.n ≤ x.c ∧ x.c ≤ maxLen
def BrIs (q : Br) (v : Value) (w : World) : Prop := ∃ a, v = brV q a ∧ OwB 0 w q a
def BoxIs (lo : Nat) (v : Value) (w : World) : Prop := ∃ b, v = .pointer (some ⟨b, 0, none⟩) ∧ lo ≤ b ∧ Whole w b 30 (brC br0 ad0)
section
variable {v : Value} {w w' : World}
set_option maxRecDepth 100000 in
theorem RecsIs.under {ks : List (Int × List Int)} (hb : Below w.heap.size w w') (h : RecsIs ks v w) : RecsIs ks v w' := by
  obtain ⟨A, c, xs, h1, h2, h3⟩ := h
  exact ⟨A, c, xs, h1, (h2.below hb).more hb.size, h3⟩
set_option maxRecDepth 100000 in
theorem BrIs.under {q : Br} (hb : Below w.heap.size w w') (h : BrIs q v w) : BrIs q v w' := by
  obtain ⟨a, h1, h2⟩ := h
  exact ⟨a, h1, h2.under hb⟩
set_option maxRecDepth 100000 in
theorem BoxIs.under {lo : Nat} (hb : Below w.heap.size w w') (h : BoxIs lo v w) : BoxIs lo v w' := by
  obtain ⟨b, h1, h2, h3⟩ := h
  exact ⟨b, h1, h2, h3.under hb⟩
end
def recF (x : RE) : List Value := [.int .u8 (x.k : Int), .slice x.A x.n x.c]
set_option maxRecDepth 100000 in
theorem recF_len (x : RE) : (recF x).length = 2 := rfl
section
variable {K : Act → World → Prop} {Q : Exit → Act → World → Prop} {a : Act} {w : World} {d : Tmp} {t : TypeId} {pos : String} {after : Array Edge} {x y : Operand}
set_option maxRecDepth 100000 in
set_option maxHeartbeats 2000000 in
theorem opB_load {b : Nat} {p : Br} {ad : Ad} (hx : a.eval x = .pointer (some ⟨b, 0, none⟩)) (hW : Whole w b 30 (brC p ad)) (h : K (a.put (some d) (brV p ad)) w) :
    ({ dst := some d, op := .load 30 x, type := t, pos := pos, after := after, guard := none } : Oper).wp Tryd.prog a w K Q := by
  unfold Oper.wp execOp
  simp only [hx, Instr.loadAt, Instr.sureAddr, Sem.run_bind, Sem.run_pure, Result.andThen_ok, run_loadVar_row (P := Tryd.prog) w b 30 30 (brC p ad) (0, 0) _ hW Tryd.underlying30 rfl (by kernel_rfl)]
  exact h
set_option maxRecDepth 100000 in
set_option maxRecDepth 100000 in
set_option maxHeartbeats 2000000 in
theorem opB_alloc {lo : Nat} (hlo : lo ≤ w.heap.size) (h : ∀ v w', Below w.heap.size w w' → BoxIs lo v w' → K (a.put (some d) v) w') :
    ({ dst := some d, op := .alloc 30, type := t, pos := pos, after := after, guard := none } : Oper).wp Tryd.prog a w K Q := by
  have hw := Whole.new w 30 (brC br0 ad0)
  have hb : Below w.heap.size w (w.alloc (.cells (brC br0 ad0) 30)) := (Below.refl _ _).alloc (Nat.le_refl _) _
  have HW := Lib.hid hw
  have HB := Lib.hid hb
  clear hw hb
  unfold Oper.wp execOp
  go_simp
  exact h _ _ HB.out ⟨_, rfl, hlo, HW.out⟩
end

end Go.Proofs.YtplejbgecihnpaaDoor

namespace Go.Proofs.YtplejbgecihnpaaDoor
open Go.RowKit Go.Shelf

theorem wrapS {n : Int} (h0 : 0 ≤ n) (h1 : n ≤ 9000000000000000) : IntKind.i64.wrap n = n := by
  simp only [IntKind.wrap, IntKind.bits, IntKind.signed]
  simp
  split <;> omega
def cn0 : Cn := ⟨0, 0, 0, 0, 0, 0, 0, 0, 0⟩
def CboxIs (lo : Nat) (v : Value) (w : World) : Prop := ∃ b, v = .pointer (some ⟨b, 0, none⟩) ∧ lo ≤ b ∧ Whole w b 38 cn0.cells
theorem CboxIs.under {lo : Nat} {v : Value} {w w' : World} (hb : Below w.heap.size w w') (h : CboxIs lo v w) : CboxIs lo v w' := by
  obtain ⟨b, h1, h2, h3⟩ := h
  exact ⟨b, h1, h2, h3.under hb⟩
/-- The end of a function that tells counts out of a box. -/
theorem count_end {fn : Func} {k b : Nat} (hres : fn.results = #[.cell k 38]) {tm : Array Value} {W : World} {cs : Array Value} {R : Ending → World → Prop} (h2 : tm[k]? = some (.pointer (some ⟨b, 0, none⟩))) (hw : Whole W b 38 cs) (hcs : cs.size = 9) (hR : R (.returned (.agg cs)) W) : bodyPost Tryd.prog fn R .ret { tmps := tm, defers := [] } W := by
  have hl := run_loadVar_row (P := Tryd.prog) W b 38 38 cs (0, 0) _ hw Tryd.underlying38 rfl (by rw [hcs]; kernel_rfl)
  refine bodyPost_ret (v := .agg cs) ?_ rfl hR
  simp [results, hres, h2, hl, asAddr]
section
variable {P : Program} {K : Act → World → Prop} {Q : Exit → Act → World → Prop} {a : Act} {w : World} {o : Oper}
theorem opQ (v : Value) (he : (execOp a.eval o).run P w = .ok (.value v) w) (h : K (a.put o.dst v) w) : o.wp P a w K Q := by
  unfold Oper.wp
  rw [he]
  exact h
theorem wp_storeC (x y : Operand) (ho : o.op = .store 38 x y) (g : Nat) (c : Cn) (old : Array Value) (hs : old.size = 9)
    (hx : a.eval x = .pointer (some ⟨g, 0, none⟩)) (hy : a.eval y = c.v) (hW : Whole w g 38 old) (h : ∀ W2, W2 = w.setRow g c.cells → K (a.put o.dst undef) W2) : o.wp Tryd.prog a w K Q := by
  refine wp_store_at 38 x y ho g 0 c.cells hx hy 38 old hW (by kernel_rfl) (by rw [hs]; exact Nat.le_refl _) (by simp [Value.oneCell']) (h _ ?_)
  have e : old.toList.drop (0 + c.cells.size) = [] := List.drop_of_length_le (by rw [Array.length_toList, hs]; exact Nat.le_refl _)
  rw [e]
  simp
end
theorem cf_range {W : World} {g : Nat} {p : Br} {a : Ad} (h : Whole W g 30 (brC p a)) : W.rangeAt g 3 (cfM p a).cells.toList := by
  intro j v hv
  rw [h.cell (3 + j)]
  have hj : j < 15 := by
    have := (List.getElem?_eq_some_iff.1 hv).1
    simpa using this
  rcases (by omega : j = 0 ∨ j = 1 ∨ j = 2 ∨ j = 3 ∨ j = 4 ∨ j = 5 ∨ j = 6 ∨ j = 7 ∨ j = 8 ∨ j = 9 ∨ j = 10 ∨ j = 11 ∨ j = 12 ∨ j = 13 ∨ j = 14) with rfl | rfl | rfl | rfl | rfl | rfl | rfl | rfl | rfl | rfl | rfl | rfl | rfl | rfl | rfl
  all_goals exact hv

structure CtAt (p : Br) (a : Ad) (b : Nat) (w : World) (c : Cn) (W : World) : Prop where
  br : Whole W w.heap.size 30 (brC p a)
  res : Whole W (w.heap.size + 1) 38 cn0.cells
  bx : Whole W b 38 c.cells
  below : Below w.heap.size w W
theorem Only.row {W : World} {g : Nat} {t : TypeId} {cs : Array Value} (_h : Whole W g t cs) (c' : Array Value) : Only g W (W.setRow g c') :=
  ⟨⟨rfl, rfl, rfl, Nat.le_of_eq (setRow_size W g c').symm, fun k _ hkg => setRow_other W g k c' (fun e => hkg (by rw [e]))⟩, setRow_size W g c', ⟨Nat.le_of_eq (setRow_size W g c').symm, fun i o ho hc => by
    by_cases e : i = g
    · subst e
      have h := _h
      unfold Whole at h
      rw [h] at ho
      cases ho
      cases hc
    · exact (setRow_other W g i c' e).trans ho⟩⟩
section
variable {p : Br} {a : Ad} {b : Nat} {w W W' : World} {c c' : Cn}
theorem CtAt.under (h : CtAt p a b w c W) (hb : Below W.heap.size W W') : CtAt p a b w c W' := ⟨h.br.under hb, h.res.under hb, h.bx.under hb, h.below.trans (hb.mono h.below.size)⟩
theorem CtAt.set (h : CtAt p a b w c W) (hb : w.heap.size + 1 + 1 ≤ b) (k : Nat) (v : Value) (e : c.cells.setIfInBounds k v = c'.cells) : CtAt p a b w c' (W.setCell ⟨b, k, none⟩ v) := by
  have k1 := Only.set W b k v
  refine ⟨k1.far h.br (by omega), k1.far h.res (by omega), ?_, k1.bel h.below (by omega)⟩
  have h1 := h.bx.set k v
  rw [e] at h1
  exact h1
end

end Go.Proofs.YtplejbgecihnpaaDoor
