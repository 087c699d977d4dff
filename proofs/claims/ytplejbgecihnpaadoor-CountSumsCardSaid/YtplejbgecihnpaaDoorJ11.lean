/-
  Texts that the walks of the statements over logs lean on, joined (BrKeepP, BrMade, CfOf, BrRegroup, BrClo1, BrClo2, BrClo3, RecMany, BrFitP, BrDeeds, BrCopy, BrFit, NumAdd, NumFirst, NumClone, NumBehind, NumEach, NumRow, NumTakes, NumTakeRow, NumUse, RecIter, RecRight, KpG, BrVals). Conditions: those that each theorem names.
-/
import Derived.Test.YtplejbgecihnpaaDoorJ0
import Derived.Test.YtplejbgecihnpaaDoorJ3
import Derived.Test.YtplejbgecihnpaaDoorJ4
import Derived.Test.YtplejbgecihnpaaDoorJ7
import Derived.Test.YtplejbgecihnpaaDoorJ8
import Derived.Test.YtplejbgecihnpaaDoorJ9
import Derived.Test.YtplejbgecihnpaaDoorJ10
import Derived.Maps.OwnOps
import Derived.Maps.OwnSet
import Derived.Laws.EntriesVeiled
import Derived.Lib.SlMapMerge
import Derived.Maps.Ext
import Derived.Maps.RangeWalk
import Derived.Laws.IdiomRangeMap
import Derived.Laws.BytesArg
import Derived.Deep.RegionHeld3
import Derived.OpenShut
import Derived.Laws.AppendOwnNone

/-
  The walk of 'keep' of package brain. Conditions: those that each theorem names.
-/
namespace Go.Proofs.YtplejbgecihnpaaDoor
open Go.RowKit Go.Shelf

set_option maxRecDepth 100000 in
/-- Where one is put. -/
theorem keep_place (l : List Kp) (x : Kp) : ∃ j, j ≤ l.length ∧ l.take j ++ [x] ++ l.drop j = putK l x ∧ ((placeF (fun n => decide (x.id < n)) (l.map Kp.id) = -1 ∧ j = l.length) ∨ (placeF (fun n => decide (x.id < n)) (l.map Kp.id) = (j : Int) ∧ j < l.length)) := by
  have e : (l.map Kp.id).findIdx? (fun n => decide (x.id < n)) = l.findIdx? (fun y => decide (x.id < y.id)) := by rw [List.findIdx?_map]; rfl
  cases hf : l.findIdx? (fun y => decide (x.id < y.id)) with
  | none =>
    refine ⟨l.length, Nat.le_refl _, (putK_at (fun y hy => ?_) (fun y hy => ?_)).symm, .inl ⟨by unfold placeF; rw [e, hf], rfl⟩⟩
    · rw [List.findIdx?_eq_none_iff] at hf
      have := hf y (by rw [List.take_length] at hy; exact hy)
      simp at this
      omega
    · rw [List.getElem?_eq_none (Nat.le_refl _)] at hy; cases hy
  | some j =>
    have h1 := hf
    rw [List.findIdx?_eq_some_iff_getElem] at h1
    obtain ⟨hj, hp, hno⟩ := h1
    refine ⟨j, Nat.le_of_lt hj, (putK_at (fun y hy => ?_) (fun y hy => ?_)).symm, .inr ⟨by unfold placeF; rw [e, hf], hj⟩⟩
    · obtain ⟨k, hk, rfl⟩ := List.getElem_of_mem hy
      rw [List.length_take] at hk
      have := hno k (by omega)
      simp only [List.getElem_take]
      simp at this
      omega
    · rw [List.getElem?_eq_getElem hj] at hy
      cases hy
      simp at hp
      omega

end Go.Proofs.YtplejbgecihnpaaDoor

/-
  The walk of 'made' of package brain. Conditions: those that each theorem names.
-/
namespace Go.Proofs.YtplejbgecihnpaaDoor
open Go.RowKit Go.Shelf

set_option maxRecDepth 100000 in
theorem cells8 {w : World} {g : Nat} {t : TypeId} {v0 v1 v2 v3 v4 v5 v6 v7 : Value} (h : Whole w g t #[v0, v1, v2, v3, v4, v5, v6, v7]) : w.cell? ⟨g, 0, none⟩ = some v0 ∧ w.cell? ⟨g, 1, none⟩ = some v1 ∧ w.cell? ⟨g, 2, none⟩ = some v2 ∧ w.cell? ⟨g, 3, none⟩ = some v3 ∧ w.cell? ⟨g, 4, none⟩ = some v4 ∧ w.cell? ⟨g, 5, none⟩ = some v5 ∧ w.cell? ⟨g, 6, none⟩ = some v6 ∧ w.cell? ⟨g, 7, none⟩ = some v7 := ⟨h.cell 0, h.cell 1, h.cell 2, h.cell 3, h.cell 4, h.cell 5, h.cell 6, h.cell 7⟩
/-- The brain behind what a launch made. -/
def madeP (p : Br) (t id now : Int) (x : It) : Br :=
  { p with its := dropI t p.its, kps := putK p.kps ⟨id, t, x.ver, x.zone, if x.warm then 9 else 1, now, false, false⟩, rf := if p.rf.st = 1 then { p.rf with fails := 0 } else p.rf }

end Go.Proofs.YtplejbgecihnpaaDoor

/-
  The walks of 'shaped' and of 'Of' of package conf. Conditions: those that each theorem names.
-/
namespace Go.Proofs.YtplejbgecihnpaaDoor
open Go.RowKit Go.Shelf
attribute [local go_sem] Oper.semAt_some

set_option maxRecDepth 100000 in
theorem at_of {l : List Int} {n k : Nat} {w : World} {B : Nat} {A : Option Addr} (hr : Rd w B A n (iv l)) (hk : k < n) : ∃ b off, A = some ⟨b, off, none⟩ ∧ b < B ∧ w.cell? ⟨b, off + k, none⟩ = some (.int .i64 (l.getD k 0)) := by
  obtain ⟨b, off, e, hb, hc⟩ := hr.2 (by omega)
  have hl : l.length = n := by have := hr.1; rwa [iv_length] at this
  refine ⟨b, off, e, hb, (hc k hk).trans ?_⟩
  rw [iv, List.getElem?_map, List.getD_eq_getElem?_getD, List.getElem?_eq_getElem (by omega)]
  rfl

/-- A group's cells with the first k numbers. -/
def ofTo (l : List Int) (k : Nat) : Array Value := (((l.take k ++ List.replicate (13 - k) 0).map (Value.int .i64)) ++ [.bool false, .slice none 0 0]).toArray
set_option maxRecDepth 100000 in
theorem ofTo_none (l : List Int) : ofTo l 0 = cf0.cells := rfl
set_option maxRecDepth 100000 in
theorem ofTo_step {l : List Int} {k : Nat} (hk : k < 13) (hl : 14 ≤ l.length) : (ofTo l k).setIfInBounds k (.int .i64 (l.getD k 0)) = ofTo l (k + 1) := by
  have h1 : (l.take k).length = k := by rw [List.length_take]; omega
  have h2 : 13 - k = (13 - (k + 1)) + 1 := by omega
  have hkl : k < l.length := by omega
  have h3 : l.take (k + 1) = l.take k ++ [l.getD k 0] := by
    rw [List.take_succ_eq_append_getElem hkl, List.getD_eq_getElem?_getD, List.getElem?_eq_getElem hkl]
    rfl
  unfold ofTo
  rw [h2, List.replicate_succ, h3]
  simp only [List.setIfInBounds_toArray, List.map_append, List.map_cons, List.append_assoc, List.map_nil]
  rw [List.set_append_right _ _ (by rw [List.length_map, h1]; exact Nat.le_refl _), List.length_map, h1, Nat.sub_self, List.cons_append, List.set_cons_zero]
  rfl
set_option maxRecDepth 100000 in
theorem ofTo_cell {l : List Int} {k : Nat} (hk : k < 13) (hl : 14 ≤ l.length) : (ofTo l k)[k]? = some (.int .i64 0) := by
  have h1 : (l.take k).length = k := by rw [List.length_take]; omega
  have h2 : 13 - k = (13 - (k + 1)) + 1 := by omega
  unfold ofTo
  rw [h2, List.replicate_succ, List.getElem?_toArray, List.map_append, List.append_assoc, List.getElem?_append_right (by rw [List.length_map]; omega), List.length_map, h1, Nat.sub_self]
  rfl
set_option maxRecDepth 100000 in
theorem ofTo_all {l : List Int} (hl : 14 ≤ l.length) (A : Option Addr) (n c : Nat) : ((ofTo l 13).setIfInBounds 13 (.bool (l.getD 13 0 == 1))).setIfInBounds 14 (.slice A n c) = (ofRow l A n c).cells ∧ (ofTo l 13)[13]? = some (.bool false) ∧ (ofTo l 13)[14]? = some (.slice none 0 0) := by
  match l, hl with
  | a0 :: a1 :: a2 :: a3 :: a4 :: a5 :: a6 :: a7 :: a8 :: a9 :: a10 :: a11 :: a12 :: a13 :: r, _ => exact ⟨rfl, rfl, rfl⟩

set_option maxRecDepth 100000 in
theorem own_rowset {w : World} {base n g : Nat} {e : TypeId} {size : Nat} {v : Value} {xs : List Value} (ho : w.ownsRow base e size v n xs) (hne : v.ownBlock ≠ some g) (c' : Array Value) : (w.setRow g c').ownsRow base e size v n xs := by
  refine ⟨ho.1, ?_⟩
  rcases ho.2 with h | ⟨k, cap, cur, rfl, h2, h3, h4⟩
  · exact .inl h
  · exact .inr ⟨k, cap, cur, rfl, h2, (setRow_other w g k c' (fun e => hne (by simp [Value.ownBlock, e]))).trans h3, h4⟩
set_option maxRecDepth 100000 in
theorem Whole.rowset_far {w : World} {b g : Nat} {t : TypeId} {cs : Array Value} (h : Whole w b t cs) (hne : b ≠ g) (c' : Array Value) : Whole (w.setRow g c') b t cs := (setRow_other w g b c' hne).trans h

set_option maxRecDepth 100000 in
/-- A piece of code that ends as it should. -/
theorem wpIn_normal {F : Fence} {n : Nat} {P : Program} {k : Code} {Q : Exit → Act → World → Prop} {a : Act} {w : World} (h : k.wpIn F n P (fun e a w => e = .normal ∧ Q .normal a w) a w) : k.wpIn F n P Q a w :=
  wpIn_mono h (by rintro e a w ⟨rfl, h⟩; exact h)

/-- What comes of telling a group by a row. -/
def OfOk (l : List Int) (y : Cf) (base : Nat) (w : World) : Prop :=
  (isRow l = true → y = ofRow l y.A y.n y.c ∧ w.ownsRow base 3 1 (.slice y.A y.n y.c) y.n (iv y.ms)) ∧ (isRow l = false → y = cf0)
def OfIs (l : List Int) (w : World) (e : Ending) (w' : World) : Prop :=
  ∃ y : Cf, e = .returned (.tuple #[y.v, .int .i64 (er (isRow l))]) ∧ OfOk l y w.heap.size w' ∧ Below w.heap.size w w'

/-- What holds between two rounds. -/
structure OfAt (l : List Int) (A : Option Addr) (n c : Nat) (w : World) (pre : List Nat) (W : World) : Prop where
  lbox : Whole W w.heap.size 22 #[.slice A n c]
  res : Whole W (w.heap.size + 1) 24 cf0.cells
  row : Whole W (w.heap.size + 1 + 1) 24 (ofTo l pre.length)
  below : Below w.heap.size w W
set_option maxRecDepth 100000 in
theorem ofAt_own (l : List Int) (A : Option Addr) (n c : Nat) (w : World) (B : Nat) (hB : w.heap.size ≤ B) : OwnFrom B (OfAt l A n c w) := by
  intro pre W1 W2 row h hg hr
  have hr' : ∀ r, row = some r → ∃ o : Obj, W1.heap[r]? = some o ∧ o.isCells = false := fun r e => (hr r e).2
  exact ⟨h.lbox.turn hg hr', h.res.turn hg hr', h.row.turn hg hr', h.below.grown hg h.below.size (fun k e => by have := (hr k e).1; omega)⟩
/-- Where the run stands at the label. -/
def OfTail (l : List Int) (w : World) (a' : Act) (W : World) : Prop :=
  ∃ (u0 u1 u3 u4 u5 u6 u7 u8 u9 u10 u11 u12 u13 u14 u15 u16 u17 u18 u19 u20 u21 u22 u23 u24 u25 u26 u27 u28 u29 u30 u31 u32 u33 u34 : Value), a' = { tmps := #[u0, u1, .pointer (some ⟨w.heap.size + 1, 0, none⟩), u3, u4, u5, u6, u7, u8, u9, u10, u11, u12, u13, u14, u15, u16, u17, u18, u19, u20, u21, u22, u23, u24, u25, u26, u27, u28, u29, u30, u31, u32, u33, u34], defers := [] } ∧ Whole W (w.heap.size + 1) 24 cf0.cells ∧ isRow l = false ∧ Below w.heap.size w W

end Go.Proofs.YtplejbgecihnpaaDoor

/-
  The walks of 'isGroup' and 'regroup' of package brain. Conditions: those that each theorem names.
-/
namespace Go.Proofs.YtplejbgecihnpaaDoor
open Go.RowKit Go.Shelf

set_option maxRecDepth 100000 in
/-- A struct is laid over some cells of a block. -/
theorem wpList_store_at {P : Program} {ops : Array Oper} {rest : List Oper} {o : Oper} {a : Act} {w : World} {Q : Exit → Act → World → Prop} (hgd : o.guard = none) (ty : TypeId) (x y : Operand) (ho : o.op = .store ty x y)
    (g off : Nat) (cells : Array Value) (hx : a.eval x = .pointer (some ⟨g, off, none⟩)) (hy : a.eval y = .agg cells)
    (t : TypeId) (old : Array Value) (hg : w.heap[g]? = some (.cells old t (0, 0))) (hi : (P.info? ty).map (·.size) = some cells.size)
    (hfit : off + cells.size ≤ old.size) (h1 : cells.all (·.oneCell') = true)
    (h : wpList P ops Q rest (a.put o.dst undef) (w.setRow g (old.toList.take off ++ cells.toList ++ old.toList.drop (off + cells.size)).toArray)) : wpList P ops Q (o :: rest) a w :=
  wpList_plain hgd fun _ hK => by
    have hst := run_storeCells_at P g off t cells.toList 0 old w hg (by simpa using hfit) (fun v hv => (Array.all_eq_true_iff_forall_mem.1 h1) v (by simpa using hv))
    simp only [Nat.add_zero, Array.length_toList] at hst
    have hv : (storeVar ty ⟨g, off, none⟩ (.agg cells)).run P w = .ok () (w.setRow g (old.toList.take off ++ cells.toList ++ old.toList.drop (off + cells.size)).toArray) := by
      cases hq : P.info? ty with
      | none => simp [hq] at hi
      | some i =>
        have hs : cells.size = i.size := by simp [hq] at hi; omega
        rw [← hst]
        simp [storeVar, sizeOf, typeInfo, hq, Value.cells, hs]
    unfold Oper.wp execOp
    simp only [ho, hx, hy, Instr.storeAt, Instr.sureAddr, Sem.run_bind, Sem.run_pure, Result.andThen_ok, hv]
    exact hK _ _ h
set_option maxRecDepth 100000 in
theorem Stp.row {base g : Nat} {w : World} {t : TypeId} {cs : Array Value} (hw : Whole w g t cs) (ht : mutT t = true) (hg : base ≤ g) (c' : Array Value) (hsz : c'.size = cs.size) : Stp base w (w.setRow g c') := by
  refine ⟨below_rowsetB (Below.refl base w) hg c', fun j o ho hs => ?_, fun j cs1 hj => ?_⟩
  rotate_left
  · by_cases e : j = g
    · subst e
      have e1 : cs1 = cs ∧ t = 30 := by
        unfold Whole at hj hw
        rw [hw] at hj
        cases hj
        exact ⟨rfl, rfl⟩
      obtain ⟨rfl, rfl⟩ := e1
      exact ⟨c', setRow_heap w j _ c' _ _ hw, hsz⟩
    · exact ⟨cs1, (setRow_other w g j c' e).trans hj, rfl⟩
  by_cases e : j = g
  · subst e
    unfold Whole at hw
    rw [hw] at ho
    cases ho
    simp [stayO, ht] at hs
  · exact (setRow_other w g j c' e).trans ho
set_option maxRecDepth 100000 in
theorem er_ok (b : Bool) : (er b == 0) = b := by cases b <;> rfl

set_option maxRecDepth 100000 in
theorem confB_yes {p : Br} {l : List Int} (h : isRow l = true) : confB p l = { p with cf := if p.set then { ofRow l none 0 0 with f12 := p.cf.f12 } else ofRow l none 0 0, set := true } := by
  unfold confB
  rw [if_pos h]

end Go.Proofs.YtplejbgecihnpaaDoor

/-
  The walks of what the deeds on instances and on refreshes ask: is it kept, is it not, the one, is a refresh active. Conditions: those that each theorem names.
-/
namespace Go.Proofs.YtplejbgecihnpaaDoor
open Go.RowKit Go.Shelf

set_option maxRecDepth 100000 in
theorem wpList_loadB {ops : Array Oper} {rest : List Oper} {o : Oper} {a : Act} {w : World} {Q : Exit → Act → World → Prop} (hw : Region.wanted o (yielded ops a.tmps) = true) (x : Operand) (ho : o.op = .load 30 x) (g : Nat) (p : Br) (ad : Ad) (hx : a.eval x = .pointer (some ⟨g, 0, none⟩)) (hW : Whole w g 30 (brC p ad))
    (h : wpList Tryd.prog ops Q rest (a.put o.dst (brV p ad)) w) : wpList Tryd.prog ops Q (o :: rest) a w := by
  unfold wpList
  rw [if_pos hw]
  left
  unfold Oper.wp execOp
  simp only [ho, hx, Instr.loadAt, Instr.sureAddr, Sem.run_bind, Sem.run_pure, Result.andThen_ok, run_loadVar_row (P := Tryd.prog) w g 30 30 (brC p ad) (0, 0) _ hW Tryd.underlying30 rfl (by kernel_rfl)]
  exact h

def ThePost (b i : Nat) (w : World) (e : Ending) (w' : World) : Prop := e = .returned (.pointer (some ⟨b, i * 8, none⟩)) ∧ Below w.heap.size w w'

end Go.Proofs.YtplejbgecihnpaaDoor

/-
  The walks of the closures that the deeds on instances are made of. Conditions: those that each theorem names.
-/
namespace Go.Proofs.YtplejbgecihnpaaDoor
open Go.RowKit Go.Shelf


end Go.Proofs.YtplejbgecihnpaaDoor

/-
  The walks of the closures that the deeds of epochs, of the group and of refreshes are made of. Conditions: those that each theorem names.
-/
namespace Go.Proofs.YtplejbgecihnpaaDoor
open Go.RowKit Go.Shelf

/-- Whether a launch that is meant fits. -/
def intF (p : Br) (x0 x1 x2 : Int) : Bool := p.set && (decide (1 ≤ x0) && (decide (x1 < 4) && (decide (x2 < 2) && decide (p.sq < 1099511627776))))

def startF (p : Br) (x0 : Int) : Bool := p.set && (!(p.rf.st == 1) && decide (1 ≤ x0))

set_option maxRecDepth 100000 in
theorem wp_store_at {P : Program} {K : Act → World → Prop} {o : Oper} {a : Act} {w : World} {Q : Exit → Act → World → Prop} (ty : TypeId) (x y : Operand) (ho : o.op = .store ty x y)
    (g off : Nat) (cells : Array Value) (hx : a.eval x = .pointer (some ⟨g, off, none⟩)) (hy : a.eval y = .agg cells)
    (t : TypeId) (old : Array Value) (hg : w.heap[g]? = some (.cells old t (0, 0))) (hi : (P.info? ty).map (·.size) = some cells.size)
    (hfit : off + cells.size ≤ old.size) (h1 : cells.all (·.oneCell') = true)
    (h : K (a.put o.dst undef) (w.setRow g (old.toList.take off ++ cells.toList ++ old.toList.drop (off + cells.size)).toArray)) : o.wp P a w K Q := by
  have hst := run_storeCells_at P g off t cells.toList 0 old w hg (by simpa using hfit) (fun v hv => (Array.all_eq_true_iff_forall_mem.1 h1) v (by simpa using hv))
  simp only [Nat.add_zero, Array.length_toList] at hst
  have hv : (storeVar ty ⟨g, off, none⟩ (.agg cells)).run P w = .ok () (w.setRow g (old.toList.take off ++ cells.toList ++ old.toList.drop (off + cells.size)).toArray) := by
    cases hq : P.info? ty with
    | none => simp [hq] at hi
    | some i =>
      have hs : cells.size = i.size := by simp [hq] at hi; omega
      rw [← hst]
      simp [storeVar, sizeOf, typeInfo, hq, Value.cells, hs]
  unfold Oper.wp execOp
  simp only [ho, hx, hy, Instr.storeAt, Instr.sureAddr, Sem.run_bind, Sem.run_pure, Result.andThen_ok, hv]
  exact h

end Go.Proofs.YtplejbgecihnpaaDoor

/-
  How many numbers a record of each kind has, and which records may be: plain words, and the walks of 'many'. Conditions: those that each theorem names.
-/
namespace Go.Proofs.YtplejbgecihnpaaDoor
open Go.RowKit Go.Shelf

/-- The fewest, and the most, numbers of a kind; of none: more than there may be. -/
def loL : List Nat := [1, 0, 14, 3, 3, 1, 3, 1, 5, 2, 1, 2, 0, 0, 1, 0, 0]
def hiL : List Nat := [0, 0, 18, 3, 3, 1, 3, 1, 5, 2, 1, 2, 0, 0, 1, 0, 0]
def lo (k : Nat) : Nat := loL.getD k 1
def hi (k : Nat) : Nat := hiL.getD k 0
set_option maxRecDepth 100000 in
theorem lo_out {k : Nat} (h : 17 ≤ k) : lo k = 1 := by simp [lo, loL, List.getD, h]
set_option maxRecDepth 100000 in
theorem hi_out {k : Nat} (h : 17 ≤ k) : hi k = 0 := by simp [hi, hiL, List.getD, h]
set_option maxRecDepth 100000 in
theorem kind_cases {k : Nat} (h : k < 17) : k = 0 ∨ k = 1 ∨ k = 2 ∨ k = 3 ∨ k = 4 ∨ k = 5 ∨ k = 6 ∨ k = 7 ∨ k = 8 ∨ k = 9 ∨ k = 10 ∨ k = 11 ∨ k = 12 ∨ k = 13 ∨ k = 14 ∨ k = 15 ∨ k = 16 := by omega
set_option maxRecDepth 100000 in
theorem hi_le (k : Nat) : hi k ≤ 18 ∧ lo k ≤ 14 := by
  rcases Nat.lt_or_ge k 17 with h | h
  · rcases kind_cases h with rfl | rfl | rfl | rfl | rfl | rfl | rfl | rfl | rfl | rfl | rfl | rfl | rfl | rfl | rfl | rfl | rfl <;> decide
  · rw [hi_out h, lo_out h]; omega

/-- Whether a record may be. -/
def mayB (k : Nat) (zs : List Int) : Bool := decide (lo k ≤ zs.length) && decide (zs.length ≤ hi k) && zs.all isNum

set_option maxRecDepth 100000 in
theorem mayB_yes {k : Nat} {zs : List Int} (h : mayB k zs = true) : lo k ≤ zs.length ∧ zs.length ≤ hi k ∧ zs.all isNum = true := by simpa [mayB, and_assoc] using h
set_option maxRecDepth 100000 in
theorem mayB_kind {k : Nat} {zs : List Int} (h : mayB k zs = true) : 0 < k ∧ k < 17 := by
  obtain ⟨h1, h2, _⟩ := mayB_yes h
  rcases Nat.lt_or_ge k 17 with h3 | h3
  · refine ⟨?_, h3⟩
    rcases Nat.eq_zero_or_pos k with rfl | h4
    · have e1 : lo 0 = 1 := rfl
      have e2 : hi 0 = 0 := rfl
      omega
    · exact h4
  · rw [lo_out h3] at h1; rw [hi_out h3] at h2; omega

set_option maxRecDepth 100000 in
theorem kind_ne {k : Int} (h : 17 ≤ k) (m : Int) (hm : m < 17) : (k == m) = false := by rw [beq_eq_false_iff_ne]; omega

end Go.Proofs.YtplejbgecihnpaaDoor

/-
  What a record does, told by places in the rows: plain. Conditions: those that each theorem names.
-/
namespace Go.Proofs.YtplejbgecihnpaaDoor
open Go.RowKit Go.Shelf

section
variable {p : Br} {k : Nat} {zs : List Int}
/-- What no int leaves. -/
structure Good (m : Nat) (p : Br) : Prop where
  len : p.its.length + p.kps.length ≤ m
  ep : -9223372036854775808 ≤ p.ep
  sq : -9223372036854775808 ≤ p.sq
  ph : ∀ x ∈ p.kps, 0 ≤ x.phase
set_option maxRecDepth 100000 in
theorem good_apply {m : Nat} (h : Good m p) (k : Int) (zs : List Int) : Good (m + 1) (applyB p k zs) := by
  have h1 := len_apply p k zs
  have h2 := step_apply p k zs
  refine ⟨by have := h.len; omega, Int.le_trans h.ep h2.ep, Int.le_trans h.sq h2.sq, ?_⟩
  have hb := h.ph
  refine apply_cases (P := fun o : Br => ∀ x ∈ o.kps, 0 ≤ x.phase) (fun _ hr => ?_) (fun hn _ _ => ?_) hb
  · unfold confB; rw [if_pos hr]; exact hb
  refine fit_cases (P := fun o : Br => ∀ x ∈ o.kps, 0 ≤ x.phase) (fun e => ?_) (fun e => ?_) (fun e => ?_) (fun e => ?_) (fun e => ?_) (fun e => ?_) (fun e => ?_) (fun e => ?_) (fun e => ?_) (fun _ e => ?_) hb
  · unfold bootB; split <;> exact hb
  · unfold intentB; split <;> exact hb
  · unfold madeB; split
    · exact hb
    · split
      · intro x hx
        rcases putK_mem.1 hx with rfl | hx
        · show (0 : Int) ≤ if _ then 9 else 1
          split <;> decide
        · exact hb x hx
      · exact hb
  · unfold phaseB; split
    · exact hb
    · split
      · rename_i hl
        intro x hx
        rcases setK_mem hx with hx | ⟨z, hz, _, rfl⟩
        · exact hb x hx
        · have := legal_bd hl.2
          show 0 ≤ zs.getD 1 0
          omega
      · exact hb
  · unfold goneB_; split
    · exact hb
    · exact fun x hx => hb x (List.mem_of_mem_eraseP hx)
  · unfold takeB; split
    · intro x hx
      rcases putK_mem.1 hx with rfl | hx
      · show (0 : Int) ≤ 8; decide
      · exact hb x hx
    · exact hb
  · unfold guardB; split
    · exact hb
    · split
      · intro x hx
        rcases setK_mem hx with hx | ⟨z, hz, _, rfl⟩
        · exact hb x hx
        · exact hb z hz
      · exact hb
  · unfold doneB; split
    · exact hb
    · split
      · intro x hx
        rcases setK_mem hx with hx | ⟨z, hz, _, rfl⟩
        · exact hb x hx
        · exact hb z hz
      · exact hb
  · unfold startB; split <;> exact hb
  · unfold refB
    repeat' split
    all_goals exact hb

set_option maxRecDepth 100000 in
theorem kept_idx (p : Br) (id : Int) : (p.kps.findIdx? (fun y => decide (y.id = id)) = none ∧ keptB p id = none ∧ findB p id = -1) ∨
    ∃ (i : Nat) (x : Kp), p.kps.findIdx? (fun y => decide (y.id = id)) = some i ∧ p.kps[i]? = some x ∧ keptB p id = some x ∧ findB p id = (i : Int) := by
  cases h : p.kps.findIdx? (fun y => decide (y.id = id)) with
  | none =>
    refine .inl ⟨rfl, ?_, by simp [findB, h]⟩
    rw [List.findIdx?_eq_none_iff] at h
    simp only [keptB, List.find?_eq_none]
    exact fun x hx => by simpa using h x hx
  | some i =>
    have h2 := h
    rw [List.findIdx?_eq_some_iff_getElem] at h2
    obtain ⟨hi, h3, h4⟩ := h2
    refine .inr ⟨i, p.kps[i], rfl, List.getElem?_eq_getElem hi, ?_, by simp [findB, h]⟩
    rw [keptB, List.find?_eq_some_iff_getElem]
    exact ⟨h3, i, hi, rfl, fun j hj => by simpa using h4 j hj⟩
set_option maxRecDepth 100000 in
theorem meant_idx (p : Br) (t : Int) : (p.its.findIdx? (fun y => decide (y.tok = t)) = none ∧ meantB p t = none ∧ tokenB p t = -1) ∨
    ∃ (i : Nat) (x : It), p.its.findIdx? (fun y => decide (y.tok = t)) = some i ∧ p.its[i]? = some x ∧ meantB p t = some x ∧ tokenB p t = (i : Int) := by
  cases h : p.its.findIdx? (fun y => decide (y.tok = t)) with
  | none =>
    refine .inl ⟨rfl, ?_, by simp [tokenB, h]⟩
    rw [List.findIdx?_eq_none_iff] at h
    simp only [meantB, List.find?_eq_none]
    exact fun x hx => by simpa using h x hx
  | some i =>
    have h2 := h
    rw [List.findIdx?_eq_some_iff_getElem] at h2
    obtain ⟨hi, h3, h4⟩ := h2
    refine .inr ⟨i, p.its[i], rfl, List.getElem?_eq_getElem hi, ?_, by simp [tokenB, h]⟩
    rw [meantB, List.find?_eq_some_iff_getElem]
    exact ⟨h3, i, hi, rfl, fun j hj => by simpa using h4 j hj⟩
set_option maxRecDepth 100000 in
theorem setK_set {id : Int} {f : Kp → Kp} {l : List Kp} {i : Nat} {x : Kp} (h : l.findIdx? (fun y => decide (y.id = id)) = some i) (hx : l[i]? = some x) : setK id f l = l.set i (f x) := by
  apply List.ext_getElem?
  intro j
  rw [setK_get h j]
  have hi := (List.getElem?_eq_some_iff.1 hx).1
  by_cases e : j = i
  · subst e
    rw [if_pos rfl, hx, List.getElem?_set_self hi]
    rfl
  · rw [if_neg e, List.getElem?_set_ne (Ne.symm e)]
set_option maxRecDepth 100000 in
theorem fresh_iff (p : Br) (id : Int) : decide (findB p id < 0) = true ↔ keptB p id = none := by
  rcases kept_idx p id with ⟨_, h2, h3⟩ | ⟨i, x, _, _, h2, h3⟩
  · simp [h2, h3]
  · simp [h2, h3]

set_option maxRecDepth 100000 in
theorem many_of (h : mayB k zs = true) (h2 : k ≠ 2) : manyB (k : Int) = (zs.length : Int) := by
  obtain ⟨h1, h3, _⟩ := mayB_yes h
  obtain ⟨h4, h5⟩ := mayB_kind h
  rcases kind_cases h5 with rfl | rfl | rfl | rfl | rfl | rfl | rfl | rfl | rfl | rfl | rfl | rfl | rfl | rfl | rfl | rfl | rfl
  all_goals first
    | omega
    | (simp only [lo, hi, loL, hiL, List.getD_cons_succ, List.getD_cons_zero] at h1 h3
       have hl : zs.length = _ := Nat.le_antisymm h3 h1
       rw [hl]; try decide)
set_option maxRecDepth 100000 in
theorem apply_fit (h : mayB k zs = true) (h2 : k ≠ 2) : applyB p (k : Int) zs = fitB p (k : Int) (zs.getD 0 0) (zs.getD 1 0) (zs.getD 2 0) (zs.getD 3 0) (zs.getD 4 0) := by
  have hn : numsB zs = true := (mayB_yes h).2.2
  unfold applyB
  rw [if_pos hn, if_neg (by omega), if_pos (many_of h h2)]
set_option maxRecDepth 100000 in
theorem len_of (h : mayB k zs = true) (h2 : k ≠ 2) : (zs.length : Int) = manyB (k : Int) := (many_of h h2).symm
set_option maxRecDepth 100000 in
theorem apply_conf (h : mayB 2 zs = true) : applyB p 2 zs = confB p zs := by
  have hn : numsB zs = true := (mayB_yes h).2.2
  unfold applyB
  rw [if_pos hn, if_pos rfl]
set_option maxRecDepth 100000 in
/-- A record that may not be does nothing. -/
theorem apply_not (h : mayB k zs = false) : applyB p (k : Int) zs = p := by
  by_cases hn : numsB zs = true
  · by_cases h2 : k = 2
    · subst h2
      unfold applyB
      rw [if_pos hn, if_pos (by rfl)]
      unfold confB
      rw [if_neg]
      intro hr
      have hs : shapeB zs = true := by
        unfold isRow at hr
        simp only [Bool.and_eq_true] at hr
        exact hr.1
      have hl : 14 ≤ zs.length ∧ zs.length ≤ 18 := by
        unfold shapeB at hs
        unfold isRow may marksB at hr
        simp only [Bool.and_eq_true, decide_eq_true_eq] at hs hr
        have := hr.2.2.1.1
        simp only [ofRow, List.length_drop] at this
        omega
      have : mayB 2 zs = true := by
        have hn' : zs.all isNum = true := hn
        simp only [mayB, Bool.and_eq_true, decide_eq_true_eq, hn', and_true]
        exact hl
      rw [this] at h; cases h
    · refine not_len (by omega) ?_
      intro hm
      rcases Nat.lt_or_ge k 17 with h5 | h5
      · have : mayB k zs = true := by
          have hn' : zs.all isNum = true := hn
          simp only [mayB, Bool.and_eq_true, decide_eq_true_eq, hn', and_true]
          rcases kind_cases h5 with rfl | rfl | rfl | rfl | rfl | rfl | rfl | rfl | rfl | rfl | rfl | rfl | rfl | rfl | rfl | rfl | rfl
          all_goals first
            | omega
            | (simp only [lo, hi, loL, hiL, List.getD_cons_succ, List.getD_cons_zero]
               revert hm
               simp only [manyB]
               simp
               first | done | omega | (intro h9; exact List.length_eq_zero_iff.1 (by omega)))
        rw [this] at h; cases h
      · have : manyB (k : Int) = -1 := by
          unfold manyB
          rw [if_neg (by omega), if_neg (by omega), if_neg (by omega), if_neg (by omega), if_neg (by omega)]
        omega
  · exact not_nums (by simpa using hn)
end

end Go.Proofs.YtplejbgecihnpaaDoor

/-
  The deeds that records are to a brain, as a map of closures. Conditions: those that each theorem names.
-/
namespace Go.Proofs.YtplejbgecihnpaaDoor
open Go.RowKit Go.Shelf
open Go.Maps (Keyed int_keyed keyOf_int_mk)

def pairOk (l : List Value) : Bool := match l with
  | [x, y] => x.oneCell' && y.oneCell'
  | _ => false
def deedR (v : Value) : Option (DataW Value × List MemPlace) := match v with
  | .agg cs => if pairOk cs.toList then some (.held v, []) else none
  | _ => none
def deedP (c : Value × Value) : Value := .agg #[c.1, c.2]
set_option maxRecDepth 100000 in
theorem deedR_inv {v : Value} {y : DataW Value × List MemPlace} (h : deedR v = some y) : ∃ c, v = deedP c := by
  cases v with
  | agg cs =>
    simp only [deedR] at h
    split at h
    · rename_i e
      obtain ⟨l⟩ := cs
      simp only at e
      unfold pairOk at e
      split at e
      · rename_i a b
        exact ⟨(a, b), rfl⟩
      · cases e
    · cases h
  | _ => cases h
set_option maxRecDepth 100000 in
theorem deedR_mk {c : Value × Value} {y : DataW Value × List MemPlace} (h : deedR (deedP c) = some y) : c.1.oneCell' = true ∧ c.2.oneCell' = true ∧ y = (.held (deedP c), []) := by
  have h2 : (if (c.1.oneCell' && c.2.oneCell') = true then some ((DataW.held (deedP c), []) : DataW Value × List MemPlace) else none) = some y := h
  by_cases e : (c.1.oneCell' && c.2.oneCell') = true
  · rw [if_pos e] at h2
    simp only [Bool.and_eq_true] at e
    exact ⟨e.1, e.2, by cases h2; rfl⟩
  · rw [if_neg e] at h2
    cases h2
abbrev pB (b : Nat) : Value := .pointer (some ⟨b, 0, none⟩)
abbrev clo (f : Nat) (l : Array Value) : Value := .func (.func f) #[] l
/-- The map under way: its own block is the first one. -/
def DAt (W0 : World) (n : Nat) (D : DataW Value) (W : World) : Prop := W.ownsMap Tryd.prog 5 deedR W0.heap.size n D ∧ Below W0.heap.size W0 W

/-- The map of some deeds, in the order of their kinds. -/
def mapD (l : List (Nat × Value)) : DataW Value := .map (l.map fun x => (.int .u8 (x.1 : Int), .held x.2))
/-- The boxes that the deeds hold. -/
structure Bx where
  (b1 b2 b3 b4 b5 b6 b7 b8 : Nat)
end Go.Proofs.YtplejbgecihnpaaDoor

/-
  The walk of maps.Copy over deeds, and of 'deeds'. Conditions: those that each theorem names.
-/
namespace Go.Proofs.YtplejbgecihnpaaDoor
open Go.RowKit Go.Shelf Go.Maps

abbrev deedM (w : World) (b n : Nat) (D : DataW Value) : Prop := w.ownsMap Tryd.prog 5 deedR b n D
def CopyPost (bd bs nd ns : Nat) (Dd Ds : DataW Value) (w : World) (e : Ending) (w' : World) : Prop :=
  e = .returned (.tuple #[]) ∧ deedM w' bd (nd + Maps.size Ds) (Lib.mergeD Dd Ds) ∧ deedM w' bs ns Ds ∧ w.grownBy w' (some bd)

set_option maxRecDepth 100000 in
/-- No map turns what lies in cells. -/
theorem whole_but {w w' : World} {m b : Nat} {t : TypeId} {cs : Array Value} {n : Nat} {D : DataW Value} (h : Whole w b t cs) (hm : deedM w m n D) (hg : w.grownBy w' (some m)) : Whole w' b t cs :=
  h.grown hg (fun e => by
    cases e
    obtain ⟨es, clock, hb, _⟩ := hm
    unfold Whole at h
    rw [h] at hb; cases hb)
def allK : List Nat := [1, 2, 3, 4, 5, 6, 7, 8, 9, 10, 11, 12, 13, 14, 15, 16]
end Go.Proofs.YtplejbgecihnpaaDoor

/-
  The deeds of the kinds: when a record fits, what is done then. Conditions: those that each theorem names.
-/
namespace Go.Proofs.YtplejbgecihnpaaDoor
open Go.RowKit Go.Shelf

section
variable {base g B n c : Nat} {V : World} {p : Br} {a : Ad} {x : Bx} {A : Option Addr} {zs : List Int}
set_option maxRecDepth 100000 in
theorem rd_at (hr : Rd V B A n (iv zs)) (hn : 0 < zs.length) : ∃ rb ro, A = some ⟨rb, ro, none⟩ ∧ rb < B ∧ zs.length = n ∧ ∀ j y, zs[j]? = some y → V.cell? ⟨rb, ro + j, none⟩ = some (.int .i64 y) := by
  have hl : zs.length = n := by have := hr.1; rwa [iv_length] at this
  obtain ⟨b, off, e, hb, hc⟩ := hr.2 (by omega)
  refine ⟨b, off, e, hb, hl, fun j y hy => ?_⟩
  have hj := (List.getElem?_eq_some_iff.1 hy).1
  rw [hc j (by omega)]
  simp [iv, hy]
set_option maxRecDepth 100000 in
theorem len1 (h : zs.length = 1) : ∃ x0, zs = [x0] := by
  match zs, h with
  | [a], _ => exact ⟨a, rfl⟩
set_option maxRecDepth 100000 in
theorem len2 (h : zs.length = 2) : ∃ x0 x1, zs = [x0, x1] := by
  match zs, h with
  | [a, b], _ => exact ⟨a, b, rfl⟩
set_option maxRecDepth 100000 in
theorem len3 (h : zs.length = 3) : ∃ x0 x1 x2, zs = [x0, x1, x2] := by
  match zs, h with
  | [a, b, c], _ => exact ⟨a, b, c, rfl⟩
set_option maxRecDepth 100000 in
theorem len5 (h : zs.length = 5) : ∃ x0 x1 x2 x3 x4, zs = [x0, x1, x2, x3, x4] := by
  match zs, h with
  | [a, b, c, d, e], _ => exact ⟨a, b, c, d, e, rfl⟩
set_option maxRecDepth 100000 in
theorem kps_addr (h : BrIn base g V p a) {i : Nat} {y : Kp} (hy : p.kps[i]? = some y) : ∃ b, a.B = some ⟨b, 0, none⟩ := by
  have hi := (List.getElem?_eq_some_iff.1 hy).1
  rcases h.own.kps.2 with ⟨_, h2⟩ | ⟨b, cap, cur, h1, _⟩
  · omega
  · injection h1 with h1 _ _
    exact ⟨b, h1⟩

end
end Go.Proofs.YtplejbgecihnpaaDoor

/-
  The walks of 'right', 'add', 'Put' and 'Long' of package num. Conditions: those that each theorem names.
-/
namespace Go.Proofs.YtplejbgecihnpaaDoor
open Go.RowKit Go.Shelf

def AddInv (base j : Nat) (ys : List Value) (w : World) (v : Value) (w' : World) : Prop :=
  w'.ownsRow base 5 1 v j ys ∧ Below base w w' ∧ KeepsOthers w w' ∧ base ≤ w'.heap.size
/-- No block that was there has turned, but the row of v0. -/
def AddFar (v0 : Value) (w : World) (v : Value) (w' : World) : Prop :=
  w.grownBy w' v0.ownBlock ∧ (v.ownBlock = v0.ownBlock ∨ ∃ g, v.ownBlock = some g ∧ w.heap.size ≤ g)
def AddPost (base : Nat) (k : Nat) (xs : List Value) (w : World) (v0 : Value) (e : Ending) (w' : World) : Prop :=
  ∃ v', e = .returned v' ∧ AddInv base k xs w v' w' ∧ AddFar v0 w v' w'

set_option maxRecDepth 100000 in
theorem addFar_step {w w' w1 : World} {v0 v v1 : Value} {o : Obj} (h : AddFar v0 w v w') (hg : (w'.alloc o).grownBy w1 v.ownBlock) (h1 : v1.ownBlock = v.ownBlock ∨ v1.ownBlock = some (w'.alloc o).heap.size) : AddFar v0 w v1 w1 := by
  obtain ⟨h2, h3⟩ := h
  have hs := h2.size
  refine ⟨⟨hg.os.trans h2.os, hg.tape.trans h2.tape, hg.output.trans h2.output, by have := hg.size; simp at this; omega, fun k hk hne => ?_⟩, ?_⟩
  · have hne' : some k ≠ v.ownBlock := by
      rcases h3 with h3 | ⟨g, h3, h4⟩
      · rw [h3]; exact hne
      · rw [h3]; intro e; injection e with e; omega
    rw [hg.block k (by simp; omega) hne', Below.heap_alloc _ _ _ (by omega), h2.block k hk hne]
  · rcases h1 with h1 | h1
    · rw [h1]; exact h3
    · exact .inr ⟨_, h1, by simp; omega⟩

set_option maxRecDepth 100000 in
theorem addInv_step {base j : Nat} {ys : List Value} {w w' w1 : World} {v v1 : Value} {o : Obj} {u : Value} (h : AddInv base j ys w v w') (h1 : w1.ownsRow base 5 1 v1 (j + 1) (ys ++ [u])) (hg : (w'.alloc o).grownBy w1 v.ownBlock) :
    AddInv base (j + 1) (ys ++ [u]) w v1 w1 := by
  obtain ⟨hr, hb, hk, hs⟩ := h
  refine ⟨h1, ?_, ?_, ?_⟩
  · exact (hb.alloc hs o).trans (below_row (hr.alloc o) hg (by simp; omega))
  · exact (hk.trans (KeepsOthers.alloc _ o)).trans (keeps_row (hr.alloc o) hg)
  · have := hg.size; simp at this; omega

end Go.Proofs.YtplejbgecihnpaaDoor

/-
  The walk of 'first' of package num: what comes of taking a number from bytes. Conditions: those that each theorem names.
-/
namespace Go.Proofs.YtplejbgecihnpaaDoor
open Go.RowKit Go.Shelf

def takenV (t : Nat × Nat × Nat) : Value := .agg #[.int .i64 (t.1 : Int), .int .i64 (t.2.1 : Int), .int .i64 (t.2.2 : Int)]

def FirstPost (bs : List Nat) (w : World) (e : Ending) (w' : World) : Prop :=
  e = .returned (takenV (first bs)) ∧ Below w.heap.size w w' ∧ KeepsOthers w w'

/-- What holds of the numbers at each digit. -/
structure FirstInv (bs : List Nat) (n N k P : Nat) : Prop where
  le : k ≤ n
  five : k ≤ 5
  pow : P = 128 ^ k
  val : N < P
  same : first bs = scan N k (bs.drop k)

set_option maxRecDepth 100000 in
theorem FirstInv.start (bs : List Nat) (n : Nat) : FirstInv bs n 0 0 1 := ⟨by omega, by omega, rfl, by omega, rfl⟩
set_option maxRecDepth 100000 in
theorem FirstInv.bound {bs : List Nat} {n N k P : Nat} (h : FirstInv bs n N k P) : 1 ≤ P ∧ P ≤ 34359738368 := by
  have h1 : 128 ^ k ≤ 128 ^ 5 := Nat.pow_le_pow_right (by omega) h.five
  have h2 : 0 < 128 ^ k := Nat.pow_pos (by omega)
  rw [h.pow]; exact ⟨h2, by omega⟩
set_option maxRecDepth 100000 in
theorem digit_bound (d P : Nat) (hP : P ≤ 34359738368) : d % 128 * P ≤ 4363686772736 := by
  have h : d % 128 * P ≤ 127 * 34359738368 := Nat.mul_le_mul (by omega) hP
  omega
set_option maxRecDepth 100000 in
theorem big_cast {N d P : Nat} : N + d % 128 * P ≤ 1099511627776 ↔ (N : Int) + (d : Int) % 128 * (P : Int) ≤ 1099511627776 := by
  have hc : ((d % 128 * P : Nat) : Int) = (d : Int) % 128 * (P : Int) := by simp
  omega
set_option maxRecDepth 100000 in
theorem FirstInv.end_ {bs : List Nat} {n N k P : Nat} (h : FirstInv bs n N k P) (hl : bs.length = n) (hk : k = n) : first bs = (0, 0, 10) := by
  rw [h.same, List.drop_of_length_le (by omega)]; rfl
set_option maxRecDepth 100000 in
theorem FirstInv.look {bs : List Nat} {n N k P d : Nat} (h : FirstInv bs n N k P) (hd : bs[k]? = some d) :
    first bs = if 128 ≤ d ∧ k + 1 < 6 then scan (N + d % 128 * P) (k + 1) (bs.drop (k + 1)) else if 128 ≤ d ∨ (d = 0 ∧ 1 < k + 1) ∨ 1099511627776 < N + d % 128 * P then (0, 0, 11) else (N + d % 128 * P, k + 1, 0) := by
  rw [h.same, h.pow]
  have hk : k < bs.length := (List.getElem?_eq_some_iff.1 hd).1
  rw [List.drop_eq_getElem_cons hk]
  have e : bs[k] = d := by rw [List.getElem?_eq_getElem hk] at hd; exact Option.some.inj hd
  rw [e]; rfl
set_option maxRecDepth 100000 in
theorem FirstInv.next {bs : List Nat} {n N k P d : Nat} (h : FirstInv bs n N k P) (hl : bs.length = n) (hd : bs[k]? = some d) (h1 : 128 ≤ d) (h2 : k + 1 < 6) :
    FirstInv bs n (N + d % 128 * P) (k + 1) (P * 128) := by
  have hk : k < bs.length := (List.getElem?_eq_some_iff.1 hd).1
  refine ⟨by omega, by omega, by rw [h.pow, Nat.pow_succ], ?_, ?_⟩
  · have h3 := h.val
    have h4 : d % 128 * P ≤ 127 * P := Nat.mul_le_mul (by omega) (Nat.le_refl _)
    omega
  · rw [h.look hd, if_pos ⟨h1, h2⟩]

end Go.Proofs.YtplejbgecihnpaaDoor

/-
  The walk of 'bytes.Clone', and bytes as strings. Conditions: those that each theorem names.
-/
namespace Go.Proofs.YtplejbgecihnpaaDoor
open Go.RowKit Go.Shelf

set_option maxRecDepth 100000 in
theorem AddInv.form {base j : Nat} {ys : List Value} {w w' : World} {v : Value} (h : AddInv base j ys w v w') : ∃ A c, v = .slice A j c := by
  rcases h.1.2 with ⟨rfl, rfl⟩ | ⟨g, cap, cur, rfl, _⟩
  · exact ⟨_, _, rfl⟩
  · exact ⟨_, _, rfl⟩

def TwoPost (base k : Nat) (xs : List Value) (w : World) (e : Ending) (w' : World) : Prop :=
  ∃ A c, e = .returned (.tuple #[.slice A k c, .int .i64 0]) ∧ AddInv base k xs w (.slice A k c) w'

/-- A slice of the same elements, of the call's own. -/
def OwnPost (base k : Nat) (xs : List Value) (w : World) (e : Ending) (w' : World) : Prop :=
  ∃ A c, e = .returned (.slice A k c) ∧ AddInv base k xs w (.slice A k c) w'

end Go.Proofs.YtplejbgecihnpaaDoor

/-
  What is behind a number: pieces of what 'Take', 'TakeRow' and the iterators need. Conditions: those that each theorem names.
-/
namespace Go.Proofs.YtplejbgecihnpaaDoor
open Go.RowKit Go.Shelf

/-- What is behind the number. -/
def behind (bs : List Nat) : List Nat := if (first bs).2.2 = 0 then bs.drop (first bs).2.1 else []

set_option maxRecDepth 100000 in
/-- What a callee has made, said of the caller's start. -/
theorem AddInv.after {base base' j : Nat} {ys : List Value} {w w1 w2 : World} {v : Value} (h : AddInv base' j ys w1 v w2) (hb : Below base w w1) (hk : KeepsOthers w w1) (hbb : base ≤ base') : AddInv base j ys w v w2 :=
  ⟨own_weaker h.1 hbb, hb.trans (h.2.1.mono hbb), hk.trans h.2.2.1, by have := h.2.2.2; omega⟩

set_option maxRecDepth 100000 in
theorem nil_inv {w w' : World} (hb : Below w.heap.size w w') (hk : KeepsOthers w w') : AddInv w.heap.size 0 [] w (.slice none 0 0) w' :=
  ⟨World.ownsRow_nil _ _ _ _, hb, hk, hb.size⟩

end Go.Proofs.YtplejbgecihnpaaDoor

/-
  The walks of 'each' and of the iterator that it hands back (package num). Conditions: those that each theorem names.
-/
namespace Go.Proofs.YtplejbgecihnpaaDoor
open Go.RowKit Go.Shelf
attribute [local go_sem] Oper.semAt_some

end Go.Proofs.YtplejbgecihnpaaDoor

/-
  The walk of 'Row' of package num. Conditions: those that each theorem names.
-/
namespace Go.Proofs.YtplejbgecihnpaaDoor
open Go.RowKit Go.Shelf
attribute [local go_sem] Oper.semAt_some

/-- A row that is one. -/
def numRow (l : List Int) : Bool := decide (l.length ≤ 40) && l.all isNum

/-- The bytes that have been put when so many numbers have been gone over. -/
def sofar (n : Nat) (pre : List Int) : List Nat := put n ++ puts (nats pre)
set_option maxRecDepth 100000 in
theorem sofar_pos (n : Nat) (pre : List Int) : 0 < (sofar n pre).length := by have := put_pos n; rw [sofar, List.length_append]; omega
set_option maxRecDepth 100000 in
theorem sofar_snoc (n : Nat) (pre : List Int) (m : Nat) : sofar n (pre ++ [(m : Int)]) = sofar n pre ++ put m := by
  have hn : nats (pre ++ [(m : Int)]) = nats pre ++ [m] := by simp [nats]
  rw [sofar, sofar, hn, puts_snoc, ← List.append_assoc]

set_option maxRecDepth 100000 in
theorem puts_six : ∀ (l : List Int), l.all isNum = true → (puts (nats l)).length ≤ 6 * l.length := by
  intro l
  induction l with
  | nil => intro _; simp [nats, puts]
  | cons x l ih =>
    intro h
    simp only [List.all_cons, Bool.and_eq_true] at h
    have h1 := isNum_iff.1 h.1
    have h2 := put_six (n := x.toNat) (by omega)
    have h3 := ih h.2
    have e : nats (x :: l) = x.toNat :: nats l := rfl
    rw [e, puts_cons, List.length_append, List.length_cons]
    omega
set_option maxRecDepth 100000 in
theorem sofar_six {n : Nat} {l : List Int} (hn : n ≤ 40) (h : l.all isNum = true) : (sofar n l).length ≤ 6 + 6 * l.length := by
  have h1 := put_six (n := n) (by omega)
  have h2 := puts_six l h
  rw [sofar, List.length_append]; omega
set_option maxRecDepth 100000 in
theorem sofar_row (l : List Int) : sofar l.length l = row (nats l) := by simp [sofar, row, nats]
set_option maxRecDepth 100000 in
theorem below_keeps {w w' : World} (h : Below w.heap.size w w') : KeepsOthers w w' :=
  ⟨h.size, fun k o hk _ => (h.block k (by rcases Nat.lt_or_ge k w.heap.size with h1 | h1; exact h1; rw [Array.getElem?_eq_none h1] at hk; cases hk)).trans hk⟩

def RowPost (zs : List Int) (w : World) (e : Ending) (w' : World) : Prop :=
  (numRow zs = true ∧ ∃ A c, e = .returned (.tuple #[.slice A (row (nats zs)).length c, .int .i64 0]) ∧ AddInv w.heap.size (row (nats zs)).length (bv (row (nats zs))) w (.slice A (row (nats zs)).length c) w') ∨
  (numRow zs = false ∧ e = .returned (.tuple #[.slice none 0 0, .int .i64 2]) ∧ Below w.heap.size w w')

end Go.Proofs.YtplejbgecihnpaaDoor

/-
  The walks of 'takes' and of the iterator that it hands back (package num). Conditions: those that each theorem names.
-/
namespace Go.Proofs.YtplejbgecihnpaaDoor
open Go.RowKit Go.Shelf
attribute [local go_sem] Oper.semAt_some

/-- What may come of taking a number: at most six bytes, and no number above the greatest one. -/
abbrev Tk := { x : Nat × Nat × Nat // x.2.1 ≤ 6 ∧ x.1 ≤ 1099511627776 }
set_option maxRecDepth 100000 in
theorem scan_six : ∀ (bs : List Nat) (n long : Nat), long ≤ 5 → (scan n long bs).2.1 ≤ 6 := by
  intro bs
  induction bs with
  | nil => intro n long _; simp [scan]
  | cons d r ih =>
    intro n long h
    simp only [scan]
    split
    · exact ih _ _ (by omega)
    · split
      · simp
      · simp; omega
set_option maxRecDepth 100000 in
theorem first_le {bs : List Nat} {N K E : Nat} (h : first bs = (N, K, E)) : K ≤ bs.length ∧ N ≤ 1099511627776 ∧ E ≤ 11 := by
  rcases scan_cases bs 0 0 with hc | hc | ⟨N', K', hc, h1, _, h2⟩
  all_goals
    unfold first at h
    rw [hc] at h
    simp only [Prod.mk.injEq] at h
    omega
def firstT (bs : List Nat) : Tk := ⟨first bs, scan_six bs 0 0 (by omega), (first_le (N := (first bs).1) (K := (first bs).2.1) (E := (first bs).2.2) rfl).2.1⟩

/-- What comes of taking, number by number: each with how many bytes it has, up to the first error. -/
def items : Nat → List Nat → List Tk
  | 0, _ => []
  | k + 1, bs => firstT bs :: (if (first bs).2.2 = 0 then items k (bs.drop (first bs).2.1) else [])

/-- What has been taken so far, and what is still to come. -/
structure TakesInv (bs : List Nat) (k n₀ Bs : Nat) (A : Option Addr) (n c : Nat) (J : List Tk → World → Prop) (pre : List Tk) (at_ left : Nat) (W : World) : Prop where
  all : pre ++ items left (bs.drop at_) = items k bs
  le : at_ ≤ n
  many : left ≤ k
  box : W.cell? ⟨Bs, 0, none⟩ = some (.slice A n c)
  rd : Rd W n₀ A n (bv bs)
  inv : J pre W

end Go.Proofs.YtplejbgecihnpaaDoor

/-
  The walk of 'TakeRow' of package num. Conditions: those that each theorem names.
-/
namespace Go.Proofs.YtplejbgecihnpaaDoor
open Go.RowKit Go.Shelf
attribute [local go_sem] Oper.semAt_some

def ints (l : List Nat) : List Int := l.map fun x : Nat => (x : Int)

/-- What TakeRow answers: the numbers l, the bytes behind, an error's number. -/
def NRowIs (l rest : List Nat) (E : Nat) (w : World) (e : Ending) (w' : World) : Prop :=
  ∃ A1 c1 A2 c2, e = .returned (.tuple #[.slice A1 l.length c1, .slice A2 rest.length c2, .int .i64 (E : Int)]) ∧
    w'.ownsRow w.heap.size 3 1 (.slice A1 l.length c1) l.length (iv (ints l)) ∧ w'.ownsRow w.heap.size 5 1 (.slice A2 rest.length c2) rest.length (bv rest) ∧ Below w.heap.size w w'

set_option maxRecDepth 100000 in
theorem rowIs_nil {E : Nat} {w w' : World} (hb : Below w.heap.size w w') : NRowIs [] [] E w (.returned (.tuple #[.slice none 0 0, .slice none 0 0, .int .i64 (E : Int)])) w' :=
  ⟨none, 0, none, 0, rfl, World.ownsRow_nil _ _ _ _, World.ownsRow_nil _ _ _ _, hb⟩

/-- The bytes behind a row. -/
def behindRow (bs : List Nat) : List Nat := if (takeRow bs).2.2 = 0 then bs.drop (takeRow bs).1 else []
def TRPost (bs : List Nat) (w : World) (e : Ending) (w' : World) : Prop := NRowIs (takeRow bs).2.1 (behindRow bs) (takeRow bs).2.2 w e w'

set_option maxRecDepth 100000 in
theorem boxed_underN {W W' : World} {B : Nat} {t : TypeId} {v : Value} (h : Boxed W B t v) (hb : Below W.heap.size W W') : Boxed W' B t v := (hb.block B h.lt).trans h

/-- How many bytes, and which numbers, have been taken. -/
def sumK (l : List Tk) : Nat := (l.map fun x => x.1.2.1).sum
def vals (l : List Tk) : List Nat := l.map fun x => x.1.1
set_option maxRecDepth 100000 in
theorem sumK_snoc (l : List Tk) (x : Tk) : sumK (l ++ [x]) = sumK l + x.1.2.1 := by simp [sumK]
set_option maxRecDepth 100000 in
theorem vals_snoc (l : List Tk) (x : Tk) : iv (ints (vals (l ++ [x]))) = iv (ints (vals l)) ++ [.int .i64 (x.1.1 : Int)] := by simp [iv, ints, vals]
set_option maxRecDepth 100000 in
theorem sumK_le (l : List Tk) : sumK l ≤ 6 * l.length := by
  induction l with
  | nil => simp [sumK]
  | cons x l ih =>
    have := x.2.1
    simp only [sumK, List.map_cons, List.sum_cons, List.length_cons] at ih ⊢
    omega
set_option maxRecDepth 100000 in
theorem items_err : ∀ (k : Nat) (bs : List Nat) (p : List Tk) (x : Tk), (p ++ [x]) <+: items k bs → x.1.2.2 ≠ 0 → (takes k bs).2.2 = x.1.2.2 := by
  intro k
  induction k with
  | zero => intro bs p x h _; simp [items] at h
  | succ k ih =>
    intro bs p x h hx
    simp only [items] at h
    simp only [takes]
    cases p with
    | nil =>
      simp only [List.nil_append, List.cons_prefix_cons] at h
      have h1 : x.1 = first bs := by rw [h.1]; rfl
      rw [h1] at hx ⊢
      rw [if_neg hx]
    | cons y p =>
      simp only [List.cons_append, List.cons_prefix_cons] at h
      by_cases h0 : (first bs).2.2 = 0
      · rw [if_pos h0] at h ⊢
        exact ih _ p x h.2 hx
      · rw [if_neg h0] at h
        simp at h
set_option maxRecDepth 100000 in
theorem items_ok : ∀ (k : Nat) (bs : List Nat), (∀ x ∈ items k bs, x.1.2.2 = 0) → takes k bs = (sumK (items k bs), vals (items k bs), 0) := by
  intro k
  induction k with
  | zero => intro bs _; rfl
  | succ k ih =>
    intro bs h
    have h0 : (first bs).2.2 = 0 := h (firstT bs) (by simp [items])
    simp only [items, if_pos h0] at h ⊢
    simp only [takes]
    rw [if_pos h0, ih _ (fun x hx => h x (by simp [hx]))]
    simp [sumK, vals, firstT]
set_option maxRecDepth 100000 in
theorem takeRow_ok {bs : List Nat} {N K : Nat} (hF : first bs = (N, K, 0)) (hN : N ≤ 40) (h : ∀ x ∈ items N (bs.drop K), x.1.2.2 = 0) : takeRow bs = (K + sumK (items N (bs.drop K)), vals (items N (bs.drop K)), 0) := by
  have h1 := items_ok _ _ h
  unfold takeRow
  simp only [hF, h1]
  rw [if_neg (by simp), if_neg (by omega), if_neg (by simp)]
set_option maxRecDepth 100000 in
theorem takeRow_bad {bs : List Nat} {N K : Nat} (hF : first bs = (N, K, 0)) (hN : N ≤ 40) {p : List Tk} {x : Tk} (h : (p ++ [x]) <+: items N (bs.drop K)) (hx : x.1.2.2 ≠ 0) : takeRow bs = (0, [], x.1.2.2) := by
  have h1 := items_err _ _ p x h hx
  unfold takeRow
  simp only [hF, h1]
  rw [if_neg (by simp), if_neg (by omega), if_pos hx]

set_option maxRecDepth 100000 in
theorem items_len : ∀ (k : Nat) (bs : List Nat), (items k bs).length ≤ k := by
  intro k
  induction k with
  | zero => intro bs; simp [items]
  | succ k ih =>
    intro bs
    simp only [items, List.length_cons]
    split
    · have := ih (bs.drop (first bs).2.1); omega
    · simp

end Go.Proofs.YtplejbgecihnpaaDoor

/-
  Small words for what calls package num: literals, appends, slices cut, rows put and taken. Conditions: those that each theorem names.
-/
namespace Go.Proofs.YtplejbgecihnpaaDoor
open Go.RowKit Go.Shelf

set_option maxRecDepth 100000 in
theorem AddInv.rd {base j : Nat} {ys : List Value} {w w' : World} {A : Option Addr} {c : Nat} (h : AddInv base j ys w (.slice A j c) w') : Rd w' w'.heap.size A j ys := Rd.of_own h.1

set_option maxRecDepth 100000 in
theorem AddInv.cap {base j : Nat} {ys : List Value} {w w' : World} {A : Option Addr} {c : Nat} (h : AddInv base j ys w (.slice A j c) w') : j ≤ c := by
  rcases h.1.2 with ⟨h1, h2⟩ | ⟨g, cap, cur, h1, _, _, h2, _⟩
  · omega
  · injection h1 with _ _ h3
    omega

set_option maxRecDepth 100000 in
theorem put_take_iff {N M : Nat} : put N = (put M).take (put N).length ↔ N = M := by
  refine ⟨fun h => ?_, fun h => by subst h; rw [List.take_length]⟩
  have h1 : put N ++ (put M).drop (put N).length = put M ++ [] := by
    conv => lhs; lhs; rw [h]
    rw [List.take_append_drop, List.append_nil]
  exact (put_prefix N M _ _ h1).1

set_option maxRecDepth 100000 in
theorem nats_ints (l : List Nat) : nats (ints l) = l := by
  induction l with
  | nil => rfl
  | cons x l ih => simp only [nats, ints, List.map_cons, Int.toNat_natCast] at ih ⊢; rw [ih]

set_option maxRecDepth 100000 in
theorem ints_all {l : List Nat} (h : ∀ n ∈ l, n ≤ 1099511627776) : (ints l).all isNum = true := by
  simp only [List.all_eq_true, ints, List.mem_map]
  rintro x ⟨y, hy, rfl⟩
  exact isNum_yes (by omega) (by have := h y hy; omega)

set_option maxRecDepth 100000 in
theorem row_pos (l : List Nat) : 0 < (row l).length := by have := put_pos l.length; rw [row, List.length_append]; omega

set_option maxRecDepth 100000 in
theorem puts_len (l : List Nat) (h : ∀ n ∈ l, n ≤ 1099511627776) : (puts l).length ≤ 6 * l.length := by
  have := puts_six (ints l) (ints_all h)
  rw [nats_ints] at this
  simpa [ints] using this

set_option maxRecDepth 100000 in
theorem put_all {N : Nat} {k : Nat} : ∀ x ∈ (put N).take k, x < 256 := fun x hx => put_bytes N x (List.mem_of_mem_take hx)

set_option maxRecDepth 100000 in
theorem row_bytes (l : List Nat) : ∀ x ∈ row l, x < 256 := by
  intro x hx
  simp only [row, puts, List.mem_append, List.mem_flatMap] at hx
  rcases hx with hx | ⟨y, _, hx⟩
  · exact put_bytes _ x hx
  · exact put_bytes _ x hx

end Go.Proofs.YtplejbgecihnpaaDoor

/-
  The walks of 'row' of package record and of the iterator that it hands back: a record's kind, then its numbers. Conditions: those that each theorem names.
-/
namespace Go.Proofs.YtplejbgecihnpaaDoor
open Go.RowKit Go.Shelf
attribute [local go_sem] Oper.semAt_some

/-- Where the iterator stands: what has been handed over, what is next. -/
def IterAt (l Bn n₀ : Nat) (A : Option Addr) (n c : Nat) (zs xs : List Int) (J : List Int → World → Prop) (a' : Act) (w' : World) : Prop :=
  ∃ (pre rest : List Int) (x : Int) (u5 u6 u7 u8 u9 u10 u11 u12 u13 u14 u15 u16 u17 u18 u19 u20 u21 u22 u23 u24 u25 : Value), a' = { tmps := #[.func (.yield l) #[] #[], .pointer (some ⟨Bn, 0, none⟩), undef, .int .i64 x, .int .i64 (pre.length : Int), u5, u6, u7, u8, u9, u10, u11, u12, u13, u14, u15, u16, u17, u18, u19, u20, u21, u22, u23, u24, u25], defers := [] } ∧ xs = pre ++ x :: rest ∧ w'.cell? ⟨Bn, 1, none⟩ = some (.slice A n c) ∧ Rd w' n₀ A n (iv zs) ∧ J pre w'

end Go.Proofs.YtplejbgecihnpaaDoor

/-
  The walk of 'Right' of package record. Conditions: those that each theorem names.
-/
namespace Go.Proofs.YtplejbgecihnpaaDoor
open Go.RowKit Go.Shelf
attribute [local go_sem] Oper.semAt_some

set_option maxRecDepth 100000 in
theorem mayB_short {k : Nat} {zs : List Int} (h : zs.length < lo k) : mayB k zs = false := by
  have h1 : ¬ lo k ≤ zs.length := by omega
  simp [mayB, h1]
set_option maxRecDepth 100000 in
theorem mayB_long {k : Nat} {zs : List Int} (h : hi k < zs.length) : mayB k zs = false := by
  have h1 : ¬ zs.length ≤ hi k := by omega
  simp [mayB, h1]

/-- What holds between two rounds, and where one has left: s + 1: the result's cell. -/
structure RecRightAt (v : Bool) (w : World) (pre : List Int) (W : World) : Prop where
  num : pre.all isNum = v
  res : Boxed W (w.heap.size + 1) 4 (.bool false)
  below : Below w.heap.size w W
set_option maxRecDepth 100000 in
theorem recRightAt_own (v : Bool) (w : World) (B : Nat) (hB : w.heap.size ≤ B) : OwnFrom B (RecRightAt v w) := by
  intro pre W W' row h hg hr
  have hr' : ∀ r, row = some r → ∃ o : Obj, W.heap[r]? = some o ∧ o.isCells = false := fun r e => (hr r e).2
  exact ⟨h.num, boxed_turn h.res hg hr', h.below.grown hg (by have := h.below.size; omega) (fun k e => by have := (hr k e).1; omega)⟩
end Go.Proofs.YtplejbgecihnpaaDoor

/-
  What a round keeps, told by a predicate on blocks. Conditions: those that each theorem names.
-/
namespace Go.Proofs.YtplejbgecihnpaaDoor
open Go.RowKit Go.Shelf

/-- What a round keeps: the blocks of which G holds. -/
def KpG (G : Nat → Prop) (W W' : World) : Prop := W.heap.size ≤ W'.heap.size ∧ ∀ b, G b → W'.heap[b]? = W.heap[b]?
section
variable {G : Nat → Prop} {W W' W'' : World}
set_option maxRecDepth 100000 in
theorem kpG_t (h : KpG G W W') (k : KpG G W' W'') : KpG G W W'' := ⟨Nat.le_trans h.1 k.1, fun b hb => (k.2 b hb).trans (h.2 b hb)⟩
set_option maxRecDepth 100000 in
theorem kpG_refl : KpG G W W := ⟨Nat.le_refl _, fun _ _ => rfl⟩
set_option maxRecDepth 100000 in
theorem kpG_b {w : World} (hG : ∀ b, G b → b < w.heap.size) (W : World) (i : Nat) (o o' : Obj) (hl : w.heap.size ≤ i) (_ : W.heap[i]? = some o) (_ : o.isCells = false) (_ : o.isWalk = false) : KpG G W (W.putObj i o') :=
  ⟨by simp [World.putObj], fun b hb => World.putObj_heap_other (by have := hG b hb; omega)⟩
set_option maxRecDepth 100000 in
theorem kpG_under (hG : ∀ b, G b → b < W.heap.size) (h : Below W.heap.size W W') : KpG G W W' := ⟨h.size, fun b hb => h.block b (hG b hb)⟩
set_option maxRecDepth 100000 in
theorem kpG_set (g i : Nat) (hg : ¬ G g) (v : Value) : KpG G W (W.setCell ⟨g, i, none⟩ v) := ⟨by simp, fun b hb => Below.heap_setCell W ⟨g, i, none⟩ v b (fun e => hg (by subst e; exact hb))⟩
end

end Go.Proofs.YtplejbgecihnpaaDoor

/-
  Records in a row of memory; the walk of slices.Values over them. Conditions: those that each theorem names.
-/
namespace Go.Proofs.YtplejbgecihnpaaDoor
open Go.RowKit Go.Shelf
attribute [local go_sem] Oper.semAt_some

/-- A record, as an element of a slice: its kind, its slice of numbers, and what that reads as. -/
structure RE where
  k : Nat
  A : Option Addr
  n : Nat
  c : Nat
  zs : List Int

/-- A slice of records that reads as the list l, in blocks below B. -/
def RdR (w : World) (B : Nat) (A : Option Addr) (n : Nat) (l : List RE) : Prop :=
  l.length = n ∧ (0 < n → ∃ b off, A = some ⟨b, off, none⟩ ∧ b < B ∧ ∀ j x, l[j]? = some x → w.cell? ⟨b, off + j * 2, none⟩ = some (.int .u8 (x.k : Int)) ∧ w.cell? ⟨b, off + j * 2 + 1, none⟩ = some (.slice x.A x.n x.c)) ∧
    ∀ x ∈ l, x.k < 256 ∧ Rd w B x.A x.n (iv x.zs)

section
variable {w w' : World} {B B' n : Nat} {A : Option Addr} {l : List RE}
set_option maxRecDepth 100000 in
theorem RdR.below (h : RdR w B A n l) (hb : Below B w w') : RdR w' B A n l :=
  ⟨h.1, fun hn => by
    obtain ⟨b, off, e, hlt, hc⟩ := h.2.1 hn
    exact ⟨b, off, e, hlt, fun j x hx => ⟨(hb.cell (p := ⟨b, off + j * 2, none⟩) hlt).trans (hc j x hx).1, (hb.cell (p := ⟨b, off + j * 2 + 1, none⟩) hlt).trans (hc j x hx).2⟩⟩,
   fun x hx => ⟨(h.2.2 x hx).1, (h.2.2 x hx).2.below hb⟩⟩
set_option maxRecDepth 100000 in
theorem RdR.more (h : RdR w B A n l) (hB : B ≤ B') : RdR w B' A n l :=
  ⟨h.1, fun hn => by
    obtain ⟨b, off, e, hlt, hc⟩ := h.2.1 hn
    exact ⟨b, off, e, by omega, hc⟩, fun x hx => ⟨(h.2.2 x hx).1, (h.2.2 x hx).2.more hB⟩⟩
end

set_option maxRecDepth 100000 in
/-- A literal of one record; of two. -/
theorem rdR_one (W : World) (x : RE) (B : Nat) (hB : B ≤ W.heap.size) (hk : x.k < 256) (hr : Rd W B x.A x.n (iv x.zs)) (b : Nat) (hb : W.heap.size = b) :
    RdR (W.alloc (.cells #[.int .u8 (x.k : Int), .slice x.A x.n x.c] 50)) (b + 1) (some ⟨b, 0, none⟩) 1 [x] := by
  subst hb
  refine ⟨rfl, fun _ => ⟨W.heap.size, 0, rfl, by omega, ?_⟩, ?_⟩
  · rintro (_ | j) y hy
    · simp only [List.getElem?_cons_zero, Option.some.injEq] at hy
      subst hy
      exact ⟨cell_new W _ _ 0, cell_new W _ _ 1⟩
    · simp at hy
  · intro y hy
    simp only [List.mem_singleton] at hy
    subst hy
    exact ⟨hk, (hr.alloc hB _).more (by omega)⟩

set_option maxRecDepth 100000 in
theorem rdR_two (W : World) (x y : RE) (B : Nat) (hB : B ≤ W.heap.size) (hk : x.k < 256) (hr : Rd W B x.A x.n (iv x.zs)) (hk' : y.k < 256) (hr' : Rd W B y.A y.n (iv y.zs)) (b : Nat) (hb : W.heap.size = b) :
    RdR (W.alloc (.cells #[.int .u8 (x.k : Int), .slice x.A x.n x.c, .int .u8 (y.k : Int), .slice y.A y.n y.c] 50)) (b + 1) (some ⟨b, 0, none⟩) 2 [x, y] := by
  subst hb
  refine ⟨rfl, fun _ => ⟨W.heap.size, 0, rfl, by omega, ?_⟩, ?_⟩
  · rintro (_ | _ | j) z hz
    · simp only [List.getElem?_cons_zero, Option.some.injEq] at hz
      subst hz
      exact ⟨cell_new W _ _ 0, cell_new W _ _ 1⟩
    · simp only [List.getElem?_cons_succ, List.getElem?_cons_zero, Option.some.injEq] at hz
      subst hz
      exact ⟨cell_new W _ _ 2, cell_new W _ _ 3⟩
    · simp at hz
  · intro z hz
    simp only [List.mem_cons, List.not_mem_nil, or_false] at hz
    rcases hz with rfl | rfl
    · exact ⟨hk, (hr.alloc hB _).more (by omega)⟩
    · exact ⟨hk', (hr'.alloc hB _).more (by omega)⟩

def encRE (x : RE) : Array Value := #[.agg #[.int .u8 (x.k : Int), .slice x.A x.n x.c]]

def OkRE (xs pre : List RE) (x : RE) (_ : World) : Prop := ∃ j, pre = xs.take j ∧ xs[j]? = some x
end Go.Proofs.YtplejbgecihnpaaDoor
