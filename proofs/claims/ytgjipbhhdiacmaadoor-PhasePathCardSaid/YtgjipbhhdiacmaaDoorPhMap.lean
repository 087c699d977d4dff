/-
  The walk of 'follows' of package phase: a map of its own; what it tells of each number. Conditions: those that each theorem names.
-/
import Derived.Test.YtgjipbhhdiacmaaDoorPhMath
import Derived.Test.YtgjipbhhdiacmaaDoorMem
import Derived.Maps.OwnOps
import Derived.Maps.OwnSet
namespace Go.Proofs.YtgjipbhhdiacmaaDoor
open Go.RowKit Go.Shelf
open Go.Maps (Keyed int_keyed keyOf_int_mk)

def phV (k : Nat) : Value := .agg #[.int .u8 (nxA k : Int), .int .u8 (nxB k : Int)]
/-- A row of phases, as a value of the map. -/
def phR : Value → Option (DataW Value × List MemPlace) := fun v => some (.held v, [])
/-- The map of the first n phases. -/
def phD (n : Nat) : DataW Value := .map ((List.range n).map fun i => (.int .u8 ((i + 1 : Nat) : Int), .held (phV (i + 1))))
theorem phD_put {n : Nat} (h : n < 10) : (phD n).put (.int .u8 ((n + 1 : Nat) : Int)) (.held (phV (n + 1))) = phD (n + 1) := by
  rcases ph_cases (show n < 11 by omega) with rfl | rfl | rfl | rfl | rfl | rfl | rfl | rfl | rfl | rfl | rfl
  all_goals first | rfl | omega
theorem phD_none {k : Nat} (h : 11 ≤ k) : ((List.range 10).map fun i => (Lit.int .u8 ((i + 1 : Nat) : Int), (DataW.held (phV (i + 1)) : DataW Value))).find? (fun p => p.1.sameKey (.int .u8 (k : Int))) = none := by
  rw [List.find?_eq_none]
  intro p hp
  simp only [List.mem_map, List.mem_range] at hp
  obtain ⟨i, hi, rfl⟩ := hp
  simp only [Lit.sameKey, true_and, decide_eq_true_eq]
  omega
theorem phD_at (k : Nat) : (phD 10).atKey (.int .u8 (k : Int)) (.held (phV 0)) = .held (phV k) := by
  rcases Nat.lt_or_ge k 11 with h | h
  · rcases ph_cases h with rfl | rfl | rfl | rfl | rfl | rfl | rfl | rfl | rfl | rfl | rfl <;> rfl
  · have e : phV k = phV 0 := by unfold phV; rw [nxA_out h, nxB_out h]; rfl
    rw [e]
    simp only [phD, DataW.atKey, phD_none h]
theorem phD_has (k : Nat) : Maps.has (phD 10) (.int .u8 (k : Int)) = isP k := by
  rcases Nat.lt_or_ge k 11 with h | h
  · rcases ph_cases h with rfl | rfl | rfl | rfl | rfl | rfl | rfl | rfl | rfl | rfl | rfl <;> rfl
  · have e : isP k = false := by simp [isP]; omega
    rw [e]
    have h1 := List.find?_eq_none.1 (phD_none h)
    simp only [phD, Maps.has, List.any_eq_false]
    exact h1

/-- The map of phases lies in block b. -/
def PhMap (b : Nat) (W : World) : Prop := W.ownsMap Tryd.prog 5 phR b 10 (phD 10)
theorem PhMap.block {b : Nat} {W W' : World} (h : PhMap b W) (e : W'.heap[b]? = W.heap[b]?) : PhMap b W' := by
  obtain ⟨es, clock, hb, r⟩ := h
  exact ⟨es, clock, e.trans hb, r⟩
theorem PhMap.lt {b : Nat} {W : World} (h : PhMap b W) : b < W.heap.size := by
  obtain ⟨es, clock, hb, r⟩ := h
  exact (Array.getElem?_eq_some_iff.1 hb).1
theorem PhMap.under {b : Nat} {W W' : World} (h : PhMap b W) (hb : Below W.heap.size W W') : PhMap b W' := h.block (hb.block b h.lt)
theorem PhMap.grown {b base n : Nat} {e : TypeId} {v : Value} {xs : List Value} {W W' : World} (h : PhMap b W) (ho : W.ownsRow base e 1 v n xs) (hg : W.grownBy W' v.ownBlock) : PhMap b W' := by
  obtain ⟨es, clock, hb, r⟩ := h
  exact ⟨es, clock, (keeps_row ho hg).same _ _ hb rfl, r⟩

theorem ph_zero (w : World) : (zeroValue 47).run Tryd.prog w = .ok (phV 0) w := by kernel_rfl
theorem ph_key {k : Nat} (hk : k < 256) : keyOf Tryd.prog 5 (.int .u8 (k : Int)) = some (.int .u8 (k : Int)) := keyOf_int_mk (q := .u8) (a := (k : Int)) Tryd.underlying5 (by have h1 : IntKind.u8.min = 0 := rfl; have h2 : IntKind.u8.max = 255 := rfl; simp [Lit.wf, h1, h2]; omega)
theorem PhMap.look {b k : Nat} {W : World} (h : PhMap b W) (hk : k < 256) : (Instr.lookup 45 (.map (some b)) (.int .u8 (k : Int)) false).run Tryd.prog W = .ok (phV k) W := by
  obtain ⟨v, ps, hrun, hv⟩ := World.ownsMap.lookup h (int_keyed Tryd.underlying5) Tryd.underlying45 (ph_zero W) (zd := .held (phV 0)) (zp := []) rfl (ph_key hk)
  rw [phD_at] at hv
  have e1 : v = phV k := by simpa [phR] using (congrArg (fun o => o.map Prod.fst) hv)
  rw [hrun, e1]
theorem PhMap.look2 {b k : Nat} {W : World} (h : PhMap b W) (hk : k < 256) : (Instr.lookup 45 (.map (some b)) (.int .u8 (k : Int)) true).run Tryd.prog W = .ok (.tuple #[phV k, .bool (isP k)]) W := by
  obtain ⟨v, ps, hrun, hv⟩ := World.ownsMap.look_ok h (int_keyed Tryd.underlying5) Tryd.underlying45 (ph_zero W) (zd := .held (phV 0)) (zp := []) rfl (ph_key hk)
  rw [phD_at] at hv
  have e1 : v = phV k := by simpa [phR] using (congrArg (fun o => o.map Prod.fst) hv)
  rw [hrun, e1, phD_has]

/-- The map under way: its own block is the first one. -/
def PhAt (w : World) (n : Nat) (W : World) : Prop := W.ownsMap Tryd.prog 5 phR w.heap.size n (phD n) ∧ Below w.heap.size w W

theorem wpList_ph {w W : World} {ops : Array Oper} {rest : List Oper} {o : Oper} {a : Act} {Q : Exit → Act → World → Prop} (n : Nat) (h : PhAt w n W) (hn : n < 10) (hg : o.guard = none) (m x v : Operand)
    (hop : o.op = Op.insert 45 m x v) (hm : a.eval m = .map (some w.heap.size)) (hx : a.eval x = .int .u8 ((n + 1 : Nat) : Int)) (hv : a.eval v = phV (n + 1))
    (hK : ∀ W', PhAt w (n + 1) W' → wpList Tryd.prog ops Q rest (a.put o.dst undef) W') : wpList Tryd.prog ops Q (o :: rest) a W := by
  refine wpList_plain hg fun K' hK' => ?_
  obtain ⟨w', hrun, r1, r2⟩ := h.1.update (int_keyed Tryd.underlying5) Tryd.underlying45 (by unfold maxLen; omega) (ph_key (k := n + 1) (by omega)) (val := phV (n + 1)) (d := .held (phV (n + 1))) (ps := []) rfl
  rw [phD_put hn] at r1
  obtain ⟨i, hi⟩ : ∃ i : Int, ((n + 1 : Nat) : Int) = i := ⟨_, rfl⟩
  rw [hi] at hx hrun
  unfold Oper.wp
  simp [execOp, hop, hm, hx, hv, hrun, Result.andThen]
  exact hK' _ _ (hK w' ⟨r1, h.2.trans ((Below.refl _ _).grown r2 h.2.size (fun k e => by cases e; exact Nat.le_refl _))⟩)

def FollowsPost (w : World) (e : Ending) (w' : World) : Prop := e = .returned (.map (some w.heap.size)) ∧ PhMap w.heap.size w' ∧ Below w.heap.size w w'

set_option maxRecDepth 100000 in
set_option maxHeartbeats 1000000 in
theorem follows_any (w : World) : Calls Tryd.prog 17 #[] w (FollowsPost w) := by
  have hmm := @run_makeMap Tryd.prog
  have HN : PhAt w 0 (w.alloc (.map #[] 0)) := ⟨World.ownsMap_made w _ _ _, (Below.refl _ w).alloc (Nat.le_refl _) _⟩
  go_enter Tryd.func17, Tryd.ntmps17
  go_wp2_with (refine wpList_ph _ HN (by omega) rfl _ _ _ rfl rfl rfl rfl ?_; clear HN; intro w1 HN)
  go_ret
  exact ⟨rfl, HN.1, HN.2⟩

end Go.Proofs.YtgjipbhhdiacmaaDoor
