/-
  The walks of 'names' and 'Name' of package record. Conditions: those that each theorem names.
-/
import Derived.Test.YtcgfakpolfopnaaRecMany
import Derived.Maps.OwnOps
import Derived.Maps.OwnSet
namespace Go.Proofs.Ytcgfakpolfopnaa
open Go.RowKit Go.Shelf
open Go.Maps (Keyed int_keyed keyOf_int_mk)

/-- A name, as a value of the map. -/
def nameR : Value → Option (DataW Value × List MemPlace) := fun v => some (.held v, [])
def nmV (l : List UInt8) : Value := .agg #[.string ⟨l.toArray⟩]
def nmL : List (List UInt8) := [[], [98, 111, 111, 116], [99, 111, 110, 102], [105, 110, 116, 101, 110, 116], [109, 97, 100, 101], [102, 97, 105, 108], [112, 104, 97, 115, 101], [103, 111, 110, 101], [116, 97, 107, 101], [103, 117, 97, 114, 100], [99, 111, 109, 112, 108, 101, 116, 101], [115, 116, 97, 114, 116], [99, 97, 110, 99, 101, 108], [114, 111, 108, 108], [112, 97, 117, 115, 101], [103, 111], [100, 111, 110, 101]]
def nmOf (k : Nat) : List UInt8 := nmL.getD k []
theorem nmOf_out {k : Nat} (h : 17 ≤ k) : nmOf k = [] := by simp [nmOf, nmL, List.getD, h]
/-- The map of the first n names. -/
def nmD (n : Nat) : DataW Value := .map ((List.range n).map fun i => (.int .u8 ((i + 1 : Nat) : Int), .held (nmV (nmOf (i + 1)))))
theorem nmD_put {n : Nat} (h : n < 16) : (nmD n).put (.int .u8 ((n + 1 : Nat) : Int)) (.held (nmV (nmOf (n + 1)))) = nmD (n + 1) := by
  rcases kind_cases (show n < 17 by omega) with rfl | rfl | rfl | rfl | rfl | rfl | rfl | rfl | rfl | rfl | rfl | rfl | rfl | rfl | rfl | rfl | rfl
  all_goals first | rfl | omega

theorem nmD_at (k : Nat) : (nmD 16).atKey (.int .u8 (k : Int)) (.held (nmV [])) = .held (nmV (nmOf k)) := by
  rcases Nat.lt_or_ge k 17 with h | h
  · rcases kind_cases h with rfl | rfl | rfl | rfl | rfl | rfl | rfl | rfl | rfl | rfl | rfl | rfl | rfl | rfl | rfl | rfl | rfl <;> rfl
  · rw [nmOf_out h]
    have h1 : ((List.range 16).map fun i => (Lit.int .u8 ((i + 1 : Nat) : Int), DataW.held (nmV (nmOf (i + 1))))).find? (fun p => p.1.sameKey (.int .u8 (k : Int))) = none := by
      rw [List.find?_eq_none]
      intro p hp
      simp only [List.mem_map, List.mem_range] at hp
      obtain ⟨i, hi, rfl⟩ := hp
      simp only [Lit.sameKey, true_and, decide_eq_true_eq]
      omega
    simp only [nmD, DataW.atKey, h1]

/-- The map under way: its own block is the first one. -/
def NmAt (w : World) (n : Nat) (W : World) : Prop := W.ownsMap Try.prog 5 nameR w.heap.size n (nmD n) ∧ Below w.heap.size w W

theorem wpList_name {w W : World} {ops : Array Oper} {rest : List Oper} {o : Oper} {a : Act} {Q : Exit → Act → World → Prop} (n : Nat) (h : NmAt w n W) (hn : n < 16) (hg : o.guard = none) (m x v : Operand)
    (hop : o.op = Op.insert 54 m x v) (hm : a.eval m = .map (some w.heap.size)) (hx : a.eval x = .int .u8 ((n + 1 : Nat) : Int)) (hv : a.eval v = nmV (nmOf (n + 1)))
    (hK : ∀ W', NmAt w (n + 1) W' → wpList Try.prog ops Q rest (a.put o.dst undef) W') : wpList Try.prog ops Q (o :: rest) a W := by
  refine wpList_plain hg fun K' hK' => ?_
  obtain ⟨w', hrun, r1, r2⟩ := h.1.update (int_keyed Try.underlying5) Try.underlying54 (by unfold maxLen; omega) (keyOf_int_mk (q := .u8) (a := ((n + 1 : Nat) : Int)) Try.underlying5 (by rcases kind_cases (show n < 17 by omega) with rfl | rfl | rfl | rfl | rfl | rfl | rfl | rfl | rfl | rfl | rfl | rfl | rfl | rfl | rfl | rfl | rfl <;> decide)) (val := nmV (nmOf (n + 1))) (d := .held (nmV (nmOf (n + 1)))) (ps := []) rfl
  rw [nmD_put hn] at r1
  obtain ⟨i, hi⟩ : ∃ i : Int, ((n + 1 : Nat) : Int) = i := ⟨_, rfl⟩
  rw [hi] at hx hrun
  unfold Oper.wp
  simp [execOp, hop, hm, hx, hv, hrun, Result.andThen]
  exact hK' _ _ (hK w' ⟨r1, h.2.trans ((Below.refl _ _).grown r2 h.2.size (fun k e => by cases e; exact Nat.le_refl _))⟩)

def NamesPost (w : World) (e : Ending) (w' : World) : Prop := e = .returned (.map (some w.heap.size)) ∧ NmAt w 16 w'

set_option maxRecDepth 100000 in
set_option maxHeartbeats 1000000 in
theorem names_any (w : World) : Calls Try.prog 33 #[] w (NamesPost w) := by
  have hmm := @run_makeMap Try.prog
  have HN : NmAt w 0 (w.alloc (.map #[] 0)) := ⟨World.ownsMap_made w _ _ _, (Below.refl _ w).alloc (Nat.le_refl _) _⟩
  go_enter Try.func33, Try.ntmps33
  go_wp2_with (refine wpList_name _ HN (by omega) rfl _ _ _ rfl rfl rfl rfl ?_; clear HN; intro w1 HN)
  go_ret
  exact ⟨rfl, HN⟩

def NamePost (k : Nat) (w : World) (e : Ending) (w' : World) : Prop := e = .returned (.string ⟨(nmOf k).toArray⟩) ∧ Below w.heap.size w w'

theorem name_zero (w : World) : (zeroValue 53).run Try.prog w = .ok (nmV []) w := by kernel_rfl

theorem name_field (w : World) (s : ByteArray) : (Instr.field 53 (.agg #[.string s]) 0).run Try.prog w = .ok (.string s) w := by kernel_rfl

set_option maxHeartbeats 400000 in
theorem name_any (k : Nat) (hk : k < 256) (w : World) : Calls Try.prog 18 #[.int .u8 (k : Int)] w (NamePost k w) := by
  go_enter Try.func18, Try.ntmps18
  go_wp2_with fail
  refine (names_any w).mono ?_
  rintro e w1 ⟨rfl, ho, hb⟩
  obtain ⟨v, ps, hrun, hv⟩ := ho.lookup (int_keyed Try.underlying5) Try.underlying54 (name_zero w1) (zd := .held (nmV [])) (zp := []) rfl (keyOf_int_mk (q := .u8) (a := (k : Int)) Try.underlying5 (by have h1 : IntKind.u8.min = 0 := rfl; have h2 : IntKind.u8.max = 255 := rfl; simp [Lit.wf, h1, h2]; omega))
  rw [nmD_at] at hv
  have e1 : v = nmV (nmOf k) := by simpa [nameR] using (congrArg (fun o => o.map Prod.fst) hv)
  subst e1
  have HB := Lib.hid hb
  clear ho hv hb
  unfold nmV at hrun
  have hf := name_field
  go_wp2_with fail
  go_ret
  exact ⟨rfl, HB.out⟩

end Go.Proofs.Ytcgfakpolfopnaa
