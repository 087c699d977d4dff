/-
  Groups with one number that is another, other marks, the other Skip: which may be, which are the same; two appends. Conditions: those that each theorem names.
-/
import Derived.Test.YtdjieigmncoooaaDoorCfLawSet
import Derived.Great.BuildSlice
namespace Go.Proofs.YtdjieigmncoooaaDoor
open Go.RowKit Go.Shelf

/-- With another number at k. -/
def Cf.put (x : Cf) (k : Nat) (v : Int) : Cf :=
  ⟨if k = 0 then v else x.f0, if k = 1 then v else x.f1, if k = 2 then v else x.f2, if k = 3 then v else x.f3, if k = 4 then v else x.f4, if k = 5 then v else x.f5, if k = 6 then v else x.f6, if k = 7 then v else x.f7, if k = 8 then v else x.f8, if k = 9 then v else x.f9, if k = 10 then v else x.f10, if k = 11 then v else x.f11, if k = 12 then v else x.f12, x.sk, x.A, x.n, x.c, x.ms⟩
set_option maxRecDepth 100000 in
theorem lt13 {k : Nat} (hk : k < 13) : k = 0 ∨ k = 1 ∨ k = 2 ∨ k = 3 ∨ k = 4 ∨ k = 5 ∨ k = 6 ∨ k = 7 ∨ k = 8 ∨ k = 9 ∨ k = 10 ∨ k = 11 ∨ k = 12 := by omega
set_option maxRecDepth 100000 in
theorem put_cells (x : Cf) {k : Nat} (v : Int) (hk : k < 13) : x.cells.setIfInBounds k (.int .i64 v) = (x.put k v).cells := by
  rcases lt13 hk with rfl | rfl | rfl | rfl | rfl | rfl | rfl | rfl | rfl | rfl | rfl | rfl | rfl
  all_goals rfl
set_option maxRecDepth 100000 in
theorem put_at (x : Cf) {k : Nat} (v : Int) (hk : k < 13) : (x.put k v).at k = v := by
  rcases lt13 hk with rfl | rfl | rfl | rfl | rfl | rfl | rfl | rfl | rfl | rfl | rfl | rfl | rfl
  all_goals rfl
set_option maxRecDepth 100000 in
theorem may_at {x : Cf} (h : may x = true) {k : Nat} (hk : k < 13) : loB k ≤ x.at k ∧ x.at k ≤ hiB k := by
  have h1 := List.all_eq_true.1 (may_inB h) k (List.mem_range.2 hk)
  simpa [fitK] using h1
set_option maxRecDepth 100000 in
theorem lo_pos (k : Nat) : 0 ≤ loB k ∧ (k < 13 → 3 ≤ hiB k ∧ hiB k ≤ 1099511627776) := by
  by_cases hk : k < 13
  · rcases lt13 hk with rfl | rfl | rfl | rfl | rfl | rfl | rfl | rfl | rfl | rfl | rfl | rfl | rfl
    all_goals exact ⟨by decide, fun _ => by decide⟩
  · refine ⟨?_, fun h => absurd h hk⟩
    have : loB k = 0 := by unfold loB; rw [List.getD_eq_getElem?_getD, List.getElem?_eq_none (by simp; omega)]; rfl
    omega
set_option maxRecDepth 100000 in
/-- A number that is too great, or below nought. -/
theorem put_out {x : Cf} (h : may x = true) {k : Nat} (hk : k < 13) {v : Int} (hv : v < 0 ∨ hiB k < v) : er (may (x.put k v)) = 70 ∧ sameC (x.put k v) x = false := by
  have h1 := put_at x v hk
  have h2 := may_at h hk
  have h3 := (lo_pos k).1
  constructor
  · rw [not_inB (x := x.put k v) hk (by rw [h1]; omega)]; rfl
  · cases hs : sameC (x.put k v) x with
    | false => rfl
    | true =>
      have h4 := (sameC_iff.1 hs).1
      have h5 : (x.put k v).at k = x.at k := by unfold Cf.at; rw [h4]
      omega

/-- With other marks; with the other Skip. -/
def Cf.marks (x : Cf) (A : Option Addr) (n c : Nat) (l : List Int) : Cf := { x with A := A, n := n, c := c, ms := l }
def Cf.flip (x : Cf) : Cf := { x with sk := !x.sk }
set_option maxRecDepth 100000 in
theorem upB_bad (l : List Int) : ∀ (last z : Int), 100 < z → upB last (l ++ [z]) = false := by
  induction l with
  | nil => intro last z h; simp [upB]; omega
  | cons a r ih => intro last z h; simp [upB, ih a z h]
set_option maxRecDepth 100000 in
theorem marks_bad (x : Cf) (A : Option Addr) (n c : Nat) {z : Int} (hz : 100 < z) : er (may (x.marks A n c (x.ms ++ [z]))) = 70 := by
  have : may (x.marks A n c (x.ms ++ [z])) = false := by
    unfold may marksB Cf.marks
    simp [upB_bad _ 0 z hz]
  rw [this]; rfl
set_option maxRecDepth 100000 in
/-- One mark more, ahead of them. -/
theorem marks_rise {x : Cf} (h : may x = true) (A : Option Addr) (n c : Nat) (z : Int) : may (x.marks A n c (z :: x.ms)) = (decide (1 ≤ z) && decide (z ≤ 100) && (decide (x.ms.length = 0) || decide (z < x.ms.getD 0 0)) && decide (x.ms.length < 4)) := by
  have h1 := may_inB h
  have h2 := (may_marks h).1
  have h3 : roomB x = true := by
    rcases may_room h with h | h <;> simp [roomB, h]
  have e1 : inB (x.marks A n c (z :: x.ms)) = inB x := rfl
  have e2 : roomB (x.marks A n c (z :: x.ms)) = roomB x := rfl
  have e3 : (x.marks A n c (z :: x.ms)).ms = z :: x.ms := rfl
  unfold may
  rw [e1, e2, e3, h1, h3]
  simp only [marksB, Bool.and_eq_true, decide_eq_true_eq] at h2
  obtain ⟨_, h2⟩ := h2
  rw [Bool.eq_iff_iff]
  cases hm : x.ms with
  | nil =>
    simp [marksB, upB]
    omega
  | cons a r =>
    rw [hm] at h2
    simp only [upB, Bool.and_eq_true, decide_eq_true_eq] at h2
    obtain ⟨⟨_, h7⟩, h8⟩ := h2
    simp only [marksB, upB, h8, Bool.and_eq_true, Bool.or_eq_true, decide_eq_true_eq, List.length_cons, List.getD_cons_zero, true_and, and_true]
    omega
set_option maxRecDepth 100000 in
theorem may_flip (x : Cf) : may x.flip = may x := rfl
set_option maxRecDepth 100000 in
theorem flip_not (x : Cf) : sameC x.flip x = false := by
  cases hs : sameC x.flip x with
  | false => rfl
  | true =>
    have h := (sameC_iff.1 hs).2.1
    have h' : (!x.sk) = x.sk := h
    cases hk : x.sk <;> rw [hk] at h' <;> cases h'

set_option maxRecDepth 100000 in
/-- The literal of thirteen pointers. -/
theorem built_ptrs (B : Nat) : Tryd.prog.built 39 [(0, .pointer (some ⟨B, 0, none⟩)), (1, .pointer (some ⟨B, 1, none⟩)), (2, .pointer (some ⟨B, 2, none⟩)), (3, .pointer (some ⟨B, 3, none⟩)), (4, .pointer (some ⟨B, 4, none⟩)), (5, .pointer (some ⟨B, 5, none⟩)), (6, .pointer (some ⟨B, 6, none⟩)), (7, .pointer (some ⟨B, 7, none⟩)), (8, .pointer (some ⟨B, 8, none⟩)), (9, .pointer (some ⟨B, 9, none⟩)), (10, .pointer (some ⟨B, 10, none⟩)), (11, .pointer (some ⟨B, 11, none⟩)), (12, .pointer (some ⟨B, 12, none⟩))] = some (ptrs B) := by kernel_rfl
set_option maxRecDepth 100000 in
theorem wpList_ptrs {ops : Array Oper} {rest : List Oper} {o : Oper} {a : Act} {w : World} {Q : Exit → Act → World → Prop} (hg : o.guard = none) (parts : Array (Nat × Operand)) (ho : o.op = .build 39 parts) (B : Nat)
    (hp : (parts.map fun (i, x) => (i, a.eval x)).toList = [(0, .pointer (some ⟨B, 0, none⟩)), (1, .pointer (some ⟨B, 1, none⟩)), (2, .pointer (some ⟨B, 2, none⟩)), (3, .pointer (some ⟨B, 3, none⟩)), (4, .pointer (some ⟨B, 4, none⟩)), (5, .pointer (some ⟨B, 5, none⟩)), (6, .pointer (some ⟨B, 6, none⟩)), (7, .pointer (some ⟨B, 7, none⟩)), (8, .pointer (some ⟨B, 8, none⟩)), (9, .pointer (some ⟨B, 9, none⟩)), (10, .pointer (some ⟨B, 10, none⟩)), (11, .pointer (some ⟨B, 11, none⟩)), (12, .pointer (some ⟨B, 12, none⟩))]) (h : wpList Tryd.prog ops Q rest (a.put o.dst (.agg (ptrs B))) w) : wpList Tryd.prog ops Q (o :: rest) a w := by
  refine wpList_plain hg fun _ hK => ?_
  unfold Oper.wp execOp
  have hb := built_ptrs B
  rw [← hp] at hb
  simp only [ho, Sem.run_bind, run_build w _ _ _ hb, Result.andThen_ok]
  exact hK _ _ h

/-- The greatest, as the array holds them. -/
def tops : Array Value := #[.int .i64 6, .int .i64 100, .int .i64 3, .int .i64 3, .int .i64 20, .int .i64 20, .int .i64 20, .int .i64 20, .int .i64 20, .int .i64 20, .int .i64 20, .int .i64 20, .int .i64 1099511627776]
set_option maxRecDepth 100000 in
theorem tops_at {k : Nat} (hk : k < 13) : tops[k]? = some (.int .i64 (hiB k)) := by
  rcases lt13 hk with rfl | rfl | rfl | rfl | rfl | rfl | rfl | rfl | rfl | rfl | rfl | rfl | rfl
  all_goals rfl

/-- What a round lays: the group, where its numbers lie, the greatest. -/
structure Rnd (x : Cf) (w W : World) (b1 b2 b3 : Nat) : Prop where
  box : Whole W b1 24 x.cells
  ptr : Whole W b2 39 (ptrs b1)
  top : Whole W b3 40 tops
  lt : w.heap.size < b1
def nils : Array Value := #[.pointer none, .pointer none, .pointer none, .pointer none, .pointer none, .pointer none, .pointer none, .pointer none, .pointer none, .pointer none, .pointer none, .pointer none, .pointer none]
def noughts : Array Value := #[.int .i64 0, .int .i64 0, .int .i64 0, .int .i64 0, .int .i64 0, .int .i64 0, .int .i64 0, .int .i64 0, .int .i64 0, .int .i64 0, .int .i64 0, .int .i64 0, .int .i64 0]
set_option maxRecDepth 100000 in
theorem rnd_one {x : Cf} {wr V1 : World} (h1 : wr.alloc (.cells x.cells 24) = V1) : Whole V1 wr.heap.size 24 x.cells ∧ wr.heap.size < V1.heap.size ∧ Below wr.heap.size wr V1 := by
  subst h1
  exact ⟨Whole.new wr _ _, by simp, (Below.refl _ _).alloc (Nat.le_refl _) _⟩
set_option maxRecDepth 100000 in
theorem rnd_row {V Z V' : World} {t : TypeId} {old cs : Array Value} (h2 : V.alloc (.cells old t) = Z) (h3 : Z.setRow V.heap.size cs = V') : Whole Z V.heap.size t old ∧ Whole V' V.heap.size t cs ∧ V.heap.size < V'.heap.size ∧ Below V.heap.size V V' := by
  subst h2; subst h3
  have hz := Whole.new V t old
  have hb : Below V.heap.size V (V.alloc (.cells old t)) := (Below.refl _ _).alloc (Nat.le_refl _) _
  exact ⟨hz, setRow_heap _ _ _ _ _ _ hz, by rw [setRow_size]; simp, below_rowset hb (Nat.le_refl _) _⟩
set_option maxRecDepth 100000 in
theorem Rnd.lay {x : Cf} {w wr V1 Z2 V2 Z3 V3 : World} (h : In1 x w wr) (h1 : wr.alloc (.cells x.cells 24) = V1) (h2 : V1.alloc (.cells nils 39) = Z2) (h3 : Z2.setRow V1.heap.size (ptrs wr.heap.size) = V2) (h4 : V2.alloc (.cells noughts 40) = Z3) (h5 : Z3.setRow V2.heap.size tops = V3) :
    Rnd x w V3 wr.heap.size V1.heap.size V2.heap.size ∧ In1 x w V3 ∧ Whole Z2 V1.heap.size 39 nils ∧ Whole Z3 V2.heap.size 40 noughts ∧ wr.heap.size < V1.heap.size ∧ wr.heap.size < V2.heap.size := by
  obtain ⟨a1, a2, a3⟩ := rnd_one h1
  obtain ⟨b1, b2, b3, b4⟩ := rnd_row h2 h3
  obtain ⟨d1, d2, d3, d4⟩ := rnd_row h4 h5
  refine ⟨⟨(a1.under b4).under d4, b2.under d4, d2, h.box.1.lt⟩, ((h.under a3).under b4).under d4, b1, d1, a2, by omega⟩
/-- A group in a box of the call's own. -/
structure Own1 (d : Cf) (W : World) (b : Nat) : Prop where
  box : Whole W b 24 d.cells
  lies : Lies d W W.heap.size
set_option maxRecDepth 100000 in
theorem Own1.under {d : Cf} {W W' : World} {b : Nat} (h : Own1 d W b) (hb : Below W.heap.size W W') : Own1 d W' b := ⟨h.box.under hb, (h.lies.below hb).more hb.size⟩
set_option maxRecDepth 100000 in
theorem Own1.has {d x : Cf} {w W : World} {b : Nat} (h : Own1 d W b) (hI : In1 x w W) : Has d W := ⟨h.lies, hI.tab⟩

set_option maxRecDepth 100000 in
theorem In1.set {x : Cf} {w W : World} (h0 : Has x w) (h : In1 x w W) {b : Nat} (hb : w.heap.size < b) (k : Nat) (v : Value) : In1 x w (W.setCell ⟨b, k, none⟩ v) := by
  have h1 : InBox x w (W.setCell ⟨b, k, none⟩ v) := ⟨h.box.1.far (p := ⟨b, k, none⟩) (by show w.heap.size ≠ b; omega) v, h.box.2.setCell (p := ⟨b, k, none⟩) (Nat.le_of_lt hb) v⟩
  exact ⟨h1, h0.under h1.2⟩
set_option maxRecDepth 100000 in
theorem lies_put {x : Cf} {W : World} {B : Nat} (h : Lies x W B) (k : Nat) (v : Int) : Lies (x.put k v) W B := ⟨h.rd, h.cap, h.max⟩
set_option maxRecDepth 100000 in
theorem rnd_set {x : Cf} {w W : World} {b1 b2 b3 : Nat} (h0 : Has x w) (hI : In1 x w W) (h : Rnd x w W b1 b2 b3) {k : Nat} (hk : k < 13) (v : Int) : In1 x w (W.setCell ⟨b1, k, none⟩ (.int .i64 v)) ∧ Own1 (x.put k v) (W.setCell ⟨b1, k, none⟩ (.int .i64 v)) b1 := by
  have h1 := hI.set h0 h.lt k (.int .i64 v)
  refine ⟨h1, ?_, lies_put h1.has.lies k v⟩
  rw [← put_cells x v hk]
  exact h.box.set k _

set_option maxRecDepth 100000 in
/-- 'append(append([]int{}, marks...), z)', and what is stored. -/
theorem one_back {x : Cf} {w V : World} (h0 : Has x w) (h : In1 x w V) (hx : x.n ≤ 60) (z : Int) :
    ∃ A1 c1 W1 A2 c2 W2, (Builtin.append_ #[22, 22] 22 #[.slice (some ⟨V.heap.size + 1, 0, none⟩) 0 0, .slice x.A x.n x.c]).run Tryd.prog ((V.alloc (.cells x.cells 24)).alloc (.cells #[] 3)) = .ok (.slice A1 x.n c1) W1 ∧
      (Builtin.append_ #[22, 22] 22 #[.slice A1 x.n c1, .slice (some ⟨W1.heap.size, 0, none⟩) 1 1]).run Tryd.prog (W1.alloc (.cells #[.int .i64 z] 3)) = .ok (.slice A2 (x.n + 1) c2) W2 ∧
      W2.cell? ⟨V.heap.size, 14, none⟩ = some (.slice x.A x.n x.c) ∧ W2.frozen? ⟨V.heap.size, 14, none⟩ = false ∧
      In1 x w (W2.setCell ⟨V.heap.size, 14, none⟩ (.slice A2 (x.n + 1) c2)) ∧ Own1 (x.marks A2 (x.n + 1) c2 (x.ms ++ [z])) (W2.setCell ⟨V.heap.size, 14, none⟩ (.slice A2 (x.n + 1) c2)) V.heap.size := by
  obtain ⟨V1, hV1⟩ : ∃ V1, V.alloc (.cells x.cells 24) = V1 := ⟨_, rfl⟩
  have hs1 : V1.heap.size = V.heap.size + 1 := by rw [← hV1, World.size_alloc]
  have hbV : Below V.heap.size V V1 := by rw [← hV1]; exact (Below.refl _ V).alloc (Nat.le_refl _) _
  have hbx : Whole V1 V.heap.size 24 x.cells := by rw [← hV1]; exact Whole.new V _ _
  rw [hV1]
  have hI1 := h.under hbV
  rw [← hs1]
  have ho : (V1.alloc (.cells #[] 3)).ownsRow V1.heap.size 3 1 (.slice (some ⟨V1.heap.size, 0, none⟩) 0 0) 0 [] :=
    ⟨rfl, .inr ⟨V1.heap.size, 0, #[], rfl, Nat.le_refl _, heap_alloc_new V1 _, Nat.le_refl _, by unfold maxLen; omega, rfl, rfl⟩⟩
  have hb := (Below.refl V1.heap.size V1).alloc (Nat.le_refl _) (.cells #[] 3)
  obtain ⟨v, W1, r1, o1, g1⟩ := run_appI _ V1.heap.size _ 0 [] ho V1.heap.size x.A x.n x.c x.ms (hI1.has.lies.rd.below hb) (by omega) hb.size
  rw [Nat.zero_add, List.nil_append] at o1
  obtain ⟨A1, c1, rfl⟩ := own_form o1
  have b1 : Below V1.heap.size V1 W1 := hb.trans (below_row ho g1 hb.size)
  have bl := b1.alloc b1.size (.cells #[.int .i64 z] 3)
  obtain ⟨v2, W2, r2, o2, g2⟩ := run_appI (W1.alloc (.cells #[.int .i64 z] 3)) V1.heap.size _ x.n _ (o1.alloc _) (W1.heap.size + 1) (some ⟨W1.heap.size, 0, none⟩) 1 1 [z] (rd_lit W1 (iv [z]) 3 1 rfl) (by omega) bl.size
  have b2 : Below V1.heap.size V1 W2 := bl.trans (below_row (o1.alloc _) g2 bl.size)
  obtain ⟨A2, c2, rfl⟩ := own_form o2
  have hI2 := hI1.under b2
  have hx2 := hbx.under b2
  have hlt : V.heap.size < V1.heap.size := by omega
  refine ⟨A1, c1, W1, A2, c2, W2, r1, r2, hx2.cell 14, hx2.frozen 14, hI2.set h0 h.box.1.lt 14 _, hx2.set 14 _, ?_⟩
  have o3 := own_set o2 hlt (off := 14) (.slice A2 (x.n + 1) c2)
  have e : iv x.ms ++ iv [z] = iv (x.ms ++ [z]) := by simp [iv]
  rw [e] at o3
  exact ⟨Rd.of_own o3, own_cap o3, own_maxC o3⟩
set_option maxRecDepth 100000 in
/-- 'append([]int{z}, marks...)', and what is stored. -/
theorem one_front {x : Cf} {w V : World} (h0 : Has x w) (h : In1 x w V) (hx : x.n ≤ 60) (z : Int) :
    ∃ A2 c2 W2, (Builtin.append_ #[22, 22] 22 #[.slice (some ⟨V.heap.size + 1, 0, none⟩) 1 1, .slice x.A x.n x.c]).run Tryd.prog ((V.alloc (.cells x.cells 24)).alloc (.cells #[.int .i64 z] 3)) = .ok (.slice A2 (1 + x.n) c2) W2 ∧
      W2.cell? ⟨V.heap.size, 14, none⟩ = some (.slice x.A x.n x.c) ∧ W2.frozen? ⟨V.heap.size, 14, none⟩ = false ∧ Below V.heap.size V (W2.setCell ⟨V.heap.size, 14, none⟩ (.slice A2 (1 + x.n) c2)) ∧
      In1 x w (W2.setCell ⟨V.heap.size, 14, none⟩ (.slice A2 (1 + x.n) c2)) ∧ Own1 (x.marks A2 (1 + x.n) c2 (z :: x.ms)) (W2.setCell ⟨V.heap.size, 14, none⟩ (.slice A2 (1 + x.n) c2)) V.heap.size := by
  obtain ⟨V1, hV1⟩ : ∃ V1, V.alloc (.cells x.cells 24) = V1 := ⟨_, rfl⟩
  have hs1 : V1.heap.size = V.heap.size + 1 := by rw [← hV1, World.size_alloc]
  have hbV : Below V.heap.size V V1 := by rw [← hV1]; exact (Below.refl _ V).alloc (Nat.le_refl _) _
  have hbx : Whole V1 V.heap.size 24 x.cells := by rw [← hV1]; exact Whole.new V _ _
  rw [hV1]
  have hI1 := h.under hbV
  rw [← hs1]
  have ho : (V1.alloc (.cells #[.int .i64 z] 3)).ownsRow V1.heap.size 3 1 (.slice (some ⟨V1.heap.size, 0, none⟩) 1 1) 1 (iv [z]) :=
    ⟨rfl, .inr ⟨V1.heap.size, 1, #[.int .i64 z], rfl, Nat.le_refl _, heap_alloc_new V1 _, Nat.le_refl _, by unfold maxLen; omega, rfl, rfl⟩⟩
  have hb := (Below.refl V1.heap.size V1).alloc (Nat.le_refl _) (.cells #[.int .i64 z] 3)
  obtain ⟨v2, W2, r2, o2, g2⟩ := run_appI _ V1.heap.size _ 1 _ ho V1.heap.size x.A x.n x.c x.ms (hI1.has.lies.rd.below hb) (by omega) hb.size
  have b2 : Below V1.heap.size V1 W2 := hb.trans (below_row ho g2 hb.size)
  obtain ⟨A2, c2, rfl⟩ := own_form o2
  have hI2 := hI1.under b2
  have hx2 := hbx.under b2
  have hlt : V.heap.size < V1.heap.size := by omega
  refine ⟨A2, c2, W2, r2, hx2.cell 14, hx2.frozen 14, (hbV.trans (b2.mono hbV.size)).setCell (p := ⟨V.heap.size, 14, none⟩) (Nat.le_refl _) _, hI2.set h0 h.box.1.lt 14 _, hx2.set 14 _, ?_⟩
  have o3 := own_set o2 hlt (off := 14) (.slice A2 (1 + x.n) c2)
  have e : iv [z] ++ iv x.ms = iv (z :: x.ms) := by simp [iv]
  rw [e] at o3
  exact ⟨Rd.of_own o3, own_cap o3, own_maxC o3⟩
set_option maxRecDepth 100000 in
/-- The other Skip, stored. -/
theorem one_flip {x : Cf} {w V : World} (h0 : Has x w) (h : In1 x w V) :
    (V.alloc (.cells x.cells 24)).cell? ⟨V.heap.size, 13, none⟩ = some (.bool x.sk) ∧ (V.alloc (.cells x.cells 24)).frozen? ⟨V.heap.size, 13, none⟩ = false ∧ Below V.heap.size V ((V.alloc (.cells x.cells 24)).setCell ⟨V.heap.size, 13, none⟩ (.bool (!x.sk))) ∧
      In1 x w ((V.alloc (.cells x.cells 24)).setCell ⟨V.heap.size, 13, none⟩ (.bool (!x.sk))) ∧ Own1 x.flip ((V.alloc (.cells x.cells 24)).setCell ⟨V.heap.size, 13, none⟩ (.bool (!x.sk))) V.heap.size := by
  have hbV : Below V.heap.size V (V.alloc (.cells x.cells 24)) := (Below.refl _ V).alloc (Nat.le_refl _) _
  have hbx := Whole.new V 24 x.cells
  have h1 := (h.under hbV).set h0 h.box.1.lt 13 (.bool (!x.sk))
  exact ⟨hbx.cell 13, hbx.frozen 13, hbV.setCell (p := ⟨V.heap.size, 13, none⟩) (Nat.le_refl _) _, h1, hbx.set 13 _, ⟨h1.has.lies.rd, h1.has.lies.cap, h1.has.lies.max⟩⟩

end Go.Proofs.YtdjieigmncoooaaDoor
