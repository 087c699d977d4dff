/-
  The walk of 'values' of package conf: a group's numbers as an array. Conditions: those that each theorem names.
-/
import Derived.Test.YtdjieigmncoooaaDoorCfRight
namespace Go.Proofs.YtdjieigmncoooaaDoor
open Go.RowKit Go.Shelf
attribute [local go_sem] Oper.semAt_some

/-- A group's numbers, as values. -/
def Cf.arr (x : Cf) : Array Value := #[.int .i64 x.f0, .int .i64 x.f1, .int .i64 x.f2, .int .i64 x.f3, .int .i64 x.f4, .int .i64 x.f5, .int .i64 x.f6, .int .i64 x.f7, .int .i64 x.f8, .int .i64 x.f9, .int .i64 x.f10, .int .i64 x.f11, .int .i64 x.f12]
/-- The first k of them, noughts behind. -/
def arrTo (x : Cf) (k : Nat) : Array Value := ((x.fs.take k ++ List.replicate (13 - k) 0).map (Value.int .i64)).toArray
set_option maxRecDepth 100000 in
theorem arrTo_step (x : Cf) {k : Nat} (hk : k < 13) : (arrTo x k).setIfInBounds k (.int .i64 (x.at k)) = arrTo x (k + 1) := by
  rcases (by omega : k = 0 ∨ k = 1 ∨ k = 2 ∨ k = 3 ∨ k = 4 ∨ k = 5 ∨ k = 6 ∨ k = 7 ∨ k = 8 ∨ k = 9 ∨ k = 10 ∨ k = 11 ∨ k = 12) with rfl | rfl | rfl | rfl | rfl | rfl | rfl | rfl | rfl | rfl | rfl | rfl | rfl <;> rfl
set_option maxRecDepth 100000 in
theorem arrTo_cell (x : Cf) {k : Nat} (hk : k < 13) : (arrTo x k)[k]? = some (.int .i64 0) := by
  rcases (by omega : k = 0 ∨ k = 1 ∨ k = 2 ∨ k = 3 ∨ k = 4 ∨ k = 5 ∨ k = 6 ∨ k = 7 ∨ k = 8 ∨ k = 9 ∨ k = 10 ∨ k = 11 ∨ k = 12) with rfl | rfl | rfl | rfl | rfl | rfl | rfl | rfl | rfl | rfl | rfl | rfl | rfl <;> rfl
set_option maxRecDepth 100000 in
theorem arrTo_all (x : Cf) : arrTo x 13 = x.arr := rfl
set_option maxRecDepth 100000 in
theorem arrTo_none (x : Cf) : arrTo x 0 = #[.int .i64 0, .int .i64 0, .int .i64 0, .int .i64 0, .int .i64 0, .int .i64 0, .int .i64 0, .int .i64 0, .int .i64 0, .int .i64 0, .int .i64 0, .int .i64 0, .int .i64 0] := rfl

/-- What holds between two rounds. -/
structure ValAt (x : Cf) (w : World) (Bc : Nat) (pre : List Nat) (W : World) : Prop where
  res : Whole W w.heap.size 40 #[.int .i64 0, .int .i64 0, .int .i64 0, .int .i64 0, .int .i64 0, .int .i64 0, .int .i64 0, .int .i64 0, .int .i64 0, .int .i64 0, .int .i64 0, .int .i64 0, .int .i64 0]
  row : Whole W (w.heap.size + 1) 40 (arrTo x pre.length)
  box : Whole W Bc 24 x.cells
  below : Below w.heap.size w W
set_option maxRecDepth 100000 in
theorem valAt_own (x : Cf) (w : World) (Bc B : Nat) (hB : w.heap.size ≤ B) : OwnFrom B (ValAt x w Bc) := by
  intro pre W1 W2 row h hg hr
  have hr' : ∀ r, row = some r → ∃ o : Obj, W1.heap[r]? = some o ∧ o.isCells = false := fun r e => (hr r e).2
  exact ⟨h.res.turn hg hr', h.row.turn hg hr', h.box.turn hg hr', h.below.grown hg h.below.size (fun k e => by have := (hr k e).1; omega)⟩

set_option maxRecDepth 100000 in
/-- A store of a whole row, in a fence. -/
theorem wpListIn_store_row {F : Fence} {m : Nat} {P : Program} {ops : Array Oper} {rest : List Oper} {o : Oper} {a : Act} {w : World} {Q : Exit → Act → World → Prop} (hgd : o.guard = none) (ty : TypeId) (x y : Operand) (ho : o.op = .store ty x y)
    (g : Nat) (cells : Array Value) (hx : a.eval x = .pointer (some ⟨g, 0, none⟩)) (hy : a.eval y = .agg cells)
    (t : TypeId) (old : Array Value) (hg : w.heap[g]? = some (.cells old t (0, 0))) (hi : (P.info? ty).map (·.size) = some cells.size)
    (hold : old.size = cells.size) (h1 : cells.all (·.oneCell') = true)
    (h : wpListIn F m P ops Q rest (a.put o.dst undef) (w.setRow g cells)) : wpListIn F m P ops Q (o :: rest) a w := by
  refine wpListIn_plain hgd fun K hK => ?_
  unfold Oper.wpIn
  refine ⟨by simp [Oper.about, ho], ?_⟩
  rw [Oper.semAt_plain F _ _ (by rw [ho]; intro c hc; cases hc)]
  unfold execOp
  simp only [ho, hx, hy, Instr.storeAt, Instr.sureAddr, Sem.run_bind, Sem.run_pure, Result.andThen_ok, run_storeVar_row w g t ty old cells hg hi hold h1]
  exact hK _ _ h

def ArrPost (x : Cf) (w : World) (e : Ending) (w' : World) : Prop := e = .returned (.agg x.arr) ∧ Below w.heap.size w w'

set_option maxRecDepth 100000 in
set_option maxHeartbeats 2000000 in
theorem values_any (x : Cf) (Bc : Nat) (w : World) (hbox : Whole w Bc 24 x.cells) : Calls Tryd.prog 28 #[.pointer (some ⟨Bc, 0, none⟩)] w (ArrPost x w) := by
  have HX := Lib.hid hbox
  clear hbox
  refine (callsIn_wide (n := 6)).1 ?_
  refine callsIn_of_wp_marks Tryd.func28 rfl trivial ?_ rfl
  simp only [Tryd.ntmps28, List.size_toArray, List.length_cons, List.length_nil, Nat.reduceAdd, Nat.reduceSub, Array.replicate_succ, Array.replicate_zero, List.push_toArray, List.append_toArray, List.nil_append, List.cons_append]
  gi_wp2_with (refine ⟨trivial, ?_⟩; gi_at_call 23; refine (callsIn_wide.2 (fields_any _ _)).mono ?_; rintro e w2 ⟨rfl, rfl⟩)
  obtain ⟨W0, hW0⟩ : ∃ W0, ((w.alloc (.cells #[.int .i64 0, .int .i64 0, .int .i64 0, .int .i64 0, .int .i64 0, .int .i64 0, .int .i64 0, .int .i64 0, .int .i64 0, .int .i64 0, .int .i64 0, .int .i64 0, .int .i64 0] 40)).alloc (.cells #[.int .i64 0, .int .i64 0, .int .i64 0, .int .i64 0, .int .i64 0, .int .i64 0, .int .i64 0, .int .i64 0, .int .i64 0, .int .i64 0, .int .i64 0, .int .i64 0, .int .i64 0] 40)).alloc (.cells #[.pointer (some ⟨Bc, 0, none⟩)] 46) = W0 := ⟨_, rfl⟩
  have hs0 : W0.heap.size = w.heap.size + 1 + 1 + 1 := by rw [← hW0]; simp
  have hb0 : Below w.heap.size w W0 := by rw [← hW0]; exact (((Below.refl _ w).alloc (Nat.le_refl _) _).alloc (by simp) _).alloc (by simp; omega) _
  have hinv : ValAt x w Bc [] W0 := by
    refine ⟨?_, ?_, HX.out.under hb0, hb0⟩
    · rw [← hW0]; exact ((Whole.new w _ _).alloc _).alloc _
    · rw [← hW0]
      have := (Whole.new (w.alloc (.cells #[.int .i64 0, .int .i64 0, .int .i64 0, .int .i64 0, .int .i64 0, .int .i64 0, .int .i64 0, .int .i64 0, .int .i64 0, .int .i64 0, .int .i64 0, .int .i64 0, .int .i64 0] 40)) 40 #[.int .i64 0, .int .i64 0, .int .i64 0, .int .i64 0, .int .i64 0, .int .i64 0, .int .i64 0, .int .i64 0, .int .i64 0, .int .i64 0, .int .i64 0, .int .i64 0, .int .i64 0]).alloc (.cells #[.pointer (some ⟨Bc, 0, none⟩)] 46)
      rwa [World.size_alloc] at this
  have hbn : W0.cell? ⟨w.heap.size + 1 + 1, 0, none⟩ = some (.pointer (some ⟨Bc, 0, none⟩)) := by
    rw [← hW0]
    have := (Whole.new ((w.alloc (.cells #[.int .i64 0, .int .i64 0, .int .i64 0, .int .i64 0, .int .i64 0, .int .i64 0, .int .i64 0, .int .i64 0, .int .i64 0, .int .i64 0, .int .i64 0, .int .i64 0, .int .i64 0] 40)).alloc (.cells #[.int .i64 0, .int .i64 0, .int .i64 0, .int .i64 0, .int .i64 0, .int .i64 0, .int .i64 0, .int .i64 0, .int .i64 0, .int .i64 0, .int .i64 0, .int .i64 0, .int .i64 0] 40)) 46 #[.pointer (some ⟨Bc, 0, none⟩)]).cell 0
    rwa [World.size_alloc, World.size_alloc] at this
  rw [hW0]
  clear hW0
  refine wpIn_range_mem (by omega) (gf := 32) (lb := #[.pointer (some ⟨w.heap.size + 1 + 1, 0, none⟩)]) rfl (enters_of Tryd.func32 (by kernel_rfl) rfl) (encs := fun k : Nat => #[Value.int .i64 (k : Int), Value.pointer (some ⟨Bc, k, none⟩)])
    (fields_mem 5 (w.heap.size + 1 + 1) Bc W0 (by omega) hbn)
    (fun h k => kpP_t h k) (fun W l o o' _ h h1 _ => kpP_b W l o o' h h1) (Below.refl _ _) (fun _ => rfl)
    (ValAt x w Bc) (fun _ _ => False)
    (valAt_own _ _ _ _ (by omega)) (fun c W W' row h hg hr => h) hinv
    (fun pre k a' W => (k = pre.length ∧ k < 13) ∧ a' = { tmps := #[.pointer (some ⟨Bc, 0, none⟩), undef, .pointer (some ⟨w.heap.size, 0, none⟩), .pointer (some ⟨w.heap.size + 1, 0, none⟩), .int .i64 (k : Int), .pointer (some ⟨Bc, k, none⟩), .pointer (some ⟨Bc, 0, none⟩), .func (.func 32) #[] #[.pointer (some ⟨w.heap.size + 1 + 1, 0, none⟩)], .int .i64 (k : Int), .pointer (some ⟨Bc, k, none⟩), undef, undef, undef, undef, undef, undef], defers := [] })
    (fun a' p X Y row hs hg hr => hs) ?assign ?body ?done ?stop
  case assign =>
    intro l pre k W K hI hOk hK
    have HOk := Lib.hid hOk
    clear hOk
    gi_wp2
    exact hK _ _ (KeepsFrom.refl _ _) kpP_refl hI ⟨HOk.out, rfl⟩
  case body =>
    rintro l pre k a' W hl hI ⟨⟨hk, hk13⟩, rfl⟩
    have c0 := hI.box.confK hk13
    have hrow := hI.row
    rw [← hk] at hrow
    have c1 := hrow.cell k
    rw [arrTo_cell x hk13] at c1
    have f1 := hrow.frozen k
    have hk13i : (k : Int) < 13 := by omega
    have HI := Lib.hid hI
    have HK := Lib.hid hk
    have HRow := Lib.hid hrow
    clear hI hk hrow
    gi_wp2_with fail
    have hr2 := HRow.out.set k (.int .i64 (x.at k))
    rw [arrTo_step x hk13] at hr2
    have hfar : ∀ {b : Nat} {t : TypeId} {cs : Array Value}, Whole W b t cs → t ≠ 40 ∨ b ≠ w.heap.size + 1 → Whole (W.setCell ⟨w.heap.size + 1, k, none⟩ (.int .i64 (x.at k))) b t cs := fun h hne => h.far (p := ⟨w.heap.size + 1, k, none⟩) (by
      rcases hne with hne | hne
      · rintro rfl
        have h2 := HRow.out
        unfold Whole at h h2
        rw [h] at h2
        cases h2
        exact hne rfl
      · exact hne) _
    refine ⟨(KeepsOthers.setCell _ _ _).from _, kpP_set HRow.out (by decide) _, hfar HI.out.res (.inr (by omega)), ?_, hfar HI.out.box (.inl (by decide)), HI.out.below.setCell (p := ⟨w.heap.size + 1, k, none⟩) (Nat.le_succ _) _⟩
    rw [List.length_append, List.length_singleton, ← HK.out]
    exact hr2
  case done =>
    rintro D ys W hD hys hI hK
    have hrow := hI.row
    rw [hys, arrTo_all] at hrow
    have q0 := hrow.cell 0
    have q1 := hrow.cell 1
    have q2 := hrow.cell 2
    have q3 := hrow.cell 3
    have q4 := hrow.cell 4
    have q5 := hrow.cell 5
    have q6 := hrow.cell 6
    have q7 := hrow.cell 7
    have q8 := hrow.cell 8
    have q9 := hrow.cell 9
    have q10 := hrow.cell 10
    have q11 := hrow.cell 11
    have q12 := hrow.cell 12
    simp only [Cf.arr, List.getElem?_toArray, List.getElem?_cons_zero, List.getElem?_cons_succ] at q0 q1 q2 q3 q4 q5 q6 q7 q8 q9 q10 q11 q12
    have HI := Lib.hid hI
    have HK := Lib.hid hK
    clear hI hK hrow hys
    have HR1 : Hid (x.arr.all (·.oneCell') = true) := Lib.hid (by simp [Cf.arr, Value.oneCell'])
    gi_wp2_with (refine wpListIn_store_row rfl 40 _ _ rfl w.heap.size x.arr (by rfl) (by rfl) 40 _ HI.out.res (by kernel_rfl) rfl HR1.out ?_)
    have h4 : Whole (W.setRow w.heap.size x.arr) w.heap.size 40 x.arr := setRow_heap W _ _ _ _ _ HI.out.res
    have hb4 : Below w.heap.size w (W.setRow w.heap.size x.arr) := below_rowset HI.out.below (Nat.le_refl _) _
    have hK4 : (W.setRow w.heap.size x.arr).heap[D]? = some (.deferred (some [])) := (setRow_other _ _ _ _ (by omega)).trans HK.out
    clear q0 q1 q2 q3 q4 q5 q6 q7 q8 q9 q10 q11 q12 HR1
    generalize W.setRow w.heap.size x.arr = W1 at h4 hb4 hK4 ⊢
    have hg' := grownBy_putObj' W1 D (.deferred none)
    have hr' : ∀ r, (some D) = some r → ∃ o : Obj, W1.heap[r]? = some o ∧ o.isCells = false := fun r e => by cases e; exact ⟨_, hK4, rfl⟩
    have h5 := h4.turn hg' hr'
    have p0 := h5.cell 0
    have p1 := h5.cell 1
    have p2 := h5.cell 2
    have p3 := h5.cell 3
    have p4 := h5.cell 4
    have p5 := h5.cell 5
    have p6 := h5.cell 6
    have p7 := h5.cell 7
    have p8 := h5.cell 8
    have p9 := h5.cell 9
    have p10 := h5.cell 10
    have p11 := h5.cell 11
    have p12 := h5.cell 12
    simp only [Cf.arr, List.getElem?_toArray, List.getElem?_cons_zero, List.getElem?_cons_succ] at p0 p1 p2 p3 p4 p5 p6 p7 p8 p9 p10 p11 p12
    refine ⟨by simp, .inl ⟨_, _, rfl, run_takeDeferred hK4, ?_⟩⟩
    refine ⟨.agg x.arr, by simp [results, Tryd.results28, go_sem, p0, p1, p2, p3, p4, p5, p6, p7, p8, p9, p10, p11, p12, Cf.arr], rfl, ?_⟩
    exact hb4.trans ((Below.refl _ _).grown hg' hb4.size (fun k e => by cases e; omega))
  case stop =>
    rintro D c W hD h hK
    exact h.elim

end Go.Proofs.YtdjieigmncoooaaDoor
