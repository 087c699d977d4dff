/-
  The walks of 'floor', 'roomy', 'marked' of package conf, and of 'floor', 'within' of the document's own. Conditions: those that each theorem names.
-/
import Derived.Test.YtdjieigmncoooaaDoorCfMath
import Derived.Test.YtdjieigmncoooaaDoorHand
namespace Go.Proofs.YtdjieigmncoooaaDoor
open Go.RowKit Go.Shelf

def IntPost (v : Int) (w : World) (e : Ending) (w' : World) : Prop := e = .returned (.int .i64 v) ∧ Below w.heap.size w w'

set_option maxRecDepth 100000 in
/-- A group in a box. -/
theorem Whole.conf {w : World} {b : Nat} {x : Cf} (h : Whole w b 24 x.cells) :
    w.cell? ⟨b, 0, none⟩ = some (.int .i64 x.f0) ∧ w.cell? ⟨b, 1, none⟩ = some (.int .i64 x.f1) ∧ w.cell? ⟨b, 2, none⟩ = some (.int .i64 x.f2) ∧ w.cell? ⟨b, 3, none⟩ = some (.int .i64 x.f3) ∧ w.cell? ⟨b, 4, none⟩ = some (.int .i64 x.f4) ∧ w.cell? ⟨b, 5, none⟩ = some (.int .i64 x.f5) ∧ w.cell? ⟨b, 6, none⟩ = some (.int .i64 x.f6) ∧ w.cell? ⟨b, 7, none⟩ = some (.int .i64 x.f7) ∧ w.cell? ⟨b, 8, none⟩ = some (.int .i64 x.f8) ∧ w.cell? ⟨b, 9, none⟩ = some (.int .i64 x.f9) ∧ w.cell? ⟨b, 10, none⟩ = some (.int .i64 x.f10) ∧ w.cell? ⟨b, 11, none⟩ = some (.int .i64 x.f11) ∧ w.cell? ⟨b, 12, none⟩ = some (.int .i64 x.f12) ∧ w.cell? ⟨b, 13, none⟩ = some (.bool x.sk) ∧ w.cell? ⟨b, 14, none⟩ = some (.slice x.A x.n x.c) :=
  ⟨h.cell 0, h.cell 1, h.cell 2, h.cell 3, h.cell 4, h.cell 5, h.cell 6, h.cell 7, h.cell 8, h.cell 9, h.cell 10, h.cell 11, h.cell 12, h.cell 13, h.cell 14⟩
set_option maxRecDepth 100000 in
theorem Whole.confK {w : World} {b : Nat} {x : Cf} (h : Whole w b 24 x.cells) {k : Nat} (hk : k < 13) : w.cell? ⟨b, k, none⟩ = some (.int .i64 (x.at k)) := by
  rcases (by omega : k = 0 ∨ k = 1 ∨ k = 2 ∨ k = 3 ∨ k = 4 ∨ k = 5 ∨ k = 6 ∨ k = 7 ∨ k = 8 ∨ k = 9 ∨ k = 10 ∨ k = 11 ∨ k = 12) with rfl | rfl | rfl | rfl | rfl | rfl | rfl | rfl | rfl | rfl | rfl | rfl | rfl
  all_goals exact h.cell _

set_option maxRecDepth 100000 in
set_option maxHeartbeats 1000000 in
theorem floor_any (x : Cf) (hx : inB x = true) (w : World) : Calls Tryd.prog 27 #[x.v] w (IntPost (fl x) w) := by
  obtain ⟨h0, h1, h2, h3⟩ := fl_bd hx
  have e1 : fl x = (x.f0 * x.f1 + 99) / 100 := rfl
  generalize hP : x.f0 * x.f1 = p at *
  go_enter Tryd.func27, Tryd.ntmps27
  go_wp2_with fail
  go_ret
  exact ⟨by show Ending.returned (.int .i64 ((p + 100 - 1) / 100)) = _; rw [e1, show p + 100 - 1 = p + 99 by omega], (Below.refl _ w).alloc (Nat.le_refl _) _⟩

set_option maxRecDepth 100000 in
set_option maxHeartbeats 1000000 in
theorem refFloor_any (x : Cf) (hx : inB x = true) (w : World) : Calls Tryd.prog 26 #[x.v] w (IntPost (fl x) w) := by
  obtain ⟨h0, h1, h2, h3⟩ := fl_bd hx
  have e1 : fl x = (x.f0 * x.f1 + 99) / 100 := rfl
  generalize hP : x.f0 * x.f1 = p at *
  go_enter Tryd.func26, Tryd.ntmps26
  go_wp2_with fail
  go_ret
  exact ⟨by show Ending.returned (.int .i64 ((p + 99) / 100)) = _; rw [e1], (Below.refl _ w).alloc (Nat.le_refl _) _⟩

set_option maxRecDepth 100000 in
theorem within_any (n a b : Int) (w : World) : Calls Tryd.prog 25 #[.int .i64 n, .int .i64 a, .int .i64 b] w fun e w' => e = .returned (.bool (decide (a ≤ n) && decide (n ≤ b))) ∧ w' = w := by
  by_cases h : a ≤ n
  · have HH := Lib.hid (decide_eq_true h)
    go_enter Tryd.func25, Tryd.ntmps25
    go_wp2_with fail
    go_ret
    exact ⟨by rw [HH.out]; simp, rfl⟩
  · have HH := Lib.hid (decide_eq_false h)
    go_enter Tryd.func25, Tryd.ntmps25
    go_wp2_with fail
    go_ret
    exact ⟨by rw [HH.out]; simp, rfl⟩

/-- What a box of a group gives. -/
def InBox (x : Cf) (w W : World) : Prop := Whole W w.heap.size 24 x.cells ∧ Below w.heap.size w W
set_option maxRecDepth 100000 in
theorem InBox.new (x : Cf) (w : World) : InBox x w (w.alloc (.cells x.cells 24)) := ⟨Whole.new w _ _, (Below.refl _ w).alloc (Nat.le_refl _) _⟩
set_option maxRecDepth 100000 in
theorem InBox.drew {x : Cf} {w W : World} (h : InBox x w W) : InBox x w W.drew := ⟨h.1, h.2.drew⟩
set_option maxRecDepth 100000 in
theorem InBox.under {x : Cf} {w W W' : World} (h : InBox x w W) (hb : Below W.heap.size W W') : InBox x w W' := ⟨h.1.under hb, h.2.trans (hb.mono h.2.size)⟩

set_option maxRecDepth 100000 in
set_option maxHeartbeats 1000000 in
theorem roomy_any (x : Cf) (hx : inB x = true) (w : World) : Calls Tryd.prog 31 #[x.v] w (BoolPost (roomB x) w) := by
  obtain ⟨p0, p1, p2, p3⟩ := fl_bd hx
  obtain ⟨⟨⟨a0, a1⟩, ⟨b0, b1⟩, ⟨c0, c1⟩, _⟩, _⟩ := inB_iff.1 hx
  have HX := Lib.hid hx
  clear hx p0 p1 b0 b1
  by_cases h0 : x.f0 = 0
  · have e0 : (x.f0 == 0) = true := by simp [h0]
    have HR : Hid (roomB x = true) := by unfold roomB; rw [decide_eq_true h0]; rfl
    go_enter Tryd.func31, Tryd.ntmps31
    go_wp2_with fail
    go_quiet (fail)
    go_wp2_with fail
    go_ret
    exact ⟨by rw [HR.out]; rfl, below_drewN ((Below.refl _ w).alloc (Nat.le_refl _) _) _⟩
  · have e0 : (x.f0 == 0) = false := by rw [beq_eq_false_iff_ne]; exact h0
    have HR : Hid (roomB x = decide (1 ≤ IntKind.i64.wrap (IntKind.i64.wrap (x.f2 + x.f0) - fl x))) := by unfold roomB; rw [decide_eq_false h0, show IntKind.i64.wrap (x.f2 + x.f0) = x.f2 + x.f0 by rw [IntKind.wrap_i64]; omega, show IntKind.i64.wrap (x.f2 + x.f0 - fl x) = x.f2 + x.f0 - fl x by rw [IntKind.wrap_i64]; omega]; rfl
    have HF := Lib.hid (floor_any x HX.out)
    go_enter Tryd.func31, Tryd.ntmps31
    go_wp2_with fail
    have HC := Lib.hid (InBox.new x w).drew
    have HL := Lib.hid (fun W (hW : InBox x w W) => hW.1.conf)
    refine wp_region_held_drew (S := InBox x w) (by kernel_rfl) HC.out (fun _ => ?_)
    refine takeH (i := 0) (v := ?_) rfl (by kernel_rfl) (by kernel_rfl) (by kernel_rfl) (fun _ _ _ h => h) (by rfl) ?_ HC.out ?_
    rotate_left
    · intro W hW; obtain ⟨c0, c1, c2, c3, c4, c5, c6, c7, c8, c9, c10, c11, c12, c13, c14⟩ := HL.out W hW; go_simp <;> with_reducible rfl
    simp only [Act.put, List.setIfInBounds_toArray, List.set_cons_zero, List.set_cons_succ]
    refine takeH (i := 1) (v := ?_) rfl (by kernel_rfl) (by kernel_rfl) (by kernel_rfl) (fun _ _ _ h => h) (by rfl) ?_ HC.out ?_
    rotate_left
    · intro W hW; obtain ⟨c0, c1, c2, c3, c4, c5, c6, c7, c8, c9, c10, c11, c12, c13, c14⟩ := HL.out W hW; go_simp <;> with_reducible rfl
    simp only [Act.put, List.setIfInBounds_toArray, List.set_cons_zero, List.set_cons_succ]
    refine takeH (i := 2) (v := ?_) rfl (by kernel_rfl) (by kernel_rfl) (by kernel_rfl) (fun _ _ _ h => h) (by rfl) ?_ HC.out ?_
    rotate_left
    · intro W hW; obtain ⟨c0, c1, c2, c3, c4, c5, c6, c7, c8, c9, c10, c11, c12, c13, c14⟩ := HL.out W hW; go_simp <;> with_reducible rfl
    simp only [Act.put, List.setIfInBounds_toArray, List.set_cons_zero, List.set_cons_succ]
    refine takeH (i := 3) (v := ?_) rfl (by kernel_rfl) (by kernel_rfl) (by kernel_rfl) (fun _ _ _ h => h) (by rfl) ?_ HC.out ?_
    rotate_left
    · intro W hW; obtain ⟨c0, c1, c2, c3, c4, c5, c6, c7, c8, c9, c10, c11, c12, c13, c14⟩ := HL.out W hW; go_simp <;> with_reducible rfl
    simp only [Act.put, List.setIfInBounds_toArray, List.set_cons_zero, List.set_cons_succ]
    refine takeH (i := 4) (v := ?_) rfl (by kernel_rfl) (by kernel_rfl) (by kernel_rfl) (fun _ _ _ h => h) (by rfl) ?_ HC.out ?_
    rotate_left
    · intro W hW; obtain ⟨c0, c1, c2, c3, c4, c5, c6, c7, c8, c9, c10, c11, c12, c13, c14⟩ := HL.out W hW; go_simp <;> with_reducible rfl
    simp only [Act.put, List.setIfInBounds_toArray, List.set_cons_zero, List.set_cons_succ]
    refine takeH (i := 5) (v := ?_) rfl (by kernel_rfl) (by kernel_rfl) (by kernel_rfl) (fun _ _ _ h => h) (by rfl) ?_ HC.out ?_
    rotate_left
    · intro W hW; obtain ⟨c0, c1, c2, c3, c4, c5, c6, c7, c8, c9, c10, c11, c12, c13, c14⟩ := HL.out W hW; go_simp <;> with_reducible rfl
    simp only [Act.put, List.setIfInBounds_toArray, List.set_cons_zero, List.set_cons_succ]
    refine takeH (i := 6) (v := ?_) rfl (by kernel_rfl) (by kernel_rfl) (by kernel_rfl) (fun _ _ _ h => h) (by rfl) ?_ HC.out ?_
    rotate_left
    · intro W hW; obtain ⟨c0, c1, c2, c3, c4, c5, c6, c7, c8, c9, c10, c11, c12, c13, c14⟩ := HL.out W hW; go_simp <;> with_reducible rfl
    simp only [Act.put, List.setIfInBounds_toArray, List.set_cons_zero, List.set_cons_succ]
    refine takeH (i := 7) (v := ?_) rfl (by kernel_rfl) (by kernel_rfl) (by kernel_rfl) (fun _ _ _ h => h) (by rfl) ?_ HC.out ?_
    rotate_left
    · intro W hW; obtain ⟨c0, c1, c2, c3, c4, c5, c6, c7, c8, c9, c10, c11, c12, c13, c14⟩ := HL.out W hW; go_simp <;> with_reducible rfl
    simp only [Act.put, List.setIfInBounds_toArray, List.set_cons_zero, List.set_cons_succ]
    refine takeH (i := 8) (v := ?_) rfl (by kernel_rfl) (by kernel_rfl) (by kernel_rfl) (fun _ _ _ h => h) (by rfl) ?_ HC.out ?_
    rotate_left
    · intro W hW; obtain ⟨c0, c1, c2, c3, c4, c5, c6, c7, c8, c9, c10, c11, c12, c13, c14⟩ := HL.out W hW; go_simp <;> with_reducible rfl
    simp only [Act.put, List.setIfInBounds_toArray, List.set_cons_zero, List.set_cons_succ]
    refine takeH (i := 9) (v := ?_) rfl (by kernel_rfl) (by kernel_rfl) (by kernel_rfl) (fun _ _ _ h => h) (by rfl) ?_ HC.out ?_
    rotate_left
    · intro W hW; obtain ⟨c0, c1, c2, c3, c4, c5, c6, c7, c8, c9, c10, c11, c12, c13, c14⟩ := HL.out W hW; go_simp <;> with_reducible rfl
    simp only [Act.put, List.setIfInBounds_toArray, List.set_cons_zero, List.set_cons_succ]
    refine oneH (i := 10) rfl (by kernel_rfl) (by rfl) (fun K hK => ?_)
    go_simp
    go_at_call 27
    refine (HF.out _).mono ?_
    rintro e w1 ⟨rfl, b1⟩
    have HC2 := Lib.hid (HC.out.under b1)
    clear HC
    have HC := HC2
    clear HC2 b1
    refine hK.out _ _ HC.out (fun _ => ?_)
    clear hK K
    refine takeH (i := 11) (v := ?_) rfl (by kernel_rfl) (by kernel_rfl) (by kernel_rfl) (fun _ _ _ h => h) (by rfl) ?_ HC.out ?_
    rotate_left
    · intro W hW; obtain ⟨c0, c1, c2, c3, c4, c5, c6, c7, c8, c9, c10, c11, c12, c13, c14⟩ := HL.out W hW; go_simp <;> with_reducible rfl
    simp only [Act.put, List.setIfInBounds_toArray, List.set_cons_zero, List.set_cons_succ]
    refine takeH (i := 12) (v := ?_) rfl (by kernel_rfl) (by kernel_rfl) (by kernel_rfl) (fun _ _ _ h => h) (by rfl) ?_ HC.out ?_
    rotate_left
    · intro W hW; obtain ⟨c0, c1, c2, c3, c4, c5, c6, c7, c8, c9, c10, c11, c12, c13, c14⟩ := HL.out W hW; go_simp <;> with_reducible rfl
    simp only [Act.put, List.setIfInBounds_toArray, List.set_cons_zero, List.set_cons_succ]
    refine takeH (i := 13) (v := ?_) rfl (by kernel_rfl) (by kernel_rfl) (by kernel_rfl) (fun _ _ _ h => h) (by rfl) ?_ HC.out ?_
    rotate_left
    · intro W hW; obtain ⟨c0, c1, c2, c3, c4, c5, c6, c7, c8, c9, c10, c11, c12, c13, c14⟩ := HL.out W hW; go_simp <;> with_reducible rfl
    simp only [Act.put, List.setIfInBounds_toArray, List.set_cons_zero, List.set_cons_succ]
    refine takeH (i := 14) (v := ?_) rfl (by kernel_rfl) (by kernel_rfl) (by kernel_rfl) (fun _ _ _ h => h) (by rfl) ?_ HC.out ?_
    rotate_left
    · intro W hW; obtain ⟨c0, c1, c2, c3, c4, c5, c6, c7, c8, c9, c10, c11, c12, c13, c14⟩ := HL.out W hW; go_simp <;> with_reducible rfl
    simp only [Act.put, List.setIfInBounds_toArray, List.set_cons_zero, List.set_cons_succ]
    refine wpAnyH_done (by kernel_rfl) ?_ _
    go_wp2_with fail
    go_ret
    exact ⟨by rw [HR.out]; rfl, HC.out.2⟩

end Go.Proofs.YtdjieigmncoooaaDoor
