/-
  Texts that the walks of the statements over logs lean on, joined (BrRight, RowEdit). Conditions: those that each theorem names.
-/
import Derived.Test.YtdaimejlcfhfiaaGreatDoorJ0
import Derived.Test.YtdaimejlcfhfiaaGreatDoorJ1
import Derived.Test.YtdaimejlcfhfiaaGreatDoorJ5
import Derived.Laws.CopyRow
import Derived.Lib.AppendZerosOnto

/-
  The walk of 'Right' of package brain. Conditions: those that each theorem names.
-/
namespace Go.Proofs.YtdaimejlcfhfiaaGreatDoor
open Go.RowKit Go.Shelf

/-- What Right's walk carries from call to call. -/
structure RtAt (w : World) (p : Br) (a : Ad) (W : World) : Prop where
  box : Whole W w.heap.size 30 (brC p a)
  rd : RdB_ W w.heap.size p a
  tab : Tab W
  below : Below w.heap.size w W
theorem RtAt.go {w W W' : World} {p : Br} {a : Ad} (h : RtAt w p a W) (hb : Below W.heap.size W W') : RtAt w p a W' :=
  ⟨h.box.under hb, h.rd.below (hb.mono h.below.size), h.tab.under hb, h.below.trans (hb.mono h.below.size)⟩
theorem exec_load_brain {W : World} {g : Nat} {p : Br} {a : Ad} {ρ : Operand → Value} {x : Operand} {dst : Option Tmp} {ty : TypeId} {pos : String} {after : Array Edge} {gd : Option (Nat × Bool)} (hx : ρ x = .pointer (some ⟨g, 0, none⟩)) (h : Whole W g 30 (brC p a)) : (execOp ρ { dst := dst, op := .load 30 x, type := ty, pos := pos, after := after, guard := gd }).run Tryz.prog W = .ok (.value (brV p a)) W := by
  unfold execOp
  simp only [hx, Instr.loadAt, Instr.sureAddr, Sem.run_bind, Sem.run_pure, Result.andThen_ok, run_loadVar_row (P := Tryz.prog) W g 30 30 (brC p a) (0, 0) _ h Tryz.underlying30 rfl (by kernel_rfl)]

set_option maxRecDepth 100000 in
set_option maxHeartbeats 4000000 in
theorem bright_0 (p : Br) (a : Ad) (Z : Nat) (w : World) (hr : RdB_ w Z p a) (hZ : Z ≤ w.heap.size) (_ : p.its.length ≤ 1000) (_ : p.kps.length ≤ 1000) (hT : Tab w) (t0 : numsF 0 [p.ep, p.sq] = false) :
    Calls Tryz.prog 21 #[brV p a] w (BoolPost (rightBb p) w) := by
  obtain ⟨V, hV⟩ : ∃ V, w.alloc (.cells (brC p a) 30) = V := ⟨_, rfl⟩
  have hw : Whole V w.heap.size 30 (brC p a) := by rw [← hV]; exact Whole.new _ _ _
  have hb : Below w.heap.size w V := by rw [← hV]; exact (Below.refl _ _).alloc (Nat.le_refl _) _
  have HV := Lib.hid hV
  have H0 := Lib.hid (show RtAt w p a V.drew from (⟨hw, (hr.more hZ).below hb, hT.under hb, hb⟩ : RtAt w p a V).go (below_drewB (Below.refl _ V) 1))
  have HF := Lib.hid (show rightBb p = false by unfold rightBb; rw [← numsF0, t0, Bool.false_and])
  clear hr hZ hT hV hw hb
  go_enter Tryz.func21, Tryz.ntmps21
  go_upto_region 1 with fail
  refine wpV (fun V2 hV2 => ?_)
  obtain rfl : V = V2 := HV.out.symm.trans hV2
  clear HV hV2
  have HT : Hid ((fun V' => Whole V' w.heap.size 30 (brC p a)) V.drew) := Lib.hid H0.out.box
  have HL : Hid (∀ V', Whole V' w.heap.size 30 (brC p a) → V'.cell? ⟨w.heap.size, 0, none⟩ = some (.int .i64 p.ep) ∧ V'.cell? ⟨w.heap.size, 1, none⟩ = some (.int .i64 p.sq) ∧ V'.cell? ⟨w.heap.size, 19, none⟩ = some (.slice a.B p.kps.length a.d) ∧ V'.cell? ⟨w.heap.size, 20, none⟩ = some (.int .u8 p.rf.st) ∧ V'.cell? ⟨w.heap.size, 21, none⟩ = some (.int .i64 p.rf.fr) ∧ V'.cell? ⟨w.heap.size, 22, none⟩ = some (.int .i64 p.rf.to_) ∧ V'.cell? ⟨w.heap.size, 23, none⟩ = some (.int .i64 p.rf.step) ∧ V'.cell? ⟨w.heap.size, 24, none⟩ = some (.bool p.rf.paused) ∧ V'.cell? ⟨w.heap.size, 25, none⟩ = some (.int .i64 p.rf.since) ∧ V'.cell? ⟨w.heap.size, 26, none⟩ = some (.int .i64 p.rf.fails)) := Lib.hid (fun V' h => ⟨h.cell 0, h.cell 1, h.cell 19, h.cell 20, h.cell 21, h.cell 22, h.cell 23, h.cell 24, h.cell 25, h.cell 26⟩)
  refine wp_region_T (ls := []) (T := (fun V' => Whole V' w.heap.size 30 (brC p a))) (by kernel_rfl) ?_
  refine takeT (i := 0) (v := ?_) rfl (by kernel_rfl) (by kernel_rfl) (by kernel_rfl) (by kernel_rfl) (fun _ _ _ h => h) (by rfl) ?_ HT.out ?_
  rotate_left
  · intro V' hV; obtain ⟨d0, d1, d19, d20, d21, d22, d23, d24, d25, d26⟩ := HL.out V' hV; go_simp <;> with_reducible rfl
  simp only [Act.put, List.setIfInBounds_toArray, List.set_cons_zero, List.set_cons_succ]
  refine takeT (i := 1) (v := ?_) rfl (by kernel_rfl) (by kernel_rfl) (by kernel_rfl) (by kernel_rfl) (fun _ _ _ h => h) (by rfl) ?_ HT.out ?_
  rotate_left
  · intro V' hV; obtain ⟨d0, d1, d19, d20, d21, d22, d23, d24, d25, d26⟩ := HL.out V' hV; go_simp <;> with_reducible rfl
  simp only [Act.put, List.setIfInBounds_toArray, List.set_cons_zero, List.set_cons_succ]
  refine takeT (i := 2) (v := ?_) rfl (by kernel_rfl) (by kernel_rfl) (by kernel_rfl) (by kernel_rfl) (fun _ _ _ h => h) (by rfl) ?_ HT.out ?_
  rotate_left
  · intro V' hV; obtain ⟨d0, d1, d19, d20, d21, d22, d23, d24, d25, d26⟩ := HL.out V' hV; go_simp <;> with_reducible rfl
  simp only [Act.put, List.setIfInBounds_toArray, List.set_cons_zero, List.set_cons_succ]
  refine takeT (i := 3) (v := ?_) rfl (by kernel_rfl) (by kernel_rfl) (by kernel_rfl) (by kernel_rfl) (fun _ _ _ h => h) (by rfl) ?_ HT.out ?_
  rotate_left
  · intro V' hV; obtain ⟨d0, d1, d19, d20, d21, d22, d23, d24, d25, d26⟩ := HL.out V' hV; go_simp <;> with_reducible rfl
  simp only [Act.put, List.setIfInBounds_toArray, List.set_cons_zero, List.set_cons_succ]
  obtain ⟨w1_, hW1⟩ : ∃ W, V.drew.alloc (.cells #[.int .i64 p.ep, .int .i64 p.sq] 3) = W := ⟨_, rfl⟩
  have hb_ : Below V.drew.heap.size V.drew w1_ := by rw [← hW1]; exact (Below.refl _ _).alloc (Nat.le_refl _) _
  have hR1 := rd_lit_at V.drew [.int .i64 p.ep, .int .i64 p.sq] 3 2 V.drew.heap.size rfl rfl
  rw [hW1] at hR1
  have HR1 := Lib.hid hR1
  clear hR1
  refine oneT (i := 4) rfl (by kernel_rfl) (by rfl) (fun K hK => ?_)
  go_simp
  clear hW1
  have H1 := Lib.hid (H0.out.go hb_)
  clear hb_ H0 HT
  have HT : Hid ((fun V' => Whole V' w.heap.size 30 (brC p a)) w1_) := Lib.hid H1.out.box
  refine hK.out _ _ (fun _ => HT.out) ?_
  clear hK K
  refine oneT (i := 5) rfl (by kernel_rfl) (by rfl) (fun K hK => ?_)
  go_simp
  refine (bnumbers_any 0 _ 2 2 [p.ep, p.sq] _ _ HR1.out (by omega)).mono ?_
  rintro e w2_ ⟨rfl, hw_⟩
  have hb_ : Below w1_.heap.size w1_ w2_ := by rw [hw_]; exact Below.refl _ _
  clear hw_ HR1
  rw [t0]
  have H2 := Lib.hid (H1.out.go hb_)
  clear hb_ H1 HT
  have HT : Hid ((fun V' => Whole V' w.heap.size 30 (brC p a)) w2_) := Lib.hid H2.out.box
  refine hK.out _ _ (fun _ => HT.out) ?_
  clear hK K
  refine takeP (i := 6) (v := ?_) rfl (by kernel_rfl) (by kernel_rfl) (by kernel_rfl) (by kernel_rfl) (fun _ _ _ h => h) (by rfl) ?_ (fun _ => HT.out) ?_
  rotate_left
  · intro V'; go_simp <;> with_reducible rfl
  simp only [Act.put, List.setIfInBounds_toArray, List.set_cons_zero, List.set_cons_succ]
  refine skipT (i := 7) rfl (by kernel_rfl) (by kernel_rfl) (by kernel_rfl) (by kernel_rfl) (fun _ _ _ h => h) (by rfl) (fun _ => HT.out) ?_
  simp only [Act.put, List.setIfInBounds_toArray, List.set_cons_zero, List.set_cons_succ]
  refine skipT (i := 8) rfl (by kernel_rfl) (by kernel_rfl) (by kernel_rfl) (by kernel_rfl) (fun _ _ _ h => h) (by rfl) (fun _ => HT.out) ?_
  simp only [Act.put, List.setIfInBounds_toArray, List.set_cons_zero, List.set_cons_succ]
  refine skipT (i := 9) rfl (by kernel_rfl) (by kernel_rfl) (by kernel_rfl) (by kernel_rfl) (fun _ _ _ h => h) (by rfl) (fun _ => HT.out) ?_
  simp only [Act.put, List.setIfInBounds_toArray, List.set_cons_zero, List.set_cons_succ]
  refine skipT (i := 10) rfl (by kernel_rfl) (by kernel_rfl) (by kernel_rfl) (by kernel_rfl) (fun _ _ _ h => h) (by rfl) (fun _ => HT.out) ?_
  simp only [Act.put, List.setIfInBounds_toArray, List.set_cons_zero, List.set_cons_succ]
  refine skipT (i := 11) rfl (by kernel_rfl) (by kernel_rfl) (by kernel_rfl) (by kernel_rfl) (fun _ _ _ h => h) (by rfl) (fun _ => HT.out) ?_
  simp only [Act.put, List.setIfInBounds_toArray, List.set_cons_zero, List.set_cons_succ]
  refine takeP (i := 12) (v := ?_) rfl (by kernel_rfl) (by kernel_rfl) (by kernel_rfl) (by kernel_rfl) (fun _ _ _ h => h) (by rfl) ?_ (fun _ => HT.out) ?_
  rotate_left
  · intro V'; go_simp <;> with_reducible rfl
  simp only [Act.put, List.setIfInBounds_toArray, List.set_cons_zero, List.set_cons_succ]
  refine takeP (i := 13) (v := ?_) rfl (by kernel_rfl) (by kernel_rfl) (by kernel_rfl) (by kernel_rfl) (fun _ _ _ h => h) (by rfl) ?_ (fun _ => HT.out) ?_
  rotate_left
  · intro V'; go_simp <;> with_reducible rfl
  simp only [Act.put, List.setIfInBounds_toArray, List.set_cons_zero, List.set_cons_succ]
  refine skipT (i := 14) rfl (by kernel_rfl) (by kernel_rfl) (by kernel_rfl) (by kernel_rfl) (fun _ _ _ h => h) (by rfl) (fun _ => HT.out) ?_
  simp only [Act.put, List.setIfInBounds_toArray, List.set_cons_zero, List.set_cons_succ]
  refine skipT (i := 15) rfl (by kernel_rfl) (by kernel_rfl) (by kernel_rfl) (by kernel_rfl) (fun _ _ _ h => h) (by rfl) (fun _ => HT.out) ?_
  simp only [Act.put, List.setIfInBounds_toArray, List.set_cons_zero, List.set_cons_succ]
  refine skipT (i := 16) rfl (by kernel_rfl) (by kernel_rfl) (by kernel_rfl) (by kernel_rfl) (fun _ _ _ h => h) (by rfl) (fun _ => HT.out) ?_
  simp only [Act.put, List.setIfInBounds_toArray, List.set_cons_zero, List.set_cons_succ]
  refine takeP (i := 17) (v := ?_) rfl (by kernel_rfl) (by kernel_rfl) (by kernel_rfl) (by kernel_rfl) (fun _ _ _ h => h) (by rfl) ?_ (fun _ => HT.out) ?_
  rotate_left
  · intro V'; go_simp <;> with_reducible rfl
  simp only [Act.put, List.setIfInBounds_toArray, List.set_cons_zero, List.set_cons_succ]
  refine takeP (i := 18) (v := ?_) rfl (by kernel_rfl) (by kernel_rfl) (by kernel_rfl) (by kernel_rfl) (fun _ _ _ h => h) (by rfl) ?_ (fun _ => HT.out) ?_
  rotate_left
  · intro V'; go_simp <;> with_reducible rfl
  simp only [Act.put, List.setIfInBounds_toArray, List.set_cons_zero, List.set_cons_succ]
  refine skipT (i := 19) rfl (by kernel_rfl) (by kernel_rfl) (by kernel_rfl) (by kernel_rfl) (fun _ _ _ h => h) (by rfl) (fun _ => HT.out) ?_
  simp only [Act.put, List.setIfInBounds_toArray, List.set_cons_zero, List.set_cons_succ]
  refine skipT (i := 20) rfl (by kernel_rfl) (by kernel_rfl) (by kernel_rfl) (by kernel_rfl) (fun _ _ _ h => h) (by rfl) (fun _ => HT.out) ?_
  simp only [Act.put, List.setIfInBounds_toArray, List.set_cons_zero, List.set_cons_succ]
  refine skipT (i := 21) rfl (by kernel_rfl) (by kernel_rfl) (by kernel_rfl) (by kernel_rfl) (fun _ _ _ h => h) (by rfl) (fun _ => HT.out) ?_
  simp only [Act.put, List.setIfInBounds_toArray, List.set_cons_zero, List.set_cons_succ]
  refine takeP (i := 22) (v := ?_) rfl (by kernel_rfl) (by kernel_rfl) (by kernel_rfl) (by kernel_rfl) (fun _ _ _ h => h) (by rfl) ?_ (fun _ => HT.out) ?_
  rotate_left
  · intro V'; go_simp <;> with_reducible rfl
  simp only [Act.put, List.setIfInBounds_toArray, List.set_cons_zero, List.set_cons_succ]
  refine takeP (i := 23) (v := ?_) rfl (by kernel_rfl) (by kernel_rfl) (by kernel_rfl) (by kernel_rfl) (fun _ _ _ h => h) (by rfl) ?_ (fun _ => HT.out) ?_
  rotate_left
  · intro V'; go_simp <;> with_reducible rfl
  simp only [Act.put, List.setIfInBounds_toArray, List.set_cons_zero, List.set_cons_succ]
  refine skipT (i := 24) rfl (by kernel_rfl) (by kernel_rfl) (by kernel_rfl) (by kernel_rfl) (fun _ _ _ h => h) (by rfl) (fun _ => HT.out) ?_
  simp only [Act.put, List.setIfInBounds_toArray, List.set_cons_zero, List.set_cons_succ]
  refine skipT (i := 25) rfl (by kernel_rfl) (by kernel_rfl) (by kernel_rfl) (by kernel_rfl) (fun _ _ _ h => h) (by rfl) (fun _ => HT.out) ?_
  simp only [Act.put, List.setIfInBounds_toArray, List.set_cons_zero, List.set_cons_succ]
  refine skipT (i := 26) rfl (by kernel_rfl) (by kernel_rfl) (by kernel_rfl) (by kernel_rfl) (fun _ _ _ h => h) (by rfl) (fun _ => HT.out) ?_
  simp only [Act.put, List.setIfInBounds_toArray, List.set_cons_zero, List.set_cons_succ]
  refine takeP (i := 27) (v := ?_) rfl (by kernel_rfl) (by kernel_rfl) (by kernel_rfl) (by kernel_rfl) (fun _ _ _ h => h) (by rfl) ?_ (fun _ => HT.out) ?_
  rotate_left
  · intro V'; go_simp <;> with_reducible rfl
  simp only [Act.put, List.setIfInBounds_toArray, List.set_cons_zero, List.set_cons_succ]
  refine takeP (i := 28) (v := ?_) rfl (by kernel_rfl) (by kernel_rfl) (by kernel_rfl) (by kernel_rfl) (fun _ _ _ h => h) (by rfl) ?_ (fun _ => HT.out) ?_
  rotate_left
  · intro V'; go_simp <;> with_reducible rfl
  simp only [Act.put, List.setIfInBounds_toArray, List.set_cons_zero, List.set_cons_succ]
  refine skipT (i := 29) rfl (by kernel_rfl) (by kernel_rfl) (by kernel_rfl) (by kernel_rfl) (fun _ _ _ h => h) (by rfl) (fun _ => HT.out) ?_
  simp only [Act.put, List.setIfInBounds_toArray, List.set_cons_zero, List.set_cons_succ]
  refine skipT (i := 30) rfl (by kernel_rfl) (by kernel_rfl) (by kernel_rfl) (by kernel_rfl) (fun _ _ _ h => h) (by rfl) (fun _ => HT.out) ?_
  simp only [Act.put, List.setIfInBounds_toArray, List.set_cons_zero, List.set_cons_succ]
  refine takeP (i := 31) (v := ?_) rfl (by kernel_rfl) (by kernel_rfl) (by kernel_rfl) (by kernel_rfl) (fun _ _ _ h => h) (by rfl) ?_ (fun _ => HT.out) ?_
  rotate_left
  · intro V'; go_simp <;> with_reducible rfl
  simp only [Act.put, List.setIfInBounds_toArray, List.set_cons_zero, List.set_cons_succ]
  refine oneT (i := 32) rfl (by kernel_rfl) (by rfl) (fun K hK => ?_)
  go_simp
  refine hK.out _ _ (fun _ => HT.out) ?_
  clear hK K
  refine doneT (by kernel_rfl) ?_ _
  go_wp2_with fail
  go_ret
  exact ⟨by rw [HF.out]; rfl, H2.out.below⟩

set_option maxRecDepth 100000 in
set_option maxHeartbeats 4000000 in
theorem bright_1 (p : Br) (a : Ad) (Z : Nat) (w : World) (hr : RdB_ w Z p a) (hZ : Z ≤ w.heap.size) (hi : p.its.length ≤ 1000) (_ : p.kps.length ≤ 1000) (hT : Tab w) (t0 : numsF 0 [p.ep, p.sq] = true) (t1 : risF p.sq 0 (p.its.map It.tok) = false) :
    Calls Tryz.prog 21 #[brV p a] w (BoolPost (rightBb p) w) := by
  obtain ⟨V, hV⟩ : ∃ V, w.alloc (.cells (brC p a) 30) = V := ⟨_, rfl⟩
  have hw : Whole V w.heap.size 30 (brC p a) := by rw [← hV]; exact Whole.new _ _ _
  have hb : Below w.heap.size w V := by rw [← hV]; exact (Below.refl _ _).alloc (Nat.le_refl _) _
  have HV := Lib.hid hV
  have H0 := Lib.hid (show RtAt w p a V.drew from (⟨hw, (hr.more hZ).below hb, hT.under hb, hb⟩ : RtAt w p a V).go (below_drewB (Below.refl _ V) 1))
  have HF := Lib.hid (show rightBb p = false by unfold rightBb; rw [← numsF0, t0, itsOk_ris, t1, Bool.false_and, Bool.and_false])
  clear hr hZ hT hV hw hb
  go_enter Tryz.func21, Tryz.ntmps21
  go_upto_region 1 with fail
  refine wpV (fun V2 hV2 => ?_)
  obtain rfl : V = V2 := HV.out.symm.trans hV2
  clear HV hV2
  have HT : Hid ((fun V' => Whole V' w.heap.size 30 (brC p a)) V.drew) := Lib.hid H0.out.box
  have HL : Hid (∀ V', Whole V' w.heap.size 30 (brC p a) → V'.cell? ⟨w.heap.size, 0, none⟩ = some (.int .i64 p.ep) ∧ V'.cell? ⟨w.heap.size, 1, none⟩ = some (.int .i64 p.sq) ∧ V'.cell? ⟨w.heap.size, 19, none⟩ = some (.slice a.B p.kps.length a.d) ∧ V'.cell? ⟨w.heap.size, 20, none⟩ = some (.int .u8 p.rf.st) ∧ V'.cell? ⟨w.heap.size, 21, none⟩ = some (.int .i64 p.rf.fr) ∧ V'.cell? ⟨w.heap.size, 22, none⟩ = some (.int .i64 p.rf.to_) ∧ V'.cell? ⟨w.heap.size, 23, none⟩ = some (.int .i64 p.rf.step) ∧ V'.cell? ⟨w.heap.size, 24, none⟩ = some (.bool p.rf.paused) ∧ V'.cell? ⟨w.heap.size, 25, none⟩ = some (.int .i64 p.rf.since) ∧ V'.cell? ⟨w.heap.size, 26, none⟩ = some (.int .i64 p.rf.fails)) := Lib.hid (fun V' h => ⟨h.cell 0, h.cell 1, h.cell 19, h.cell 20, h.cell 21, h.cell 22, h.cell 23, h.cell 24, h.cell 25, h.cell 26⟩)
  refine wp_region_T (ls := []) (T := (fun V' => Whole V' w.heap.size 30 (brC p a))) (by kernel_rfl) ?_
  refine takeT (i := 0) (v := ?_) rfl (by kernel_rfl) (by kernel_rfl) (by kernel_rfl) (by kernel_rfl) (fun _ _ _ h => h) (by rfl) ?_ HT.out ?_
  rotate_left
  · intro V' hV; obtain ⟨d0, d1, d19, d20, d21, d22, d23, d24, d25, d26⟩ := HL.out V' hV; go_simp <;> with_reducible rfl
  simp only [Act.put, List.setIfInBounds_toArray, List.set_cons_zero, List.set_cons_succ]
  refine takeT (i := 1) (v := ?_) rfl (by kernel_rfl) (by kernel_rfl) (by kernel_rfl) (by kernel_rfl) (fun _ _ _ h => h) (by rfl) ?_ HT.out ?_
  rotate_left
  · intro V' hV; obtain ⟨d0, d1, d19, d20, d21, d22, d23, d24, d25, d26⟩ := HL.out V' hV; go_simp <;> with_reducible rfl
  simp only [Act.put, List.setIfInBounds_toArray, List.set_cons_zero, List.set_cons_succ]
  refine takeT (i := 2) (v := ?_) rfl (by kernel_rfl) (by kernel_rfl) (by kernel_rfl) (by kernel_rfl) (fun _ _ _ h => h) (by rfl) ?_ HT.out ?_
  rotate_left
  · intro V' hV; obtain ⟨d0, d1, d19, d20, d21, d22, d23, d24, d25, d26⟩ := HL.out V' hV; go_simp <;> with_reducible rfl
  simp only [Act.put, List.setIfInBounds_toArray, List.set_cons_zero, List.set_cons_succ]
  refine takeT (i := 3) (v := ?_) rfl (by kernel_rfl) (by kernel_rfl) (by kernel_rfl) (by kernel_rfl) (fun _ _ _ h => h) (by rfl) ?_ HT.out ?_
  rotate_left
  · intro V' hV; obtain ⟨d0, d1, d19, d20, d21, d22, d23, d24, d25, d26⟩ := HL.out V' hV; go_simp <;> with_reducible rfl
  simp only [Act.put, List.setIfInBounds_toArray, List.set_cons_zero, List.set_cons_succ]
  obtain ⟨w1_, hW1⟩ : ∃ W, V.drew.alloc (.cells #[.int .i64 p.ep, .int .i64 p.sq] 3) = W := ⟨_, rfl⟩
  have hb_ : Below V.drew.heap.size V.drew w1_ := by rw [← hW1]; exact (Below.refl _ _).alloc (Nat.le_refl _) _
  have hR1 := rd_lit_at V.drew [.int .i64 p.ep, .int .i64 p.sq] 3 2 V.drew.heap.size rfl rfl
  rw [hW1] at hR1
  have HR1 := Lib.hid hR1
  clear hR1
  refine oneT (i := 4) rfl (by kernel_rfl) (by rfl) (fun K hK => ?_)
  go_simp
  clear hW1
  have H1 := Lib.hid (H0.out.go hb_)
  clear hb_ H0 HT
  have HT : Hid ((fun V' => Whole V' w.heap.size 30 (brC p a)) w1_) := Lib.hid H1.out.box
  refine hK.out _ _ (fun _ => HT.out) ?_
  clear hK K
  refine oneT (i := 5) rfl (by kernel_rfl) (by rfl) (fun K hK => ?_)
  go_simp
  refine (bnumbers_any 0 _ 2 2 [p.ep, p.sq] _ _ HR1.out (by omega)).mono ?_
  rintro e w2_ ⟨rfl, hw_⟩
  have hb_ : Below w1_.heap.size w1_ w2_ := by rw [hw_]; exact Below.refl _ _
  clear hw_ HR1
  rw [t0]
  have H2 := Lib.hid (H1.out.go hb_)
  clear hb_ H1 HT
  have HT : Hid ((fun V' => Whole V' w.heap.size 30 (brC p a)) w2_) := Lib.hid H2.out.box
  refine hK.out _ _ (fun _ => HT.out) ?_
  clear hK K
  refine takeP (i := 6) (v := ?_) rfl (by kernel_rfl) (by kernel_rfl) (by kernel_rfl) (by kernel_rfl) (fun _ _ _ h => h) (by rfl) ?_ (fun _ => HT.out) ?_
  rotate_left
  · intro V'; go_simp <;> with_reducible rfl
  simp only [Act.put, List.setIfInBounds_toArray, List.set_cons_zero, List.set_cons_succ]
  refine takeT (i := 7) (v := brV p a) rfl (by kernel_rfl) (by kernel_rfl) (by kernel_rfl) (by kernel_rfl) (fun _ _ _ h => h) (by rfl) ?_ HT.out ?_
  · intro V' hV; exact exec_load_brain rfl hV
  simp only [Act.put, List.setIfInBounds_toArray, List.set_cons_zero, List.set_cons_succ]
  refine takeT (i := 9) (v := ?_) rfl (by kernel_rfl) (by kernel_rfl) (by kernel_rfl) (by kernel_rfl) (fun _ _ _ h => h) (by rfl) ?_ HT.out ?_
  rotate_left
  · intro V' hV; obtain ⟨d0, d1, d19, d20, d21, d22, d23, d24, d25, d26⟩ := HL.out V' hV; go_simp <;> with_reducible rfl
  simp only [Act.put, List.setIfInBounds_toArray, List.set_cons_zero, List.set_cons_succ]
  refine takeT (i := 10) (v := ?_) rfl (by kernel_rfl) (by kernel_rfl) (by kernel_rfl) (by kernel_rfl) (fun _ _ _ h => h) (by rfl) ?_ HT.out ?_
  rotate_left
  · intro V' hV; obtain ⟨d0, d1, d19, d20, d21, d22, d23, d24, d25, d26⟩ := HL.out V' hV; go_simp <;> with_reducible rfl
  simp only [Act.put, List.setIfInBounds_toArray, List.set_cons_zero, List.set_cons_succ]
  refine oneT (i := 8) rfl (by kernel_rfl) (by rfl) (fun K hK => ?_)
  go_simp
  refine (tokens_any p a _).mono ?_
  rintro e w3_ ⟨b1, b2, rfl, g1, g2, g3, g4, hb_⟩
  have HQ1 := Lib.hid (show SeqI 114 b1 b2 (p.its.map It.tok) w3_ from itSeq hi g1 g2 g3 g4 ((H2.out.go hb_).rd.its.more (H2.out.go hb_).below.size))
  clear g1 g2 g3 g4
  have H3 := Lib.hid (H2.out.go hb_)
  clear hb_ H2 HT
  have HT : Hid ((fun V' => Whole V' w.heap.size 30 (brC p a)) w3_) := Lib.hid H3.out.box
  refine hK.out _ _ (fun _ => HT.out) ?_
  clear hK K
  refine oneT (i := 11) rfl (by kernel_rfl) (by rfl) (fun K hK => ?_)
  go_simp
  refine (rising_any 114 b1 b2 (p.its.map It.tok) p.sq _ (enters_of Tryz.func114 (by kernel_rfl) rfl) HQ1.out).mono ?_
  rintro e w4_ ⟨rfl, hb_⟩
  clear HQ1
  rw [t1]
  have H4 := Lib.hid (H3.out.go hb_)
  clear hb_ H3 HT
  have HT : Hid ((fun V' => Whole V' w.heap.size 30 (brC p a)) w4_) := Lib.hid H4.out.box
  refine hK.out _ _ (fun _ => HT.out) ?_
  clear hK K
  refine takeP (i := 12) (v := ?_) rfl (by kernel_rfl) (by kernel_rfl) (by kernel_rfl) (by kernel_rfl) (fun _ _ _ h => h) (by rfl) ?_ (fun _ => HT.out) ?_
  rotate_left
  · intro V'; go_simp <;> with_reducible rfl
  simp only [Act.put, List.setIfInBounds_toArray, List.set_cons_zero, List.set_cons_succ]
  refine takeP (i := 13) (v := ?_) rfl (by kernel_rfl) (by kernel_rfl) (by kernel_rfl) (by kernel_rfl) (fun _ _ _ h => h) (by rfl) ?_ (fun _ => HT.out) ?_
  rotate_left
  · intro V'; go_simp <;> with_reducible rfl
  simp only [Act.put, List.setIfInBounds_toArray, List.set_cons_zero, List.set_cons_succ]
  refine skipT (i := 14) rfl (by kernel_rfl) (by kernel_rfl) (by kernel_rfl) (by kernel_rfl) (fun _ _ _ h => h) (by rfl) (fun _ => HT.out) ?_
  simp only [Act.put, List.setIfInBounds_toArray, List.set_cons_zero, List.set_cons_succ]
  refine skipT (i := 15) rfl (by kernel_rfl) (by kernel_rfl) (by kernel_rfl) (by kernel_rfl) (fun _ _ _ h => h) (by rfl) (fun _ => HT.out) ?_
  simp only [Act.put, List.setIfInBounds_toArray, List.set_cons_zero, List.set_cons_succ]
  refine skipT (i := 16) rfl (by kernel_rfl) (by kernel_rfl) (by kernel_rfl) (by kernel_rfl) (fun _ _ _ h => h) (by rfl) (fun _ => HT.out) ?_
  simp only [Act.put, List.setIfInBounds_toArray, List.set_cons_zero, List.set_cons_succ]
  refine takeP (i := 17) (v := ?_) rfl (by kernel_rfl) (by kernel_rfl) (by kernel_rfl) (by kernel_rfl) (fun _ _ _ h => h) (by rfl) ?_ (fun _ => HT.out) ?_
  rotate_left
  · intro V'; go_simp <;> with_reducible rfl
  simp only [Act.put, List.setIfInBounds_toArray, List.set_cons_zero, List.set_cons_succ]
  refine takeP (i := 18) (v := ?_) rfl (by kernel_rfl) (by kernel_rfl) (by kernel_rfl) (by kernel_rfl) (fun _ _ _ h => h) (by rfl) ?_ (fun _ => HT.out) ?_
  rotate_left
  · intro V'; go_simp <;> with_reducible rfl
  simp only [Act.put, List.setIfInBounds_toArray, List.set_cons_zero, List.set_cons_succ]
  refine skipT (i := 19) rfl (by kernel_rfl) (by kernel_rfl) (by kernel_rfl) (by kernel_rfl) (fun _ _ _ h => h) (by rfl) (fun _ => HT.out) ?_
  simp only [Act.put, List.setIfInBounds_toArray, List.set_cons_zero, List.set_cons_succ]
  refine skipT (i := 20) rfl (by kernel_rfl) (by kernel_rfl) (by kernel_rfl) (by kernel_rfl) (fun _ _ _ h => h) (by rfl) (fun _ => HT.out) ?_
  simp only [Act.put, List.setIfInBounds_toArray, List.set_cons_zero, List.set_cons_succ]
  refine skipT (i := 21) rfl (by kernel_rfl) (by kernel_rfl) (by kernel_rfl) (by kernel_rfl) (fun _ _ _ h => h) (by rfl) (fun _ => HT.out) ?_
  simp only [Act.put, List.setIfInBounds_toArray, List.set_cons_zero, List.set_cons_succ]
  refine takeP (i := 22) (v := ?_) rfl (by kernel_rfl) (by kernel_rfl) (by kernel_rfl) (by kernel_rfl) (fun _ _ _ h => h) (by rfl) ?_ (fun _ => HT.out) ?_
  rotate_left
  · intro V'; go_simp <;> with_reducible rfl
  simp only [Act.put, List.setIfInBounds_toArray, List.set_cons_zero, List.set_cons_succ]
  refine takeP (i := 23) (v := ?_) rfl (by kernel_rfl) (by kernel_rfl) (by kernel_rfl) (by kernel_rfl) (fun _ _ _ h => h) (by rfl) ?_ (fun _ => HT.out) ?_
  rotate_left
  · intro V'; go_simp <;> with_reducible rfl
  simp only [Act.put, List.setIfInBounds_toArray, List.set_cons_zero, List.set_cons_succ]
  refine skipT (i := 24) rfl (by kernel_rfl) (by kernel_rfl) (by kernel_rfl) (by kernel_rfl) (fun _ _ _ h => h) (by rfl) (fun _ => HT.out) ?_
  simp only [Act.put, List.setIfInBounds_toArray, List.set_cons_zero, List.set_cons_succ]
  refine skipT (i := 25) rfl (by kernel_rfl) (by kernel_rfl) (by kernel_rfl) (by kernel_rfl) (fun _ _ _ h => h) (by rfl) (fun _ => HT.out) ?_
  simp only [Act.put, List.setIfInBounds_toArray, List.set_cons_zero, List.set_cons_succ]
  refine skipT (i := 26) rfl (by kernel_rfl) (by kernel_rfl) (by kernel_rfl) (by kernel_rfl) (fun _ _ _ h => h) (by rfl) (fun _ => HT.out) ?_
  simp only [Act.put, List.setIfInBounds_toArray, List.set_cons_zero, List.set_cons_succ]
  refine takeP (i := 27) (v := ?_) rfl (by kernel_rfl) (by kernel_rfl) (by kernel_rfl) (by kernel_rfl) (fun _ _ _ h => h) (by rfl) ?_ (fun _ => HT.out) ?_
  rotate_left
  · intro V'; go_simp <;> with_reducible rfl
  simp only [Act.put, List.setIfInBounds_toArray, List.set_cons_zero, List.set_cons_succ]
  refine takeP (i := 28) (v := ?_) rfl (by kernel_rfl) (by kernel_rfl) (by kernel_rfl) (by kernel_rfl) (fun _ _ _ h => h) (by rfl) ?_ (fun _ => HT.out) ?_
  rotate_left
  · intro V'; go_simp <;> with_reducible rfl
  simp only [Act.put, List.setIfInBounds_toArray, List.set_cons_zero, List.set_cons_succ]
  refine skipT (i := 29) rfl (by kernel_rfl) (by kernel_rfl) (by kernel_rfl) (by kernel_rfl) (fun _ _ _ h => h) (by rfl) (fun _ => HT.out) ?_
  simp only [Act.put, List.setIfInBounds_toArray, List.set_cons_zero, List.set_cons_succ]
  refine skipT (i := 30) rfl (by kernel_rfl) (by kernel_rfl) (by kernel_rfl) (by kernel_rfl) (fun _ _ _ h => h) (by rfl) (fun _ => HT.out) ?_
  simp only [Act.put, List.setIfInBounds_toArray, List.set_cons_zero, List.set_cons_succ]
  refine takeP (i := 31) (v := ?_) rfl (by kernel_rfl) (by kernel_rfl) (by kernel_rfl) (by kernel_rfl) (fun _ _ _ h => h) (by rfl) ?_ (fun _ => HT.out) ?_
  rotate_left
  · intro V'; go_simp <;> with_reducible rfl
  simp only [Act.put, List.setIfInBounds_toArray, List.set_cons_zero, List.set_cons_succ]
  refine oneT (i := 32) rfl (by kernel_rfl) (by rfl) (fun K hK => ?_)
  go_simp
  refine hK.out _ _ (fun _ => HT.out) ?_
  clear hK K
  refine doneT (by kernel_rfl) ?_ _
  go_wp2_with fail
  go_ret
  exact ⟨by rw [HF.out]; rfl, H4.out.below⟩

set_option maxRecDepth 100000 in
set_option maxHeartbeats 4000000 in
theorem bright_2 (p : Br) (a : Ad) (Z : Nat) (w : World) (hr : RdB_ w Z p a) (hZ : Z ≤ w.heap.size) (hi : p.its.length ≤ 1000) (hk : p.kps.length ≤ 1000) (hT : Tab w) (t0 : numsF 0 [p.ep, p.sq] = true) (t1 : risF p.sq 0 (p.its.map It.tok) = true) (t2 : risF brMax 0 (p.kps.map Kp.id) = false) :
    Calls Tryz.prog 21 #[brV p a] w (BoolPost (rightBb p) w) := by
  obtain ⟨V, hV⟩ : ∃ V, w.alloc (.cells (brC p a) 30) = V := ⟨_, rfl⟩
  have hw : Whole V w.heap.size 30 (brC p a) := by rw [← hV]; exact Whole.new _ _ _
  have hb : Below w.heap.size w V := by rw [← hV]; exact (Below.refl _ _).alloc (Nat.le_refl _) _
  have HV := Lib.hid hV
  have H0 := Lib.hid (show RtAt w p a V.drew from (⟨hw, (hr.more hZ).below hb, hT.under hb, hb⟩ : RtAt w p a V).go (below_drewB (Below.refl _ V) 1))
  have HF := Lib.hid (show rightBb p = false by unfold rightBb; rw [← numsF0, t0, itsOk_ris, t1, kpsOk_ris, t2, Bool.false_and, Bool.false_and, Bool.and_false, Bool.and_false])
  clear hr hZ hT hV hw hb
  go_enter Tryz.func21, Tryz.ntmps21
  go_upto_region 1 with fail
  refine wpV (fun V2 hV2 => ?_)
  obtain rfl : V = V2 := HV.out.symm.trans hV2
  clear HV hV2
  have HT : Hid ((fun V' => Whole V' w.heap.size 30 (brC p a)) V.drew) := Lib.hid H0.out.box
  have HL : Hid (∀ V', Whole V' w.heap.size 30 (brC p a) → V'.cell? ⟨w.heap.size, 0, none⟩ = some (.int .i64 p.ep) ∧ V'.cell? ⟨w.heap.size, 1, none⟩ = some (.int .i64 p.sq) ∧ V'.cell? ⟨w.heap.size, 19, none⟩ = some (.slice a.B p.kps.length a.d) ∧ V'.cell? ⟨w.heap.size, 20, none⟩ = some (.int .u8 p.rf.st) ∧ V'.cell? ⟨w.heap.size, 21, none⟩ = some (.int .i64 p.rf.fr) ∧ V'.cell? ⟨w.heap.size, 22, none⟩ = some (.int .i64 p.rf.to_) ∧ V'.cell? ⟨w.heap.size, 23, none⟩ = some (.int .i64 p.rf.step) ∧ V'.cell? ⟨w.heap.size, 24, none⟩ = some (.bool p.rf.paused) ∧ V'.cell? ⟨w.heap.size, 25, none⟩ = some (.int .i64 p.rf.since) ∧ V'.cell? ⟨w.heap.size, 26, none⟩ = some (.int .i64 p.rf.fails)) := Lib.hid (fun V' h => ⟨h.cell 0, h.cell 1, h.cell 19, h.cell 20, h.cell 21, h.cell 22, h.cell 23, h.cell 24, h.cell 25, h.cell 26⟩)
  refine wp_region_T (ls := []) (T := (fun V' => Whole V' w.heap.size 30 (brC p a))) (by kernel_rfl) ?_
  refine takeT (i := 0) (v := ?_) rfl (by kernel_rfl) (by kernel_rfl) (by kernel_rfl) (by kernel_rfl) (fun _ _ _ h => h) (by rfl) ?_ HT.out ?_
  rotate_left
  · intro V' hV; obtain ⟨d0, d1, d19, d20, d21, d22, d23, d24, d25, d26⟩ := HL.out V' hV; go_simp <;> with_reducible rfl
  simp only [Act.put, List.setIfInBounds_toArray, List.set_cons_zero, List.set_cons_succ]
  refine takeT (i := 1) (v := ?_) rfl (by kernel_rfl) (by kernel_rfl) (by kernel_rfl) (by kernel_rfl) (fun _ _ _ h => h) (by rfl) ?_ HT.out ?_
  rotate_left
  · intro V' hV; obtain ⟨d0, d1, d19, d20, d21, d22, d23, d24, d25, d26⟩ := HL.out V' hV; go_simp <;> with_reducible rfl
  simp only [Act.put, List.setIfInBounds_toArray, List.set_cons_zero, List.set_cons_succ]
  refine takeT (i := 2) (v := ?_) rfl (by kernel_rfl) (by kernel_rfl) (by kernel_rfl) (by kernel_rfl) (fun _ _ _ h => h) (by rfl) ?_ HT.out ?_
  rotate_left
  · intro V' hV; obtain ⟨d0, d1, d19, d20, d21, d22, d23, d24, d25, d26⟩ := HL.out V' hV; go_simp <;> with_reducible rfl
  simp only [Act.put, List.setIfInBounds_toArray, List.set_cons_zero, List.set_cons_succ]
  refine takeT (i := 3) (v := ?_) rfl (by kernel_rfl) (by kernel_rfl) (by kernel_rfl) (by kernel_rfl) (fun _ _ _ h => h) (by rfl) ?_ HT.out ?_
  rotate_left
  · intro V' hV; obtain ⟨d0, d1, d19, d20, d21, d22, d23, d24, d25, d26⟩ := HL.out V' hV; go_simp <;> with_reducible rfl
  simp only [Act.put, List.setIfInBounds_toArray, List.set_cons_zero, List.set_cons_succ]
  obtain ⟨w1_, hW1⟩ : ∃ W, V.drew.alloc (.cells #[.int .i64 p.ep, .int .i64 p.sq] 3) = W := ⟨_, rfl⟩
  have hb_ : Below V.drew.heap.size V.drew w1_ := by rw [← hW1]; exact (Below.refl _ _).alloc (Nat.le_refl _) _
  have hR1 := rd_lit_at V.drew [.int .i64 p.ep, .int .i64 p.sq] 3 2 V.drew.heap.size rfl rfl
  rw [hW1] at hR1
  have HR1 := Lib.hid hR1
  clear hR1
  refine oneT (i := 4) rfl (by kernel_rfl) (by rfl) (fun K hK => ?_)
  go_simp
  clear hW1
  have H1 := Lib.hid (H0.out.go hb_)
  clear hb_ H0 HT
  have HT : Hid ((fun V' => Whole V' w.heap.size 30 (brC p a)) w1_) := Lib.hid H1.out.box
  refine hK.out _ _ (fun _ => HT.out) ?_
  clear hK K
  refine oneT (i := 5) rfl (by kernel_rfl) (by rfl) (fun K hK => ?_)
  go_simp
  refine (bnumbers_any 0 _ 2 2 [p.ep, p.sq] _ _ HR1.out (by omega)).mono ?_
  rintro e w2_ ⟨rfl, hw_⟩
  have hb_ : Below w1_.heap.size w1_ w2_ := by rw [hw_]; exact Below.refl _ _
  clear hw_ HR1
  rw [t0]
  have H2 := Lib.hid (H1.out.go hb_)
  clear hb_ H1 HT
  have HT : Hid ((fun V' => Whole V' w.heap.size 30 (brC p a)) w2_) := Lib.hid H2.out.box
  refine hK.out _ _ (fun _ => HT.out) ?_
  clear hK K
  refine takeP (i := 6) (v := ?_) rfl (by kernel_rfl) (by kernel_rfl) (by kernel_rfl) (by kernel_rfl) (fun _ _ _ h => h) (by rfl) ?_ (fun _ => HT.out) ?_
  rotate_left
  · intro V'; go_simp <;> with_reducible rfl
  simp only [Act.put, List.setIfInBounds_toArray, List.set_cons_zero, List.set_cons_succ]
  refine takeT (i := 7) (v := brV p a) rfl (by kernel_rfl) (by kernel_rfl) (by kernel_rfl) (by kernel_rfl) (fun _ _ _ h => h) (by rfl) ?_ HT.out ?_
  · intro V' hV; exact exec_load_brain rfl hV
  simp only [Act.put, List.setIfInBounds_toArray, List.set_cons_zero, List.set_cons_succ]
  refine takeT (i := 9) (v := ?_) rfl (by kernel_rfl) (by kernel_rfl) (by kernel_rfl) (by kernel_rfl) (fun _ _ _ h => h) (by rfl) ?_ HT.out ?_
  rotate_left
  · intro V' hV; obtain ⟨d0, d1, d19, d20, d21, d22, d23, d24, d25, d26⟩ := HL.out V' hV; go_simp <;> with_reducible rfl
  simp only [Act.put, List.setIfInBounds_toArray, List.set_cons_zero, List.set_cons_succ]
  refine takeT (i := 10) (v := ?_) rfl (by kernel_rfl) (by kernel_rfl) (by kernel_rfl) (by kernel_rfl) (fun _ _ _ h => h) (by rfl) ?_ HT.out ?_
  rotate_left
  · intro V' hV; obtain ⟨d0, d1, d19, d20, d21, d22, d23, d24, d25, d26⟩ := HL.out V' hV; go_simp <;> with_reducible rfl
  simp only [Act.put, List.setIfInBounds_toArray, List.set_cons_zero, List.set_cons_succ]
  refine oneT (i := 8) rfl (by kernel_rfl) (by rfl) (fun K hK => ?_)
  go_simp
  refine (tokens_any p a _).mono ?_
  rintro e w3_ ⟨b1, b2, rfl, g1, g2, g3, g4, hb_⟩
  have HQ1 := Lib.hid (show SeqI 114 b1 b2 (p.its.map It.tok) w3_ from itSeq hi g1 g2 g3 g4 ((H2.out.go hb_).rd.its.more (H2.out.go hb_).below.size))
  clear g1 g2 g3 g4
  have H3 := Lib.hid (H2.out.go hb_)
  clear hb_ H2 HT
  have HT : Hid ((fun V' => Whole V' w.heap.size 30 (brC p a)) w3_) := Lib.hid H3.out.box
  refine hK.out _ _ (fun _ => HT.out) ?_
  clear hK K
  refine oneT (i := 11) rfl (by kernel_rfl) (by rfl) (fun K hK => ?_)
  go_simp
  refine (rising_any 114 b1 b2 (p.its.map It.tok) p.sq _ (enters_of Tryz.func114 (by kernel_rfl) rfl) HQ1.out).mono ?_
  rintro e w4_ ⟨rfl, hb_⟩
  clear HQ1
  rw [t1]
  have H4 := Lib.hid (H3.out.go hb_)
  clear hb_ H3 HT
  have HT : Hid ((fun V' => Whole V' w.heap.size 30 (brC p a)) w4_) := Lib.hid H4.out.box
  refine hK.out _ _ (fun _ => HT.out) ?_
  clear hK K
  refine takeP (i := 12) (v := ?_) rfl (by kernel_rfl) (by kernel_rfl) (by kernel_rfl) (by kernel_rfl) (fun _ _ _ h => h) (by rfl) ?_ (fun _ => HT.out) ?_
  rotate_left
  · intro V'; go_simp <;> with_reducible rfl
  simp only [Act.put, List.setIfInBounds_toArray, List.set_cons_zero, List.set_cons_succ]
  refine takeP (i := 13) (v := ?_) rfl (by kernel_rfl) (by kernel_rfl) (by kernel_rfl) (by kernel_rfl) (fun _ _ _ h => h) (by rfl) ?_ (fun _ => HT.out) ?_
  rotate_left
  · intro V'; go_simp <;> with_reducible rfl
  simp only [Act.put, List.setIfInBounds_toArray, List.set_cons_zero, List.set_cons_succ]
  refine takeT (i := 14) (v := brV p a) rfl (by kernel_rfl) (by kernel_rfl) (by kernel_rfl) (by kernel_rfl) (fun _ _ _ h => h) (by rfl) ?_ HT.out ?_
  · intro V' hV; exact exec_load_brain rfl hV
  simp only [Act.put, List.setIfInBounds_toArray, List.set_cons_zero, List.set_cons_succ]
  refine oneT (i := 15) rfl (by kernel_rfl) (by rfl) (fun K hK => ?_)
  go_simp
  refine (ids_any p a _).mono ?_
  rintro e w5_ ⟨b3, b4, rfl, g1, g2, g3, g4, hb_⟩
  have HQ2 := Lib.hid (show SeqI 113 b3 b4 (p.kps.map Kp.id) w5_ from kpSeq hk g1 g2 g3 g4 ((H4.out.go hb_).rd.kps.more (H4.out.go hb_).below.size))
  clear g1 g2 g3 g4
  have H5 := Lib.hid (H4.out.go hb_)
  clear hb_ H4 HT
  have HT : Hid ((fun V' => Whole V' w.heap.size 30 (brC p a)) w5_) := Lib.hid H5.out.box
  refine hK.out _ _ (fun _ => HT.out) ?_
  clear hK K
  refine oneT (i := 16) rfl (by kernel_rfl) (by rfl) (fun K hK => ?_)
  go_simp
  refine (rising_any 113 b3 b4 (p.kps.map Kp.id) brMax _ (enters_of Tryz.func113 (by kernel_rfl) rfl) HQ2.out).mono ?_
  rintro e w6_ ⟨rfl, hb_⟩
  clear HQ2
  rw [t2]
  have H6 := Lib.hid (H5.out.go hb_)
  clear hb_ H5 HT
  have HT : Hid ((fun V' => Whole V' w.heap.size 30 (brC p a)) w6_) := Lib.hid H6.out.box
  refine hK.out _ _ (fun _ => HT.out) ?_
  clear hK K
  refine takeP (i := 17) (v := ?_) rfl (by kernel_rfl) (by kernel_rfl) (by kernel_rfl) (by kernel_rfl) (fun _ _ _ h => h) (by rfl) ?_ (fun _ => HT.out) ?_
  rotate_left
  · intro V'; go_simp <;> with_reducible rfl
  simp only [Act.put, List.setIfInBounds_toArray, List.set_cons_zero, List.set_cons_succ]
  refine takeP (i := 18) (v := ?_) rfl (by kernel_rfl) (by kernel_rfl) (by kernel_rfl) (by kernel_rfl) (fun _ _ _ h => h) (by rfl) ?_ (fun _ => HT.out) ?_
  rotate_left
  · intro V'; go_simp <;> with_reducible rfl
  simp only [Act.put, List.setIfInBounds_toArray, List.set_cons_zero, List.set_cons_succ]
  refine skipT (i := 19) rfl (by kernel_rfl) (by kernel_rfl) (by kernel_rfl) (by kernel_rfl) (fun _ _ _ h => h) (by rfl) (fun _ => HT.out) ?_
  simp only [Act.put, List.setIfInBounds_toArray, List.set_cons_zero, List.set_cons_succ]
  refine skipT (i := 20) rfl (by kernel_rfl) (by kernel_rfl) (by kernel_rfl) (by kernel_rfl) (fun _ _ _ h => h) (by rfl) (fun _ => HT.out) ?_
  simp only [Act.put, List.setIfInBounds_toArray, List.set_cons_zero, List.set_cons_succ]
  refine skipT (i := 21) rfl (by kernel_rfl) (by kernel_rfl) (by kernel_rfl) (by kernel_rfl) (fun _ _ _ h => h) (by rfl) (fun _ => HT.out) ?_
  simp only [Act.put, List.setIfInBounds_toArray, List.set_cons_zero, List.set_cons_succ]
  refine takeP (i := 22) (v := ?_) rfl (by kernel_rfl) (by kernel_rfl) (by kernel_rfl) (by kernel_rfl) (fun _ _ _ h => h) (by rfl) ?_ (fun _ => HT.out) ?_
  rotate_left
  · intro V'; go_simp <;> with_reducible rfl
  simp only [Act.put, List.setIfInBounds_toArray, List.set_cons_zero, List.set_cons_succ]
  refine takeP (i := 23) (v := ?_) rfl (by kernel_rfl) (by kernel_rfl) (by kernel_rfl) (by kernel_rfl) (fun _ _ _ h => h) (by rfl) ?_ (fun _ => HT.out) ?_
  rotate_left
  · intro V'; go_simp <;> with_reducible rfl
  simp only [Act.put, List.setIfInBounds_toArray, List.set_cons_zero, List.set_cons_succ]
  refine skipT (i := 24) rfl (by kernel_rfl) (by kernel_rfl) (by kernel_rfl) (by kernel_rfl) (fun _ _ _ h => h) (by rfl) (fun _ => HT.out) ?_
  simp only [Act.put, List.setIfInBounds_toArray, List.set_cons_zero, List.set_cons_succ]
  refine skipT (i := 25) rfl (by kernel_rfl) (by kernel_rfl) (by kernel_rfl) (by kernel_rfl) (fun _ _ _ h => h) (by rfl) (fun _ => HT.out) ?_
  simp only [Act.put, List.setIfInBounds_toArray, List.set_cons_zero, List.set_cons_succ]
  refine skipT (i := 26) rfl (by kernel_rfl) (by kernel_rfl) (by kernel_rfl) (by kernel_rfl) (fun _ _ _ h => h) (by rfl) (fun _ => HT.out) ?_
  simp only [Act.put, List.setIfInBounds_toArray, List.set_cons_zero, List.set_cons_succ]
  refine takeP (i := 27) (v := ?_) rfl (by kernel_rfl) (by kernel_rfl) (by kernel_rfl) (by kernel_rfl) (fun _ _ _ h => h) (by rfl) ?_ (fun _ => HT.out) ?_
  rotate_left
  · intro V'; go_simp <;> with_reducible rfl
  simp only [Act.put, List.setIfInBounds_toArray, List.set_cons_zero, List.set_cons_succ]
  refine takeP (i := 28) (v := ?_) rfl (by kernel_rfl) (by kernel_rfl) (by kernel_rfl) (by kernel_rfl) (fun _ _ _ h => h) (by rfl) ?_ (fun _ => HT.out) ?_
  rotate_left
  · intro V'; go_simp <;> with_reducible rfl
  simp only [Act.put, List.setIfInBounds_toArray, List.set_cons_zero, List.set_cons_succ]
  refine skipT (i := 29) rfl (by kernel_rfl) (by kernel_rfl) (by kernel_rfl) (by kernel_rfl) (fun _ _ _ h => h) (by rfl) (fun _ => HT.out) ?_
  simp only [Act.put, List.setIfInBounds_toArray, List.set_cons_zero, List.set_cons_succ]
  refine skipT (i := 30) rfl (by kernel_rfl) (by kernel_rfl) (by kernel_rfl) (by kernel_rfl) (fun _ _ _ h => h) (by rfl) (fun _ => HT.out) ?_
  simp only [Act.put, List.setIfInBounds_toArray, List.set_cons_zero, List.set_cons_succ]
  refine takeP (i := 31) (v := ?_) rfl (by kernel_rfl) (by kernel_rfl) (by kernel_rfl) (by kernel_rfl) (fun _ _ _ h => h) (by rfl) ?_ (fun _ => HT.out) ?_
  rotate_left
  · intro V'; go_simp <;> with_reducible rfl
  simp only [Act.put, List.setIfInBounds_toArray, List.set_cons_zero, List.set_cons_succ]
  refine oneT (i := 32) rfl (by kernel_rfl) (by rfl) (fun K hK => ?_)
  go_simp
  refine hK.out _ _ (fun _ => HT.out) ?_
  clear hK K
  refine doneT (by kernel_rfl) ?_ _
  go_wp2_with fail
  go_ret
  exact ⟨by rw [HF.out]; rfl, H6.out.below⟩

set_option maxRecDepth 100000 in
set_option maxHeartbeats 4000000 in
theorem bright_3 (p : Br) (a : Ad) (Z : Nat) (w : World) (hr : RdB_ w Z p a) (hZ : Z ≤ w.heap.size) (hi : p.its.length ≤ 1000) (hk : p.kps.length ≤ 1000) (hT : Tab w) (t0 : numsF 0 [p.ep, p.sq] = true) (t1 : risF p.sq 0 (p.its.map It.tok) = true) (t2 : risF brMax 0 (p.kps.map Kp.id) = true) (t3 : phOk p.kps = false) :
    Calls Tryz.prog 21 #[brV p a] w (BoolPost (rightBb p) w) := by
  obtain ⟨V, hV⟩ : ∃ V, w.alloc (.cells (brC p a) 30) = V := ⟨_, rfl⟩
  have hw : Whole V w.heap.size 30 (brC p a) := by rw [← hV]; exact Whole.new _ _ _
  have hb : Below w.heap.size w V := by rw [← hV]; exact (Below.refl _ _).alloc (Nat.le_refl _) _
  have HV := Lib.hid hV
  have H0 := Lib.hid (show RtAt w p a V.drew from (⟨hw, (hr.more hZ).below hb, hT.under hb, hb⟩ : RtAt w p a V).go (below_drewB (Below.refl _ V) 1))
  have HF := Lib.hid (show rightBb p = false by unfold rightBb; rw [← numsF0, t0, itsOk_ris, t1, kpsOk_ris, t2, t3, Bool.and_false, Bool.false_and, Bool.and_false, Bool.and_false])
  clear hr hZ hT hV hw hb
  go_enter Tryz.func21, Tryz.ntmps21
  go_upto_region 1 with fail
  refine wpV (fun V2 hV2 => ?_)
  obtain rfl : V = V2 := HV.out.symm.trans hV2
  clear HV hV2
  have HT : Hid ((fun V' => Whole V' w.heap.size 30 (brC p a)) V.drew) := Lib.hid H0.out.box
  have HL : Hid (∀ V', Whole V' w.heap.size 30 (brC p a) → V'.cell? ⟨w.heap.size, 0, none⟩ = some (.int .i64 p.ep) ∧ V'.cell? ⟨w.heap.size, 1, none⟩ = some (.int .i64 p.sq) ∧ V'.cell? ⟨w.heap.size, 19, none⟩ = some (.slice a.B p.kps.length a.d) ∧ V'.cell? ⟨w.heap.size, 20, none⟩ = some (.int .u8 p.rf.st) ∧ V'.cell? ⟨w.heap.size, 21, none⟩ = some (.int .i64 p.rf.fr) ∧ V'.cell? ⟨w.heap.size, 22, none⟩ = some (.int .i64 p.rf.to_) ∧ V'.cell? ⟨w.heap.size, 23, none⟩ = some (.int .i64 p.rf.step) ∧ V'.cell? ⟨w.heap.size, 24, none⟩ = some (.bool p.rf.paused) ∧ V'.cell? ⟨w.heap.size, 25, none⟩ = some (.int .i64 p.rf.since) ∧ V'.cell? ⟨w.heap.size, 26, none⟩ = some (.int .i64 p.rf.fails)) := Lib.hid (fun V' h => ⟨h.cell 0, h.cell 1, h.cell 19, h.cell 20, h.cell 21, h.cell 22, h.cell 23, h.cell 24, h.cell 25, h.cell 26⟩)
  refine wp_region_T (ls := []) (T := (fun V' => Whole V' w.heap.size 30 (brC p a))) (by kernel_rfl) ?_
  refine takeT (i := 0) (v := ?_) rfl (by kernel_rfl) (by kernel_rfl) (by kernel_rfl) (by kernel_rfl) (fun _ _ _ h => h) (by rfl) ?_ HT.out ?_
  rotate_left
  · intro V' hV; obtain ⟨d0, d1, d19, d20, d21, d22, d23, d24, d25, d26⟩ := HL.out V' hV; go_simp <;> with_reducible rfl
  simp only [Act.put, List.setIfInBounds_toArray, List.set_cons_zero, List.set_cons_succ]
  refine takeT (i := 1) (v := ?_) rfl (by kernel_rfl) (by kernel_rfl) (by kernel_rfl) (by kernel_rfl) (fun _ _ _ h => h) (by rfl) ?_ HT.out ?_
  rotate_left
  · intro V' hV; obtain ⟨d0, d1, d19, d20, d21, d22, d23, d24, d25, d26⟩ := HL.out V' hV; go_simp <;> with_reducible rfl
  simp only [Act.put, List.setIfInBounds_toArray, List.set_cons_zero, List.set_cons_succ]
  refine takeT (i := 2) (v := ?_) rfl (by kernel_rfl) (by kernel_rfl) (by kernel_rfl) (by kernel_rfl) (fun _ _ _ h => h) (by rfl) ?_ HT.out ?_
  rotate_left
  · intro V' hV; obtain ⟨d0, d1, d19, d20, d21, d22, d23, d24, d25, d26⟩ := HL.out V' hV; go_simp <;> with_reducible rfl
  simp only [Act.put, List.setIfInBounds_toArray, List.set_cons_zero, List.set_cons_succ]
  refine takeT (i := 3) (v := ?_) rfl (by kernel_rfl) (by kernel_rfl) (by kernel_rfl) (by kernel_rfl) (fun _ _ _ h => h) (by rfl) ?_ HT.out ?_
  rotate_left
  · intro V' hV; obtain ⟨d0, d1, d19, d20, d21, d22, d23, d24, d25, d26⟩ := HL.out V' hV; go_simp <;> with_reducible rfl
  simp only [Act.put, List.setIfInBounds_toArray, List.set_cons_zero, List.set_cons_succ]
  obtain ⟨w1_, hW1⟩ : ∃ W, V.drew.alloc (.cells #[.int .i64 p.ep, .int .i64 p.sq] 3) = W := ⟨_, rfl⟩
  have hb_ : Below V.drew.heap.size V.drew w1_ := by rw [← hW1]; exact (Below.refl _ _).alloc (Nat.le_refl _) _
  have hR1 := rd_lit_at V.drew [.int .i64 p.ep, .int .i64 p.sq] 3 2 V.drew.heap.size rfl rfl
  rw [hW1] at hR1
  have HR1 := Lib.hid hR1
  clear hR1
  refine oneT (i := 4) rfl (by kernel_rfl) (by rfl) (fun K hK => ?_)
  go_simp
  clear hW1
  have H1 := Lib.hid (H0.out.go hb_)
  clear hb_ H0 HT
  have HT : Hid ((fun V' => Whole V' w.heap.size 30 (brC p a)) w1_) := Lib.hid H1.out.box
  refine hK.out _ _ (fun _ => HT.out) ?_
  clear hK K
  refine oneT (i := 5) rfl (by kernel_rfl) (by rfl) (fun K hK => ?_)
  go_simp
  refine (bnumbers_any 0 _ 2 2 [p.ep, p.sq] _ _ HR1.out (by omega)).mono ?_
  rintro e w2_ ⟨rfl, hw_⟩
  have hb_ : Below w1_.heap.size w1_ w2_ := by rw [hw_]; exact Below.refl _ _
  clear hw_ HR1
  rw [t0]
  have H2 := Lib.hid (H1.out.go hb_)
  clear hb_ H1 HT
  have HT : Hid ((fun V' => Whole V' w.heap.size 30 (brC p a)) w2_) := Lib.hid H2.out.box
  refine hK.out _ _ (fun _ => HT.out) ?_
  clear hK K
  refine takeP (i := 6) (v := ?_) rfl (by kernel_rfl) (by kernel_rfl) (by kernel_rfl) (by kernel_rfl) (fun _ _ _ h => h) (by rfl) ?_ (fun _ => HT.out) ?_
  rotate_left
  · intro V'; go_simp <;> with_reducible rfl
  simp only [Act.put, List.setIfInBounds_toArray, List.set_cons_zero, List.set_cons_succ]
  refine takeT (i := 7) (v := brV p a) rfl (by kernel_rfl) (by kernel_rfl) (by kernel_rfl) (by kernel_rfl) (fun _ _ _ h => h) (by rfl) ?_ HT.out ?_
  · intro V' hV; exact exec_load_brain rfl hV
  simp only [Act.put, List.setIfInBounds_toArray, List.set_cons_zero, List.set_cons_succ]
  refine takeT (i := 9) (v := ?_) rfl (by kernel_rfl) (by kernel_rfl) (by kernel_rfl) (by kernel_rfl) (fun _ _ _ h => h) (by rfl) ?_ HT.out ?_
  rotate_left
  · intro V' hV; obtain ⟨d0, d1, d19, d20, d21, d22, d23, d24, d25, d26⟩ := HL.out V' hV; go_simp <;> with_reducible rfl
  simp only [Act.put, List.setIfInBounds_toArray, List.set_cons_zero, List.set_cons_succ]
  refine takeT (i := 10) (v := ?_) rfl (by kernel_rfl) (by kernel_rfl) (by kernel_rfl) (by kernel_rfl) (fun _ _ _ h => h) (by rfl) ?_ HT.out ?_
  rotate_left
  · intro V' hV; obtain ⟨d0, d1, d19, d20, d21, d22, d23, d24, d25, d26⟩ := HL.out V' hV; go_simp <;> with_reducible rfl
  simp only [Act.put, List.setIfInBounds_toArray, List.set_cons_zero, List.set_cons_succ]
  refine oneT (i := 8) rfl (by kernel_rfl) (by rfl) (fun K hK => ?_)
  go_simp
  refine (tokens_any p a _).mono ?_
  rintro e w3_ ⟨b1, b2, rfl, g1, g2, g3, g4, hb_⟩
  have HQ1 := Lib.hid (show SeqI 114 b1 b2 (p.its.map It.tok) w3_ from itSeq hi g1 g2 g3 g4 ((H2.out.go hb_).rd.its.more (H2.out.go hb_).below.size))
  clear g1 g2 g3 g4
  have H3 := Lib.hid (H2.out.go hb_)
  clear hb_ H2 HT
  have HT : Hid ((fun V' => Whole V' w.heap.size 30 (brC p a)) w3_) := Lib.hid H3.out.box
  refine hK.out _ _ (fun _ => HT.out) ?_
  clear hK K
  refine oneT (i := 11) rfl (by kernel_rfl) (by rfl) (fun K hK => ?_)
  go_simp
  refine (rising_any 114 b1 b2 (p.its.map It.tok) p.sq _ (enters_of Tryz.func114 (by kernel_rfl) rfl) HQ1.out).mono ?_
  rintro e w4_ ⟨rfl, hb_⟩
  clear HQ1
  rw [t1]
  have H4 := Lib.hid (H3.out.go hb_)
  clear hb_ H3 HT
  have HT : Hid ((fun V' => Whole V' w.heap.size 30 (brC p a)) w4_) := Lib.hid H4.out.box
  refine hK.out _ _ (fun _ => HT.out) ?_
  clear hK K
  refine takeP (i := 12) (v := ?_) rfl (by kernel_rfl) (by kernel_rfl) (by kernel_rfl) (by kernel_rfl) (fun _ _ _ h => h) (by rfl) ?_ (fun _ => HT.out) ?_
  rotate_left
  · intro V'; go_simp <;> with_reducible rfl
  simp only [Act.put, List.setIfInBounds_toArray, List.set_cons_zero, List.set_cons_succ]
  refine takeP (i := 13) (v := ?_) rfl (by kernel_rfl) (by kernel_rfl) (by kernel_rfl) (by kernel_rfl) (fun _ _ _ h => h) (by rfl) ?_ (fun _ => HT.out) ?_
  rotate_left
  · intro V'; go_simp <;> with_reducible rfl
  simp only [Act.put, List.setIfInBounds_toArray, List.set_cons_zero, List.set_cons_succ]
  refine takeT (i := 14) (v := brV p a) rfl (by kernel_rfl) (by kernel_rfl) (by kernel_rfl) (by kernel_rfl) (fun _ _ _ h => h) (by rfl) ?_ HT.out ?_
  · intro V' hV; exact exec_load_brain rfl hV
  simp only [Act.put, List.setIfInBounds_toArray, List.set_cons_zero, List.set_cons_succ]
  refine oneT (i := 15) rfl (by kernel_rfl) (by rfl) (fun K hK => ?_)
  go_simp
  refine (ids_any p a _).mono ?_
  rintro e w5_ ⟨b3, b4, rfl, g1, g2, g3, g4, hb_⟩
  have HQ2 := Lib.hid (show SeqI 113 b3 b4 (p.kps.map Kp.id) w5_ from kpSeq hk g1 g2 g3 g4 ((H4.out.go hb_).rd.kps.more (H4.out.go hb_).below.size))
  clear g1 g2 g3 g4
  have H5 := Lib.hid (H4.out.go hb_)
  clear hb_ H4 HT
  have HT : Hid ((fun V' => Whole V' w.heap.size 30 (brC p a)) w5_) := Lib.hid H5.out.box
  refine hK.out _ _ (fun _ => HT.out) ?_
  clear hK K
  refine oneT (i := 16) rfl (by kernel_rfl) (by rfl) (fun K hK => ?_)
  go_simp
  refine (rising_any 113 b3 b4 (p.kps.map Kp.id) brMax _ (enters_of Tryz.func113 (by kernel_rfl) rfl) HQ2.out).mono ?_
  rintro e w6_ ⟨rfl, hb_⟩
  clear HQ2
  rw [t2]
  have H6 := Lib.hid (H5.out.go hb_)
  clear hb_ H5 HT
  have HT : Hid ((fun V' => Whole V' w.heap.size 30 (brC p a)) w6_) := Lib.hid H6.out.box
  refine hK.out _ _ (fun _ => HT.out) ?_
  clear hK K
  refine takeP (i := 17) (v := ?_) rfl (by kernel_rfl) (by kernel_rfl) (by kernel_rfl) (by kernel_rfl) (fun _ _ _ h => h) (by rfl) ?_ (fun _ => HT.out) ?_
  rotate_left
  · intro V'; go_simp <;> with_reducible rfl
  simp only [Act.put, List.setIfInBounds_toArray, List.set_cons_zero, List.set_cons_succ]
  refine takeP (i := 18) (v := ?_) rfl (by kernel_rfl) (by kernel_rfl) (by kernel_rfl) (by kernel_rfl) (fun _ _ _ h => h) (by rfl) ?_ (fun _ => HT.out) ?_
  rotate_left
  · intro V'; go_simp <;> with_reducible rfl
  simp only [Act.put, List.setIfInBounds_toArray, List.set_cons_zero, List.set_cons_succ]
  refine takeT (i := 19) (v := ?_) rfl (by kernel_rfl) (by kernel_rfl) (by kernel_rfl) (by kernel_rfl) (fun _ _ _ h => h) (by rfl) ?_ HT.out ?_
  rotate_left
  · intro V' hV; obtain ⟨d0, d1, d19, d20, d21, d22, d23, d24, d25, d26⟩ := HL.out V' hV; go_simp <;> with_reducible rfl
  simp only [Act.put, List.setIfInBounds_toArray, List.set_cons_zero, List.set_cons_succ]
  refine takeT (i := 20) (v := ?_) rfl (by kernel_rfl) (by kernel_rfl) (by kernel_rfl) (by kernel_rfl) (fun _ _ _ h => h) (by rfl) ?_ HT.out ?_
  rotate_left
  · intro V' hV; obtain ⟨d0, d1, d19, d20, d21, d22, d23, d24, d25, d26⟩ := HL.out V' hV; go_simp <;> with_reducible rfl
  simp only [Act.put, List.setIfInBounds_toArray, List.set_cons_zero, List.set_cons_succ]
  refine oneT (i := 21) rfl (by kernel_rfl) (by rfl) (fun K hK => ?_)
  go_simp
  refine (phased_any a.B p.kps.length a.d p.kps w.heap.size _ H6.out.rd.kps H6.out.below.size hk).mono ?_
  rintro e w7_ ⟨rfl, hb_⟩
  rw [t3]
  have H7 := Lib.hid (H6.out.go hb_)
  clear hb_ H6 HT
  have HT : Hid ((fun V' => Whole V' w.heap.size 30 (brC p a)) w7_) := Lib.hid H7.out.box
  refine hK.out _ _ (fun _ => HT.out) ?_
  clear hK K
  refine takeP (i := 22) (v := ?_) rfl (by kernel_rfl) (by kernel_rfl) (by kernel_rfl) (by kernel_rfl) (fun _ _ _ h => h) (by rfl) ?_ (fun _ => HT.out) ?_
  rotate_left
  · intro V'; go_simp <;> with_reducible rfl
  simp only [Act.put, List.setIfInBounds_toArray, List.set_cons_zero, List.set_cons_succ]
  refine takeP (i := 23) (v := ?_) rfl (by kernel_rfl) (by kernel_rfl) (by kernel_rfl) (by kernel_rfl) (fun _ _ _ h => h) (by rfl) ?_ (fun _ => HT.out) ?_
  rotate_left
  · intro V'; go_simp <;> with_reducible rfl
  simp only [Act.put, List.setIfInBounds_toArray, List.set_cons_zero, List.set_cons_succ]
  refine skipT (i := 24) rfl (by kernel_rfl) (by kernel_rfl) (by kernel_rfl) (by kernel_rfl) (fun _ _ _ h => h) (by rfl) (fun _ => HT.out) ?_
  simp only [Act.put, List.setIfInBounds_toArray, List.set_cons_zero, List.set_cons_succ]
  refine skipT (i := 25) rfl (by kernel_rfl) (by kernel_rfl) (by kernel_rfl) (by kernel_rfl) (fun _ _ _ h => h) (by rfl) (fun _ => HT.out) ?_
  simp only [Act.put, List.setIfInBounds_toArray, List.set_cons_zero, List.set_cons_succ]
  refine skipT (i := 26) rfl (by kernel_rfl) (by kernel_rfl) (by kernel_rfl) (by kernel_rfl) (fun _ _ _ h => h) (by rfl) (fun _ => HT.out) ?_
  simp only [Act.put, List.setIfInBounds_toArray, List.set_cons_zero, List.set_cons_succ]
  refine takeP (i := 27) (v := ?_) rfl (by kernel_rfl) (by kernel_rfl) (by kernel_rfl) (by kernel_rfl) (fun _ _ _ h => h) (by rfl) ?_ (fun _ => HT.out) ?_
  rotate_left
  · intro V'; go_simp <;> with_reducible rfl
  simp only [Act.put, List.setIfInBounds_toArray, List.set_cons_zero, List.set_cons_succ]
  refine takeP (i := 28) (v := ?_) rfl (by kernel_rfl) (by kernel_rfl) (by kernel_rfl) (by kernel_rfl) (fun _ _ _ h => h) (by rfl) ?_ (fun _ => HT.out) ?_
  rotate_left
  · intro V'; go_simp <;> with_reducible rfl
  simp only [Act.put, List.setIfInBounds_toArray, List.set_cons_zero, List.set_cons_succ]
  refine skipT (i := 29) rfl (by kernel_rfl) (by kernel_rfl) (by kernel_rfl) (by kernel_rfl) (fun _ _ _ h => h) (by rfl) (fun _ => HT.out) ?_
  simp only [Act.put, List.setIfInBounds_toArray, List.set_cons_zero, List.set_cons_succ]
  refine skipT (i := 30) rfl (by kernel_rfl) (by kernel_rfl) (by kernel_rfl) (by kernel_rfl) (fun _ _ _ h => h) (by rfl) (fun _ => HT.out) ?_
  simp only [Act.put, List.setIfInBounds_toArray, List.set_cons_zero, List.set_cons_succ]
  refine takeP (i := 31) (v := ?_) rfl (by kernel_rfl) (by kernel_rfl) (by kernel_rfl) (by kernel_rfl) (fun _ _ _ h => h) (by rfl) ?_ (fun _ => HT.out) ?_
  rotate_left
  · intro V'; go_simp <;> with_reducible rfl
  simp only [Act.put, List.setIfInBounds_toArray, List.set_cons_zero, List.set_cons_succ]
  refine oneT (i := 32) rfl (by kernel_rfl) (by rfl) (fun K hK => ?_)
  go_simp
  refine hK.out _ _ (fun _ => HT.out) ?_
  clear hK K
  refine doneT (by kernel_rfl) ?_ _
  go_wp2_with fail
  go_ret
  exact ⟨by rw [HF.out]; rfl, H7.out.below⟩

set_option maxRecDepth 100000 in
set_option maxHeartbeats 4000000 in
theorem bright_4 (p : Br) (a : Ad) (Z : Nat) (w : World) (hr : RdB_ w Z p a) (hZ : Z ≤ w.heap.size) (hi : p.its.length ≤ 1000) (hk : p.kps.length ≤ 1000) (hT : Tab w) (t0 : numsF 0 [p.ep, p.sq] = true) (t1 : risF p.sq 0 (p.its.map It.tok) = true) (t2 : risF brMax 0 (p.kps.map Kp.id) = true) (t3 : phOk p.kps = true) (t4 : rfOk p.rf = false) :
    Calls Tryz.prog 21 #[brV p a] w (BoolPost (rightBb p) w) := by
  obtain ⟨V, hV⟩ : ∃ V, w.alloc (.cells (brC p a) 30) = V := ⟨_, rfl⟩
  have hw : Whole V w.heap.size 30 (brC p a) := by rw [← hV]; exact Whole.new _ _ _
  have hb : Below w.heap.size w V := by rw [← hV]; exact (Below.refl _ _).alloc (Nat.le_refl _) _
  have HV := Lib.hid hV
  have H0 := Lib.hid (show RtAt w p a V.drew from (⟨hw, (hr.more hZ).below hb, hT.under hb, hb⟩ : RtAt w p a V).go (below_drewB (Below.refl _ V) 1))
  have HF := Lib.hid (show rightBb p = false by unfold rightBb; rw [← numsF0, t0, itsOk_ris, t1, kpsOk_ris, t2, t3, t4, Bool.false_and, Bool.and_false, Bool.and_false, Bool.and_false])
  clear hr hZ hT hV hw hb
  go_enter Tryz.func21, Tryz.ntmps21
  go_upto_region 1 with fail
  refine wpV (fun V2 hV2 => ?_)
  obtain rfl : V = V2 := HV.out.symm.trans hV2
  clear HV hV2
  have HT : Hid ((fun V' => Whole V' w.heap.size 30 (brC p a)) V.drew) := Lib.hid H0.out.box
  have HL : Hid (∀ V', Whole V' w.heap.size 30 (brC p a) → V'.cell? ⟨w.heap.size, 0, none⟩ = some (.int .i64 p.ep) ∧ V'.cell? ⟨w.heap.size, 1, none⟩ = some (.int .i64 p.sq) ∧ V'.cell? ⟨w.heap.size, 19, none⟩ = some (.slice a.B p.kps.length a.d) ∧ V'.cell? ⟨w.heap.size, 20, none⟩ = some (.int .u8 p.rf.st) ∧ V'.cell? ⟨w.heap.size, 21, none⟩ = some (.int .i64 p.rf.fr) ∧ V'.cell? ⟨w.heap.size, 22, none⟩ = some (.int .i64 p.rf.to_) ∧ V'.cell? ⟨w.heap.size, 23, none⟩ = some (.int .i64 p.rf.step) ∧ V'.cell? ⟨w.heap.size, 24, none⟩ = some (.bool p.rf.paused) ∧ V'.cell? ⟨w.heap.size, 25, none⟩ = some (.int .i64 p.rf.since) ∧ V'.cell? ⟨w.heap.size, 26, none⟩ = some (.int .i64 p.rf.fails)) := Lib.hid (fun V' h => ⟨h.cell 0, h.cell 1, h.cell 19, h.cell 20, h.cell 21, h.cell 22, h.cell 23, h.cell 24, h.cell 25, h.cell 26⟩)
  refine wp_region_T (ls := []) (T := (fun V' => Whole V' w.heap.size 30 (brC p a))) (by kernel_rfl) ?_
  refine takeT (i := 0) (v := ?_) rfl (by kernel_rfl) (by kernel_rfl) (by kernel_rfl) (by kernel_rfl) (fun _ _ _ h => h) (by rfl) ?_ HT.out ?_
  rotate_left
  · intro V' hV; obtain ⟨d0, d1, d19, d20, d21, d22, d23, d24, d25, d26⟩ := HL.out V' hV; go_simp <;> with_reducible rfl
  simp only [Act.put, List.setIfInBounds_toArray, List.set_cons_zero, List.set_cons_succ]
  refine takeT (i := 1) (v := ?_) rfl (by kernel_rfl) (by kernel_rfl) (by kernel_rfl) (by kernel_rfl) (fun _ _ _ h => h) (by rfl) ?_ HT.out ?_
  rotate_left
  · intro V' hV; obtain ⟨d0, d1, d19, d20, d21, d22, d23, d24, d25, d26⟩ := HL.out V' hV; go_simp <;> with_reducible rfl
  simp only [Act.put, List.setIfInBounds_toArray, List.set_cons_zero, List.set_cons_succ]
  refine takeT (i := 2) (v := ?_) rfl (by kernel_rfl) (by kernel_rfl) (by kernel_rfl) (by kernel_rfl) (fun _ _ _ h => h) (by rfl) ?_ HT.out ?_
  rotate_left
  · intro V' hV; obtain ⟨d0, d1, d19, d20, d21, d22, d23, d24, d25, d26⟩ := HL.out V' hV; go_simp <;> with_reducible rfl
  simp only [Act.put, List.setIfInBounds_toArray, List.set_cons_zero, List.set_cons_succ]
  refine takeT (i := 3) (v := ?_) rfl (by kernel_rfl) (by kernel_rfl) (by kernel_rfl) (by kernel_rfl) (fun _ _ _ h => h) (by rfl) ?_ HT.out ?_
  rotate_left
  · intro V' hV; obtain ⟨d0, d1, d19, d20, d21, d22, d23, d24, d25, d26⟩ := HL.out V' hV; go_simp <;> with_reducible rfl
  simp only [Act.put, List.setIfInBounds_toArray, List.set_cons_zero, List.set_cons_succ]
  obtain ⟨w1_, hW1⟩ : ∃ W, V.drew.alloc (.cells #[.int .i64 p.ep, .int .i64 p.sq] 3) = W := ⟨_, rfl⟩
  have hb_ : Below V.drew.heap.size V.drew w1_ := by rw [← hW1]; exact (Below.refl _ _).alloc (Nat.le_refl _) _
  have hR1 := rd_lit_at V.drew [.int .i64 p.ep, .int .i64 p.sq] 3 2 V.drew.heap.size rfl rfl
  rw [hW1] at hR1
  have HR1 := Lib.hid hR1
  clear hR1
  refine oneT (i := 4) rfl (by kernel_rfl) (by rfl) (fun K hK => ?_)
  go_simp
  clear hW1
  have H1 := Lib.hid (H0.out.go hb_)
  clear hb_ H0 HT
  have HT : Hid ((fun V' => Whole V' w.heap.size 30 (brC p a)) w1_) := Lib.hid H1.out.box
  refine hK.out _ _ (fun _ => HT.out) ?_
  clear hK K
  refine oneT (i := 5) rfl (by kernel_rfl) (by rfl) (fun K hK => ?_)
  go_simp
  refine (bnumbers_any 0 _ 2 2 [p.ep, p.sq] _ _ HR1.out (by omega)).mono ?_
  rintro e w2_ ⟨rfl, hw_⟩
  have hb_ : Below w1_.heap.size w1_ w2_ := by rw [hw_]; exact Below.refl _ _
  clear hw_ HR1
  rw [t0]
  have H2 := Lib.hid (H1.out.go hb_)
  clear hb_ H1 HT
  have HT : Hid ((fun V' => Whole V' w.heap.size 30 (brC p a)) w2_) := Lib.hid H2.out.box
  refine hK.out _ _ (fun _ => HT.out) ?_
  clear hK K
  refine takeP (i := 6) (v := ?_) rfl (by kernel_rfl) (by kernel_rfl) (by kernel_rfl) (by kernel_rfl) (fun _ _ _ h => h) (by rfl) ?_ (fun _ => HT.out) ?_
  rotate_left
  · intro V'; go_simp <;> with_reducible rfl
  simp only [Act.put, List.setIfInBounds_toArray, List.set_cons_zero, List.set_cons_succ]
  refine takeT (i := 7) (v := brV p a) rfl (by kernel_rfl) (by kernel_rfl) (by kernel_rfl) (by kernel_rfl) (fun _ _ _ h => h) (by rfl) ?_ HT.out ?_
  · intro V' hV; exact exec_load_brain rfl hV
  simp only [Act.put, List.setIfInBounds_toArray, List.set_cons_zero, List.set_cons_succ]
  refine takeT (i := 9) (v := ?_) rfl (by kernel_rfl) (by kernel_rfl) (by kernel_rfl) (by kernel_rfl) (fun _ _ _ h => h) (by rfl) ?_ HT.out ?_
  rotate_left
  · intro V' hV; obtain ⟨d0, d1, d19, d20, d21, d22, d23, d24, d25, d26⟩ := HL.out V' hV; go_simp <;> with_reducible rfl
  simp only [Act.put, List.setIfInBounds_toArray, List.set_cons_zero, List.set_cons_succ]
  refine takeT (i := 10) (v := ?_) rfl (by kernel_rfl) (by kernel_rfl) (by kernel_rfl) (by kernel_rfl) (fun _ _ _ h => h) (by rfl) ?_ HT.out ?_
  rotate_left
  · intro V' hV; obtain ⟨d0, d1, d19, d20, d21, d22, d23, d24, d25, d26⟩ := HL.out V' hV; go_simp <;> with_reducible rfl
  simp only [Act.put, List.setIfInBounds_toArray, List.set_cons_zero, List.set_cons_succ]
  refine oneT (i := 8) rfl (by kernel_rfl) (by rfl) (fun K hK => ?_)
  go_simp
  refine (tokens_any p a _).mono ?_
  rintro e w3_ ⟨b1, b2, rfl, g1, g2, g3, g4, hb_⟩
  have HQ1 := Lib.hid (show SeqI 114 b1 b2 (p.its.map It.tok) w3_ from itSeq hi g1 g2 g3 g4 ((H2.out.go hb_).rd.its.more (H2.out.go hb_).below.size))
  clear g1 g2 g3 g4
  have H3 := Lib.hid (H2.out.go hb_)
  clear hb_ H2 HT
  have HT : Hid ((fun V' => Whole V' w.heap.size 30 (brC p a)) w3_) := Lib.hid H3.out.box
  refine hK.out _ _ (fun _ => HT.out) ?_
  clear hK K
  refine oneT (i := 11) rfl (by kernel_rfl) (by rfl) (fun K hK => ?_)
  go_simp
  refine (rising_any 114 b1 b2 (p.its.map It.tok) p.sq _ (enters_of Tryz.func114 (by kernel_rfl) rfl) HQ1.out).mono ?_
  rintro e w4_ ⟨rfl, hb_⟩
  clear HQ1
  rw [t1]
  have H4 := Lib.hid (H3.out.go hb_)
  clear hb_ H3 HT
  have HT : Hid ((fun V' => Whole V' w.heap.size 30 (brC p a)) w4_) := Lib.hid H4.out.box
  refine hK.out _ _ (fun _ => HT.out) ?_
  clear hK K
  refine takeP (i := 12) (v := ?_) rfl (by kernel_rfl) (by kernel_rfl) (by kernel_rfl) (by kernel_rfl) (fun _ _ _ h => h) (by rfl) ?_ (fun _ => HT.out) ?_
  rotate_left
  · intro V'; go_simp <;> with_reducible rfl
  simp only [Act.put, List.setIfInBounds_toArray, List.set_cons_zero, List.set_cons_succ]
  refine takeP (i := 13) (v := ?_) rfl (by kernel_rfl) (by kernel_rfl) (by kernel_rfl) (by kernel_rfl) (fun _ _ _ h => h) (by rfl) ?_ (fun _ => HT.out) ?_
  rotate_left
  · intro V'; go_simp <;> with_reducible rfl
  simp only [Act.put, List.setIfInBounds_toArray, List.set_cons_zero, List.set_cons_succ]
  refine takeT (i := 14) (v := brV p a) rfl (by kernel_rfl) (by kernel_rfl) (by kernel_rfl) (by kernel_rfl) (fun _ _ _ h => h) (by rfl) ?_ HT.out ?_
  · intro V' hV; exact exec_load_brain rfl hV
  simp only [Act.put, List.setIfInBounds_toArray, List.set_cons_zero, List.set_cons_succ]
  refine oneT (i := 15) rfl (by kernel_rfl) (by rfl) (fun K hK => ?_)
  go_simp
  refine (ids_any p a _).mono ?_
  rintro e w5_ ⟨b3, b4, rfl, g1, g2, g3, g4, hb_⟩
  have HQ2 := Lib.hid (show SeqI 113 b3 b4 (p.kps.map Kp.id) w5_ from kpSeq hk g1 g2 g3 g4 ((H4.out.go hb_).rd.kps.more (H4.out.go hb_).below.size))
  clear g1 g2 g3 g4
  have H5 := Lib.hid (H4.out.go hb_)
  clear hb_ H4 HT
  have HT : Hid ((fun V' => Whole V' w.heap.size 30 (brC p a)) w5_) := Lib.hid H5.out.box
  refine hK.out _ _ (fun _ => HT.out) ?_
  clear hK K
  refine oneT (i := 16) rfl (by kernel_rfl) (by rfl) (fun K hK => ?_)
  go_simp
  refine (rising_any 113 b3 b4 (p.kps.map Kp.id) brMax _ (enters_of Tryz.func113 (by kernel_rfl) rfl) HQ2.out).mono ?_
  rintro e w6_ ⟨rfl, hb_⟩
  clear HQ2
  rw [t2]
  have H6 := Lib.hid (H5.out.go hb_)
  clear hb_ H5 HT
  have HT : Hid ((fun V' => Whole V' w.heap.size 30 (brC p a)) w6_) := Lib.hid H6.out.box
  refine hK.out _ _ (fun _ => HT.out) ?_
  clear hK K
  refine takeP (i := 17) (v := ?_) rfl (by kernel_rfl) (by kernel_rfl) (by kernel_rfl) (by kernel_rfl) (fun _ _ _ h => h) (by rfl) ?_ (fun _ => HT.out) ?_
  rotate_left
  · intro V'; go_simp <;> with_reducible rfl
  simp only [Act.put, List.setIfInBounds_toArray, List.set_cons_zero, List.set_cons_succ]
  refine takeP (i := 18) (v := ?_) rfl (by kernel_rfl) (by kernel_rfl) (by kernel_rfl) (by kernel_rfl) (fun _ _ _ h => h) (by rfl) ?_ (fun _ => HT.out) ?_
  rotate_left
  · intro V'; go_simp <;> with_reducible rfl
  simp only [Act.put, List.setIfInBounds_toArray, List.set_cons_zero, List.set_cons_succ]
  refine takeT (i := 19) (v := ?_) rfl (by kernel_rfl) (by kernel_rfl) (by kernel_rfl) (by kernel_rfl) (fun _ _ _ h => h) (by rfl) ?_ HT.out ?_
  rotate_left
  · intro V' hV; obtain ⟨d0, d1, d19, d20, d21, d22, d23, d24, d25, d26⟩ := HL.out V' hV; go_simp <;> with_reducible rfl
  simp only [Act.put, List.setIfInBounds_toArray, List.set_cons_zero, List.set_cons_succ]
  refine takeT (i := 20) (v := ?_) rfl (by kernel_rfl) (by kernel_rfl) (by kernel_rfl) (by kernel_rfl) (fun _ _ _ h => h) (by rfl) ?_ HT.out ?_
  rotate_left
  · intro V' hV; obtain ⟨d0, d1, d19, d20, d21, d22, d23, d24, d25, d26⟩ := HL.out V' hV; go_simp <;> with_reducible rfl
  simp only [Act.put, List.setIfInBounds_toArray, List.set_cons_zero, List.set_cons_succ]
  refine oneT (i := 21) rfl (by kernel_rfl) (by rfl) (fun K hK => ?_)
  go_simp
  refine (phased_any a.B p.kps.length a.d p.kps w.heap.size _ H6.out.rd.kps H6.out.below.size hk).mono ?_
  rintro e w7_ ⟨rfl, hb_⟩
  rw [t3]
  have H7 := Lib.hid (H6.out.go hb_)
  clear hb_ H6 HT
  have HT : Hid ((fun V' => Whole V' w.heap.size 30 (brC p a)) w7_) := Lib.hid H7.out.box
  refine hK.out _ _ (fun _ => HT.out) ?_
  clear hK K
  refine takeP (i := 22) (v := ?_) rfl (by kernel_rfl) (by kernel_rfl) (by kernel_rfl) (by kernel_rfl) (fun _ _ _ h => h) (by rfl) ?_ (fun _ => HT.out) ?_
  rotate_left
  · intro V'; go_simp <;> with_reducible rfl
  simp only [Act.put, List.setIfInBounds_toArray, List.set_cons_zero, List.set_cons_succ]
  refine takeP (i := 23) (v := ?_) rfl (by kernel_rfl) (by kernel_rfl) (by kernel_rfl) (by kernel_rfl) (fun _ _ _ h => h) (by rfl) ?_ (fun _ => HT.out) ?_
  rotate_left
  · intro V'; go_simp <;> with_reducible rfl
  simp only [Act.put, List.setIfInBounds_toArray, List.set_cons_zero, List.set_cons_succ]
  refine takeT (i := 24) (v := ?_) rfl (by kernel_rfl) (by kernel_rfl) (by kernel_rfl) (by kernel_rfl) (fun _ _ _ h => h) (by rfl) ?_ HT.out ?_
  rotate_left
  · intro V' hV; obtain ⟨d0, d1, d19, d20, d21, d22, d23, d24, d25, d26⟩ := HL.out V' hV; go_simp <;> with_reducible rfl
  simp only [Act.put, List.setIfInBounds_toArray, List.set_cons_zero, List.set_cons_succ]
  refine takeT (i := 25) (v := ?_) rfl (by kernel_rfl) (by kernel_rfl) (by kernel_rfl) (by kernel_rfl) (fun _ _ _ h => h) (by rfl) ?_ HT.out ?_
  rotate_left
  · intro V' hV; obtain ⟨d0, d1, d19, d20, d21, d22, d23, d24, d25, d26⟩ := HL.out V' hV; go_simp <;> with_reducible rfl
  simp only [Act.put, List.setIfInBounds_toArray, List.set_cons_zero, List.set_cons_succ]
  refine oneT (i := 26) rfl (by kernel_rfl) (by rfl) (fun K hK => ?_)
  go_simp
  refine (refreshed_any p.rf _).mono ?_
  rintro e w8_ ⟨rfl, hb_⟩
  rw [t4]
  have H8 := Lib.hid (H7.out.go hb_)
  clear hb_ H7 HT
  have HT : Hid ((fun V' => Whole V' w.heap.size 30 (brC p a)) w8_) := Lib.hid H8.out.box
  refine hK.out _ _ (fun _ => HT.out) ?_
  clear hK K
  refine takeP (i := 27) (v := ?_) rfl (by kernel_rfl) (by kernel_rfl) (by kernel_rfl) (by kernel_rfl) (fun _ _ _ h => h) (by rfl) ?_ (fun _ => HT.out) ?_
  rotate_left
  · intro V'; go_simp <;> with_reducible rfl
  simp only [Act.put, List.setIfInBounds_toArray, List.set_cons_zero, List.set_cons_succ]
  refine takeP (i := 28) (v := ?_) rfl (by kernel_rfl) (by kernel_rfl) (by kernel_rfl) (by kernel_rfl) (fun _ _ _ h => h) (by rfl) ?_ (fun _ => HT.out) ?_
  rotate_left
  · intro V'; go_simp <;> with_reducible rfl
  simp only [Act.put, List.setIfInBounds_toArray, List.set_cons_zero, List.set_cons_succ]
  refine skipT (i := 29) rfl (by kernel_rfl) (by kernel_rfl) (by kernel_rfl) (by kernel_rfl) (fun _ _ _ h => h) (by rfl) (fun _ => HT.out) ?_
  simp only [Act.put, List.setIfInBounds_toArray, List.set_cons_zero, List.set_cons_succ]
  refine skipT (i := 30) rfl (by kernel_rfl) (by kernel_rfl) (by kernel_rfl) (by kernel_rfl) (fun _ _ _ h => h) (by rfl) (fun _ => HT.out) ?_
  simp only [Act.put, List.setIfInBounds_toArray, List.set_cons_zero, List.set_cons_succ]
  refine takeP (i := 31) (v := ?_) rfl (by kernel_rfl) (by kernel_rfl) (by kernel_rfl) (by kernel_rfl) (fun _ _ _ h => h) (by rfl) ?_ (fun _ => HT.out) ?_
  rotate_left
  · intro V'; go_simp <;> with_reducible rfl
  simp only [Act.put, List.setIfInBounds_toArray, List.set_cons_zero, List.set_cons_succ]
  refine oneT (i := 32) rfl (by kernel_rfl) (by rfl) (fun K hK => ?_)
  go_simp
  refine hK.out _ _ (fun _ => HT.out) ?_
  clear hK K
  refine doneT (by kernel_rfl) ?_ _
  go_wp2_with fail
  go_ret
  exact ⟨by rw [HF.out]; rfl, H8.out.below⟩

set_option maxRecDepth 100000 in
set_option maxHeartbeats 4000000 in
theorem bright_5 (p : Br) (a : Ad) (Z : Nat) (w : World) (hr : RdB_ w Z p a) (hZ : Z ≤ w.heap.size) (hi : p.its.length ≤ 1000) (hk : p.kps.length ≤ 1000) (hT : Tab w) (t0 : numsF 0 [p.ep, p.sq] = true) (t1 : risF p.sq 0 (p.its.map It.tok) = true) (t2 : risF brMax 0 (p.kps.map Kp.id) = true) (t3 : phOk p.kps = true) (t4 : rfOk p.rf = true) :
    Calls Tryz.prog 21 #[brV p a] w (BoolPost (rightBb p) w) := by
  obtain ⟨V, hV⟩ : ∃ V, w.alloc (.cells (brC p a) 30) = V := ⟨_, rfl⟩
  have hw : Whole V w.heap.size 30 (brC p a) := by rw [← hV]; exact Whole.new _ _ _
  have hb : Below w.heap.size w V := by rw [← hV]; exact (Below.refl _ _).alloc (Nat.le_refl _) _
  have HV := Lib.hid hV
  have H0 := Lib.hid (show RtAt w p a V.drew from (⟨hw, (hr.more hZ).below hb, hT.under hb, hb⟩ : RtAt w p a V).go (below_drewB (Below.refl _ V) 1))
  have HF := Lib.hid (show rightBb p = setOk p by unfold rightBb; rw [← numsF0, t0, itsOk_ris, t1, kpsOk_ris, t2, t3, t4, Bool.true_and, Bool.and_self, Bool.true_and, Bool.true_and, Bool.true_and])
  clear hr hZ hT hV hw hb
  go_enter Tryz.func21, Tryz.ntmps21
  go_upto_region 1 with fail
  refine wpV (fun V2 hV2 => ?_)
  obtain rfl : V = V2 := HV.out.symm.trans hV2
  clear HV hV2
  have HT : Hid ((fun V' => Whole V' w.heap.size 30 (brC p a)) V.drew) := Lib.hid H0.out.box
  have HL : Hid (∀ V', Whole V' w.heap.size 30 (brC p a) → V'.cell? ⟨w.heap.size, 0, none⟩ = some (.int .i64 p.ep) ∧ V'.cell? ⟨w.heap.size, 1, none⟩ = some (.int .i64 p.sq) ∧ V'.cell? ⟨w.heap.size, 19, none⟩ = some (.slice a.B p.kps.length a.d) ∧ V'.cell? ⟨w.heap.size, 20, none⟩ = some (.int .u8 p.rf.st) ∧ V'.cell? ⟨w.heap.size, 21, none⟩ = some (.int .i64 p.rf.fr) ∧ V'.cell? ⟨w.heap.size, 22, none⟩ = some (.int .i64 p.rf.to_) ∧ V'.cell? ⟨w.heap.size, 23, none⟩ = some (.int .i64 p.rf.step) ∧ V'.cell? ⟨w.heap.size, 24, none⟩ = some (.bool p.rf.paused) ∧ V'.cell? ⟨w.heap.size, 25, none⟩ = some (.int .i64 p.rf.since) ∧ V'.cell? ⟨w.heap.size, 26, none⟩ = some (.int .i64 p.rf.fails)) := Lib.hid (fun V' h => ⟨h.cell 0, h.cell 1, h.cell 19, h.cell 20, h.cell 21, h.cell 22, h.cell 23, h.cell 24, h.cell 25, h.cell 26⟩)
  refine wp_region_T (ls := []) (T := (fun V' => Whole V' w.heap.size 30 (brC p a))) (by kernel_rfl) ?_
  refine takeT (i := 0) (v := ?_) rfl (by kernel_rfl) (by kernel_rfl) (by kernel_rfl) (by kernel_rfl) (fun _ _ _ h => h) (by rfl) ?_ HT.out ?_
  rotate_left
  · intro V' hV; obtain ⟨d0, d1, d19, d20, d21, d22, d23, d24, d25, d26⟩ := HL.out V' hV; go_simp <;> with_reducible rfl
  simp only [Act.put, List.setIfInBounds_toArray, List.set_cons_zero, List.set_cons_succ]
  refine takeT (i := 1) (v := ?_) rfl (by kernel_rfl) (by kernel_rfl) (by kernel_rfl) (by kernel_rfl) (fun _ _ _ h => h) (by rfl) ?_ HT.out ?_
  rotate_left
  · intro V' hV; obtain ⟨d0, d1, d19, d20, d21, d22, d23, d24, d25, d26⟩ := HL.out V' hV; go_simp <;> with_reducible rfl
  simp only [Act.put, List.setIfInBounds_toArray, List.set_cons_zero, List.set_cons_succ]
  refine takeT (i := 2) (v := ?_) rfl (by kernel_rfl) (by kernel_rfl) (by kernel_rfl) (by kernel_rfl) (fun _ _ _ h => h) (by rfl) ?_ HT.out ?_
  rotate_left
  · intro V' hV; obtain ⟨d0, d1, d19, d20, d21, d22, d23, d24, d25, d26⟩ := HL.out V' hV; go_simp <;> with_reducible rfl
  simp only [Act.put, List.setIfInBounds_toArray, List.set_cons_zero, List.set_cons_succ]
  refine takeT (i := 3) (v := ?_) rfl (by kernel_rfl) (by kernel_rfl) (by kernel_rfl) (by kernel_rfl) (fun _ _ _ h => h) (by rfl) ?_ HT.out ?_
  rotate_left
  · intro V' hV; obtain ⟨d0, d1, d19, d20, d21, d22, d23, d24, d25, d26⟩ := HL.out V' hV; go_simp <;> with_reducible rfl
  simp only [Act.put, List.setIfInBounds_toArray, List.set_cons_zero, List.set_cons_succ]
  obtain ⟨w1_, hW1⟩ : ∃ W, V.drew.alloc (.cells #[.int .i64 p.ep, .int .i64 p.sq] 3) = W := ⟨_, rfl⟩
  have hb_ : Below V.drew.heap.size V.drew w1_ := by rw [← hW1]; exact (Below.refl _ _).alloc (Nat.le_refl _) _
  have hR1 := rd_lit_at V.drew [.int .i64 p.ep, .int .i64 p.sq] 3 2 V.drew.heap.size rfl rfl
  rw [hW1] at hR1
  have HR1 := Lib.hid hR1
  clear hR1
  refine oneT (i := 4) rfl (by kernel_rfl) (by rfl) (fun K hK => ?_)
  go_simp
  clear hW1
  have H1 := Lib.hid (H0.out.go hb_)
  clear hb_ H0 HT
  have HT : Hid ((fun V' => Whole V' w.heap.size 30 (brC p a)) w1_) := Lib.hid H1.out.box
  refine hK.out _ _ (fun _ => HT.out) ?_
  clear hK K
  refine oneT (i := 5) rfl (by kernel_rfl) (by rfl) (fun K hK => ?_)
  go_simp
  refine (bnumbers_any 0 _ 2 2 [p.ep, p.sq] _ _ HR1.out (by omega)).mono ?_
  rintro e w2_ ⟨rfl, hw_⟩
  have hb_ : Below w1_.heap.size w1_ w2_ := by rw [hw_]; exact Below.refl _ _
  clear hw_ HR1
  rw [t0]
  have H2 := Lib.hid (H1.out.go hb_)
  clear hb_ H1 HT
  have HT : Hid ((fun V' => Whole V' w.heap.size 30 (brC p a)) w2_) := Lib.hid H2.out.box
  refine hK.out _ _ (fun _ => HT.out) ?_
  clear hK K
  refine takeP (i := 6) (v := ?_) rfl (by kernel_rfl) (by kernel_rfl) (by kernel_rfl) (by kernel_rfl) (fun _ _ _ h => h) (by rfl) ?_ (fun _ => HT.out) ?_
  rotate_left
  · intro V'; go_simp <;> with_reducible rfl
  simp only [Act.put, List.setIfInBounds_toArray, List.set_cons_zero, List.set_cons_succ]
  refine takeT (i := 7) (v := brV p a) rfl (by kernel_rfl) (by kernel_rfl) (by kernel_rfl) (by kernel_rfl) (fun _ _ _ h => h) (by rfl) ?_ HT.out ?_
  · intro V' hV; exact exec_load_brain rfl hV
  simp only [Act.put, List.setIfInBounds_toArray, List.set_cons_zero, List.set_cons_succ]
  refine takeT (i := 9) (v := ?_) rfl (by kernel_rfl) (by kernel_rfl) (by kernel_rfl) (by kernel_rfl) (fun _ _ _ h => h) (by rfl) ?_ HT.out ?_
  rotate_left
  · intro V' hV; obtain ⟨d0, d1, d19, d20, d21, d22, d23, d24, d25, d26⟩ := HL.out V' hV; go_simp <;> with_reducible rfl
  simp only [Act.put, List.setIfInBounds_toArray, List.set_cons_zero, List.set_cons_succ]
  refine takeT (i := 10) (v := ?_) rfl (by kernel_rfl) (by kernel_rfl) (by kernel_rfl) (by kernel_rfl) (fun _ _ _ h => h) (by rfl) ?_ HT.out ?_
  rotate_left
  · intro V' hV; obtain ⟨d0, d1, d19, d20, d21, d22, d23, d24, d25, d26⟩ := HL.out V' hV; go_simp <;> with_reducible rfl
  simp only [Act.put, List.setIfInBounds_toArray, List.set_cons_zero, List.set_cons_succ]
  refine oneT (i := 8) rfl (by kernel_rfl) (by rfl) (fun K hK => ?_)
  go_simp
  refine (tokens_any p a _).mono ?_
  rintro e w3_ ⟨b1, b2, rfl, g1, g2, g3, g4, hb_⟩
  have HQ1 := Lib.hid (show SeqI 114 b1 b2 (p.its.map It.tok) w3_ from itSeq hi g1 g2 g3 g4 ((H2.out.go hb_).rd.its.more (H2.out.go hb_).below.size))
  clear g1 g2 g3 g4
  have H3 := Lib.hid (H2.out.go hb_)
  clear hb_ H2 HT
  have HT : Hid ((fun V' => Whole V' w.heap.size 30 (brC p a)) w3_) := Lib.hid H3.out.box
  refine hK.out _ _ (fun _ => HT.out) ?_
  clear hK K
  refine oneT (i := 11) rfl (by kernel_rfl) (by rfl) (fun K hK => ?_)
  go_simp
  refine (rising_any 114 b1 b2 (p.its.map It.tok) p.sq _ (enters_of Tryz.func114 (by kernel_rfl) rfl) HQ1.out).mono ?_
  rintro e w4_ ⟨rfl, hb_⟩
  clear HQ1
  rw [t1]
  have H4 := Lib.hid (H3.out.go hb_)
  clear hb_ H3 HT
  have HT : Hid ((fun V' => Whole V' w.heap.size 30 (brC p a)) w4_) := Lib.hid H4.out.box
  refine hK.out _ _ (fun _ => HT.out) ?_
  clear hK K
  refine takeP (i := 12) (v := ?_) rfl (by kernel_rfl) (by kernel_rfl) (by kernel_rfl) (by kernel_rfl) (fun _ _ _ h => h) (by rfl) ?_ (fun _ => HT.out) ?_
  rotate_left
  · intro V'; go_simp <;> with_reducible rfl
  simp only [Act.put, List.setIfInBounds_toArray, List.set_cons_zero, List.set_cons_succ]
  refine takeP (i := 13) (v := ?_) rfl (by kernel_rfl) (by kernel_rfl) (by kernel_rfl) (by kernel_rfl) (fun _ _ _ h => h) (by rfl) ?_ (fun _ => HT.out) ?_
  rotate_left
  · intro V'; go_simp <;> with_reducible rfl
  simp only [Act.put, List.setIfInBounds_toArray, List.set_cons_zero, List.set_cons_succ]
  refine takeT (i := 14) (v := brV p a) rfl (by kernel_rfl) (by kernel_rfl) (by kernel_rfl) (by kernel_rfl) (fun _ _ _ h => h) (by rfl) ?_ HT.out ?_
  · intro V' hV; exact exec_load_brain rfl hV
  simp only [Act.put, List.setIfInBounds_toArray, List.set_cons_zero, List.set_cons_succ]
  refine oneT (i := 15) rfl (by kernel_rfl) (by rfl) (fun K hK => ?_)
  go_simp
  refine (ids_any p a _).mono ?_
  rintro e w5_ ⟨b3, b4, rfl, g1, g2, g3, g4, hb_⟩
  have HQ2 := Lib.hid (show SeqI 113 b3 b4 (p.kps.map Kp.id) w5_ from kpSeq hk g1 g2 g3 g4 ((H4.out.go hb_).rd.kps.more (H4.out.go hb_).below.size))
  clear g1 g2 g3 g4
  have H5 := Lib.hid (H4.out.go hb_)
  clear hb_ H4 HT
  have HT : Hid ((fun V' => Whole V' w.heap.size 30 (brC p a)) w5_) := Lib.hid H5.out.box
  refine hK.out _ _ (fun _ => HT.out) ?_
  clear hK K
  refine oneT (i := 16) rfl (by kernel_rfl) (by rfl) (fun K hK => ?_)
  go_simp
  refine (rising_any 113 b3 b4 (p.kps.map Kp.id) brMax _ (enters_of Tryz.func113 (by kernel_rfl) rfl) HQ2.out).mono ?_
  rintro e w6_ ⟨rfl, hb_⟩
  clear HQ2
  rw [t2]
  have H6 := Lib.hid (H5.out.go hb_)
  clear hb_ H5 HT
  have HT : Hid ((fun V' => Whole V' w.heap.size 30 (brC p a)) w6_) := Lib.hid H6.out.box
  refine hK.out _ _ (fun _ => HT.out) ?_
  clear hK K
  refine takeP (i := 17) (v := ?_) rfl (by kernel_rfl) (by kernel_rfl) (by kernel_rfl) (by kernel_rfl) (fun _ _ _ h => h) (by rfl) ?_ (fun _ => HT.out) ?_
  rotate_left
  · intro V'; go_simp <;> with_reducible rfl
  simp only [Act.put, List.setIfInBounds_toArray, List.set_cons_zero, List.set_cons_succ]
  refine takeP (i := 18) (v := ?_) rfl (by kernel_rfl) (by kernel_rfl) (by kernel_rfl) (by kernel_rfl) (fun _ _ _ h => h) (by rfl) ?_ (fun _ => HT.out) ?_
  rotate_left
  · intro V'; go_simp <;> with_reducible rfl
  simp only [Act.put, List.setIfInBounds_toArray, List.set_cons_zero, List.set_cons_succ]
  refine takeT (i := 19) (v := ?_) rfl (by kernel_rfl) (by kernel_rfl) (by kernel_rfl) (by kernel_rfl) (fun _ _ _ h => h) (by rfl) ?_ HT.out ?_
  rotate_left
  · intro V' hV; obtain ⟨d0, d1, d19, d20, d21, d22, d23, d24, d25, d26⟩ := HL.out V' hV; go_simp <;> with_reducible rfl
  simp only [Act.put, List.setIfInBounds_toArray, List.set_cons_zero, List.set_cons_succ]
  refine takeT (i := 20) (v := ?_) rfl (by kernel_rfl) (by kernel_rfl) (by kernel_rfl) (by kernel_rfl) (fun _ _ _ h => h) (by rfl) ?_ HT.out ?_
  rotate_left
  · intro V' hV; obtain ⟨d0, d1, d19, d20, d21, d22, d23, d24, d25, d26⟩ := HL.out V' hV; go_simp <;> with_reducible rfl
  simp only [Act.put, List.setIfInBounds_toArray, List.set_cons_zero, List.set_cons_succ]
  refine oneT (i := 21) rfl (by kernel_rfl) (by rfl) (fun K hK => ?_)
  go_simp
  refine (phased_any a.B p.kps.length a.d p.kps w.heap.size _ H6.out.rd.kps H6.out.below.size hk).mono ?_
  rintro e w7_ ⟨rfl, hb_⟩
  rw [t3]
  have H7 := Lib.hid (H6.out.go hb_)
  clear hb_ H6 HT
  have HT : Hid ((fun V' => Whole V' w.heap.size 30 (brC p a)) w7_) := Lib.hid H7.out.box
  refine hK.out _ _ (fun _ => HT.out) ?_
  clear hK K
  refine takeP (i := 22) (v := ?_) rfl (by kernel_rfl) (by kernel_rfl) (by kernel_rfl) (by kernel_rfl) (fun _ _ _ h => h) (by rfl) ?_ (fun _ => HT.out) ?_
  rotate_left
  · intro V'; go_simp <;> with_reducible rfl
  simp only [Act.put, List.setIfInBounds_toArray, List.set_cons_zero, List.set_cons_succ]
  refine takeP (i := 23) (v := ?_) rfl (by kernel_rfl) (by kernel_rfl) (by kernel_rfl) (by kernel_rfl) (fun _ _ _ h => h) (by rfl) ?_ (fun _ => HT.out) ?_
  rotate_left
  · intro V'; go_simp <;> with_reducible rfl
  simp only [Act.put, List.setIfInBounds_toArray, List.set_cons_zero, List.set_cons_succ]
  refine takeT (i := 24) (v := ?_) rfl (by kernel_rfl) (by kernel_rfl) (by kernel_rfl) (by kernel_rfl) (fun _ _ _ h => h) (by rfl) ?_ HT.out ?_
  rotate_left
  · intro V' hV; obtain ⟨d0, d1, d19, d20, d21, d22, d23, d24, d25, d26⟩ := HL.out V' hV; go_simp <;> with_reducible rfl
  simp only [Act.put, List.setIfInBounds_toArray, List.set_cons_zero, List.set_cons_succ]
  refine takeT (i := 25) (v := ?_) rfl (by kernel_rfl) (by kernel_rfl) (by kernel_rfl) (by kernel_rfl) (fun _ _ _ h => h) (by rfl) ?_ HT.out ?_
  rotate_left
  · intro V' hV; obtain ⟨d0, d1, d19, d20, d21, d22, d23, d24, d25, d26⟩ := HL.out V' hV; go_simp <;> with_reducible rfl
  simp only [Act.put, List.setIfInBounds_toArray, List.set_cons_zero, List.set_cons_succ]
  refine oneT (i := 26) rfl (by kernel_rfl) (by rfl) (fun K hK => ?_)
  go_simp
  refine (refreshed_any p.rf _).mono ?_
  rintro e w8_ ⟨rfl, hb_⟩
  rw [t4]
  have H8 := Lib.hid (H7.out.go hb_)
  clear hb_ H7 HT
  have HT : Hid ((fun V' => Whole V' w.heap.size 30 (brC p a)) w8_) := Lib.hid H8.out.box
  refine hK.out _ _ (fun _ => HT.out) ?_
  clear hK K
  refine takeP (i := 27) (v := ?_) rfl (by kernel_rfl) (by kernel_rfl) (by kernel_rfl) (by kernel_rfl) (fun _ _ _ h => h) (by rfl) ?_ (fun _ => HT.out) ?_
  rotate_left
  · intro V'; go_simp <;> with_reducible rfl
  simp only [Act.put, List.setIfInBounds_toArray, List.set_cons_zero, List.set_cons_succ]
  refine takeP (i := 28) (v := ?_) rfl (by kernel_rfl) (by kernel_rfl) (by kernel_rfl) (by kernel_rfl) (fun _ _ _ h => h) (by rfl) ?_ (fun _ => HT.out) ?_
  rotate_left
  · intro V'; go_simp <;> with_reducible rfl
  simp only [Act.put, List.setIfInBounds_toArray, List.set_cons_zero, List.set_cons_succ]
  refine takeT (i := 29) (v := brV p a) rfl (by kernel_rfl) (by kernel_rfl) (by kernel_rfl) (by kernel_rfl) (fun _ _ _ h => h) (by rfl) ?_ HT.out ?_
  · intro V' hV; exact exec_load_brain rfl hV
  simp only [Act.put, List.setIfInBounds_toArray, List.set_cons_zero, List.set_cons_succ]
  refine oneT (i := 30) rfl (by kernel_rfl) (by rfl) (fun K hK => ?_)
  go_simp
  refine (grouped_any p a w.heap.size _ H8.out.rd H8.out.below.size H8.out.tab).mono ?_
  rintro e w9_ ⟨rfl, hb_⟩
  have H9 := Lib.hid (H8.out.go hb_)
  clear hb_ H8 HT
  have HT : Hid ((fun V' => Whole V' w.heap.size 30 (brC p a)) w9_) := Lib.hid H9.out.box
  refine hK.out _ _ (fun _ => HT.out) ?_
  clear hK K
  refine takeP (i := 31) (v := ?_) rfl (by kernel_rfl) (by kernel_rfl) (by kernel_rfl) (by kernel_rfl) (fun _ _ _ h => h) (by rfl) ?_ (fun _ => HT.out) ?_
  rotate_left
  · intro V'; go_simp <;> with_reducible rfl
  simp only [Act.put, List.setIfInBounds_toArray, List.set_cons_zero, List.set_cons_succ]
  refine oneT (i := 32) rfl (by kernel_rfl) (by rfl) (fun K hK => ?_)
  go_simp
  refine hK.out _ _ (fun _ => HT.out) ?_
  clear hK K
  refine doneT (by kernel_rfl) ?_ _
  go_wp2_with fail
  go_ret
  exact ⟨by rw [HF.out]; rfl, H9.out.below⟩

theorem bright_any (p : Br) (a : Ad) (Z : Nat) (w : World) (hr : RdB_ w Z p a) (hZ : Z ≤ w.heap.size) (hi : p.its.length ≤ 1000) (hk : p.kps.length ≤ 1000) (hT : Tab w) :
    Calls Tryz.prog 21 #[brV p a] w (BoolPost (rightBb p) w) := by
  cases t0 : numsF 0 [p.ep, p.sq] with
  | false => exact bright_0 p a Z w hr hZ hi hk hT t0
  | true =>
  cases t1 : risF p.sq 0 (p.its.map It.tok) with
  | false => exact bright_1 p a Z w hr hZ hi hk hT t0 t1
  | true =>
  cases t2 : risF brMax 0 (p.kps.map Kp.id) with
  | false => exact bright_2 p a Z w hr hZ hi hk hT t0 t1 t2
  | true =>
  cases t3 : phOk p.kps with
  | false => exact bright_3 p a Z w hr hZ hi hk hT t0 t1 t2 t3
  | true =>
  cases t4 : rfOk p.rf with
  | false => exact bright_4 p a Z w hr hZ hi hk hT t0 t1 t2 t3 t4
  | true =>
  exact bright_5 p a Z w hr hZ hi hk hT t0 t1 t2 t3 t4

end Go.Proofs.YtdaimejlcfhfiaaGreatDoor

/-
  Rows of structs of one's own, edited where they lie: appends in place, copies, clears, as edits of the block's cells. Conditions: those that each theorem names.
-/
namespace Go.Proofs.YtdaimejlcfhfiaaGreatDoor
open Go.RowKit Go.Shelf

/-- A block of cells of a row with room for cap elements. -/
structure RowIn (w : World) (g : Nat) (e : TypeId) (size cap : Nat) (cs : List Value) : Prop where
  hg : w.heap[g]? = some (.cells cs.toArray e (0, 0))
  len : cs.length = cap * size
  capm : cap ≤ maxLen
/-- One row's block has been edited, and nothing else. -/
structure Edit (g : Nat) (w w' : World) : Prop where
  grown : w.grownBy w' (some g)
  size : w'.heap.size = w.heap.size
set_option maxRecDepth 100000 in
theorem Edit.refl (g : Nat) (w : World) : Edit g w w := ⟨World.grownBy.refl w _, rfl⟩
set_option maxRecDepth 100000 in
theorem Edit.trans {g : Nat} {a b c : World} (h : Edit g a b) (k : Edit g b c) : Edit g a c :=
  ⟨⟨k.grown.os.trans h.grown.os, k.grown.tape.trans h.grown.tape, k.grown.output.trans h.grown.output, by rw [k.size, h.size]; exact Nat.le_refl _, fun i hi hg => (k.grown.block i (by rw [h.size]; exact hi) hg).trans (h.grown.block i hi hg)⟩, by rw [k.size, h.size]⟩
set_option maxRecDepth 100000 in
theorem Edit.drewN (g : Nat) (w : World) (k : Nat) : Edit g w (w.drewN k) := ⟨⟨rfl, rfl, rfl, Nat.le_refl _, fun _ _ _ => rfl⟩, rfl⟩
set_option maxRecDepth 100000 in
theorem edit_setRow (w : World) (g : Nat) (cs : Array Value) : Edit g w (w.setRow g cs) :=
  ⟨⟨rfl, rfl, rfl, by simp, fun k _ hk => setRow_other w g k cs (fun e => hk (by rw [e]))⟩, by simp⟩
set_option maxRecDepth 100000 in
theorem RowIn.drewN {w : World} {g : Nat} {e : TypeId} {size cap : Nat} {cs : List Value} (h : RowIn w g e size cap cs) (k : Nat) : RowIn (w.drewN k) g e size cap cs := ⟨h.hg, h.len, h.capm⟩
set_option maxRecDepth 100000 in
theorem RowIn.of_own {w : World} {base n c : Nat} {e : TypeId} {size : Nat} {A : Option Addr} {xs : List Value} (h : w.ownsRow base e size (.slice A n c) n xs) (hn : 0 < n) :
    ∃ g cs, A = some ⟨g, 0, none⟩ ∧ base ≤ g ∧ RowIn w g e size c cs ∧ n ≤ c ∧ cs.take (n * size) = xs := by
  rcases h.2 with ⟨_, rfl⟩ | ⟨g, cap, cur, hv, hb, hg, hnc, hcm, hcs, ht⟩
  · omega
  · injection hv with h1 h2 h3
    subst h1; subst h3
    exact ⟨g, cur.toList, rfl, hb, ⟨by simpa using hg, by simpa using hcs, hcm⟩, hnc, ht⟩
set_option maxRecDepth 100000 in
theorem RowIn.own {w : World} {g cap n base : Nat} {e : TypeId} {size : Nat} {cs xs : List Value} (h : RowIn w g e size cap cs) (hb : base ≤ g) (hn : n ≤ cap) (hl : xs.length = n * size) (ht : cs.take (n * size) = xs) :
    w.ownsRow base e size (.slice (some ⟨g, 0, none⟩) n cap) n xs :=
  ⟨hl, .inr ⟨g, cap, cs.toArray, rfl, hb, h.hg, hn, h.capm, by simpa using h.len, by simpa using ht⟩⟩
set_option maxRecDepth 100000 in
theorem RowIn.put {w : World} {g : Nat} {e : TypeId} {size cap o : Nat} {cs vs : List Value} (h : RowIn w g e size cap cs) (hf : o + vs.length ≤ cs.length) :
    RowIn (w.setRow g (cs.take o ++ vs ++ cs.drop (o + vs.length)).toArray) g e size cap (cs.take o ++ vs ++ cs.drop (o + vs.length)) := by
  refine ⟨setRow_heap w g cs.toArray _ e _ h.hg, ?_, h.capm⟩
  rw [← h.len]
  simp only [List.length_append, List.length_take, List.length_drop]
  omega

section
variable {α : Type} {f : α → List Value} {size : Nat} {P : Program}
set_option maxRecDepth 100000 in
theorem run_append_in {w : World} {t e : TypeId} {i0 : TypeInfo} (ht : P.underlying t = some (.slice e)) (hi : P.info? e = some i0) (hsz : i0.size = size) (hs : 0 < size) (hf : ∀ x, (f x).length = size) (hf1 : ∀ x, ∀ u ∈ f x, u.oneCell' = true)
    {g cap i m c B : Nat} {cs : List Value} {A : Option Addr} {l : List α} (h : RowIn w g e size cap cs) (hr : RdF size f w B A m l) (hroom : i + m ≤ cap) :
    ∃ w', (Builtin.append_ #[t, t] t #[.slice (some ⟨g, 0, none⟩) i cap, .slice A m c]).run P w = .ok (.slice (some ⟨g, 0, none⟩) (i + m) cap) w' ∧ RowIn w' g e size cap (cs.take (i * size) ++ l.flatMap f ++ cs.drop (i * size + (l.flatMap f).length)) ∧ Edit g w w' := by
  rcases A with _ | ad
  · have hm0 : m = 0 := by
      rcases Nat.eq_zero_or_pos m with h | h
      · exact h
      · obtain ⟨b, off, e, _⟩ := hr.2 h
        cases e
    subst hm0
    have hb : l = [] := List.eq_nil_of_length_eq_zero hr.1
    subst hb
    refine ⟨w, ?_, ?_, Edit.refl _ _⟩
    · have : i ≤ cap := by omega
      simp [Builtin.append_, run_underlying ht, sizeOf, typeInfo, hi, Builtin.lenOf, Builtin.firstCells, this, storeCells]
    · simpa using h
  · have hl : (l.flatMap f).length = m * size := by rw [flatF_length hf, hr.1]
    have hfit : i * size + (l.flatMap f).length ≤ cs.length := by rw [hl, h.len, ← Nat.add_mul]; exact Nat.mul_le_mul_right _ hroom
    have h1 := run_append_room (P := P) w t t e i0 ht hi g i cap cs.toArray h.hg ad m c (l.flatMap f) (by rw [hl, hsz]) (hr.cells hf hs) (flatF_one hf1 l) hroom (by rw [hsz]; simpa using hfit)
    rw [hsz] at h1
    exact ⟨_, h1, h.put hfit, edit_setRow _ _ _⟩

set_option maxRecDepth 100000 in
theorem run_copy_in {w : World} {dT sT ty e : TypeId} (hu : P.underlying dT = some (.slice e)) (hsz : (P.info? e).map (·.size) = some size) (hs : 0 < size) (hf : ∀ x, (f x).length = size) (hf1 : ∀ x, ∀ u ∈ f x, u.oneCell' = true)
    {g cap o dLen dCap sLen sCap B m : Nat} {a : Addr} {cs : List Value} {l : List α} (h : RowIn w g e size cap cs) (hr : RdF size f w B (some a) m l) (hm : m = Nat.min sLen dLen) (hroom : o + m ≤ cap) :
    ∃ w', (Builtin.copy_ #[dT, sT] ty #[.slice (some ⟨g, o * size, none⟩) dLen dCap, .slice (some a) sLen sCap]).run P w = .ok (goInt m) w' ∧ RowIn w' g e size cap (cs.take (o * size) ++ l.flatMap f ++ cs.drop (o * size + (l.flatMap f).length)) ∧ Edit g w w' := by
  have hl : (l.flatMap f).length = m * size := by rw [flatF_length hf, hr.1]
  have hfit : o * size + (l.flatMap f).length ≤ cs.length := by rw [hl, h.len, ← Nat.add_mul]; exact Nat.mul_le_mul_right _ hroom
  have hld := run_loadCells_list (P := P) w a (l.flatMap f) (hr.cells hf hs)
  have hst := run_storeCells_at P g (o * size) e (l.flatMap f) 0 cs.toArray w h.hg (by simpa using hfit) (flatF_one hf1 l)
  simp only [Nat.add_zero] at hst
  have hput := h.put hfit
  rw [hl] at hld
  revert hl hfit hld hst hput
  generalize l.flatMap f = xs
  intro hl hfit hld hst hput
  refine ⟨_, ?_, hput, edit_setRow _ _ _⟩
  cases hq : P.info? e with
  | none => simp [hq] at hsz
  | some i =>
    have hi : i.size = size := by simpa [hq] using hsz
    simp [Builtin.copy_, run_underlying hu, Builtin.lenOf, Builtin.firstCells, sizeOf, typeInfo, hq, hi, ← hm, hld, hst]

set_option maxRecDepth 100000 in
theorem run_clear_in {w : World} {t e ty : TypeId} {z : Value} (ht : P.underlying t = some (.slice e)) (hv : ∀ w, (zeroValue e).run P w = .ok z w) (hz : z.cells.size = size) (hz1 : ∀ u ∈ z.cells.toList, u.oneCell' = true)
    {g cap o k c : Nat} {cs : List Value} (h : RowIn w g e size cap cs) (hk : 0 < k) (hroom : o + k ≤ cap) :
    ∃ w' zs, (Builtin.clear_ #[t] ty #[.slice (some ⟨g, o * size, none⟩) k c]).run P w = .ok (.tuple #[]) w' ∧ zs.length = k * size ∧ RowIn w' g e size cap (cs.take (o * size) ++ zs ++ cs.drop (o * size + zs.length)) ∧ Edit g w w' := by
  have hzl : (Builtin.zeroCells z.cells k).toList.length = k * size := by rw [Array.length_toList, size_zeroCells, hz]
  have h1 : ∀ v ∈ (Builtin.zeroCells z.cells k).toList, v.oneCell' = true := by
    intro v hv'
    simp only [Builtin.zeroCells, Array.toList_map, List.mem_map, Array.toList_range, List.mem_range] at hv'
    obtain ⟨j, hj, rfl⟩ := hv'
    have h0 : 0 < z.cells.size := by
      rcases Nat.eq_zero_or_pos z.cells.size with h0 | h0
      · rw [h0, Nat.mul_zero] at hj; omega
      · exact h0
    have hlt : j % z.cells.size < z.cells.size := Nat.mod_lt _ h0
    rw [getElem!_pos z.cells _ hlt]
    exact hz1 _ (by simp)
  have hfit : o * size + (Builtin.zeroCells z.cells k).toList.length ≤ cs.length := by rw [hzl, h.len, ← Nat.add_mul]; exact Nat.mul_le_mul_right _ hroom
  have hst := run_storeCells_at P g (o * size) e (Builtin.zeroCells z.cells k).toList 0 cs.toArray w h.hg (by simpa using hfit) h1
  simp only [Nat.add_zero] at hst
  refine ⟨_, _, ?_, hzl, h.put hfit, edit_setRow _ _ _⟩
  obtain ⟨m, rfl⟩ : ∃ m, k = m + 1 := ⟨k - 1, by omega⟩
  simp [Builtin.clear_, run_underlying ht, hv, hst]
end

set_option maxRecDepth 100000 in
/-- What stands where, behind the edits of a deletion. -/
theorem seg_del {α : Type} {f : α → List Value} {size : Nat} (hf : ∀ x, (f x).length = size) {cs zs : List Value} {l : List α} {i : Nat} (hi : i < l.length) (ht : cs.take (l.length * size) = l.flatMap f) :
    ((cs.take (i * size) ++ (l.drop (i + 1)).flatMap f ++ cs.drop (i * size + ((l.drop (i + 1)).flatMap f).length)).take ((l.length - 1) * size) ++ zs ++ (cs.take (i * size) ++ (l.drop (i + 1)).flatMap f ++ cs.drop (i * size + ((l.drop (i + 1)).flatMap f).length)).drop ((l.length - 1) * size + zs.length)).take ((l.length - 1) * size) = (l.take i ++ l.drop (i + 1)).flatMap f := by
  have e1 : cs.take (i * size) = (l.take i).flatMap f := by
    have h1 : (cs.take (l.length * size)).take (i * size) = cs.take (i * size) := by
      rw [List.take_take, Nat.min_eq_left (Nat.mul_le_mul_right _ (by omega))]
    rw [← h1, ht]
    have h2 : l.flatMap f = (l.take i).flatMap f ++ (l.drop i).flatMap f := by rw [← List.flatMap_append, List.take_append_drop]
    rw [h2, List.take_left' (by rw [flatF_length hf, List.length_take]; congr 1; omega)]
  have e2 : ((l.take i).flatMap f ++ (l.drop (i + 1)).flatMap f).length = (l.length - 1) * size := by
    rw [List.length_append, flatF_length hf, flatF_length hf, List.length_take, List.length_drop, ← Nat.add_mul]
    congr 1
    omega
  have e3 : ((l.take i).flatMap f ++ (l.drop (i + 1)).flatMap f ++ cs.drop (i * size + ((l.drop (i + 1)).flatMap f).length)).take ((l.length - 1) * size) = (l.take i).flatMap f ++ (l.drop (i + 1)).flatMap f := by
    rw [← e2, List.take_left]
  rw [e1, e3, List.append_assoc, List.take_left' e2, List.flatMap_append]
set_option maxRecDepth 100000 in
/-- .. behind those of an insertion where there is room. -/
theorem seg_ins {α : Type} {f : α → List Value} {size : Nat} (hf : ∀ x, (f x).length = size) {cs : List Value} {l : List α} {x : α} {i : Nat} (hi : i ≤ l.length) (ht : cs.take (i * size) = (l.take i).flatMap f) (hl : (l.length + 1) * size ≤ cs.length) :
    ((cs.take ((i + 1) * size) ++ (l.drop i).flatMap f ++ cs.drop ((i + 1) * size + ((l.drop i).flatMap f).length)).take (i * size) ++ [x].flatMap f ++ (cs.take ((i + 1) * size) ++ (l.drop i).flatMap f ++ cs.drop ((i + 1) * size + ((l.drop i).flatMap f).length)).drop (i * size + ([x].flatMap f).length)).take ((l.length + 1) * size) = (l.take i ++ [x] ++ l.drop i).flatMap f := by
  have hi1 : i * size ≤ (i + 1) * size := Nat.mul_le_mul_right _ (by omega)
  have hi2 : (i + 1) * size ≤ cs.length := Nat.le_trans (Nat.mul_le_mul_right _ (by omega)) hl
  have e0 : ([x].flatMap f).length = size := by simp [hf]
  have e1 : (cs.take ((i + 1) * size)).length = (i + 1) * size := by rw [List.length_take]; omega
  have e2 : (cs.take ((i + 1) * size) ++ (l.drop i).flatMap f ++ cs.drop ((i + 1) * size + ((l.drop i).flatMap f).length)).take (i * size) = (l.take i).flatMap f := by
    rw [List.append_assoc, List.take_append_of_le_length (by rw [e1]; exact hi1), List.take_take, Nat.min_eq_left hi1, ht]
  have e3 : (cs.take ((i + 1) * size) ++ (l.drop i).flatMap f ++ cs.drop ((i + 1) * size + ((l.drop i).flatMap f).length)).drop (i * size + ([x].flatMap f).length) = (l.drop i).flatMap f ++ cs.drop ((i + 1) * size + ((l.drop i).flatMap f).length) := by
    rw [e0, show i * size + size = (i + 1) * size by rw [Nat.succ_mul], List.append_assoc, List.drop_left' e1]
  rw [e2, e3]
  have e4 : ((l.take i).flatMap f ++ [x].flatMap f ++ (l.drop i).flatMap f).length = (l.length + 1) * size := by
    rw [List.length_append, List.length_append, flatF_length hf, flatF_length hf, flatF_length hf, List.length_take, List.length_drop, List.length_singleton, ← Nat.add_mul, ← Nat.add_mul]
    congr 1
    omega
  rw [← List.append_assoc, List.take_left' e4, List.flatMap_append, List.flatMap_append]
set_option maxRecDepth 100000 in
/-- .. and those of one into a fresh row, where what is put comes first. -/
theorem seg_ins2 {α : Type} {f : α → List Value} {size : Nat} (hf : ∀ x, (f x).length = size) {cs : List Value} {l : List α} {x : α} {i : Nat} (hi : i ≤ l.length) (ht : cs.take (i * size) = (l.take i).flatMap f) :
    ((cs.take (i * size) ++ [x].flatMap f ++ cs.drop (i * size + ([x].flatMap f).length)).take ((i + 1) * size) ++ (l.drop i).flatMap f ++ (cs.take (i * size) ++ [x].flatMap f ++ cs.drop (i * size + ([x].flatMap f).length)).drop ((i + 1) * size + ((l.drop i).flatMap f).length)).take ((l.length + 1) * size) = (l.take i ++ [x] ++ l.drop i).flatMap f := by
  have e0 : ([x].flatMap f).length = size := by simp [hf]
  have e1 : ((l.take i).flatMap f ++ [x].flatMap f).length = (i + 1) * size := by
    rw [List.length_append, flatF_length hf, e0, List.length_take, Nat.succ_mul]
    congr 2
    omega
  rw [ht, List.take_left' e1]
  have e4 : ((l.take i).flatMap f ++ [x].flatMap f ++ (l.drop i).flatMap f).length = (l.length + 1) * size := by
    rw [List.length_append, e1, flatF_length hf, List.length_drop, ← Nat.add_mul]
    congr 1
    omega
  rw [List.take_left' e4, List.flatMap_append, List.flatMap_append]

section
variable {P : Program} {K : Act → World → Prop} {Q : Exit → Act → World → Prop} {a : Act} {w w' : World} {dst : Option Tmp} {u u' t : TypeId} {pos : String} {after : Array Edge} {g : Option (Nat × Bool)} {x y : Operand} {vs vx v' : Value}
set_option maxRecDepth 100000 in
theorem wp_copyH (hx : a.eval x = vs) (hy : a.eval y = vx) (hr : (Builtin.copy_ #[u, u'] t #[vs, vx]).run P w = .ok v' w') (h : K (a.put dst v') w') :
    ({ dst := dst, op := .call { callee := .builtin .copy, args := #[x, y], argTypes := #[u, u'] }, type := t, pos := pos, after := after, guard := g } : Oper).wp P a w K Q := by
  unfold Oper.wp execOp
  simp only [resolve, invoke, builtin, Sem.run_bind, Sem.run_pure, Result.andThen_ok, List.map_toArray, List.map_cons, List.map_nil, hx, hy, hr]
  exact h
set_option maxRecDepth 100000 in
theorem wpList_copyH {ops : Array Oper} {rest : List Oper} {o : Oper} (hgd : o.guard = none) (x y : Operand) (u u' : TypeId) (ho : o.op = .call { callee := .builtin .copy, args := #[x, y], argTypes := #[u, u'] }) (hx : a.eval x = vs) (hy : a.eval y = vx) (hr : (Builtin.copy_ #[u, u'] o.type #[vs, vx]).run P w = .ok v' w') (h : wpList P ops Q rest (a.put o.dst v') w') : wpList P ops Q (o :: rest) a w :=
  wpList_plain hgd fun _ hK => by
    unfold Oper.wp execOp
    simp only [ho, resolve, invoke, builtin, Sem.run_bind, Sem.run_pure, Result.andThen_ok, List.map_toArray, List.map_cons, List.map_nil, hx, hy, hr]
    exact hK _ _ h
set_option maxRecDepth 100000 in
theorem wpList_clearH {ops : Array Oper} {rest : List Oper} {o : Oper} (hgd : o.guard = none) (x : Operand) (u : TypeId) (ho : o.op = .call { callee := .builtin .clear, args := #[x], argTypes := #[u] }) (hx : a.eval x = vs) (hr : (Builtin.clear_ #[u] o.type #[vs]).run P w = .ok v' w') (h : wpList P ops Q rest (a.put o.dst v') w') : wpList P ops Q (o :: rest) a w :=
  wpList_plain hgd fun _ hK => by
    unfold Oper.wp execOp
    simp only [ho, resolve, invoke, builtin, Sem.run_bind, Sem.run_pure, Result.andThen_ok, List.map_toArray, List.map_cons, List.map_nil, hx, hr]
    exact hK _ _ h
end

end Go.Proofs.YtdaimejlcfhfiaaGreatDoor
