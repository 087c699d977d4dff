/-
  Texts that the walk of a statement over brains leans on, joined (BrRight). Conditions: those that each theorem names.
-/
import Derived.Test.YtdaimejlcfhfiaaGreatDoorKQ
import Derived.Test.YtdaimejlcfhfiaaGreatDoorK1
import Derived.Test.YtdaimejlcfhfiaaGreatDoorK6
import Derived.Test.YtdaimejlcfhfiaaGreatDoorK7
set_option maxRecDepth 100000

namespace Go.Proofs.YtdaimejlcfhfiaaGreatDoor
open Go.RowKit Go.Shelf

/-- What Right's walk carries from call to call. -/
structure RtAt (w : World) (p : Br) (a : Ad) (W : World) : Prop where
  box : Whole W w.heap.size 30 (brC p a)
  rd : RdB_ W w.heap.size p a
  tab : Tab W
  below : Below w.heap.size w W
theorem RtAt.go {w W W' : World} {p : Br} {a : Ad} (h : RtAt w p a W) (hb : Below W.heap.size W W') : RtAt w p a W' :=
  ⟨h.box.under hb, h.rd.below (hb.mono h.below.size), h.tab.under hb, h.below.trans (hb.mono h.below.size)⟩
theorem exec_load_brain {W : World} {g : Nat} {p : Br} {a : Ad} {ρ : Operand → Value} {x : Operand} {dst : Option Tmp} {ty : TypeId} {pos : String} {after : Array Edge} {gd : Option (Nat × Bool)} (hx : ρ x = .pointer (some ⟨g, 0, none⟩)) (h : Whole W g 30 (brC p a)) : (execOp ρ { dst := dst, op := .load 30 x, type := ty, pos := pos, after := after, guard := gd }).run Tryz.prog W = .ok (.value (brV p a)) W := by
  unfold execOp
  simp only [hx, Instr.loadAt, Instr.sureAddr, Sem.run_bind, Sem.run_pure, Result.andThen_ok, run_loadVar_row (P := Tryz.prog) W g 30 30 (brC p a) (0, 0) _ h Tryz.underlying30 rfl (by kernel_rfl)]

set_option maxHeartbeats 4000000 in
theorem bright_0 (p : Br) (a : Ad) (Z : Nat) (w : World) (hr : RdB_ w Z p a) (hZ : Z ≤ w.heap.size) (_ : p.its.length ≤ 1000) (_ : p.kps.length ≤ 1000) (hT : Tab w) (t0 : numsF 0 [p.ep, p.sq] = false) :
    Calls Tryz.prog 21 #[brV p a] w (BoolPost (rightBb p) w) := by
  obtain ⟨V, hV⟩ : ∃ V, w.alloc (.cells (brC p a) 30) = V := ⟨_, rfl⟩
  have hw : Whole V w.heap.size 30 (brC p a) := by rw [← hV]; exact Whole.new _ _ _
  have hb : Below w.heap.size w V := by rw [← hV]; exact (Below.refl _ _).alloc (Nat.le_refl _) _
  have HV := Lib.hid hV
  have H0 := Lib.hid (show RtAt w p a V.drew from (⟨hw, (hr.more hZ).below hb, hT.under hb, hb⟩ : RtAt w p a V).go (below_drewB (Below.refl _ V) 1))
  have HF := Lib.hid (show rightBb p = false by unfold rightBb; rw [← numsF0, t0, Bool.false_and])
  clear hr hZ hT hV hw hb
  go_enter Tryz.func21, Tryz.ntmps21
  go_upto_region 1 with fail
  refine wpV (fun V2 hV2 => ?_)
  obtain rfl : V = V2 := HV.out.symm.trans hV2
  clear HV hV2
  have HT : Hid ((fun V' => Whole V' w.heap.size 30 (brC p a)) V.drew) := Lib.hid H0.out.box
  have HL : Hid (∀ V', Whole V' w.heap.size 30 (brC p a) → V'.cell? ⟨w.heap.size, 0, none⟩ = some (.int .i64 p.ep) ∧ V'.cell? ⟨w.heap.size, 1, none⟩ = some (.int .i64 p.sq) ∧ V'.cell? ⟨w.heap.size, 19, none⟩ = some (.slice a.B p.kps.length a.d) ∧ V'.cell? ⟨w.heap.size, 20, none⟩ = some (.int .u8 p.rf.st) ∧ V'.cell? ⟨w.heap.size, 21, none⟩ = some (.int .i64 p.rf.fr) ∧ V'.cell? ⟨w.heap.size, 22, none⟩ = some (.int .i64 p.rf.to_) ∧ V'.cell? ⟨w.heap.size, 23, none⟩ = some (.int .i64 p.rf.step) ∧ V'.cell? ⟨w.heap.size, 24, none⟩ = some (.bool p.rf.paused) ∧ V'.cell? ⟨w.heap.size, 25, none⟩ = some (.int .i64 p.rf.since) ∧ V'.cell? ⟨w.heap.size, 26, none⟩ = some (.int .i64 p.rf.fails)) := Lib.hid (fun V' h => ⟨h.cell 0, h.cell 1, h.cell 19, h.cell 20, h.cell 21, h.cell 22, h.cell 23, h.cell 24, h.cell 25, h.cell 26⟩)
  refine wp_region_T (ls := []) (T := (fun V' => Whole V' w.heap.size 30 (brC p a))) (by kernel_rfl) ?_
  refine kT 0 ?_ rfl ?_ HT.out ?_
  rotate_left
  · intro V' hV; obtain ⟨d0, d1, d19, d20, d21, d22, d23, d24, d25, d26⟩ := HL.out V' hV; go_simp <;> with_reducible rfl
  simp only [Act.put, lA, lZ, lS]
  refine kT 1 ?_ rfl ?_ HT.out ?_
  rotate_left
  · intro V' hV; obtain ⟨d0, d1, d19, d20, d21, d22, d23, d24, d25, d26⟩ := HL.out V' hV; go_simp <;> with_reducible rfl
  simp only [Act.put, lA, lZ, lS]
  refine kT 2 ?_ rfl ?_ HT.out ?_
  rotate_left
  · intro V' hV; obtain ⟨d0, d1, d19, d20, d21, d22, d23, d24, d25, d26⟩ := HL.out V' hV; go_simp <;> with_reducible rfl
  simp only [Act.put, lA, lZ, lS]
  refine kT 3 ?_ rfl ?_ HT.out ?_
  rotate_left
  · intro V' hV; obtain ⟨d0, d1, d19, d20, d21, d22, d23, d24, d25, d26⟩ := HL.out V' hV; go_simp <;> with_reducible rfl
  simp only [Act.put, lA, lZ, lS]
  obtain ⟨w1_, hW1⟩ : ∃ W, V.drew.alloc (.cells #[.int .i64 p.ep, .int .i64 p.sq] 3) = W := ⟨_, rfl⟩
  have hb_ : Below V.drew.heap.size V.drew w1_ := by rw [← hW1]; exact (Below.refl _ _).alloc (Nat.le_refl _) _
  have hR1 := rd_lit_at V.drew [.int .i64 p.ep, .int .i64 p.sq] 3 2 V.drew.heap.size rfl rfl
  rw [hW1] at hR1
  have HR1 := Lib.hid hR1
  clear hR1
  refine oneT (i := 4) rfl (by kernel_rfl) (by rfl) (fun K hK => ?_)
  go_simp
  clear hW1
  have H1 := Lib.hid (H0.out.go hb_)
  clear hb_ H0 HT
  have HT : Hid ((fun V' => Whole V' w.heap.size 30 (brC p a)) w1_) := Lib.hid H1.out.box
  refine hK.out _ _ (fun _ => HT.out) ?_
  clear hK K
  refine oneT (i := 5) rfl (by kernel_rfl) (by rfl) (fun K hK => ?_)
  go_simp
  refine (bnumbers_any 0 _ 2 2 [p.ep, p.sq] _ _ HR1.out (by omega)).mono ?_
  rintro e w2_ ⟨rfl, hw_⟩
  have hb_ : Below w1_.heap.size w1_ w2_ := by rw [hw_]; exact Below.refl _ _
  clear hw_ HR1
  rw [t0]
  have H2 := Lib.hid (H1.out.go hb_)
  clear hb_ H1 HT
  have HT : Hid ((fun V' => Whole V' w.heap.size 30 (brC p a)) w2_) := Lib.hid H2.out.box
  refine hK.out _ _ (fun _ => HT.out) ?_
  clear hK K
  refine kP 6 ?_ rfl ?_ (fun _ => HT.out) ?_
  rotate_left
  · intro V'; go_simp <;> with_reducible rfl
  simp only [Act.put, lA, lZ, lS]
  refine kS 7 rfl (fun _ => HT.out) ?_
  simp only [Act.put, lA, lZ, lS]
  refine kS 8 rfl (fun _ => HT.out) ?_
  simp only [Act.put, lA, lZ, lS]
  refine kS 9 rfl (fun _ => HT.out) ?_
  simp only [Act.put, lA, lZ, lS]
  refine kS 10 rfl (fun _ => HT.out) ?_
  simp only [Act.put, lA, lZ, lS]
  refine kS 11 rfl (fun _ => HT.out) ?_
  simp only [Act.put, lA, lZ, lS]
  refine kP 12 ?_ rfl ?_ (fun _ => HT.out) ?_
  rotate_left
  · intro V'; go_simp <;> with_reducible rfl
  simp only [Act.put, lA, lZ, lS]
  refine kP 13 ?_ rfl ?_ (fun _ => HT.out) ?_
  rotate_left
  · intro V'; go_simp <;> with_reducible rfl
  simp only [Act.put, lA, lZ, lS]
  refine kS 14 rfl (fun _ => HT.out) ?_
  simp only [Act.put, lA, lZ, lS]
  refine kS 15 rfl (fun _ => HT.out) ?_
  simp only [Act.put, lA, lZ, lS]
  refine kS 16 rfl (fun _ => HT.out) ?_
  simp only [Act.put, lA, lZ, lS]
  refine kP 17 ?_ rfl ?_ (fun _ => HT.out) ?_
  rotate_left
  · intro V'; go_simp <;> with_reducible rfl
  simp only [Act.put, lA, lZ, lS]
  refine kP 18 ?_ rfl ?_ (fun _ => HT.out) ?_
  rotate_left
  · intro V'; go_simp <;> with_reducible rfl
  simp only [Act.put, lA, lZ, lS]
  refine kS 19 rfl (fun _ => HT.out) ?_
  simp only [Act.put, lA, lZ, lS]
  refine kS 20 rfl (fun _ => HT.out) ?_
  simp only [Act.put, lA, lZ, lS]
  refine kS 21 rfl (fun _ => HT.out) ?_
  simp only [Act.put, lA, lZ, lS]
  refine kP 22 ?_ rfl ?_ (fun _ => HT.out) ?_
  rotate_left
  · intro V'; go_simp <;> with_reducible rfl
  simp only [Act.put, lA, lZ, lS]
  refine kP 23 ?_ rfl ?_ (fun _ => HT.out) ?_
  rotate_left
  · intro V'; go_simp <;> with_reducible rfl
  simp only [Act.put, lA, lZ, lS]
  refine kS 24 rfl (fun _ => HT.out) ?_
  simp only [Act.put, lA, lZ, lS]
  refine kS 25 rfl (fun _ => HT.out) ?_
  simp only [Act.put, lA, lZ, lS]
  refine kS 26 rfl (fun _ => HT.out) ?_
  simp only [Act.put, lA, lZ, lS]
  refine kP 27 ?_ rfl ?_ (fun _ => HT.out) ?_
  rotate_left
  · intro V'; go_simp <;> with_reducible rfl
  simp only [Act.put, lA, lZ, lS]
  refine kP 28 ?_ rfl ?_ (fun _ => HT.out) ?_
  rotate_left
  · intro V'; go_simp <;> with_reducible rfl
  simp only [Act.put, lA, lZ, lS]
  refine kS 29 rfl (fun _ => HT.out) ?_
  simp only [Act.put, lA, lZ, lS]
  refine kS 30 rfl (fun _ => HT.out) ?_
  simp only [Act.put, lA, lZ, lS]
  refine kP 31 ?_ rfl ?_ (fun _ => HT.out) ?_
  rotate_left
  · intro V'; go_simp <;> with_reducible rfl
  simp only [Act.put, lA, lZ, lS]
  refine oneT (i := 32) rfl (by kernel_rfl) (by rfl) (fun K hK => ?_)
  go_simp
  refine hK.out _ _ (fun _ => HT.out) ?_
  clear hK K
  refine doneT (by kernel_rfl) ?_ _
  go_wp2_with fail
  go_ret
  exact ⟨by rw [HF.out]; rfl, H2.out.below⟩

set_option maxHeartbeats 4000000 in
theorem bright_1 (p : Br) (a : Ad) (Z : Nat) (w : World) (hr : RdB_ w Z p a) (hZ : Z ≤ w.heap.size) (hi : p.its.length ≤ 1000) (_ : p.kps.length ≤ 1000) (hT : Tab w) (t0 : numsF 0 [p.ep, p.sq] = true) (t1 : risF p.sq 0 (p.its.map It.tok) = false) :
    Calls Tryz.prog 21 #[brV p a] w (BoolPost (rightBb p) w) := by
  obtain ⟨V, hV⟩ : ∃ V, w.alloc (.cells (brC p a) 30) = V := ⟨_, rfl⟩
  have hw : Whole V w.heap.size 30 (brC p a) := by rw [← hV]; exact Whole.new _ _ _
  have hb : Below w.heap.size w V := by rw [← hV]; exact (Below.refl _ _).alloc (Nat.le_refl _) _
  have HV := Lib.hid hV
  have H0 := Lib.hid (show RtAt w p a V.drew from (⟨hw, (hr.more hZ).below hb, hT.under hb, hb⟩ : RtAt w p a V).go (below_drewB (Below.refl _ V) 1))
  have HF := Lib.hid (show rightBb p = false by unfold rightBb; rw [← numsF0, t0, itsOk_ris, t1, Bool.false_and, Bool.and_false])
  clear hr hZ hT hV hw hb
  go_enter Tryz.func21, Tryz.ntmps21
  go_upto_region 1 with fail
  refine wpV (fun V2 hV2 => ?_)
  obtain rfl : V = V2 := HV.out.symm.trans hV2
  clear HV hV2
  have HT : Hid ((fun V' => Whole V' w.heap.size 30 (brC p a)) V.drew) := Lib.hid H0.out.box
  have HL : Hid (∀ V', Whole V' w.heap.size 30 (brC p a) → V'.cell? ⟨w.heap.size, 0, none⟩ = some (.int .i64 p.ep) ∧ V'.cell? ⟨w.heap.size, 1, none⟩ = some (.int .i64 p.sq) ∧ V'.cell? ⟨w.heap.size, 19, none⟩ = some (.slice a.B p.kps.length a.d) ∧ V'.cell? ⟨w.heap.size, 20, none⟩ = some (.int .u8 p.rf.st) ∧ V'.cell? ⟨w.heap.size, 21, none⟩ = some (.int .i64 p.rf.fr) ∧ V'.cell? ⟨w.heap.size, 22, none⟩ = some (.int .i64 p.rf.to_) ∧ V'.cell? ⟨w.heap.size, 23, none⟩ = some (.int .i64 p.rf.step) ∧ V'.cell? ⟨w.heap.size, 24, none⟩ = some (.bool p.rf.paused) ∧ V'.cell? ⟨w.heap.size, 25, none⟩ = some (.int .i64 p.rf.since) ∧ V'.cell? ⟨w.heap.size, 26, none⟩ = some (.int .i64 p.rf.fails)) := Lib.hid (fun V' h => ⟨h.cell 0, h.cell 1, h.cell 19, h.cell 20, h.cell 21, h.cell 22, h.cell 23, h.cell 24, h.cell 25, h.cell 26⟩)
  refine wp_region_T (ls := []) (T := (fun V' => Whole V' w.heap.size 30 (brC p a))) (by kernel_rfl) ?_
  refine kT 0 ?_ rfl ?_ HT.out ?_
  rotate_left
  · intro V' hV; obtain ⟨d0, d1, d19, d20, d21, d22, d23, d24, d25, d26⟩ := HL.out V' hV; go_simp <;> with_reducible rfl
  simp only [Act.put, lA, lZ, lS]
  refine kT 1 ?_ rfl ?_ HT.out ?_
  rotate_left
  · intro V' hV; obtain ⟨d0, d1, d19, d20, d21, d22, d23, d24, d25, d26⟩ := HL.out V' hV; go_simp <;> with_reducible rfl
  simp only [Act.put, lA, lZ, lS]
  refine kT 2 ?_ rfl ?_ HT.out ?_
  rotate_left
  · intro V' hV; obtain ⟨d0, d1, d19, d20, d21, d22, d23, d24, d25, d26⟩ := HL.out V' hV; go_simp <;> with_reducible rfl
  simp only [Act.put, lA, lZ, lS]
  refine kT 3 ?_ rfl ?_ HT.out ?_
  rotate_left
  · intro V' hV; obtain ⟨d0, d1, d19, d20, d21, d22, d23, d24, d25, d26⟩ := HL.out V' hV; go_simp <;> with_reducible rfl
  simp only [Act.put, lA, lZ, lS]
  obtain ⟨w1_, hW1⟩ : ∃ W, V.drew.alloc (.cells #[.int .i64 p.ep, .int .i64 p.sq] 3) = W := ⟨_, rfl⟩
  have hb_ : Below V.drew.heap.size V.drew w1_ := by rw [← hW1]; exact (Below.refl _ _).alloc (Nat.le_refl _) _
  have hR1 := rd_lit_at V.drew [.int .i64 p.ep, .int .i64 p.sq] 3 2 V.drew.heap.size rfl rfl
  rw [hW1] at hR1
  have HR1 := Lib.hid hR1
  clear hR1
  refine oneT (i := 4) rfl (by kernel_rfl) (by rfl) (fun K hK => ?_)
  go_simp
  clear hW1
  have H1 := Lib.hid (H0.out.go hb_)
  clear hb_ H0 HT
  have HT : Hid ((fun V' => Whole V' w.heap.size 30 (brC p a)) w1_) := Lib.hid H1.out.box
  refine hK.out _ _ (fun _ => HT.out) ?_
  clear hK K
  refine oneT (i := 5) rfl (by kernel_rfl) (by rfl) (fun K hK => ?_)
  go_simp
  refine (bnumbers_any 0 _ 2 2 [p.ep, p.sq] _ _ HR1.out (by omega)).mono ?_
  rintro e w2_ ⟨rfl, hw_⟩
  have hb_ : Below w1_.heap.size w1_ w2_ := by rw [hw_]; exact Below.refl _ _
  clear hw_ HR1
  rw [t0]
  have H2 := Lib.hid (H1.out.go hb_)
  clear hb_ H1 HT
  have HT : Hid ((fun V' => Whole V' w.heap.size 30 (brC p a)) w2_) := Lib.hid H2.out.box
  refine hK.out _ _ (fun _ => HT.out) ?_
  clear hK K
  refine kP 6 ?_ rfl ?_ (fun _ => HT.out) ?_
  rotate_left
  · intro V'; go_simp <;> with_reducible rfl
  simp only [Act.put, lA, lZ, lS]
  refine kT 7 (brV p a) rfl ?_ HT.out ?_
  · intro V' hV; exact exec_load_brain rfl hV
  simp only [Act.put, lA, lZ, lS]
  refine kT 9 ?_ rfl ?_ HT.out ?_
  rotate_left
  · intro V' hV; obtain ⟨d0, d1, d19, d20, d21, d22, d23, d24, d25, d26⟩ := HL.out V' hV; go_simp <;> with_reducible rfl
  simp only [Act.put, lA, lZ, lS]
  refine kT 10 ?_ rfl ?_ HT.out ?_
  rotate_left
  · intro V' hV; obtain ⟨d0, d1, d19, d20, d21, d22, d23, d24, d25, d26⟩ := HL.out V' hV; go_simp <;> with_reducible rfl
  simp only [Act.put, lA, lZ, lS]
  refine oneT (i := 8) rfl (by kernel_rfl) (by rfl) (fun K hK => ?_)
  go_simp
  refine (tokens_any p a _).mono ?_
  rintro e w3_ ⟨b1, b2, rfl, g1, g2, g3, g4, hb_⟩
  have HQ1 := Lib.hid (show SeqI 114 b1 b2 (p.its.map It.tok) w3_ from itSeq hi g1 g2 g3 g4 ((H2.out.go hb_).rd.its.more (H2.out.go hb_).below.size))
  clear g1 g2 g3 g4
  have H3 := Lib.hid (H2.out.go hb_)
  clear hb_ H2 HT
  have HT : Hid ((fun V' => Whole V' w.heap.size 30 (brC p a)) w3_) := Lib.hid H3.out.box
  refine hK.out _ _ (fun _ => HT.out) ?_
  clear hK K
  refine oneT (i := 11) rfl (by kernel_rfl) (by rfl) (fun K hK => ?_)
  go_simp
  refine (rising_any 114 b1 b2 (p.its.map It.tok) p.sq _ (enters_of Tryz.func114 (by kernel_rfl) rfl) HQ1.out).mono ?_
  rintro e w4_ ⟨rfl, hb_⟩
  clear HQ1
  rw [t1]
  have H4 := Lib.hid (H3.out.go hb_)
  clear hb_ H3 HT
  have HT : Hid ((fun V' => Whole V' w.heap.size 30 (brC p a)) w4_) := Lib.hid H4.out.box
  refine hK.out _ _ (fun _ => HT.out) ?_
  clear hK K
  refine kP 12 ?_ rfl ?_ (fun _ => HT.out) ?_
  rotate_left
  · intro V'; go_simp <;> with_reducible rfl
  simp only [Act.put, lA, lZ, lS]
  refine kP 13 ?_ rfl ?_ (fun _ => HT.out) ?_
  rotate_left
  · intro V'; go_simp <;> with_reducible rfl
  simp only [Act.put, lA, lZ, lS]
  refine kS 14 rfl (fun _ => HT.out) ?_
  simp only [Act.put, lA, lZ, lS]
  refine kS 15 rfl (fun _ => HT.out) ?_
  simp only [Act.put, lA, lZ, lS]
  refine kS 16 rfl (fun _ => HT.out) ?_
  simp only [Act.put, lA, lZ, lS]
  refine kP 17 ?_ rfl ?_ (fun _ => HT.out) ?_
  rotate_left
  · intro V'; go_simp <;> with_reducible rfl
  simp only [Act.put, lA, lZ, lS]
  refine kP 18 ?_ rfl ?_ (fun _ => HT.out) ?_
  rotate_left
  · intro V'; go_simp <;> with_reducible rfl
  simp only [Act.put, lA, lZ, lS]
  refine kS 19 rfl (fun _ => HT.out) ?_
  simp only [Act.put, lA, lZ, lS]
  refine kS 20 rfl (fun _ => HT.out) ?_
  simp only [Act.put, lA, lZ, lS]
  refine kS 21 rfl (fun _ => HT.out) ?_
  simp only [Act.put, lA, lZ, lS]
  refine kP 22 ?_ rfl ?_ (fun _ => HT.out) ?_
  rotate_left
  · intro V'; go_simp <;> with_reducible rfl
  simp only [Act.put, lA, lZ, lS]
  refine kP 23 ?_ rfl ?_ (fun _ => HT.out) ?_
  rotate_left
  · intro V'; go_simp <;> with_reducible rfl
  simp only [Act.put, lA, lZ, lS]
  refine kS 24 rfl (fun _ => HT.out) ?_
  simp only [Act.put, lA, lZ, lS]
  refine kS 25 rfl (fun _ => HT.out) ?_
  simp only [Act.put, lA, lZ, lS]
  refine kS 26 rfl (fun _ => HT.out) ?_
  simp only [Act.put, lA, lZ, lS]
  refine kP 27 ?_ rfl ?_ (fun _ => HT.out) ?_
  rotate_left
  · intro V'; go_simp <;> with_reducible rfl
  simp only [Act.put, lA, lZ, lS]
  refine kP 28 ?_ rfl ?_ (fun _ => HT.out) ?_
  rotate_left
  · intro V'; go_simp <;> with_reducible rfl
  simp only [Act.put, lA, lZ, lS]
  refine kS 29 rfl (fun _ => HT.out) ?_
  simp only [Act.put, lA, lZ, lS]
  refine kS 30 rfl (fun _ => HT.out) ?_
  simp only [Act.put, lA, lZ, lS]
  refine kP 31 ?_ rfl ?_ (fun _ => HT.out) ?_
  rotate_left
  · intro V'; go_simp <;> with_reducible rfl
  simp only [Act.put, lA, lZ, lS]
  refine oneT (i := 32) rfl (by kernel_rfl) (by rfl) (fun K hK => ?_)
  go_simp
  refine hK.out _ _ (fun _ => HT.out) ?_
  clear hK K
  refine doneT (by kernel_rfl) ?_ _
  go_wp2_with fail
  go_ret
  exact ⟨by rw [HF.out]; rfl, H4.out.below⟩

set_option maxHeartbeats 4000000 in
theorem bright_2 (p : Br) (a : Ad) (Z : Nat) (w : World) (hr : RdB_ w Z p a) (hZ : Z ≤ w.heap.size) (hi : p.its.length ≤ 1000) (hk : p.kps.length ≤ 1000) (hT : Tab w) (t0 : numsF 0 [p.ep, p.sq] = true) (t1 : risF p.sq 0 (p.its.map It.tok) = true) (t2 : risF brMax 0 (p.kps.map Kp.id) = false) :
    Calls Tryz.prog 21 #[brV p a] w (BoolPost (rightBb p) w) := by
  obtain ⟨V, hV⟩ : ∃ V, w.alloc (.cells (brC p a) 30) = V := ⟨_, rfl⟩
  have hw : Whole V w.heap.size 30 (brC p a) := by rw [← hV]; exact Whole.new _ _ _
  have hb : Below w.heap.size w V := by rw [← hV]; exact (Below.refl _ _).alloc (Nat.le_refl _) _
  have HV := Lib.hid hV
  have H0 := Lib.hid (show RtAt w p a V.drew from (⟨hw, (hr.more hZ).below hb, hT.under hb, hb⟩ : RtAt w p a V).go (below_drewB (Below.refl _ V) 1))
  have HF := Lib.hid (show rightBb p = false by unfold rightBb; rw [← numsF0, t0, itsOk_ris, t1, kpsOk_ris, t2, Bool.false_and, Bool.false_and, Bool.and_false, Bool.and_false])
  clear hr hZ hT hV hw hb
  go_enter Tryz.func21, Tryz.ntmps21
  go_upto_region 1 with fail
  refine wpV (fun V2 hV2 => ?_)
  obtain rfl : V = V2 := HV.out.symm.trans hV2
  clear HV hV2
  have HT : Hid ((fun V' => Whole V' w.heap.size 30 (brC p a)) V.drew) := Lib.hid H0.out.box
  have HL : Hid (∀ V', Whole V' w.heap.size 30 (brC p a) → V'.cell? ⟨w.heap.size, 0, none⟩ = some (.int .i64 p.ep) ∧ V'.cell? ⟨w.heap.size, 1, none⟩ = some (.int .i64 p.sq) ∧ V'.cell? ⟨w.heap.size, 19, none⟩ = some (.slice a.B p.kps.length a.d) ∧ V'.cell? ⟨w.heap.size, 20, none⟩ = some (.int .u8 p.rf.st) ∧ V'.cell? ⟨w.heap.size, 21, none⟩ = some (.int .i64 p.rf.fr) ∧ V'.cell? ⟨w.heap.size, 22, none⟩ = some (.int .i64 p.rf.to_) ∧ V'.cell? ⟨w.heap.size, 23, none⟩ = some (.int .i64 p.rf.step) ∧ V'.cell? ⟨w.heap.size, 24, none⟩ = some (.bool p.rf.paused) ∧ V'.cell? ⟨w.heap.size, 25, none⟩ = some (.int .i64 p.rf.since) ∧ V'.cell? ⟨w.heap.size, 26, none⟩ = some (.int .i64 p.rf.fails)) := Lib.hid (fun V' h => ⟨h.cell 0, h.cell 1, h.cell 19, h.cell 20, h.cell 21, h.cell 22, h.cell 23, h.cell 24, h.cell 25, h.cell 26⟩)
  refine wp_region_T (ls := []) (T := (fun V' => Whole V' w.heap.size 30 (brC p a))) (by kernel_rfl) ?_
  refine kT 0 ?_ rfl ?_ HT.out ?_
  rotate_left
  · intro V' hV; obtain ⟨d0, d1, d19, d20, d21, d22, d23, d24, d25, d26⟩ := HL.out V' hV; go_simp <;> with_reducible rfl
  simp only [Act.put, lA, lZ, lS]
  refine kT 1 ?_ rfl ?_ HT.out ?_
  rotate_left
  · intro V' hV; obtain ⟨d0, d1, d19, d20, d21, d22, d23, d24, d25, d26⟩ := HL.out V' hV; go_simp <;> with_reducible rfl
  simp only [Act.put, lA, lZ, lS]
  refine kT 2 ?_ rfl ?_ HT.out ?_
  rotate_left
  · intro V' hV; obtain ⟨d0, d1, d19, d20, d21, d22, d23, d24, d25, d26⟩ := HL.out V' hV; go_simp <;> with_reducible rfl
  simp only [Act.put, lA, lZ, lS]
  refine kT 3 ?_ rfl ?_ HT.out ?_
  rotate_left
  · intro V' hV; obtain ⟨d0, d1, d19, d20, d21, d22, d23, d24, d25, d26⟩ := HL.out V' hV; go_simp <;> with_reducible rfl
  simp only [Act.put, lA, lZ, lS]
  obtain ⟨w1_, hW1⟩ : ∃ W, V.drew.alloc (.cells #[.int .i64 p.ep, .int .i64 p.sq] 3) = W := ⟨_, rfl⟩
  have hb_ : Below V.drew.heap.size V.drew w1_ := by rw [← hW1]; exact (Below.refl _ _).alloc (Nat.le_refl _) _
  have hR1 := rd_lit_at V.drew [.int .i64 p.ep, .int .i64 p.sq] 3 2 V.drew.heap.size rfl rfl
  rw [hW1] at hR1
  have HR1 := Lib.hid hR1
  clear hR1
  refine oneT (i := 4) rfl (by kernel_rfl) (by rfl) (fun K hK => ?_)
  go_simp
  clear hW1
  have H1 := Lib.hid (H0.out.go hb_)
  clear hb_ H0 HT
  have HT : Hid ((fun V' => Whole V' w.heap.size 30 (brC p a)) w1_) := Lib.hid H1.out.box
  refine hK.out _ _ (fun _ => HT.out) ?_
  clear hK K
  refine oneT (i := 5) rfl (by kernel_rfl) (by rfl) (fun K hK => ?_)
  go_simp
  refine (bnumbers_any 0 _ 2 2 [p.ep, p.sq] _ _ HR1.out (by omega)).mono ?_
  rintro e w2_ ⟨rfl, hw_⟩
  have hb_ : Below w1_.heap.size w1_ w2_ := by rw [hw_]; exact Below.refl _ _
  clear hw_ HR1
  rw [t0]
  have H2 := Lib.hid (H1.out.go hb_)
  clear hb_ H1 HT
  have HT : Hid ((fun V' => Whole V' w.heap.size 30 (brC p a)) w2_) := Lib.hid H2.out.box
  refine hK.out _ _ (fun _ => HT.out) ?_
  clear hK K
  refine kP 6 ?_ rfl ?_ (fun _ => HT.out) ?_
  rotate_left
  · intro V'; go_simp <;> with_reducible rfl
  simp only [Act.put, lA, lZ, lS]
  refine kT 7 (brV p a) rfl ?_ HT.out ?_
  · intro V' hV; exact exec_load_brain rfl hV
  simp only [Act.put, lA, lZ, lS]
  refine kT 9 ?_ rfl ?_ HT.out ?_
  rotate_left
  · intro V' hV; obtain ⟨d0, d1, d19, d20, d21, d22, d23, d24, d25, d26⟩ := HL.out V' hV; go_simp <;> with_reducible rfl
  simp only [Act.put, lA, lZ, lS]
  refine kT 10 ?_ rfl ?_ HT.out ?_
  rotate_left
  · intro V' hV; obtain ⟨d0, d1, d19, d20, d21, d22, d23, d24, d25, d26⟩ := HL.out V' hV; go_simp <;> with_reducible rfl
  simp only [Act.put, lA, lZ, lS]
  refine oneT (i := 8) rfl (by kernel_rfl) (by rfl) (fun K hK => ?_)
  go_simp
  refine (tokens_any p a _).mono ?_
  rintro e w3_ ⟨b1, b2, rfl, g1, g2, g3, g4, hb_⟩
  have HQ1 := Lib.hid (show SeqI 114 b1 b2 (p.its.map It.tok) w3_ from itSeq hi g1 g2 g3 g4 ((H2.out.go hb_).rd.its.more (H2.out.go hb_).below.size))
  clear g1 g2 g3 g4
  have H3 := Lib.hid (H2.out.go hb_)
  clear hb_ H2 HT
  have HT : Hid ((fun V' => Whole V' w.heap.size 30 (brC p a)) w3_) := Lib.hid H3.out.box
  refine hK.out _ _ (fun _ => HT.out) ?_
  clear hK K
  refine oneT (i := 11) rfl (by kernel_rfl) (by rfl) (fun K hK => ?_)
  go_simp
  refine (rising_any 114 b1 b2 (p.its.map It.tok) p.sq _ (enters_of Tryz.func114 (by kernel_rfl) rfl) HQ1.out).mono ?_
  rintro e w4_ ⟨rfl, hb_⟩
  clear HQ1
  rw [t1]
  have H4 := Lib.hid (H3.out.go hb_)
  clear hb_ H3 HT
  have HT : Hid ((fun V' => Whole V' w.heap.size 30 (brC p a)) w4_) := Lib.hid H4.out.box
  refine hK.out _ _ (fun _ => HT.out) ?_
  clear hK K
  refine kP 12 ?_ rfl ?_ (fun _ => HT.out) ?_
  rotate_left
  · intro V'; go_simp <;> with_reducible rfl
  simp only [Act.put, lA, lZ, lS]
  refine kP 13 ?_ rfl ?_ (fun _ => HT.out) ?_
  rotate_left
  · intro V'; go_simp <;> with_reducible rfl
  simp only [Act.put, lA, lZ, lS]
  refine kT 14 (brV p a) rfl ?_ HT.out ?_
  · intro V' hV; exact exec_load_brain rfl hV
  simp only [Act.put, lA, lZ, lS]
  refine oneT (i := 15) rfl (by kernel_rfl) (by rfl) (fun K hK => ?_)
  go_simp
  refine (ids_any p a _).mono ?_
  rintro e w5_ ⟨b3, b4, rfl, g1, g2, g3, g4, hb_⟩
  have HQ2 := Lib.hid (show SeqI 113 b3 b4 (p.kps.map Kp.id) w5_ from kpSeq hk g1 g2 g3 g4 ((H4.out.go hb_).rd.kps.more (H4.out.go hb_).below.size))
  clear g1 g2 g3 g4
  have H5 := Lib.hid (H4.out.go hb_)
  clear hb_ H4 HT
  have HT : Hid ((fun V' => Whole V' w.heap.size 30 (brC p a)) w5_) := Lib.hid H5.out.box
  refine hK.out _ _ (fun _ => HT.out) ?_
  clear hK K
  refine oneT (i := 16) rfl (by kernel_rfl) (by rfl) (fun K hK => ?_)
  go_simp
  refine (rising_any 113 b3 b4 (p.kps.map Kp.id) brMax _ (enters_of Tryz.func113 (by kernel_rfl) rfl) HQ2.out).mono ?_
  rintro e w6_ ⟨rfl, hb_⟩
  clear HQ2
  rw [t2]
  have H6 := Lib.hid (H5.out.go hb_)
  clear hb_ H5 HT
  have HT : Hid ((fun V' => Whole V' w.heap.size 30 (brC p a)) w6_) := Lib.hid H6.out.box
  refine hK.out _ _ (fun _ => HT.out) ?_
  clear hK K
  refine kP 17 ?_ rfl ?_ (fun _ => HT.out) ?_
  rotate_left
  · intro V'; go_simp <;> with_reducible rfl
  simp only [Act.put, lA, lZ, lS]
  refine kP 18 ?_ rfl ?_ (fun _ => HT.out) ?_
  rotate_left
  · intro V'; go_simp <;> with_reducible rfl
  simp only [Act.put, lA, lZ, lS]
  refine kS 19 rfl (fun _ => HT.out) ?_
  simp only [Act.put, lA, lZ, lS]
  refine kS 20 rfl (fun _ => HT.out) ?_
  simp only [Act.put, lA, lZ, lS]
  refine kS 21 rfl (fun _ => HT.out) ?_
  simp only [Act.put, lA, lZ, lS]
  refine kP 22 ?_ rfl ?_ (fun _ => HT.out) ?_
  rotate_left
  · intro V'; go_simp <;> with_reducible rfl
  simp only [Act.put, lA, lZ, lS]
  refine kP 23 ?_ rfl ?_ (fun _ => HT.out) ?_
  rotate_left
  · intro V'; go_simp <;> with_reducible rfl
  simp only [Act.put, lA, lZ, lS]
  refine kS 24 rfl (fun _ => HT.out) ?_
  simp only [Act.put, lA, lZ, lS]
  refine kS 25 rfl (fun _ => HT.out) ?_
  simp only [Act.put, lA, lZ, lS]
  refine kS 26 rfl (fun _ => HT.out) ?_
  simp only [Act.put, lA, lZ, lS]
  refine kP 27 ?_ rfl ?_ (fun _ => HT.out) ?_
  rotate_left
  · intro V'; go_simp <;> with_reducible rfl
  simp only [Act.put, lA, lZ, lS]
  refine kP 28 ?_ rfl ?_ (fun _ => HT.out) ?_
  rotate_left
  · intro V'; go_simp <;> with_reducible rfl
  simp only [Act.put, lA, lZ, lS]
  refine kS 29 rfl (fun _ => HT.out) ?_
  simp only [Act.put, lA, lZ, lS]
  refine kS 30 rfl (fun _ => HT.out) ?_
  simp only [Act.put, lA, lZ, lS]
  refine kP 31 ?_ rfl ?_ (fun _ => HT.out) ?_
  rotate_left
  · intro V'; go_simp <;> with_reducible rfl
  simp only [Act.put, lA, lZ, lS]
  refine oneT (i := 32) rfl (by kernel_rfl) (by rfl) (fun K hK => ?_)
  go_simp
  refine hK.out _ _ (fun _ => HT.out) ?_
  clear hK K
  refine doneT (by kernel_rfl) ?_ _
  go_wp2_with fail
  go_ret
  exact ⟨by rw [HF.out]; rfl, H6.out.below⟩

set_option maxHeartbeats 4000000 in
theorem bright_3 (p : Br) (a : Ad) (Z : Nat) (w : World) (hr : RdB_ w Z p a) (hZ : Z ≤ w.heap.size) (hi : p.its.length ≤ 1000) (hk : p.kps.length ≤ 1000) (hT : Tab w) (t0 : numsF 0 [p.ep, p.sq] = true) (t1 : risF p.sq 0 (p.its.map It.tok) = true) (t2 : risF brMax 0 (p.kps.map Kp.id) = true) (t3 : phOk p.kps = false) :
    Calls Tryz.prog 21 #[brV p a] w (BoolPost (rightBb p) w) := by
  obtain ⟨V, hV⟩ : ∃ V, w.alloc (.cells (brC p a) 30) = V := ⟨_, rfl⟩
  have hw : Whole V w.heap.size 30 (brC p a) := by rw [← hV]; exact Whole.new _ _ _
  have hb : Below w.heap.size w V := by rw [← hV]; exact (Below.refl _ _).alloc (Nat.le_refl _) _
  have HV := Lib.hid hV
  have H0 := Lib.hid (show RtAt w p a V.drew from (⟨hw, (hr.more hZ).below hb, hT.under hb, hb⟩ : RtAt w p a V).go (below_drewB (Below.refl _ V) 1))
  have HF := Lib.hid (show rightBb p = false by unfold rightBb; rw [← numsF0, t0, itsOk_ris, t1, kpsOk_ris, t2, t3, Bool.and_false, Bool.false_and, Bool.and_false, Bool.and_false])
  clear hr hZ hT hV hw hb
  go_enter Tryz.func21, Tryz.ntmps21
  go_upto_region 1 with fail
  refine wpV (fun V2 hV2 => ?_)
  obtain rfl : V = V2 := HV.out.symm.trans hV2
  clear HV hV2
  have HT : Hid ((fun V' => Whole V' w.heap.size 30 (brC p a)) V.drew) := Lib.hid H0.out.box
  have HL : Hid (∀ V', Whole V' w.heap.size 30 (brC p a) → V'.cell? ⟨w.heap.size, 0, none⟩ = some (.int .i64 p.ep) ∧ V'.cell? ⟨w.heap.size, 1, none⟩ = some (.int .i64 p.sq) ∧ V'.cell? ⟨w.heap.size, 19, none⟩ = some (.slice a.B p.kps.length a.d) ∧ V'.cell? ⟨w.heap.size, 20, none⟩ = some (.int .u8 p.rf.st) ∧ V'.cell? ⟨w.heap.size, 21, none⟩ = some (.int .i64 p.rf.fr) ∧ V'.cell? ⟨w.heap.size, 22, none⟩ = some (.int .i64 p.rf.to_) ∧ V'.cell? ⟨w.heap.size, 23, none⟩ = some (.int .i64 p.rf.step) ∧ V'.cell? ⟨w.heap.size, 24, none⟩ = some (.bool p.rf.paused) ∧ V'.cell? ⟨w.heap.size, 25, none⟩ = some (.int .i64 p.rf.since) ∧ V'.cell? ⟨w.heap.size, 26, none⟩ = some (.int .i64 p.rf.fails)) := Lib.hid (fun V' h => ⟨h.cell 0, h.cell 1, h.cell 19, h.cell 20, h.cell 21, h.cell 22, h.cell 23, h.cell 24, h.cell 25, h.cell 26⟩)
  refine wp_region_T (ls := []) (T := (fun V' => Whole V' w.heap.size 30 (brC p a))) (by kernel_rfl) ?_
  refine kT 0 ?_ rfl ?_ HT.out ?_
  rotate_left
  · intro V' hV; obtain ⟨d0, d1, d19, d20, d21, d22, d23, d24, d25, d26⟩ := HL.out V' hV; go_simp <;> with_reducible rfl
  simp only [Act.put, lA, lZ, lS]
  refine kT 1 ?_ rfl ?_ HT.out ?_
  rotate_left
  · intro V' hV; obtain ⟨d0, d1, d19, d20, d21, d22, d23, d24, d25, d26⟩ := HL.out V' hV; go_simp <;> with_reducible rfl
  simp only [Act.put, lA, lZ, lS]
  refine kT 2 ?_ rfl ?_ HT.out ?_
  rotate_left
  · intro V' hV; obtain ⟨d0, d1, d19, d20, d21, d22, d23, d24, d25, d26⟩ := HL.out V' hV; go_simp <;> with_reducible rfl
  simp only [Act.put, lA, lZ, lS]
  refine kT 3 ?_ rfl ?_ HT.out ?_
  rotate_left
  · intro V' hV; obtain ⟨d0, d1, d19, d20, d21, d22, d23, d24, d25, d26⟩ := HL.out V' hV; go_simp <;> with_reducible rfl
  simp only [Act.put, lA, lZ, lS]
  obtain ⟨w1_, hW1⟩ : ∃ W, V.drew.alloc (.cells #[.int .i64 p.ep, .int .i64 p.sq] 3) = W := ⟨_, rfl⟩
  have hb_ : Below V.drew.heap.size V.drew w1_ := by rw [← hW1]; exact (Below.refl _ _).alloc (Nat.le_refl _) _
  have hR1 := rd_lit_at V.drew [.int .i64 p.ep, .int .i64 p.sq] 3 2 V.drew.heap.size rfl rfl
  rw [hW1] at hR1
  have HR1 := Lib.hid hR1
  clear hR1
  refine oneT (i := 4) rfl (by kernel_rfl) (by rfl) (fun K hK => ?_)
  go_simp
  clear hW1
  have H1 := Lib.hid (H0.out.go hb_)
  clear hb_ H0 HT
  have HT : Hid ((fun V' => Whole V' w.heap.size 30 (brC p a)) w1_) := Lib.hid H1.out.box
  refine hK.out _ _ (fun _ => HT.out) ?_
  clear hK K
  refine oneT (i := 5) rfl (by kernel_rfl) (by rfl) (fun K hK => ?_)
  go_simp
  refine (bnumbers_any 0 _ 2 2 [p.ep, p.sq] _ _ HR1.out (by omega)).mono ?_
  rintro e w2_ ⟨rfl, hw_⟩
  have hb_ : Below w1_.heap.size w1_ w2_ := by rw [hw_]; exact Below.refl _ _
  clear hw_ HR1
  rw [t0]
  have H2 := Lib.hid (H1.out.go hb_)
  clear hb_ H1 HT
  have HT : Hid ((fun V' => Whole V' w.heap.size 30 (brC p a)) w2_) := Lib.hid H2.out.box
  refine hK.out _ _ (fun _ => HT.out) ?_
  clear hK K
  refine kP 6 ?_ rfl ?_ (fun _ => HT.out) ?_
  rotate_left
  · intro V'; go_simp <;> with_reducible rfl
  simp only [Act.put, lA, lZ, lS]
  refine kT 7 (brV p a) rfl ?_ HT.out ?_
  · intro V' hV; exact exec_load_brain rfl hV
  simp only [Act.put, lA, lZ, lS]
  refine kT 9 ?_ rfl ?_ HT.out ?_
  rotate_left
  · intro V' hV; obtain ⟨d0, d1, d19, d20, d21, d22, d23, d24, d25, d26⟩ := HL.out V' hV; go_simp <;> with_reducible rfl
  simp only [Act.put, lA, lZ, lS]
  refine kT 10 ?_ rfl ?_ HT.out ?_
  rotate_left
  · intro V' hV; obtain ⟨d0, d1, d19, d20, d21, d22, d23, d24, d25, d26⟩ := HL.out V' hV; go_simp <;> with_reducible rfl
  simp only [Act.put, lA, lZ, lS]
  refine oneT (i := 8) rfl (by kernel_rfl) (by rfl) (fun K hK => ?_)
  go_simp
  refine (tokens_any p a _).mono ?_
  rintro e w3_ ⟨b1, b2, rfl, g1, g2, g3, g4, hb_⟩
  have HQ1 := Lib.hid (show SeqI 114 b1 b2 (p.its.map It.tok) w3_ from itSeq hi g1 g2 g3 g4 ((H2.out.go hb_).rd.its.more (H2.out.go hb_).below.size))
  clear g1 g2 g3 g4
  have H3 := Lib.hid (H2.out.go hb_)
  clear hb_ H2 HT
  have HT : Hid ((fun V' => Whole V' w.heap.size 30 (brC p a)) w3_) := Lib.hid H3.out.box
  refine hK.out _ _ (fun _ => HT.out) ?_
  clear hK K
  refine oneT (i := 11) rfl (by kernel_rfl) (by rfl) (fun K hK => ?_)
  go_simp
  refine (rising_any 114 b1 b2 (p.its.map It.tok) p.sq _ (enters_of Tryz.func114 (by kernel_rfl) rfl) HQ1.out).mono ?_
  rintro e w4_ ⟨rfl, hb_⟩
  clear HQ1
  rw [t1]
  have H4 := Lib.hid (H3.out.go hb_)
  clear hb_ H3 HT
  have HT : Hid ((fun V' => Whole V' w.heap.size 30 (brC p a)) w4_) := Lib.hid H4.out.box
  refine hK.out _ _ (fun _ => HT.out) ?_
  clear hK K
  refine kP 12 ?_ rfl ?_ (fun _ => HT.out) ?_
  rotate_left
  · intro V'; go_simp <;> with_reducible rfl
  simp only [Act.put, lA, lZ, lS]
  refine kP 13 ?_ rfl ?_ (fun _ => HT.out) ?_
  rotate_left
  · intro V'; go_simp <;> with_reducible rfl
  simp only [Act.put, lA, lZ, lS]
  refine kT 14 (brV p a) rfl ?_ HT.out ?_
  · intro V' hV; exact exec_load_brain rfl hV
  simp only [Act.put, lA, lZ, lS]
  refine oneT (i := 15) rfl (by kernel_rfl) (by rfl) (fun K hK => ?_)
  go_simp
  refine (ids_any p a _).mono ?_
  rintro e w5_ ⟨b3, b4, rfl, g1, g2, g3, g4, hb_⟩
  have HQ2 := Lib.hid (show SeqI 113 b3 b4 (p.kps.map Kp.id) w5_ from kpSeq hk g1 g2 g3 g4 ((H4.out.go hb_).rd.kps.more (H4.out.go hb_).below.size))
  clear g1 g2 g3 g4
  have H5 := Lib.hid (H4.out.go hb_)
  clear hb_ H4 HT
  have HT : Hid ((fun V' => Whole V' w.heap.size 30 (brC p a)) w5_) := Lib.hid H5.out.box
  refine hK.out _ _ (fun _ => HT.out) ?_
  clear hK K
  refine oneT (i := 16) rfl (by kernel_rfl) (by rfl) (fun K hK => ?_)
  go_simp
  refine (rising_any 113 b3 b4 (p.kps.map Kp.id) brMax _ (enters_of Tryz.func113 (by kernel_rfl) rfl) HQ2.out).mono ?_
  rintro e w6_ ⟨rfl, hb_⟩
  clear HQ2
  rw [t2]
  have H6 := Lib.hid (H5.out.go hb_)
  clear hb_ H5 HT
  have HT : Hid ((fun V' => Whole V' w.heap.size 30 (brC p a)) w6_) := Lib.hid H6.out.box
  refine hK.out _ _ (fun _ => HT.out) ?_
  clear hK K
  refine kP 17 ?_ rfl ?_ (fun _ => HT.out) ?_
  rotate_left
  · intro V'; go_simp <;> with_reducible rfl
  simp only [Act.put, lA, lZ, lS]
  refine kP 18 ?_ rfl ?_ (fun _ => HT.out) ?_
  rotate_left
  · intro V'; go_simp <;> with_reducible rfl
  simp only [Act.put, lA, lZ, lS]
  refine kT 19 ?_ rfl ?_ HT.out ?_
  rotate_left
  · intro V' hV; obtain ⟨d0, d1, d19, d20, d21, d22, d23, d24, d25, d26⟩ := HL.out V' hV; go_simp <;> with_reducible rfl
  simp only [Act.put, lA, lZ, lS]
  refine kT 20 ?_ rfl ?_ HT.out ?_
  rotate_left
  · intro V' hV; obtain ⟨d0, d1, d19, d20, d21, d22, d23, d24, d25, d26⟩ := HL.out V' hV; go_simp <;> with_reducible rfl
  simp only [Act.put, lA, lZ, lS]
  refine oneT (i := 21) rfl (by kernel_rfl) (by rfl) (fun K hK => ?_)
  go_simp
  refine (phased_any a.B p.kps.length a.d p.kps w.heap.size _ H6.out.rd.kps H6.out.below.size hk).mono ?_
  rintro e w7_ ⟨rfl, hb_⟩
  rw [t3]
  have H7 := Lib.hid (H6.out.go hb_)
  clear hb_ H6 HT
  have HT : Hid ((fun V' => Whole V' w.heap.size 30 (brC p a)) w7_) := Lib.hid H7.out.box
  refine hK.out _ _ (fun _ => HT.out) ?_
  clear hK K
  refine kP 22 ?_ rfl ?_ (fun _ => HT.out) ?_
  rotate_left
  · intro V'; go_simp <;> with_reducible rfl
  simp only [Act.put, lA, lZ, lS]
  refine kP 23 ?_ rfl ?_ (fun _ => HT.out) ?_
  rotate_left
  · intro V'; go_simp <;> with_reducible rfl
  simp only [Act.put, lA, lZ, lS]
  refine kS 24 rfl (fun _ => HT.out) ?_
  simp only [Act.put, lA, lZ, lS]
  refine kS 25 rfl (fun _ => HT.out) ?_
  simp only [Act.put, lA, lZ, lS]
  refine kS 26 rfl (fun _ => HT.out) ?_
  simp only [Act.put, lA, lZ, lS]
  refine kP 27 ?_ rfl ?_ (fun _ => HT.out) ?_
  rotate_left
  · intro V'; go_simp <;> with_reducible rfl
  simp only [Act.put, lA, lZ, lS]
  refine kP 28 ?_ rfl ?_ (fun _ => HT.out) ?_
  rotate_left
  · intro V'; go_simp <;> with_reducible rfl
  simp only [Act.put, lA, lZ, lS]
  refine kS 29 rfl (fun _ => HT.out) ?_
  simp only [Act.put, lA, lZ, lS]
  refine kS 30 rfl (fun _ => HT.out) ?_
  simp only [Act.put, lA, lZ, lS]
  refine kP 31 ?_ rfl ?_ (fun _ => HT.out) ?_
  rotate_left
  · intro V'; go_simp <;> with_reducible rfl
  simp only [Act.put, lA, lZ, lS]
  refine oneT (i := 32) rfl (by kernel_rfl) (by rfl) (fun K hK => ?_)
  go_simp
  refine hK.out _ _ (fun _ => HT.out) ?_
  clear hK K
  refine doneT (by kernel_rfl) ?_ _
  go_wp2_with fail
  go_ret
  exact ⟨by rw [HF.out]; rfl, H7.out.below⟩

set_option maxHeartbeats 4000000 in
theorem bright_4 (p : Br) (a : Ad) (Z : Nat) (w : World) (hr : RdB_ w Z p a) (hZ : Z ≤ w.heap.size) (hi : p.its.length ≤ 1000) (hk : p.kps.length ≤ 1000) (hT : Tab w) (t0 : numsF 0 [p.ep, p.sq] = true) (t1 : risF p.sq 0 (p.its.map It.tok) = true) (t2 : risF brMax 0 (p.kps.map Kp.id) = true) (t3 : phOk p.kps = true) (t4 : rfOk p.rf = false) :
    Calls Tryz.prog 21 #[brV p a] w (BoolPost (rightBb p) w) := by
  obtain ⟨V, hV⟩ : ∃ V, w.alloc (.cells (brC p a) 30) = V := ⟨_, rfl⟩
  have hw : Whole V w.heap.size 30 (brC p a) := by rw [← hV]; exact Whole.new _ _ _
  have hb : Below w.heap.size w V := by rw [← hV]; exact (Below.refl _ _).alloc (Nat.le_refl _) _
  have HV := Lib.hid hV
  have H0 := Lib.hid (show RtAt w p a V.drew from (⟨hw, (hr.more hZ).below hb, hT.under hb, hb⟩ : RtAt w p a V).go (below_drewB (Below.refl _ V) 1))
  have HF := Lib.hid (show rightBb p = false by unfold rightBb; rw [← numsF0, t0, itsOk_ris, t1, kpsOk_ris, t2, t3, t4, Bool.false_and, Bool.and_false, Bool.and_false, Bool.and_false])
  clear hr hZ hT hV hw hb
  go_enter Tryz.func21, Tryz.ntmps21
  go_upto_region 1 with fail
  refine wpV (fun V2 hV2 => ?_)
  obtain rfl : V = V2 := HV.out.symm.trans hV2
  clear HV hV2
  have HT : Hid ((fun V' => Whole V' w.heap.size 30 (brC p a)) V.drew) := Lib.hid H0.out.box
  have HL : Hid (∀ V', Whole V' w.heap.size 30 (brC p a) → V'.cell? ⟨w.heap.size, 0, none⟩ = some (.int .i64 p.ep) ∧ V'.cell? ⟨w.heap.size, 1, none⟩ = some (.int .i64 p.sq) ∧ V'.cell? ⟨w.heap.size, 19, none⟩ = some (.slice a.B p.kps.length a.d) ∧ V'.cell? ⟨w.heap.size, 20, none⟩ = some (.int .u8 p.rf.st) ∧ V'.cell? ⟨w.heap.size, 21, none⟩ = some (.int .i64 p.rf.fr) ∧ V'.cell? ⟨w.heap.size, 22, none⟩ = some (.int .i64 p.rf.to_) ∧ V'.cell? ⟨w.heap.size, 23, none⟩ = some (.int .i64 p.rf.step) ∧ V'.cell? ⟨w.heap.size, 24, none⟩ = some (.bool p.rf.paused) ∧ V'.cell? ⟨w.heap.size, 25, none⟩ = some (.int .i64 p.rf.since) ∧ V'.cell? ⟨w.heap.size, 26, none⟩ = some (.int .i64 p.rf.fails)) := Lib.hid (fun V' h => ⟨h.cell 0, h.cell 1, h.cell 19, h.cell 20, h.cell 21, h.cell 22, h.cell 23, h.cell 24, h.cell 25, h.cell 26⟩)
  refine wp_region_T (ls := []) (T := (fun V' => Whole V' w.heap.size 30 (brC p a))) (by kernel_rfl) ?_
  refine kT 0 ?_ rfl ?_ HT.out ?_
  rotate_left
  · intro V' hV; obtain ⟨d0, d1, d19, d20, d21, d22, d23, d24, d25, d26⟩ := HL.out V' hV; go_simp <;> with_reducible rfl
  simp only [Act.put, lA, lZ, lS]
  refine kT 1 ?_ rfl ?_ HT.out ?_
  rotate_left
  · intro V' hV; obtain ⟨d0, d1, d19, d20, d21, d22, d23, d24, d25, d26⟩ := HL.out V' hV; go_simp <;> with_reducible rfl
  simp only [Act.put, lA, lZ, lS]
  refine kT 2 ?_ rfl ?_ HT.out ?_
  rotate_left
  · intro V' hV; obtain ⟨d0, d1, d19, d20, d21, d22, d23, d24, d25, d26⟩ := HL.out V' hV; go_simp <;> with_reducible rfl
  simp only [Act.put, lA, lZ, lS]
  refine kT 3 ?_ rfl ?_ HT.out ?_
  rotate_left
  · intro V' hV; obtain ⟨d0, d1, d19, d20, d21, d22, d23, d24, d25, d26⟩ := HL.out V' hV; go_simp <;> with_reducible rfl
  simp only [Act.put, lA, lZ, lS]
  obtain ⟨w1_, hW1⟩ : ∃ W, V.drew.alloc (.cells #[.int .i64 p.ep, .int .i64 p.sq] 3) = W := ⟨_, rfl⟩
  have hb_ : Below V.drew.heap.size V.drew w1_ := by rw [← hW1]; exact (Below.refl _ _).alloc (Nat.le_refl _) _
  have hR1 := rd_lit_at V.drew [.int .i64 p.ep, .int .i64 p.sq] 3 2 V.drew.heap.size rfl rfl
  rw [hW1] at hR1
  have HR1 := Lib.hid hR1
  clear hR1
  refine oneT (i := 4) rfl (by kernel_rfl) (by rfl) (fun K hK => ?_)
  go_simp
  clear hW1
  have H1 := Lib.hid (H0.out.go hb_)
  clear hb_ H0 HT
  have HT : Hid ((fun V' => Whole V' w.heap.size 30 (brC p a)) w1_) := Lib.hid H1.out.box
  refine hK.out _ _ (fun _ => HT.out) ?_
  clear hK K
  refine oneT (i := 5) rfl (by kernel_rfl) (by rfl) (fun K hK => ?_)
  go_simp
  refine (bnumbers_any 0 _ 2 2 [p.ep, p.sq] _ _ HR1.out (by omega)).mono ?_
  rintro e w2_ ⟨rfl, hw_⟩
  have hb_ : Below w1_.heap.size w1_ w2_ := by rw [hw_]; exact Below.refl _ _
  clear hw_ HR1
  rw [t0]
  have H2 := Lib.hid (H1.out.go hb_)
  clear hb_ H1 HT
  have HT : Hid ((fun V' => Whole V' w.heap.size 30 (brC p a)) w2_) := Lib.hid H2.out.box
  refine hK.out _ _ (fun _ => HT.out) ?_
  clear hK K
  refine kP 6 ?_ rfl ?_ (fun _ => HT.out) ?_
  rotate_left
  · intro V'; go_simp <;> with_reducible rfl
  simp only [Act.put, lA, lZ, lS]
  refine kT 7 (brV p a) rfl ?_ HT.out ?_
  · intro V' hV; exact exec_load_brain rfl hV
  simp only [Act.put, lA, lZ, lS]
  refine kT 9 ?_ rfl ?_ HT.out ?_
  rotate_left
  · intro V' hV; obtain ⟨d0, d1, d19, d20, d21, d22, d23, d24, d25, d26⟩ := HL.out V' hV; go_simp <;> with_reducible rfl
  simp only [Act.put, lA, lZ, lS]
  refine kT 10 ?_ rfl ?_ HT.out ?_
  rotate_left
  · intro V' hV; obtain ⟨d0, d1, d19, d20, d21, d22, d23, d24, d25, d26⟩ := HL.out V' hV; go_simp <;> with_reducible rfl
  simp only [Act.put, lA, lZ, lS]
  refine oneT (i := 8) rfl (by kernel_rfl) (by rfl) (fun K hK => ?_)
  go_simp
  refine (tokens_any p a _).mono ?_
  rintro e w3_ ⟨b1, b2, rfl, g1, g2, g3, g4, hb_⟩
  have HQ1 := Lib.hid (show SeqI 114 b1 b2 (p.its.map It.tok) w3_ from itSeq hi g1 g2 g3 g4 ((H2.out.go hb_).rd.its.more (H2.out.go hb_).below.size))
  clear g1 g2 g3 g4
  have H3 := Lib.hid (H2.out.go hb_)
  clear hb_ H2 HT
  have HT : Hid ((fun V' => Whole V' w.heap.size 30 (brC p a)) w3_) := Lib.hid H3.out.box
  refine hK.out _ _ (fun _ => HT.out) ?_
  clear hK K
  refine oneT (i := 11) rfl (by kernel_rfl) (by rfl) (fun K hK => ?_)
  go_simp
  refine (rising_any 114 b1 b2 (p.its.map It.tok) p.sq _ (enters_of Tryz.func114 (by kernel_rfl) rfl) HQ1.out).mono ?_
  rintro e w4_ ⟨rfl, hb_⟩
  clear HQ1
  rw [t1]
  have H4 := Lib.hid (H3.out.go hb_)
  clear hb_ H3 HT
  have HT : Hid ((fun V' => Whole V' w.heap.size 30 (brC p a)) w4_) := Lib.hid H4.out.box
  refine hK.out _ _ (fun _ => HT.out) ?_
  clear hK K
  refine kP 12 ?_ rfl ?_ (fun _ => HT.out) ?_
  rotate_left
  · intro V'; go_simp <;> with_reducible rfl
  simp only [Act.put, lA, lZ, lS]
  refine kP 13 ?_ rfl ?_ (fun _ => HT.out) ?_
  rotate_left
  · intro V'; go_simp <;> with_reducible rfl
  simp only [Act.put, lA, lZ, lS]
  refine kT 14 (brV p a) rfl ?_ HT.out ?_
  · intro V' hV; exact exec_load_brain rfl hV
  simp only [Act.put, lA, lZ, lS]
  refine oneT (i := 15) rfl (by kernel_rfl) (by rfl) (fun K hK => ?_)
  go_simp
  refine (ids_any p a _).mono ?_
  rintro e w5_ ⟨b3, b4, rfl, g1, g2, g3, g4, hb_⟩
  have HQ2 := Lib.hid (show SeqI 113 b3 b4 (p.kps.map Kp.id) w5_ from kpSeq hk g1 g2 g3 g4 ((H4.out.go hb_).rd.kps.more (H4.out.go hb_).below.size))
  clear g1 g2 g3 g4
  have H5 := Lib.hid (H4.out.go hb_)
  clear hb_ H4 HT
  have HT : Hid ((fun V' => Whole V' w.heap.size 30 (brC p a)) w5_) := Lib.hid H5.out.box
  refine hK.out _ _ (fun _ => HT.out) ?_
  clear hK K
  refine oneT (i := 16) rfl (by kernel_rfl) (by rfl) (fun K hK => ?_)
  go_simp
  refine (rising_any 113 b3 b4 (p.kps.map Kp.id) brMax _ (enters_of Tryz.func113 (by kernel_rfl) rfl) HQ2.out).mono ?_
  rintro e w6_ ⟨rfl, hb_⟩
  clear HQ2
  rw [t2]
  have H6 := Lib.hid (H5.out.go hb_)
  clear hb_ H5 HT
  have HT : Hid ((fun V' => Whole V' w.heap.size 30 (brC p a)) w6_) := Lib.hid H6.out.box
  refine hK.out _ _ (fun _ => HT.out) ?_
  clear hK K
  refine kP 17 ?_ rfl ?_ (fun _ => HT.out) ?_
  rotate_left
  · intro V'; go_simp <;> with_reducible rfl
  simp only [Act.put, lA, lZ, lS]
  refine kP 18 ?_ rfl ?_ (fun _ => HT.out) ?_
  rotate_left
  · intro V'; go_simp <;> with_reducible rfl
  simp only [Act.put, lA, lZ, lS]
  refine kT 19 ?_ rfl ?_ HT.out ?_
  rotate_left
  · intro V' hV; obtain ⟨d0, d1, d19, d20, d21, d22, d23, d24, d25, d26⟩ := HL.out V' hV; go_simp <;> with_reducible rfl
  simp only [Act.put, lA, lZ, lS]
  refine kT 20 ?_ rfl ?_ HT.out ?_
  rotate_left
  · intro V' hV; obtain ⟨d0, d1, d19, d20, d21, d22, d23, d24, d25, d26⟩ := HL.out V' hV; go_simp <;> with_reducible rfl
  simp only [Act.put, lA, lZ, lS]
  refine oneT (i := 21) rfl (by kernel_rfl) (by rfl) (fun K hK => ?_)
  go_simp
  refine (phased_any a.B p.kps.length a.d p.kps w.heap.size _ H6.out.rd.kps H6.out.below.size hk).mono ?_
  rintro e w7_ ⟨rfl, hb_⟩
  rw [t3]
  have H7 := Lib.hid (H6.out.go hb_)
  clear hb_ H6 HT
  have HT : Hid ((fun V' => Whole V' w.heap.size 30 (brC p a)) w7_) := Lib.hid H7.out.box
  refine hK.out _ _ (fun _ => HT.out) ?_
  clear hK K
  refine kP 22 ?_ rfl ?_ (fun _ => HT.out) ?_
  rotate_left
  · intro V'; go_simp <;> with_reducible rfl
  simp only [Act.put, lA, lZ, lS]
  refine kP 23 ?_ rfl ?_ (fun _ => HT.out) ?_
  rotate_left
  · intro V'; go_simp <;> with_reducible rfl
  simp only [Act.put, lA, lZ, lS]
  refine kT 24 ?_ rfl ?_ HT.out ?_
  rotate_left
  · intro V' hV; obtain ⟨d0, d1, d19, d20, d21, d22, d23, d24, d25, d26⟩ := HL.out V' hV; go_simp <;> with_reducible rfl
  simp only [Act.put, lA, lZ, lS]
  refine kT 25 ?_ rfl ?_ HT.out ?_
  rotate_left
  · intro V' hV; obtain ⟨d0, d1, d19, d20, d21, d22, d23, d24, d25, d26⟩ := HL.out V' hV; go_simp <;> with_reducible rfl
  simp only [Act.put, lA, lZ, lS]
  refine oneT (i := 26) rfl (by kernel_rfl) (by rfl) (fun K hK => ?_)
  go_simp
  refine (refreshed_any p.rf _).mono ?_
  rintro e w8_ ⟨rfl, hb_⟩
  rw [t4]
  have H8 := Lib.hid (H7.out.go hb_)
  clear hb_ H7 HT
  have HT : Hid ((fun V' => Whole V' w.heap.size 30 (brC p a)) w8_) := Lib.hid H8.out.box
  refine hK.out _ _ (fun _ => HT.out) ?_
  clear hK K
  refine kP 27 ?_ rfl ?_ (fun _ => HT.out) ?_
  rotate_left
  · intro V'; go_simp <;> with_reducible rfl
  simp only [Act.put, lA, lZ, lS]
  refine kP 28 ?_ rfl ?_ (fun _ => HT.out) ?_
  rotate_left
  · intro V'; go_simp <;> with_reducible rfl
  simp only [Act.put, lA, lZ, lS]
  refine kS 29 rfl (fun _ => HT.out) ?_
  simp only [Act.put, lA, lZ, lS]
  refine kS 30 rfl (fun _ => HT.out) ?_
  simp only [Act.put, lA, lZ, lS]
  refine kP 31 ?_ rfl ?_ (fun _ => HT.out) ?_
  rotate_left
  · intro V'; go_simp <;> with_reducible rfl
  simp only [Act.put, lA, lZ, lS]
  refine oneT (i := 32) rfl (by kernel_rfl) (by rfl) (fun K hK => ?_)
  go_simp
  refine hK.out _ _ (fun _ => HT.out) ?_
  clear hK K
  refine doneT (by kernel_rfl) ?_ _
  go_wp2_with fail
  go_ret
  exact ⟨by rw [HF.out]; rfl, H8.out.below⟩

set_option maxHeartbeats 4000000 in
theorem bright_5 (p : Br) (a : Ad) (Z : Nat) (w : World) (hr : RdB_ w Z p a) (hZ : Z ≤ w.heap.size) (hi : p.its.length ≤ 1000) (hk : p.kps.length ≤ 1000) (hT : Tab w) (t0 : numsF 0 [p.ep, p.sq] = true) (t1 : risF p.sq 0 (p.its.map It.tok) = true) (t2 : risF brMax 0 (p.kps.map Kp.id) = true) (t3 : phOk p.kps = true) (t4 : rfOk p.rf = true) :
    Calls Tryz.prog 21 #[brV p a] w (BoolPost (rightBb p) w) := by
  obtain ⟨V, hV⟩ : ∃ V, w.alloc (.cells (brC p a) 30) = V := ⟨_, rfl⟩
  have hw : Whole V w.heap.size 30 (brC p a) := by rw [← hV]; exact Whole.new _ _ _
  have hb : Below w.heap.size w V := by rw [← hV]; exact (Below.refl _ _).alloc (Nat.le_refl _) _
  have HV := Lib.hid hV
  have H0 := Lib.hid (show RtAt w p a V.drew from (⟨hw, (hr.more hZ).below hb, hT.under hb, hb⟩ : RtAt w p a V).go (below_drewB (Below.refl _ V) 1))
  have HF := Lib.hid (show rightBb p = setOk p by unfold rightBb; rw [← numsF0, t0, itsOk_ris, t1, kpsOk_ris, t2, t3, t4, Bool.true_and, Bool.and_self, Bool.true_and, Bool.true_and, Bool.true_and])
  clear hr hZ hT hV hw hb
  go_enter Tryz.func21, Tryz.ntmps21
  go_upto_region 1 with fail
  refine wpV (fun V2 hV2 => ?_)
  obtain rfl : V = V2 := HV.out.symm.trans hV2
  clear HV hV2
  have HT : Hid ((fun V' => Whole V' w.heap.size 30 (brC p a)) V.drew) := Lib.hid H0.out.box
  have HL : Hid (∀ V', Whole V' w.heap.size 30 (brC p a) → V'.cell? ⟨w.heap.size, 0, none⟩ = some (.int .i64 p.ep) ∧ V'.cell? ⟨w.heap.size, 1, none⟩ = some (.int .i64 p.sq) ∧ V'.cell? ⟨w.heap.size, 19, none⟩ = some (.slice a.B p.kps.length a.d) ∧ V'.cell? ⟨w.heap.size, 20, none⟩ = some (.int .u8 p.rf.st) ∧ V'.cell? ⟨w.heap.size, 21, none⟩ = some (.int .i64 p.rf.fr) ∧ V'.cell? ⟨w.heap.size, 22, none⟩ = some (.int .i64 p.rf.to_) ∧ V'.cell? ⟨w.heap.size, 23, none⟩ = some (.int .i64 p.rf.step) ∧ V'.cell? ⟨w.heap.size, 24, none⟩ = some (.bool p.rf.paused) ∧ V'.cell? ⟨w.heap.size, 25, none⟩ = some (.int .i64 p.rf.since) ∧ V'.cell? ⟨w.heap.size, 26, none⟩ = some (.int .i64 p.rf.fails)) := Lib.hid (fun V' h => ⟨h.cell 0, h.cell 1, h.cell 19, h.cell 20, h.cell 21, h.cell 22, h.cell 23, h.cell 24, h.cell 25, h.cell 26⟩)
  refine wp_region_T (ls := []) (T := (fun V' => Whole V' w.heap.size 30 (brC p a))) (by kernel_rfl) ?_
  refine kT 0 ?_ rfl ?_ HT.out ?_
  rotate_left
  · intro V' hV; obtain ⟨d0, d1, d19, d20, d21, d22, d23, d24, d25, d26⟩ := HL.out V' hV; go_simp <;> with_reducible rfl
  simp only [Act.put, lA, lZ, lS]
  refine kT 1 ?_ rfl ?_ HT.out ?_
  rotate_left
  · intro V' hV; obtain ⟨d0, d1, d19, d20, d21, d22, d23, d24, d25, d26⟩ := HL.out V' hV; go_simp <;> with_reducible rfl
  simp only [Act.put, lA, lZ, lS]
  refine kT 2 ?_ rfl ?_ HT.out ?_
  rotate_left
  · intro V' hV; obtain ⟨d0, d1, d19, d20, d21, d22, d23, d24, d25, d26⟩ := HL.out V' hV; go_simp <;> with_reducible rfl
  simp only [Act.put, lA, lZ, lS]
  refine kT 3 ?_ rfl ?_ HT.out ?_
  rotate_left
  · intro V' hV; obtain ⟨d0, d1, d19, d20, d21, d22, d23, d24, d25, d26⟩ := HL.out V' hV; go_simp <;> with_reducible rfl
  simp only [Act.put, lA, lZ, lS]
  obtain ⟨w1_, hW1⟩ : ∃ W, V.drew.alloc (.cells #[.int .i64 p.ep, .int .i64 p.sq] 3) = W := ⟨_, rfl⟩
  have hb_ : Below V.drew.heap.size V.drew w1_ := by rw [← hW1]; exact (Below.refl _ _).alloc (Nat.le_refl _) _
  have hR1 := rd_lit_at V.drew [.int .i64 p.ep, .int .i64 p.sq] 3 2 V.drew.heap.size rfl rfl
  rw [hW1] at hR1
  have HR1 := Lib.hid hR1
  clear hR1
  refine oneT (i := 4) rfl (by kernel_rfl) (by rfl) (fun K hK => ?_)
  go_simp
  clear hW1
  have H1 := Lib.hid (H0.out.go hb_)
  clear hb_ H0 HT
  have HT : Hid ((fun V' => Whole V' w.heap.size 30 (brC p a)) w1_) := Lib.hid H1.out.box
  refine hK.out _ _ (fun _ => HT.out) ?_
  clear hK K
  refine oneT (i := 5) rfl (by kernel_rfl) (by rfl) (fun K hK => ?_)
  go_simp
  refine (bnumbers_any 0 _ 2 2 [p.ep, p.sq] _ _ HR1.out (by omega)).mono ?_
  rintro e w2_ ⟨rfl, hw_⟩
  have hb_ : Below w1_.heap.size w1_ w2_ := by rw [hw_]; exact Below.refl _ _
  clear hw_ HR1
  rw [t0]
  have H2 := Lib.hid (H1.out.go hb_)
  clear hb_ H1 HT
  have HT : Hid ((fun V' => Whole V' w.heap.size 30 (brC p a)) w2_) := Lib.hid H2.out.box
  refine hK.out _ _ (fun _ => HT.out) ?_
  clear hK K
  refine kP 6 ?_ rfl ?_ (fun _ => HT.out) ?_
  rotate_left
  · intro V'; go_simp <;> with_reducible rfl
  simp only [Act.put, lA, lZ, lS]
  refine kT 7 (brV p a) rfl ?_ HT.out ?_
  · intro V' hV; exact exec_load_brain rfl hV
  simp only [Act.put, lA, lZ, lS]
  refine kT 9 ?_ rfl ?_ HT.out ?_
  rotate_left
  · intro V' hV; obtain ⟨d0, d1, d19, d20, d21, d22, d23, d24, d25, d26⟩ := HL.out V' hV; go_simp <;> with_reducible rfl
  simp only [Act.put, lA, lZ, lS]
  refine kT 10 ?_ rfl ?_ HT.out ?_
  rotate_left
  · intro V' hV; obtain ⟨d0, d1, d19, d20, d21, d22, d23, d24, d25, d26⟩ := HL.out V' hV; go_simp <;> with_reducible rfl
  simp only [Act.put, lA, lZ, lS]
  refine oneT (i := 8) rfl (by kernel_rfl) (by rfl) (fun K hK => ?_)
  go_simp
  refine (tokens_any p a _).mono ?_
  rintro e w3_ ⟨b1, b2, rfl, g1, g2, g3, g4, hb_⟩
  have HQ1 := Lib.hid (show SeqI 114 b1 b2 (p.its.map It.tok) w3_ from itSeq hi g1 g2 g3 g4 ((H2.out.go hb_).rd.its.more (H2.out.go hb_).below.size))
  clear g1 g2 g3 g4
  have H3 := Lib.hid (H2.out.go hb_)
  clear hb_ H2 HT
  have HT : Hid ((fun V' => Whole V' w.heap.size 30 (brC p a)) w3_) := Lib.hid H3.out.box
  refine hK.out _ _ (fun _ => HT.out) ?_
  clear hK K
  refine oneT (i := 11) rfl (by kernel_rfl) (by rfl) (fun K hK => ?_)
  go_simp
  refine (rising_any 114 b1 b2 (p.its.map It.tok) p.sq _ (enters_of Tryz.func114 (by kernel_rfl) rfl) HQ1.out).mono ?_
  rintro e w4_ ⟨rfl, hb_⟩
  clear HQ1
  rw [t1]
  have H4 := Lib.hid (H3.out.go hb_)
  clear hb_ H3 HT
  have HT : Hid ((fun V' => Whole V' w.heap.size 30 (brC p a)) w4_) := Lib.hid H4.out.box
  refine hK.out _ _ (fun _ => HT.out) ?_
  clear hK K
  refine kP 12 ?_ rfl ?_ (fun _ => HT.out) ?_
  rotate_left
  · intro V'; go_simp <;> with_reducible rfl
  simp only [Act.put, lA, lZ, lS]
  refine kP 13 ?_ rfl ?_ (fun _ => HT.out) ?_
  rotate_left
  · intro V'; go_simp <;> with_reducible rfl
  simp only [Act.put, lA, lZ, lS]
  refine kT 14 (brV p a) rfl ?_ HT.out ?_
  · intro V' hV; exact exec_load_brain rfl hV
  simp only [Act.put, lA, lZ, lS]
  refine oneT (i := 15) rfl (by kernel_rfl) (by rfl) (fun K hK => ?_)
  go_simp
  refine (ids_any p a _).mono ?_
  rintro e w5_ ⟨b3, b4, rfl, g1, g2, g3, g4, hb_⟩
  have HQ2 := Lib.hid (show SeqI 113 b3 b4 (p.kps.map Kp.id) w5_ from kpSeq hk g1 g2 g3 g4 ((H4.out.go hb_).rd.kps.more (H4.out.go hb_).below.size))
  clear g1 g2 g3 g4
  have H5 := Lib.hid (H4.out.go hb_)
  clear hb_ H4 HT
  have HT : Hid ((fun V' => Whole V' w.heap.size 30 (brC p a)) w5_) := Lib.hid H5.out.box
  refine hK.out _ _ (fun _ => HT.out) ?_
  clear hK K
  refine oneT (i := 16) rfl (by kernel_rfl) (by rfl) (fun K hK => ?_)
  go_simp
  refine (rising_any 113 b3 b4 (p.kps.map Kp.id) brMax _ (enters_of Tryz.func113 (by kernel_rfl) rfl) HQ2.out).mono ?_
  rintro e w6_ ⟨rfl, hb_⟩
  clear HQ2
  rw [t2]
  have H6 := Lib.hid (H5.out.go hb_)
  clear hb_ H5 HT
  have HT : Hid ((fun V' => Whole V' w.heap.size 30 (brC p a)) w6_) := Lib.hid H6.out.box
  refine hK.out _ _ (fun _ => HT.out) ?_
  clear hK K
  refine kP 17 ?_ rfl ?_ (fun _ => HT.out) ?_
  rotate_left
  · intro V'; go_simp <;> with_reducible rfl
  simp only [Act.put, lA, lZ, lS]
  refine kP 18 ?_ rfl ?_ (fun _ => HT.out) ?_
  rotate_left
  · intro V'; go_simp <;> with_reducible rfl
  simp only [Act.put, lA, lZ, lS]
  refine kT 19 ?_ rfl ?_ HT.out ?_
  rotate_left
  · intro V' hV; obtain ⟨d0, d1, d19, d20, d21, d22, d23, d24, d25, d26⟩ := HL.out V' hV; go_simp <;> with_reducible rfl
  simp only [Act.put, lA, lZ, lS]
  refine kT 20 ?_ rfl ?_ HT.out ?_
  rotate_left
  · intro V' hV; obtain ⟨d0, d1, d19, d20, d21, d22, d23, d24, d25, d26⟩ := HL.out V' hV; go_simp <;> with_reducible rfl
  simp only [Act.put, lA, lZ, lS]
  refine oneT (i := 21) rfl (by kernel_rfl) (by rfl) (fun K hK => ?_)
  go_simp
  refine (phased_any a.B p.kps.length a.d p.kps w.heap.size _ H6.out.rd.kps H6.out.below.size hk).mono ?_
  rintro e w7_ ⟨rfl, hb_⟩
  rw [t3]
  have H7 := Lib.hid (H6.out.go hb_)
  clear hb_ H6 HT
  have HT : Hid ((fun V' => Whole V' w.heap.size 30 (brC p a)) w7_) := Lib.hid H7.out.box
  refine hK.out _ _ (fun _ => HT.out) ?_
  clear hK K
  refine kP 22 ?_ rfl ?_ (fun _ => HT.out) ?_
  rotate_left
  · intro V'; go_simp <;> with_reducible rfl
  simp only [Act.put, lA, lZ, lS]
  refine kP 23 ?_ rfl ?_ (fun _ => HT.out) ?_
  rotate_left
  · intro V'; go_simp <;> with_reducible rfl
  simp only [Act.put, lA, lZ, lS]
  refine kT 24 ?_ rfl ?_ HT.out ?_
  rotate_left
  · intro V' hV; obtain ⟨d0, d1, d19, d20, d21, d22, d23, d24, d25, d26⟩ := HL.out V' hV; go_simp <;> with_reducible rfl
  simp only [Act.put, lA, lZ, lS]
  refine kT 25 ?_ rfl ?_ HT.out ?_
  rotate_left
  · intro V' hV; obtain ⟨d0, d1, d19, d20, d21, d22, d23, d24, d25, d26⟩ := HL.out V' hV; go_simp <;> with_reducible rfl
  simp only [Act.put, lA, lZ, lS]
  refine oneT (i := 26) rfl (by kernel_rfl) (by rfl) (fun K hK => ?_)
  go_simp
  refine (refreshed_any p.rf _).mono ?_
  rintro e w8_ ⟨rfl, hb_⟩
  rw [t4]
  have H8 := Lib.hid (H7.out.go hb_)
  clear hb_ H7 HT
  have HT : Hid ((fun V' => Whole V' w.heap.size 30 (brC p a)) w8_) := Lib.hid H8.out.box
  refine hK.out _ _ (fun _ => HT.out) ?_
  clear hK K
  refine kP 27 ?_ rfl ?_ (fun _ => HT.out) ?_
  rotate_left
  · intro V'; go_simp <;> with_reducible rfl
  simp only [Act.put, lA, lZ, lS]
  refine kP 28 ?_ rfl ?_ (fun _ => HT.out) ?_
  rotate_left
  · intro V'; go_simp <;> with_reducible rfl
  simp only [Act.put, lA, lZ, lS]
  refine kT 29 (brV p a) rfl ?_ HT.out ?_
  · intro V' hV; exact exec_load_brain rfl hV
  simp only [Act.put, lA, lZ, lS]
  refine oneT (i := 30) rfl (by kernel_rfl) (by rfl) (fun K hK => ?_)
  go_simp
  refine (grouped_any p a w.heap.size _ H8.out.rd H8.out.below.size H8.out.tab).mono ?_
  rintro e w9_ ⟨rfl, hb_⟩
  have H9 := Lib.hid (H8.out.go hb_)
  clear hb_ H8 HT
  have HT : Hid ((fun V' => Whole V' w.heap.size 30 (brC p a)) w9_) := Lib.hid H9.out.box
  refine hK.out _ _ (fun _ => HT.out) ?_
  clear hK K
  refine kP 31 ?_ rfl ?_ (fun _ => HT.out) ?_
  rotate_left
  · intro V'; go_simp <;> with_reducible rfl
  simp only [Act.put, lA, lZ, lS]
  refine oneT (i := 32) rfl (by kernel_rfl) (by rfl) (fun K hK => ?_)
  go_simp
  refine hK.out _ _ (fun _ => HT.out) ?_
  clear hK K
  refine doneT (by kernel_rfl) ?_ _
  go_wp2_with fail
  go_ret
  exact ⟨by rw [HF.out]; rfl, H9.out.below⟩

theorem bright_any (p : Br) (a : Ad) (Z : Nat) (w : World) (hr : RdB_ w Z p a) (hZ : Z ≤ w.heap.size) (hi : p.its.length ≤ 1000) (hk : p.kps.length ≤ 1000) (hT : Tab w) :
    Calls Tryz.prog 21 #[brV p a] w (BoolPost (rightBb p) w) := by
  cases t0 : numsF 0 [p.ep, p.sq] with
  | false => exact bright_0 p a Z w hr hZ hi hk hT t0
  | true =>
  cases t1 : risF p.sq 0 (p.its.map It.tok) with
  | false => exact bright_1 p a Z w hr hZ hi hk hT t0 t1
  | true =>
  cases t2 : risF brMax 0 (p.kps.map Kp.id) with
  | false => exact bright_2 p a Z w hr hZ hi hk hT t0 t1 t2
  | true =>
  cases t3 : phOk p.kps with
  | false => exact bright_3 p a Z w hr hZ hi hk hT t0 t1 t2 t3
  | true =>
  cases t4 : rfOk p.rf with
  | false => exact bright_4 p a Z w hr hZ hi hk hT t0 t1 t2 t3 t4
  | true =>
  exact bright_5 p a Z w hr hZ hi hk hT t0 t1 t2 t3 t4

end Go.Proofs.YtdaimejlcfhfiaaGreatDoor
