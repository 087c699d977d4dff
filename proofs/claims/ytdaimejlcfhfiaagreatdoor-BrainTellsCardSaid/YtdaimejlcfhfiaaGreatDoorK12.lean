/-
  Texts that the walk of a statement over brains leans on, joined (BrClo1). Conditions: those that each theorem names.
-/
import Derived.Test.YtdaimejlcfhfiaaGreatDoorKQ
import Derived.Test.YtdaimejlcfhfiaaGreatDoorK8
import Derived.Test.YtdaimejlcfhfiaaGreatDoorK10
import Derived.Test.YtdaimejlcfhfiaaGreatDoorK11
set_option maxRecDepth 100000

namespace Go.Proofs.YtdaimejlcfhfiaaGreatDoor
open Go.RowKit Go.Shelf

theorem wpList_loadB {ops : Array Oper} {rest : List Oper} {o : Oper} {a : Act} {w : World} {Q : Exit → Act → World → Prop} (hw : Region.wanted o (yielded ops a.tmps) = true) (x : Operand) (ho : o.op = .load 30 x) (g : Nat) (p : Br) (ad : Ad) (hx : a.eval x = .pointer (some ⟨g, 0, none⟩)) (hW : Whole w g 30 (brC p ad))
    (h : wpList Tryz.prog ops Q rest (a.put o.dst (brV p ad)) w) : wpList Tryz.prog ops Q (o :: rest) a w := by
  unfold wpList
  rw [if_pos hw]
  left
  unfold Oper.wp execOp
  simp only [ho, hx, Instr.loadAt, Instr.sureAddr, Sem.run_bind, Sem.run_pure, Result.andThen_ok, run_loadVar_row (P := Tryz.prog) w g 30 30 (brC p ad) (0, 0) _ hW Tryz.underlying30 rfl (by kernel_rfl)]
  exact h

set_option maxHeartbeats 2000000 in
theorem kept_any (p : Br) (a : Ad) (base g : Nat) (b2 : Nat) (rb ro c : Nat) (x0 : Int) (n : Nat) (hn : 0 < n) (w : World) (h : BrIn base g w p a) (e_b2 : Whole w b2 65 #[.pointer (some ⟨g, 0, none⟩)]) (hrb : rb < w.heap.size) (hx0 : w.cell? ⟨rb, ro, none⟩ = some (.int .i64 x0)) (hk : p.kps.length ≤ 1000) :
    Calls Tryz.prog 79 #[.slice (some ⟨rb, ro, none⟩) n c, .pointer (some ⟨b2, 0, none⟩)] w (BoolPost (decide (0 ≤ findB p x0)) w) := by
  have H := Lib.hid h
  have HB0 : Hid (Below w.heap.size w w) := Lib.hid (Below.refl _ w)
  obtain ⟨F, hF⟩ : ∃ F, findB p x0 = F := ⟨_, rfl⟩
  rw [hF]
  have HF := Lib.hid hF
  clear hF
  have q_b2 := e_b2.cell 0
  simp only [List.getElem?_toArray, List.getElem?_cons_zero] at q_b2
  clear h
  go_enter Tryz.func79, Tryz.ntmps79
  go_wp2_with fail
  have Q_b2 := Lib.hid q_b2
  have L_b2 := Lib.hid e_b2.lt
  clear q_b2
  have R0 := Lib.hid hx0
  have Lrb := Lib.hid hrb
  have HL : Hid (∀ V', Below w.heap.size w V' → V'.cell? ⟨b2, 0, none⟩ = some (.pointer (some ⟨g, 0, none⟩)) ∧ V'.cell? ⟨rb, ro, none⟩ = some (.int .i64 x0) ∧ Whole V' g 30 (brC p a)) := Lib.hid (fun V' hb => ⟨(hb.cell (p := ⟨b2, 0, none⟩) L_b2.out).trans Q_b2.out, (hb.cell (p := ⟨rb, ro, none⟩) Lrb.out).trans R0.out, H.out.box.under hb⟩)
  have HBd := Lib.hid (show Below w.heap.size w w.drew from below_drewB HB0.out 1)
  clear HB0
  refine wp_region_T (ls := []) (T := (fun V' => Below w.heap.size w V')) (by kernel_rfl) ?_
  refine kT 0 ?_ rfl ?_ HBd.out ?_
  rotate_left
  · intro V' hV; obtain ⟨y0, y1, y2⟩ := HL.out V' hV; go_simp <;> with_reducible rfl
  simp only [Act.put, lA, lZ, lS]
  refine kP 1 ?_ rfl ?_ (fun _ => HBd.out) ?_
  rotate_left
  · intro V'; go_simp <;> with_reducible rfl
  simp only [Act.put, lA, lZ, lS]
  refine kT 2 (brV p a) rfl ?_ HBd.out ?_
  · intro V' hV; obtain ⟨y0, y1, y2⟩ := HL.out V' hV; exact exec_load_brain rfl y2
  simp only [Act.put, lA, lZ, lS]
  refine kP 3 ?_ rfl ?_ (fun _ => HBd.out) ?_
  rotate_left
  · intro V'; go_simp <;> with_reducible rfl
  simp only [Act.put, lA, lZ, lS]
  refine kP 4 ?_ rfl ?_ (fun _ => HBd.out) ?_
  rotate_left
  · intro V'; go_simp <;> with_reducible rfl
  simp only [Act.put, lA, lZ, lS]
  refine kT 5 ?_ rfl ?_ HBd.out ?_
  rotate_left
  · intro V' hV; obtain ⟨y0, y1, y2⟩ := HL.out V' hV; go_simp <;> with_reducible rfl
  simp only [Act.put, lA, lZ, lS]
  refine oneT (i := 6) rfl (by kernel_rfl) (by rfl) (fun K hK => ?_)
  go_simp
  refine (bfind_any p a x0 _ w.drew (H.out.under HBd.out).own.reads (Nat.le_refl _) hk).mono ?_
  rintro e w1 ⟨rfl, hb_⟩
  have HB1 := Lib.hid (show Below w.heap.size w w1 from HBd.out.trans (hb_.mono HBd.out.size))
  clear hb_ HBd
  rw [HF.out]
  refine hK.out _ _ (fun _ => HB1.out) ?_
  clear hK K
  refine kP 7 ?_ rfl ?_ (fun _ => HB1.out) ?_
  rotate_left
  · intro V'; go_simp <;> with_reducible rfl
  simp only [Act.put, lA, lZ, lS]
  refine oneT (i := 8) rfl (by kernel_rfl) (by rfl) (fun K hK => ?_)
  go_simp
  refine hK.out _ _ (fun _ => HB1.out) ?_
  clear hK K
  refine doneT (by kernel_rfl) ?_ _
  go_wp2_with fail
  go_ret
  exact ⟨rfl, HB1.out⟩

set_option maxHeartbeats 2000000 in
theorem unkept_true (p : Br) (a : Ad) (base g : Nat) (b2 : Nat) (x : Int) (hx : 1 ≤ x) (w : World) (h : BrIn base g w p a) (e_b2 : Whole w b2 65 #[.pointer (some ⟨g, 0, none⟩)])  (hk : p.kps.length ≤ 1000) :
    Calls Tryz.prog 80 #[.int .i64 x, .pointer (some ⟨b2, 0, none⟩)] w (BoolPost (decide (findB p x < 0)) w) := by
  have H := Lib.hid h
  have HB0 : Hid (Below w.heap.size w w) := Lib.hid (Below.refl _ w)
  have q0 : decide (1 ≤ x) = true := decide_eq_true hx
  obtain ⟨F, hF⟩ : ∃ F, findB p x = F := ⟨_, rfl⟩
  rw [hF]
  have HF := Lib.hid hF
  clear hF
  have q_b2 := e_b2.cell 0
  simp only [List.getElem?_toArray, List.getElem?_cons_zero] at q_b2
  clear h hx
  go_enter Tryz.func80, Tryz.ntmps80
  go_wp2_with (refine wpList_loadB (by rfl) _ rfl g p a (by rfl) H.out.box ?_)
  refine (bfind_any p a x _ w H.out.own.reads (Nat.le_refl _) hk).mono ?_
  rintro e w1 ⟨rfl, hb_⟩
  have HB1 := Lib.hid hb_
  rw [HF.out]
  clear hb_
  go_wp2_with fail
  go_ret
  exact ⟨rfl, HB1.out⟩

set_option maxHeartbeats 2000000 in
theorem unkept_false (p : Br) (a : Ad) (base g : Nat) (b2 : Nat) (x : Int) (hx : ¬ 1 ≤ x) (w : World) (h : BrIn base g w p a) (e_b2 : Whole w b2 65 #[.pointer (some ⟨g, 0, none⟩)])   :
    Calls Tryz.prog 80 #[.int .i64 x, .pointer (some ⟨b2, 0, none⟩)] w (BoolPost false w) := by
  have H := Lib.hid h
  have HB0 : Hid (Below w.heap.size w w) := Lib.hid (Below.refl _ w)
  have q0 : decide (1 ≤ x) = false := decide_eq_false hx
  have q_b2 := e_b2.cell 0
  simp only [List.getElem?_toArray, List.getElem?_cons_zero] at q_b2
  clear h hx
  go_enter Tryz.func80, Tryz.ntmps80
  go_wp2_with fail
  go_ret
  exact ⟨rfl, HB0.out⟩

theorem unkept_any (p : Br) (a : Ad) (base g b2 : Nat) (x : Int) (w : World) (h : BrIn base g w p a) (e_b2 : Whole w b2 65 #[.pointer (some ⟨g, 0, none⟩)]) (hk : p.kps.length ≤ 1000) :
    Calls Tryz.prog 80 #[.int .i64 x, .pointer (some ⟨b2, 0, none⟩)] w (BoolPost (decide (1 ≤ x) && decide (findB p x < 0)) w) := by
  by_cases hx : 1 ≤ x
  · rw [decide_eq_true hx, Bool.true_and]
    exact unkept_true p a base g b2 x hx w h e_b2 hk
  · rw [decide_eq_false hx, Bool.false_and]
    exact unkept_false p a base g b2 x hx w h e_b2
def ThePost (b i : Nat) (w : World) (e : Ending) (w' : World) : Prop := e = .returned (.pointer (some ⟨b, i * 8, none⟩)) ∧ Below w.heap.size w w'

set_option maxHeartbeats 2000000 in
theorem the_any (p : Br) (a : Ad) (base g : Nat) (b2 : Nat) (x : Int) (b i : Nat) (w : World) (h : BrIn base g w p a) (e_b2 : Whole w b2 65 #[.pointer (some ⟨g, 0, none⟩)])  (hk : p.kps.length ≤ 1000) (hB : a.B = some ⟨b, 0, none⟩) (hi : p.kps.findIdx? (fun y => decide (y.id = x)) = some i) :
    Calls Tryz.prog 81 #[.int .i64 x, .pointer (some ⟨b2, 0, none⟩)] w (ThePost b i w) := by
  have H := Lib.hid h
  have HB0 : Hid (Below w.heap.size w w) := Lib.hid (Below.refl _ w)
  obtain ⟨hf, hlt⟩ := findB_some hi
  have HF := Lib.hid hf
  have hil : (i : Int) < (p.kps.length : Int) := by omega
  have HBB := Lib.hid hB
  clear hf hB
  have q_b2 := e_b2.cell 0
  simp only [List.getElem?_toArray, List.getElem?_cons_zero] at q_b2
  clear h
  go_enter Tryz.func81, Tryz.ntmps81
  go_wp2_with fail
  have Q_b2 := Lib.hid q_b2
  have L_b2 := Lib.hid e_b2.lt
  clear q_b2
  have HL : Hid (∀ V', Below w.heap.size w V' → V'.cell? ⟨b2, 0, none⟩ = some (.pointer (some ⟨g, 0, none⟩)) ∧ Whole V' g 30 (brC p a) ∧ V'.cell? ⟨g, 19, none⟩ = some (.slice (some ⟨b, 0, none⟩) p.kps.length a.d)) := Lib.hid (fun V' hb => ⟨(hb.cell (p := ⟨b2, 0, none⟩) L_b2.out).trans Q_b2.out, H.out.box.under hb, by have := (H.out.box.under hb).cell 19; rw [← HBB.out]; exact this⟩)
  have HBd := Lib.hid (show Below w.heap.size w w.drew from below_drewB HB0.out 1)
  clear HB0
  refine wp_region_T (ls := []) (T := (fun V' => Below w.heap.size w V')) (by kernel_rfl) ?_
  refine kT 0 ?_ rfl ?_ HBd.out ?_
  rotate_left
  · intro V' hV; obtain ⟨y0, y1, y2⟩ := HL.out V' hV; go_simp <;> with_reducible rfl
  simp only [Act.put, lA, lZ, lS]
  refine kP 1 ?_ rfl ?_ (fun _ => HBd.out) ?_
  rotate_left
  · intro V'; go_simp <;> with_reducible rfl
  simp only [Act.put, lA, lZ, lS]
  refine kP 2 ?_ rfl ?_ (fun _ => HBd.out) ?_
  rotate_left
  · intro V'; go_simp <;> with_reducible rfl
  simp only [Act.put, lA, lZ, lS]
  refine kT 3 ?_ rfl ?_ HBd.out ?_
  rotate_left
  · intro V' hV; obtain ⟨y0, y1, y2⟩ := HL.out V' hV; go_simp <;> with_reducible rfl
  simp only [Act.put, lA, lZ, lS]
  refine kT 4 ?_ rfl ?_ HBd.out ?_
  rotate_left
  · intro V' hV; obtain ⟨y0, y1, y2⟩ := HL.out V' hV; go_simp <;> with_reducible rfl
  simp only [Act.put, lA, lZ, lS]
  refine kP 5 ?_ rfl ?_ (fun _ => HBd.out) ?_
  rotate_left
  · intro V'; go_simp <;> with_reducible rfl
  simp only [Act.put, lA, lZ, lS]
  refine kT 6 (brV p a) rfl ?_ HBd.out ?_
  · intro V' hV; obtain ⟨y0, y1, y2⟩ := HL.out V' hV; exact exec_load_brain rfl y1
  simp only [Act.put, lA, lZ, lS]
  refine kP 7 ?_ rfl ?_ (fun _ => HBd.out) ?_
  rotate_left
  · intro V'; go_simp <;> with_reducible rfl
  simp only [Act.put, lA, lZ, lS]
  refine oneT (i := 8) rfl (by kernel_rfl) (by rfl) (fun K hK => ?_)
  go_simp
  refine (bfind_any p a x _ w.drew (H.out.under HBd.out).own.reads (Nat.le_refl _) hk).mono ?_
  rintro e w1 ⟨rfl, hb_⟩
  have HB1 := Lib.hid (show Below w.heap.size w w1 from HBd.out.trans (hb_.mono HBd.out.size))
  clear hb_ HBd
  rw [HF.out]
  refine hK.out _ _ (fun _ => HB1.out) ?_
  clear hK K
  refine kP 9 ?_ rfl ?_ (fun _ => HB1.out) ?_
  rotate_left
  · intro V'; go_simp <;> with_reducible rfl
  simp only [Act.put, lA, lZ, lS]
  refine oneT (i := 10) rfl (by kernel_rfl) (by rfl) (fun K hK => ?_)
  go_simp
  refine hK.out _ _ (fun _ => HB1.out) ?_
  clear hK K
  refine doneT (by kernel_rfl) ?_ _
  go_wp2_with fail
  go_ret
  exact ⟨rfl, HB1.out⟩

set_option maxHeartbeats 2000000 in
theorem active_any (p : Br) (a : Ad) (base g : Nat) (b7 : Nat) (A : Option Addr) (n c : Nat)  (w : World) (h : BrIn base g w p a) (e_b7 : Whole w b7 115 #[.pointer (some ⟨g, 20, none⟩)])   :
    Calls Tryz.prog 99 #[.slice A n c, .pointer (some ⟨b7, 0, none⟩)] w (BoolPost (p.rf.st == 1) w) := by
  have H := Lib.hid h
  have HB0 : Hid (Below w.heap.size w w) := Lib.hid (Below.refl _ w)
  have q20 := (cells27 h.box).2.2.2.2.2.2.2.2.2.2.2.2.2.2.2.2.2.2.2.2.1
  have q_b7 := e_b7.cell 0
  simp only [List.getElem?_toArray, List.getElem?_cons_zero] at q_b7
  clear h
  go_enter Tryz.func99, Tryz.ntmps99
  go_wp2_with fail
  go_ret
  exact ⟨rfl, HB0.out⟩

end Go.Proofs.YtdaimejlcfhfiaaGreatDoor
