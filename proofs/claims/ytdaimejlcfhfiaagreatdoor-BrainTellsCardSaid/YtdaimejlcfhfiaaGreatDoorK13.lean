/-
  Texts that the walk of a statement over brains leans on, joined (BrClo2). Conditions: those that each theorem names.
-/
import Derived.Test.YtdaimejlcfhfiaaGreatDoorKQ
import Derived.Test.YtdaimejlcfhfiaaGreatDoorK12
set_option maxRecDepth 100000

namespace Go.Proofs.YtdaimejlcfhfiaaGreatDoor
open Go.RowKit Go.Shelf

set_option maxHeartbeats 2000000 in
theorem fMade_false (p : Br) (a : Ad) (base g : Nat) (b2 : Nat) (b4 : Nat) (rb ro c : Nat) (x0 x1 : Int)  (w : World) (h : BrIn base g w p a) (e_b2 : Whole w b2 65 #[.pointer (some ⟨g, 0, none⟩)]) (e_b4 : Whole w b4 78 #[.func (.func 80) #[] #[.pointer (some ⟨b2, 0, none⟩)]]) (hrb : rb < w.heap.size) (hx0 : w.cell? ⟨rb, ro, none⟩ = some (.int .i64 x0)) (hx1 : w.cell? ⟨rb, ro + 1, none⟩ = some (.int .i64 x1)) (hm : p.its.length ≤ 1000) (q0 : decide (0 ≤ tokenB p x0) = false) :
    Calls Tryz.prog 82 #[.slice (some ⟨rb, ro, none⟩) 3 c, .pointer (some ⟨b2, 0, none⟩), .pointer (some ⟨b4, 0, none⟩)] w (BoolPost false w) := by
  have H := Lib.hid h
  have HB0 : Hid (Below w.heap.size w w) := Lib.hid (Below.refl _ w)
  obtain ⟨F, hF⟩ : ∃ F, tokenB p x0 = F := ⟨_, rfl⟩
  rw [hF] at q0
  have HF := Lib.hid hF
  clear hF
  have q_b2 := e_b2.cell 0
  simp only [List.getElem?_toArray, List.getElem?_cons_zero] at q_b2
  have q_b4 := e_b4.cell 0
  simp only [List.getElem?_toArray, List.getElem?_cons_zero] at q_b4
  clear h
  go_enter Tryz.func82, Tryz.ntmps82
  go_wp2_with fail
  have Q_b2 := Lib.hid q_b2
  have L_b2 := Lib.hid e_b2.lt
  clear q_b2
  have Q_b4 := Lib.hid q_b4
  have L_b4 := Lib.hid e_b4.lt
  clear q_b4
  have R0 := Lib.hid hx0
  have R1 := Lib.hid hx1
  have Lrb := Lib.hid hrb
  have HL : Hid (∀ V', Below w.heap.size w V' → V'.cell? ⟨b2, 0, none⟩ = some (.pointer (some ⟨g, 0, none⟩)) ∧ V'.cell? ⟨b4, 0, none⟩ = some (.func (.func 80) #[] #[.pointer (some ⟨b2, 0, none⟩)]) ∧ V'.cell? ⟨rb, ro, none⟩ = some (.int .i64 x0) ∧ V'.cell? ⟨rb, ro + 1, none⟩ = some (.int .i64 x1) ∧ Whole V' g 30 (brC p a)) := Lib.hid (fun V' hb => ⟨(hb.cell (p := ⟨b2, 0, none⟩) L_b2.out).trans Q_b2.out, (hb.cell (p := ⟨b4, 0, none⟩) L_b4.out).trans Q_b4.out, (hb.cell (p := ⟨rb, ro, none⟩) Lrb.out).trans R0.out, (hb.cell (p := ⟨rb, ro + 1, none⟩) Lrb.out).trans R1.out, H.out.box.under hb⟩)
  have HBd := Lib.hid (show Below w.heap.size w w.drew from below_drewB HB0.out 1)
  clear HB0
  refine wp_region_T (ls := []) (T := (fun V' => Below w.heap.size w V')) (by kernel_rfl) ?_
  refine kT 0 ?_ rfl ?_ HBd.out ?_
  rotate_left
  · intro V' hV; obtain ⟨y0, y1, y2, y3, y4⟩ := HL.out V' hV; go_simp <;> with_reducible rfl
  simp only [Act.put, lA, lZ, lS]
  refine kP 1 ?_ rfl ?_ (fun _ => HBd.out) ?_
  rotate_left
  · intro V'; go_simp <;> with_reducible rfl
  simp only [Act.put, lA, lZ, lS]
  refine kT 2 (brV p a) rfl ?_ HBd.out ?_
  · intro V' hV; obtain ⟨y0, y1, y2, y3, y4⟩ := HL.out V' hV; exact exec_load_brain rfl y4
  simp only [Act.put, lA, lZ, lS]
  refine kP 3 ?_ rfl ?_ (fun _ => HBd.out) ?_
  rotate_left
  · intro V'; go_simp <;> with_reducible rfl
  simp only [Act.put, lA, lZ, lS]
  refine kP 4 ?_ rfl ?_ (fun _ => HBd.out) ?_
  rotate_left
  · intro V'; go_simp <;> with_reducible rfl
  simp only [Act.put, lA, lZ, lS]
  refine kT 5 ?_ rfl ?_ HBd.out ?_
  rotate_left
  · intro V' hV; obtain ⟨y0, y1, y2, y3, y4⟩ := HL.out V' hV; go_simp <;> with_reducible rfl
  simp only [Act.put, lA, lZ, lS]
  refine oneT (i := 6) rfl (by kernel_rfl) (by rfl) (fun K hK => ?_)
  go_simp
  refine (btoken_any p a x0 _ w.drew (H.out.under HBd.out).own.reads (Nat.le_refl _) hm).mono ?_
  rintro e w1 ⟨rfl, hb_⟩
  have HB1 := Lib.hid (show Below w.heap.size w w1 from HBd.out.trans (hb_.mono HBd.out.size))
  clear hb_ HBd
  rw [HF.out]
  refine hK.out _ _ (fun _ => HB1.out) ?_
  clear hK K
  refine kP 7 ?_ rfl ?_ (fun _ => HB1.out) ?_
  rotate_left
  · intro V'; go_simp <;> with_reducible rfl
  simp only [Act.put, lA, lZ, lS]
  refine kP 8 ?_ rfl ?_ (fun _ => HB1.out) ?_
  rotate_left
  · intro V'; go_simp <;> with_reducible rfl
  simp only [Act.put, lA, lZ, lS]
  refine kS 9 rfl (fun _ => HB1.out) ?_
  simp only [Act.put, lA, lZ, lS]
  refine kS 10 rfl (fun _ => HB1.out) ?_
  simp only [Act.put, lA, lZ, lS]
  refine kS 11 rfl (fun _ => HB1.out) ?_
  simp only [Act.put, lA, lZ, lS]
  refine kS 12 rfl (fun _ => HB1.out) ?_
  simp only [Act.put, lA, lZ, lS]
  refine kS 13 rfl (fun _ => HB1.out) ?_
  simp only [Act.put, lA, lZ, lS]
  refine kP 14 ?_ rfl ?_ (fun _ => HB1.out) ?_
  rotate_left
  · intro V'; go_simp <;> with_reducible rfl
  simp only [Act.put, lA, lZ, lS]
  refine oneT (i := 15) rfl (by kernel_rfl) (by rfl) (fun K hK => ?_)
  go_simp
  refine hK.out _ _ (fun _ => HB1.out) ?_
  clear hK K
  refine doneT (by kernel_rfl) ?_ _
  go_wp2_with fail
  go_ret
  exact ⟨rfl, HB1.out⟩

set_option maxHeartbeats 2000000 in
theorem fMade_true (p : Br) (a : Ad) (base g : Nat) (b2 : Nat) (b4 : Nat) (rb ro c : Nat) (x0 x1 : Int)  (w : World) (h : BrIn base g w p a) (e_b2 : Whole w b2 65 #[.pointer (some ⟨g, 0, none⟩)]) (e_b4 : Whole w b4 78 #[.func (.func 80) #[] #[.pointer (some ⟨b2, 0, none⟩)]]) (hrb : rb < w.heap.size) (hx0 : w.cell? ⟨rb, ro, none⟩ = some (.int .i64 x0)) (hx1 : w.cell? ⟨rb, ro + 1, none⟩ = some (.int .i64 x1)) (hk : p.kps.length ≤ 1000) (hm : p.its.length ≤ 1000) (q0 : decide (0 ≤ tokenB p x0) = true) :
    Calls Tryz.prog 82 #[.slice (some ⟨rb, ro, none⟩) 3 c, .pointer (some ⟨b2, 0, none⟩), .pointer (some ⟨b4, 0, none⟩)] w (BoolPost (decide (1 ≤ x1) && decide (findB p x1 < 0)) w) := by
  have H := Lib.hid h
  have HB0 : Hid (Below w.heap.size w w) := Lib.hid (Below.refl _ w)
  obtain ⟨F, hF⟩ : ∃ F, tokenB p x0 = F := ⟨_, rfl⟩
  rw [hF] at q0
  have HF := Lib.hid hF
  clear hF
  have q_b2 := e_b2.cell 0
  simp only [List.getElem?_toArray, List.getElem?_cons_zero] at q_b2
  have q_b4 := e_b4.cell 0
  simp only [List.getElem?_toArray, List.getElem?_cons_zero] at q_b4
  clear h
  go_enter Tryz.func82, Tryz.ntmps82
  go_wp2_with fail
  have Q_b2 := Lib.hid q_b2
  have L_b2 := Lib.hid e_b2.lt
  clear q_b2
  have Q_b4 := Lib.hid q_b4
  have L_b4 := Lib.hid e_b4.lt
  clear q_b4
  have R0 := Lib.hid hx0
  have R1 := Lib.hid hx1
  have Lrb := Lib.hid hrb
  have HL : Hid (∀ V', Below w.heap.size w V' → V'.cell? ⟨b2, 0, none⟩ = some (.pointer (some ⟨g, 0, none⟩)) ∧ V'.cell? ⟨b4, 0, none⟩ = some (.func (.func 80) #[] #[.pointer (some ⟨b2, 0, none⟩)]) ∧ V'.cell? ⟨rb, ro, none⟩ = some (.int .i64 x0) ∧ V'.cell? ⟨rb, ro + 1, none⟩ = some (.int .i64 x1) ∧ Whole V' g 30 (brC p a)) := Lib.hid (fun V' hb => ⟨(hb.cell (p := ⟨b2, 0, none⟩) L_b2.out).trans Q_b2.out, (hb.cell (p := ⟨b4, 0, none⟩) L_b4.out).trans Q_b4.out, (hb.cell (p := ⟨rb, ro, none⟩) Lrb.out).trans R0.out, (hb.cell (p := ⟨rb, ro + 1, none⟩) Lrb.out).trans R1.out, H.out.box.under hb⟩)
  have HBd := Lib.hid (show Below w.heap.size w w.drew from below_drewB HB0.out 1)
  clear HB0
  refine wp_region_T (ls := []) (T := (fun V' => Below w.heap.size w V')) (by kernel_rfl) ?_
  refine kT 0 ?_ rfl ?_ HBd.out ?_
  rotate_left
  · intro V' hV; obtain ⟨y0, y1, y2, y3, y4⟩ := HL.out V' hV; go_simp <;> with_reducible rfl
  simp only [Act.put, lA, lZ, lS]
  refine kP 1 ?_ rfl ?_ (fun _ => HBd.out) ?_
  rotate_left
  · intro V'; go_simp <;> with_reducible rfl
  simp only [Act.put, lA, lZ, lS]
  refine kT 2 (brV p a) rfl ?_ HBd.out ?_
  · intro V' hV; obtain ⟨y0, y1, y2, y3, y4⟩ := HL.out V' hV; exact exec_load_brain rfl y4
  simp only [Act.put, lA, lZ, lS]
  refine kP 3 ?_ rfl ?_ (fun _ => HBd.out) ?_
  rotate_left
  · intro V'; go_simp <;> with_reducible rfl
  simp only [Act.put, lA, lZ, lS]
  refine kP 4 ?_ rfl ?_ (fun _ => HBd.out) ?_
  rotate_left
  · intro V'; go_simp <;> with_reducible rfl
  simp only [Act.put, lA, lZ, lS]
  refine kT 5 ?_ rfl ?_ HBd.out ?_
  rotate_left
  · intro V' hV; obtain ⟨y0, y1, y2, y3, y4⟩ := HL.out V' hV; go_simp <;> with_reducible rfl
  simp only [Act.put, lA, lZ, lS]
  refine oneT (i := 6) rfl (by kernel_rfl) (by rfl) (fun K hK => ?_)
  go_simp
  refine (btoken_any p a x0 _ w.drew (H.out.under HBd.out).own.reads (Nat.le_refl _) hm).mono ?_
  rintro e w1 ⟨rfl, hb_⟩
  have HB1 := Lib.hid (show Below w.heap.size w w1 from HBd.out.trans (hb_.mono HBd.out.size))
  clear hb_ HBd
  rw [HF.out]
  refine hK.out _ _ (fun _ => HB1.out) ?_
  clear hK K
  refine kP 7 ?_ rfl ?_ (fun _ => HB1.out) ?_
  rotate_left
  · intro V'; go_simp <;> with_reducible rfl
  simp only [Act.put, lA, lZ, lS]
  refine kP 8 ?_ rfl ?_ (fun _ => HB1.out) ?_
  rotate_left
  · intro V'; go_simp <;> with_reducible rfl
  simp only [Act.put, lA, lZ, lS]
  refine kT 9 ?_ rfl ?_ HB1.out ?_
  rotate_left
  · intro V' hV; obtain ⟨y0, y1, y2, y3, y4⟩ := HL.out V' hV; go_simp <;> with_reducible rfl
  simp only [Act.put, lA, lZ, lS]
  refine kP 10 ?_ rfl ?_ (fun _ => HB1.out) ?_
  rotate_left
  · intro V'; go_simp <;> with_reducible rfl
  simp only [Act.put, lA, lZ, lS]
  refine kP 11 ?_ rfl ?_ (fun _ => HB1.out) ?_
  rotate_left
  · intro V'; go_simp <;> with_reducible rfl
  simp only [Act.put, lA, lZ, lS]
  refine kT 12 ?_ rfl ?_ HB1.out ?_
  rotate_left
  · intro V' hV; obtain ⟨y0, y1, y2, y3, y4⟩ := HL.out V' hV; go_simp <;> with_reducible rfl
  simp only [Act.put, lA, lZ, lS]
  refine oneT (i := 13) rfl (by kernel_rfl) (by rfl) (fun K hK => ?_)
  go_simp
  refine (unkept_any p a base g b2 x1 w1 (H.out.under HB1.out) (e_b2.under HB1.out) hk).mono ?_
  rintro e w2 ⟨rfl, hb_⟩
  have HB2 := Lib.hid (show Below w.heap.size w w2 from HB1.out.trans (hb_.mono HB1.out.size))
  clear hb_ HB1
  refine hK.out _ _ (fun _ => HB2.out) ?_
  clear hK K
  refine kP 14 ?_ rfl ?_ (fun _ => HB2.out) ?_
  rotate_left
  · intro V'; go_simp <;> with_reducible rfl
  simp only [Act.put, lA, lZ, lS]
  refine oneT (i := 15) rfl (by kernel_rfl) (by rfl) (fun K hK => ?_)
  go_simp
  refine hK.out _ _ (fun _ => HB2.out) ?_
  clear hK K
  refine doneT (by kernel_rfl) ?_ _
  go_wp2_with fail
  go_ret
  exact ⟨rfl, HB2.out⟩

set_option maxHeartbeats 2000000 in
theorem dMade (p : Br) (a : Ad) (base g : Nat) (b2 : Nat) (rb ro c : Nat) (x0 x1 x2 : Int) (i : Nat) (x : It)  (w : World) (h : BrIn base g w p a) (e_b2 : Whole w b2 65 #[.pointer (some ⟨g, 0, none⟩)]) (hrb : rb < w.heap.size) (hx0 : w.cell? ⟨rb, ro, none⟩ = some (.int .i64 x0)) (hx1 : w.cell? ⟨rb, ro + 1, none⟩ = some (.int .i64 x1)) (hx2 : w.cell? ⟨rb, ro + 2, none⟩ = some (.int .i64 x2)) (hi : p.its.findIdx? (fun y => decide (y.tok = x0)) = some i) (hx : p.its[i]? = some x) (hn : p.its.length ≤ 1000) (hk : p.kps.length ≤ 900) :
    Calls Tryz.prog 83 #[.slice (some ⟨rb, ro, none⟩) 3 c, .pointer (some ⟨b2, 0, none⟩)] w (StPost base g (madeP p x0 x1 x2 x) w) := by
  have H := Lib.hid h
  have HB0 : Hid (Below w.heap.size w w) := Lib.hid (Below.refl _ w)
  have q_b2 := e_b2.cell 0
  simp only [List.getElem?_toArray, List.getElem?_cons_zero] at q_b2
  clear h
  go_enter Tryz.func83, Tryz.ntmps83
  have Q_b2 := Lib.hid q_b2
  have L_b2 := Lib.hid e_b2.lt
  clear q_b2
  have R0 := Lib.hid hx0
  have R1 := Lib.hid hx1
  have R2 := Lib.hid hx2
  have Lrb := Lib.hid hrb
  have HL : Hid (∀ V', Below w.heap.size w V' → V'.cell? ⟨b2, 0, none⟩ = some (.pointer (some ⟨g, 0, none⟩)) ∧ V'.cell? ⟨rb, ro, none⟩ = some (.int .i64 x0) ∧ V'.cell? ⟨rb, ro + 1, none⟩ = some (.int .i64 x1) ∧ V'.cell? ⟨rb, ro + 2, none⟩ = some (.int .i64 x2) ∧ Whole V' g 30 (brC p a)) := Lib.hid (fun V' hb => ⟨(hb.cell (p := ⟨b2, 0, none⟩) L_b2.out).trans Q_b2.out, (hb.cell (p := ⟨rb, ro, none⟩) Lrb.out).trans R0.out, (hb.cell (p := ⟨rb, ro + 1, none⟩) Lrb.out).trans R1.out, (hb.cell (p := ⟨rb, ro + 2, none⟩) Lrb.out).trans R2.out, H.out.box.under hb⟩)
  have HBd := Lib.hid (show Below w.heap.size w w.drew from below_drewB HB0.out 1)
  clear HB0
  refine wp_region_T (ls := [10]) (T := (fun V' => Below w.heap.size w V')) (by kernel_rfl) ?_
  refine kT 0 ?_ rfl ?_ HBd.out ?_
  rotate_left
  · intro V' hV; obtain ⟨y0, y1, y2, y3, y4⟩ := HL.out V' hV; go_simp <;> with_reducible rfl
  simp only [Act.put, lA, lZ, lS]
  refine kP 1 ?_ rfl ?_ (fun _ => HBd.out) ?_
  rotate_left
  · intro V'; go_simp <;> with_reducible rfl
  simp only [Act.put, lA, lZ, lS]
  refine kP 2 ?_ rfl ?_ (fun _ => HBd.out) ?_
  rotate_left
  · intro V'; go_simp <;> with_reducible rfl
  simp only [Act.put, lA, lZ, lS]
  refine kT 3 ?_ rfl ?_ HBd.out ?_
  rotate_left
  · intro V' hV; obtain ⟨y0, y1, y2, y3, y4⟩ := HL.out V' hV; go_simp <;> with_reducible rfl
  simp only [Act.put, lA, lZ, lS]
  refine kP 4 ?_ rfl ?_ (fun _ => HBd.out) ?_
  rotate_left
  · intro V'; go_simp <;> with_reducible rfl
  simp only [Act.put, lA, lZ, lS]
  refine kP 5 ?_ rfl ?_ (fun _ => HBd.out) ?_
  rotate_left
  · intro V'; go_simp <;> with_reducible rfl
  simp only [Act.put, lA, lZ, lS]
  refine kT 6 ?_ rfl ?_ HBd.out ?_
  rotate_left
  · intro V' hV; obtain ⟨y0, y1, y2, y3, y4⟩ := HL.out V' hV; go_simp <;> with_reducible rfl
  simp only [Act.put, lA, lZ, lS]
  refine kP 7 ?_ rfl ?_ (fun _ => HBd.out) ?_
  rotate_left
  · intro V'; go_simp <;> with_reducible rfl
  simp only [Act.put, lA, lZ, lS]
  refine kP 8 ?_ rfl ?_ (fun _ => HBd.out) ?_
  rotate_left
  · intro V'; go_simp <;> with_reducible rfl
  simp only [Act.put, lA, lZ, lS]
  refine kT 9 ?_ rfl ?_ HBd.out ?_
  rotate_left
  · intro V' hV; obtain ⟨y0, y1, y2, y3, y4⟩ := HL.out V' hV; go_simp <;> with_reducible rfl
  simp only [Act.put, lA, lZ, lS]
  refine oneT (i := 10) rfl (by kernel_rfl) (by rfl) (fun K hK => ?_)
  go_simp
  refine (made_any p a x0 x1 x2 i base g x w.drew (H.out.under HBd.out) hi hx hn hk).mono ?_
  rintro e wl ⟨rfl, hs, al, hal⟩
  have HS := Lib.hid ((Stp.of_below HBd.out (Nat.le_trans H.out.ge (Nat.le_of_lt H.out.lt))).trans hs)
  have HAL := Lib.hid hal
  clear hs hal
  refine hK.out _ _ (fun h => absurd h (by decide)) ?_
  clear hK K
  refine doneT (by kernel_rfl) ?_ _
  go_wp2_with fail
  go_end0
  exact ⟨rfl, HS.out, al, HAL.out⟩

set_option maxHeartbeats 2000000 in
theorem fPhase_false (p : Br) (a : Ad) (base g : Nat) (b3 : Nat) (b5 : Nat) (b2 : Nat) (rb ro c : Nat) (x0 x1 : Int)  (w : World) (h : BrIn base g w p a) (e_b3 : Whole w b3 56 #[.func (.func 79) #[] #[.pointer (some ⟨b2, 0, none⟩)]]) (e_b5 : Whole w b5 108 #[.func (.func 81) #[] #[.pointer (some ⟨b2, 0, none⟩)]]) (e_b2 : Whole w b2 65 #[.pointer (some ⟨g, 0, none⟩)]) (hrb : rb < w.heap.size) (hx0 : w.cell? ⟨rb, ro, none⟩ = some (.int .i64 x0)) (hx1 : w.cell? ⟨rb, ro + 1, none⟩ = some (.int .i64 x1)) (hk : p.kps.length ≤ 1000) (q0 : decide (0 ≤ findB p x0) = false) :
    Calls Tryz.prog 85 #[.slice (some ⟨rb, ro, none⟩) 3 c, .pointer (some ⟨b3, 0, none⟩), .pointer (some ⟨b5, 0, none⟩)] w (BoolPost false w) := by
  have H := Lib.hid h
  have HB0 : Hid (Below w.heap.size w w) := Lib.hid (Below.refl _ w)
  obtain ⟨F, hF⟩ : ∃ F, decide (0 ≤ findB p x0) = F := ⟨_, rfl⟩
  rw [hF] at q0
  subst q0
  have HF := Lib.hid hF
  clear hF
  have q_b3 := e_b3.cell 0
  simp only [List.getElem?_toArray, List.getElem?_cons_zero] at q_b3
  have q_b5 := e_b5.cell 0
  simp only [List.getElem?_toArray, List.getElem?_cons_zero] at q_b5
  have q_b2 := e_b2.cell 0
  simp only [List.getElem?_toArray, List.getElem?_cons_zero] at q_b2
  clear h
  go_enter Tryz.func85, Tryz.ntmps85
  go_wp2_with fail
  have Q_b3 := Lib.hid q_b3
  have L_b3 := Lib.hid e_b3.lt
  clear q_b3
  have Q_b5 := Lib.hid q_b5
  have L_b5 := Lib.hid e_b5.lt
  clear q_b5
  have Q_b2 := Lib.hid q_b2
  have L_b2 := Lib.hid e_b2.lt
  clear q_b2
  have R0 := Lib.hid hx0
  have R1 := Lib.hid hx1
  have Lrb := Lib.hid hrb
  have HL : Hid (∀ V', Below w.heap.size w V' → V'.cell? ⟨b3, 0, none⟩ = some (.func (.func 79) #[] #[.pointer (some ⟨b2, 0, none⟩)]) ∧ V'.cell? ⟨b5, 0, none⟩ = some (.func (.func 81) #[] #[.pointer (some ⟨b2, 0, none⟩)]) ∧ V'.cell? ⟨b2, 0, none⟩ = some (.pointer (some ⟨g, 0, none⟩)) ∧ V'.cell? ⟨rb, ro, none⟩ = some (.int .i64 x0) ∧ V'.cell? ⟨rb, ro + 1, none⟩ = some (.int .i64 x1) ∧ Whole V' g 30 (brC p a)) := Lib.hid (fun V' hb => ⟨(hb.cell (p := ⟨b3, 0, none⟩) L_b3.out).trans Q_b3.out, (hb.cell (p := ⟨b5, 0, none⟩) L_b5.out).trans Q_b5.out, (hb.cell (p := ⟨b2, 0, none⟩) L_b2.out).trans Q_b2.out, (hb.cell (p := ⟨rb, ro, none⟩) Lrb.out).trans R0.out, (hb.cell (p := ⟨rb, ro + 1, none⟩) Lrb.out).trans R1.out, H.out.box.under hb⟩)
  have HBd := Lib.hid (show Below w.heap.size w w.drew from below_drewB HB0.out 1)
  clear HB0
  refine wp_region_T (ls := []) (T := (fun V' => Below w.heap.size w V')) (by kernel_rfl) ?_
  refine kT 0 ?_ rfl ?_ HBd.out ?_
  rotate_left
  · intro V' hV; obtain ⟨y0, y1, y2, y3, y4, y5⟩ := HL.out V' hV; go_simp <;> with_reducible rfl
  simp only [Act.put, lA, lZ, lS]
  refine kP 1 ?_ rfl ?_ (fun _ => HBd.out) ?_
  rotate_left
  · intro V'; go_simp <;> with_reducible rfl
  simp only [Act.put, lA, lZ, lS]
  refine oneT (i := 2) rfl (by kernel_rfl) (by rfl) (fun K hK => ?_)
  go_simp
  refine (kept_any p a base g b2 rb ro c x0 3 (by omega) w.drew (H.out.under HBd.out) (e_b2.under HBd.out) (Nat.lt_of_lt_of_le Lrb.out HBd.out.size) ((HBd.out.cell (p := ⟨rb, ro, none⟩) Lrb.out).trans R0.out) hk).mono ?_
  rintro e w1 ⟨rfl, hb_⟩
  have HB1 := Lib.hid (show Below w.heap.size w w1 from HBd.out.trans (hb_.mono HBd.out.size))
  clear hb_ HBd
  rw [HF.out]
  refine hK.out _ _ (fun _ => HB1.out) ?_
  clear hK K
  refine kP 3 ?_ rfl ?_ (fun _ => HB1.out) ?_
  rotate_left
  · intro V'; go_simp <;> with_reducible rfl
  simp only [Act.put, lA, lZ, lS]
  refine kS 4 rfl (fun _ => HB1.out) ?_
  simp only [Act.put, lA, lZ, lS]
  refine kS 5 rfl (fun _ => HB1.out) ?_
  simp only [Act.put, lA, lZ, lS]
  refine kS 6 rfl (fun _ => HB1.out) ?_
  simp only [Act.put, lA, lZ, lS]
  refine kS 7 rfl (fun _ => HB1.out) ?_
  simp only [Act.put, lA, lZ, lS]
  refine kS 8 rfl (fun _ => HB1.out) ?_
  simp only [Act.put, lA, lZ, lS]
  refine kS 9 rfl (fun _ => HB1.out) ?_
  simp only [Act.put, lA, lZ, lS]
  refine kS 10 rfl (fun _ => HB1.out) ?_
  simp only [Act.put, lA, lZ, lS]
  refine kS 11 rfl (fun _ => HB1.out) ?_
  simp only [Act.put, lA, lZ, lS]
  refine kS 12 rfl (fun _ => HB1.out) ?_
  simp only [Act.put, lA, lZ, lS]
  refine kS 13 rfl (fun _ => HB1.out) ?_
  simp only [Act.put, lA, lZ, lS]
  refine kS 14 rfl (fun _ => HB1.out) ?_
  simp only [Act.put, lA, lZ, lS]
  refine kS 15 rfl (fun _ => HB1.out) ?_
  simp only [Act.put, lA, lZ, lS]
  refine kP 16 ?_ rfl ?_ (fun _ => HB1.out) ?_
  rotate_left
  · intro V'; go_simp <;> with_reducible rfl
  simp only [Act.put, lA, lZ, lS]
  refine oneT (i := 17) rfl (by kernel_rfl) (by rfl) (fun K hK => ?_)
  go_simp
  refine hK.out _ _ (fun _ => HB1.out) ?_
  clear hK K
  refine doneT (by kernel_rfl) ?_ _
  go_wp2_with fail
  go_ret
  exact ⟨rfl, HB1.out⟩

set_option maxHeartbeats 2000000 in
theorem fPhase_true (p : Br) (a : Ad) (base g : Nat) (b3 : Nat) (b5 : Nat) (b2 : Nat) (rb ro c : Nat) (x0 x1 : Int) (b i : Nat) (x : Kp)  (w : World) (h : BrIn base g w p a) (e_b3 : Whole w b3 56 #[.func (.func 79) #[] #[.pointer (some ⟨b2, 0, none⟩)]]) (e_b5 : Whole w b5 108 #[.func (.func 81) #[] #[.pointer (some ⟨b2, 0, none⟩)]]) (e_b2 : Whole w b2 65 #[.pointer (some ⟨g, 0, none⟩)]) (hrb : rb < w.heap.size) (hx0 : w.cell? ⟨rb, ro, none⟩ = some (.int .i64 x0)) (hx1 : w.cell? ⟨rb, ro + 1, none⟩ = some (.int .i64 x1)) (hk : p.kps.length ≤ 1000) (hi : p.kps.findIdx? (fun y => decide (y.id = x0)) = some i) (hx : p.kps[i]? = some x) (hB : a.B = some ⟨b, 0, none⟩) (hp : 0 ≤ x.phase) (hT : TabH w) :
    Calls Tryz.prog 85 #[.slice (some ⟨rb, ro, none⟩) 3 c, .pointer (some ⟨b3, 0, none⟩), .pointer (some ⟨b5, 0, none⟩)] w (BoolPost (chgB x.phase x1) w) := by
  have H := Lib.hid h
  have HB0 : Hid (Below w.heap.size w w) := Lib.hid (Below.refl _ w)
  have q0 : decide (0 ≤ findB p x0) = true := by rw [(findB_some hi).1]; simp
  obtain ⟨F, hF⟩ : ∃ F, decide (0 ≤ findB p x0) = F := ⟨_, rfl⟩
  rw [hF] at q0
  subst q0
  have HF := Lib.hid hF
  clear hF
  have HB4 := Lib.hid (h.cell hB (j := 4) (y := x) (u := .int .u8 x.phase) hx (by omega) rfl).1
  have Lb := Lib.hid (show b < w.heap.size from by
    have := (h.own.kps.lt b (by rw [hB]; rfl)).2; exact this)
  have HTT := Lib.hid hT
  have q_b3 := e_b3.cell 0
  simp only [List.getElem?_toArray, List.getElem?_cons_zero] at q_b3
  have q_b5 := e_b5.cell 0
  simp only [List.getElem?_toArray, List.getElem?_cons_zero] at q_b5
  have q_b2 := e_b2.cell 0
  simp only [List.getElem?_toArray, List.getElem?_cons_zero] at q_b2
  clear h hx hT
  go_enter Tryz.func85, Tryz.ntmps85
  go_wp2_with fail
  have Q_b3 := Lib.hid q_b3
  have L_b3 := Lib.hid e_b3.lt
  clear q_b3
  have Q_b5 := Lib.hid q_b5
  have L_b5 := Lib.hid e_b5.lt
  clear q_b5
  have Q_b2 := Lib.hid q_b2
  have L_b2 := Lib.hid e_b2.lt
  clear q_b2
  have R0 := Lib.hid hx0
  have R1 := Lib.hid hx1
  have Lrb := Lib.hid hrb
  have HL : Hid (∀ V', Below w.heap.size w V' → V'.cell? ⟨b3, 0, none⟩ = some (.func (.func 79) #[] #[.pointer (some ⟨b2, 0, none⟩)]) ∧ V'.cell? ⟨b5, 0, none⟩ = some (.func (.func 81) #[] #[.pointer (some ⟨b2, 0, none⟩)]) ∧ V'.cell? ⟨b2, 0, none⟩ = some (.pointer (some ⟨g, 0, none⟩)) ∧ V'.cell? ⟨rb, ro, none⟩ = some (.int .i64 x0) ∧ V'.cell? ⟨rb, ro + 1, none⟩ = some (.int .i64 x1) ∧ Whole V' g 30 (brC p a) ∧ V'.cell? ⟨b, i * 8 + 4, none⟩ = some (.int .u8 x.phase)) := Lib.hid (fun V' hb => ⟨(hb.cell (p := ⟨b3, 0, none⟩) L_b3.out).trans Q_b3.out, (hb.cell (p := ⟨b5, 0, none⟩) L_b5.out).trans Q_b5.out, (hb.cell (p := ⟨b2, 0, none⟩) L_b2.out).trans Q_b2.out, (hb.cell (p := ⟨rb, ro, none⟩) Lrb.out).trans R0.out, (hb.cell (p := ⟨rb, ro + 1, none⟩) Lrb.out).trans R1.out, H.out.box.under hb, by have := HB4.out; exact (hb.cell (p := ⟨b, i * 8 + 4, none⟩) Lb.out).trans this⟩)
  have HBd := Lib.hid (show Below w.heap.size w w.drew from below_drewB HB0.out 1)
  clear HB0
  refine wp_region_T (ls := []) (T := (fun V' => Below w.heap.size w V')) (by kernel_rfl) ?_
  refine kT 0 ?_ rfl ?_ HBd.out ?_
  rotate_left
  · intro V' hV; obtain ⟨y0, y1, y2, y3, y4, y5, y6⟩ := HL.out V' hV; go_simp <;> with_reducible rfl
  simp only [Act.put, lA, lZ, lS]
  refine kP 1 ?_ rfl ?_ (fun _ => HBd.out) ?_
  rotate_left
  · intro V'; go_simp <;> with_reducible rfl
  simp only [Act.put, lA, lZ, lS]
  refine oneT (i := 2) rfl (by kernel_rfl) (by rfl) (fun K hK => ?_)
  go_simp
  refine (kept_any p a base g b2 rb ro c x0 3 (by omega) w.drew (H.out.under HBd.out) (e_b2.under HBd.out) (Nat.lt_of_lt_of_le Lrb.out HBd.out.size) ((HBd.out.cell (p := ⟨rb, ro, none⟩) Lrb.out).trans R0.out) hk).mono ?_
  rintro e w1 ⟨rfl, hb_⟩
  have HB1 := Lib.hid (show Below w.heap.size w w1 from HBd.out.trans (hb_.mono HBd.out.size))
  clear hb_ HBd
  rw [HF.out]
  refine hK.out _ _ (fun _ => HB1.out) ?_
  clear hK K
  refine kP 3 ?_ rfl ?_ (fun _ => HB1.out) ?_
  rotate_left
  · intro V'; go_simp <;> with_reducible rfl
  simp only [Act.put, lA, lZ, lS]
  refine kT 4 ?_ rfl ?_ HB1.out ?_
  rotate_left
  · intro V' hV; obtain ⟨y0, y1, y2, y3, y4, y5, y6⟩ := HL.out V' hV; go_simp <;> with_reducible rfl
  simp only [Act.put, lA, lZ, lS]
  refine kP 5 ?_ rfl ?_ (fun _ => HB1.out) ?_
  rotate_left
  · intro V'; go_simp <;> with_reducible rfl
  simp only [Act.put, lA, lZ, lS]
  refine kP 6 ?_ rfl ?_ (fun _ => HB1.out) ?_
  rotate_left
  · intro V'; go_simp <;> with_reducible rfl
  simp only [Act.put, lA, lZ, lS]
  refine kT 7 ?_ rfl ?_ HB1.out ?_
  rotate_left
  · intro V' hV; obtain ⟨y0, y1, y2, y3, y4, y5, y6⟩ := HL.out V' hV; go_simp <;> with_reducible rfl
  simp only [Act.put, lA, lZ, lS]
  refine kP 12 ?_ rfl ?_ (fun _ => HB1.out) ?_
  rotate_left
  · intro V'; go_simp <;> with_reducible rfl
  simp only [Act.put, lA, lZ, lS]
  refine kP 13 ?_ rfl ?_ (fun _ => HB1.out) ?_
  rotate_left
  · intro V'; go_simp <;> with_reducible rfl
  simp only [Act.put, lA, lZ, lS]
  refine kT 14 ?_ rfl ?_ HB1.out ?_
  rotate_left
  · intro V' hV; obtain ⟨y0, y1, y2, y3, y4, y5, y6⟩ := HL.out V' hV; go_simp <;> with_reducible rfl
  simp only [Act.put, lA, lZ, lS]
  refine oneT (i := 8) rfl (by kernel_rfl) (by rfl) (fun K hK => ?_)
  go_simp
  refine (the_any p a base g b2 x0 b i w1 (H.out.under HB1.out) (e_b2.under HB1.out) hk hB hi).mono ?_
  rintro e w2 ⟨rfl, hb_⟩
  have HB2 := Lib.hid (show Below w.heap.size w w2 from HB1.out.trans (hb_.mono HB1.out.size))
  clear hb_ HB1
  refine hK.out _ _ (fun _ => HB2.out) ?_
  clear hK K
  refine kP 9 ?_ rfl ?_ (fun _ => HB2.out) ?_
  rotate_left
  · intro V'; go_simp <;> with_reducible rfl
  simp only [Act.put, lA, lZ, lS]
  refine kP 10 ?_ rfl ?_ (fun _ => HB2.out) ?_
  rotate_left
  · intro V'; go_simp <;> with_reducible rfl
  simp only [Act.put, lA, lZ, lS]
  refine kT 11 ?_ rfl ?_ HB2.out ?_
  rotate_left
  · intro V' hV; obtain ⟨y0, y1, y2, y3, y4, y5, y6⟩ := HL.out V' hV; go_simp <;> with_reducible rfl
  simp only [Act.put, lA, lZ, lS]
  refine oneT (i := 15) rfl (by kernel_rfl) (by rfl) (fun K hK => ?_)
  go_simp
  refine (changeable_any x.phase x1 hp w2 (HTT.out.under HB2.out)).mono ?_
  rintro e w3 ⟨rfl, hw_⟩
  have hb_ : Below w2.heap.size w2 w3 := by rw [hw_]; exact Below.refl _ _
  clear hw_
  have HB3 := Lib.hid (show Below w.heap.size w w3 from HB2.out.trans (hb_.mono HB2.out.size))
  clear hb_ HB2
  refine hK.out _ _ (fun _ => HB3.out) ?_
  clear hK K
  refine kP 16 ?_ rfl ?_ (fun _ => HB3.out) ?_
  rotate_left
  · intro V'; go_simp <;> with_reducible rfl
  simp only [Act.put, lA, lZ, lS]
  refine oneT (i := 17) rfl (by kernel_rfl) (by rfl) (fun K hK => ?_)
  go_simp
  refine hK.out _ _ (fun _ => HB3.out) ?_
  clear hK K
  refine doneT (by kernel_rfl) ?_ _
  go_wp2_with fail
  go_ret
  exact ⟨rfl, HB3.out⟩

set_option maxHeartbeats 2000000 in
theorem dPhase (p : Br) (a : Ad) (base g : Nat) (b5 : Nat) (b2 : Nat) (rb ro c : Nat) (x0 x1 x2 : Int) (b i : Nat) (x : Kp)  (w : World) (h : BrIn base g w p a) (e_b5 : Whole w b5 108 #[.func (.func 81) #[] #[.pointer (some ⟨b2, 0, none⟩)]]) (e_b2 : Whole w b2 65 #[.pointer (some ⟨g, 0, none⟩)]) (hrb : rb < w.heap.size) (hx0 : w.cell? ⟨rb, ro, none⟩ = some (.int .i64 x0)) (hx1 : w.cell? ⟨rb, ro + 1, none⟩ = some (.int .i64 x1)) (hx2 : w.cell? ⟨rb, ro + 2, none⟩ = some (.int .i64 x2)) (hk : p.kps.length ≤ 1000) (hi : p.kps.findIdx? (fun y => decide (y.id = x0)) = some i) (hx : p.kps[i]? = some x) (hB : a.B = some ⟨b, 0, none⟩) (hp1 : 0 ≤ x1) (hp2 : x1 ≤ 200) :
    Calls Tryz.prog 87 #[.slice (some ⟨rb, ro, none⟩) 3 c, .pointer (some ⟨b5, 0, none⟩)] w (StPost base g { p with kps := p.kps.set i { x with phase := x1, since := x2, done := false } } w) := by
  have H := Lib.hid h
  have HB0 : Hid (Below w.heap.size w w) := Lib.hid (Below.refl _ w)
  have hw8 : IntKind.u8.wrap x1 = x1 := by rw [IntKind.wrap_u8]; omega
  have q_b5 := e_b5.cell 0
  simp only [List.getElem?_toArray, List.getElem?_cons_zero] at q_b5
  have q_b2 := e_b2.cell 0
  simp only [List.getElem?_toArray, List.getElem?_cons_zero] at q_b2
  clear h
  go_enter Tryz.func87, Tryz.ntmps87
  have Q_b5 := Lib.hid q_b5
  have L_b5 := Lib.hid e_b5.lt
  clear q_b5
  have Q_b2 := Lib.hid q_b2
  have L_b2 := Lib.hid e_b2.lt
  clear q_b2
  have R0 := Lib.hid hx0
  have R1 := Lib.hid hx1
  have R2 := Lib.hid hx2
  have Lrb := Lib.hid hrb
  have HL : Hid (∀ V', Below w.heap.size w V' → V'.cell? ⟨b5, 0, none⟩ = some (.func (.func 81) #[] #[.pointer (some ⟨b2, 0, none⟩)]) ∧ V'.cell? ⟨b2, 0, none⟩ = some (.pointer (some ⟨g, 0, none⟩)) ∧ V'.cell? ⟨rb, ro, none⟩ = some (.int .i64 x0) ∧ V'.cell? ⟨rb, ro + 1, none⟩ = some (.int .i64 x1) ∧ V'.cell? ⟨rb, ro + 2, none⟩ = some (.int .i64 x2) ∧ Whole V' g 30 (brC p a)) := Lib.hid (fun V' hb => ⟨(hb.cell (p := ⟨b5, 0, none⟩) L_b5.out).trans Q_b5.out, (hb.cell (p := ⟨b2, 0, none⟩) L_b2.out).trans Q_b2.out, (hb.cell (p := ⟨rb, ro, none⟩) Lrb.out).trans R0.out, (hb.cell (p := ⟨rb, ro + 1, none⟩) Lrb.out).trans R1.out, (hb.cell (p := ⟨rb, ro + 2, none⟩) Lrb.out).trans R2.out, H.out.box.under hb⟩)
  have HBd := Lib.hid (show Below w.heap.size w w.drew from below_drewB HB0.out 1)
  clear HB0
  refine wp_region_T (ls := [12]) (T := (fun V' => Below w.heap.size w V')) (by kernel_rfl) ?_
  refine kT 0 ?_ rfl ?_ HBd.out ?_
  rotate_left
  · intro V' hV; obtain ⟨y0, y1, y2, y3, y4, y5⟩ := HL.out V' hV; go_simp <;> with_reducible rfl
  simp only [Act.put, lA, lZ, lS]
  refine kP 1 ?_ rfl ?_ (fun _ => HBd.out) ?_
  rotate_left
  · intro V'; go_simp <;> with_reducible rfl
  simp only [Act.put, lA, lZ, lS]
  refine kP 2 ?_ rfl ?_ (fun _ => HBd.out) ?_
  rotate_left
  · intro V'; go_simp <;> with_reducible rfl
  simp only [Act.put, lA, lZ, lS]
  refine kT 3 ?_ rfl ?_ HBd.out ?_
  rotate_left
  · intro V' hV; obtain ⟨y0, y1, y2, y3, y4, y5⟩ := HL.out V' hV; go_simp <;> with_reducible rfl
  simp only [Act.put, lA, lZ, lS]
  refine kP 5 ?_ rfl ?_ (fun _ => HBd.out) ?_
  rotate_left
  · intro V'; go_simp <;> with_reducible rfl
  simp only [Act.put, lA, lZ, lS]
  refine kP 6 ?_ rfl ?_ (fun _ => HBd.out) ?_
  rotate_left
  · intro V'; go_simp <;> with_reducible rfl
  simp only [Act.put, lA, lZ, lS]
  refine kT 7 ?_ rfl ?_ HBd.out ?_
  rotate_left
  · intro V' hV; obtain ⟨y0, y1, y2, y3, y4, y5⟩ := HL.out V' hV; go_simp <;> with_reducible rfl
  simp only [Act.put, lA, lZ, lS]
  refine kP 8 (.int .u8 x1) rfl ?_ (fun _ => HBd.out) ?_
  · intro V'; go_simp <;> with_reducible rfl
  simp only [Act.put, lA, lZ, lS]
  refine kP 9 ?_ rfl ?_ (fun _ => HBd.out) ?_
  rotate_left
  · intro V'; go_simp <;> with_reducible rfl
  simp only [Act.put, lA, lZ, lS]
  refine kP 10 ?_ rfl ?_ (fun _ => HBd.out) ?_
  rotate_left
  · intro V'; go_simp <;> with_reducible rfl
  simp only [Act.put, lA, lZ, lS]
  refine kT 11 ?_ rfl ?_ HBd.out ?_
  rotate_left
  · intro V' hV; obtain ⟨y0, y1, y2, y3, y4, y5⟩ := HL.out V' hV; go_simp <;> with_reducible rfl
  simp only [Act.put, lA, lZ, lS]
  refine oneT (i := 4) rfl (by kernel_rfl) (by rfl) (fun K hK => ?_)
  go_simp
  refine (the_any p a base g b2 x0 b i w.drew (H.out.under HBd.out) (e_b2.under HBd.out) hk hB hi).mono ?_
  rintro e w1 ⟨rfl, hb_⟩
  have HB1 := Lib.hid (show Below w.heap.size w w1 from HBd.out.trans (hb_.mono HBd.out.size))
  clear hb_ HBd
  refine hK.out _ _ (fun _ => HB1.out) ?_
  clear hK K
  refine oneT (i := 12) rfl (by kernel_rfl) (by rfl) (fun K hK => ?_)
  go_simp
  refine (change_any p a b i x x1 x2 base g w1 (H.out.under HB1.out) hB hx).mono ?_
  rintro e wl ⟨rfl, hs, al, hal⟩
  have HS := Lib.hid ((Stp.of_below HB1.out (Nat.le_trans H.out.ge (Nat.le_of_lt H.out.lt))).trans hs)
  have HAL := Lib.hid hal
  clear hs hal
  refine hK.out _ _ (fun h => absurd h (by decide)) ?_
  clear hK K
  refine doneT (by kernel_rfl) ?_ _
  go_wp2_with fail
  go_end0
  exact ⟨rfl, HS.out, al, HAL.out⟩

set_option maxHeartbeats 2000000 in
theorem dGone (p : Br) (a : Ad) (base g : Nat) (b2 : Nat) (rb ro c : Nat) (x0 : Int) (i : Nat)  (w : World) (h : BrIn base g w p a) (e_b2 : Whole w b2 65 #[.pointer (some ⟨g, 0, none⟩)]) (hrb : rb < w.heap.size) (hx0 : w.cell? ⟨rb, ro, none⟩ = some (.int .i64 x0)) (hi : p.kps.findIdx? (fun y => decide (y.id = x0)) = some i) (hk : p.kps.length ≤ 1000) :
    Calls Tryz.prog 89 #[.slice (some ⟨rb, ro, none⟩) 1 c, .pointer (some ⟨b2, 0, none⟩)] w (StPost base g { p with kps := dropK x0 p.kps } w) := by
  have H := Lib.hid h
  have HB0 : Hid (Below w.heap.size w w) := Lib.hid (Below.refl _ w)
  have q_b2 := e_b2.cell 0
  simp only [List.getElem?_toArray, List.getElem?_cons_zero] at q_b2
  clear h
  go_enter Tryz.func89, Tryz.ntmps89
  have Q_b2 := Lib.hid q_b2
  have L_b2 := Lib.hid e_b2.lt
  clear q_b2
  have R0 := Lib.hid hx0
  have Lrb := Lib.hid hrb
  have HL : Hid (∀ V', Below w.heap.size w V' → V'.cell? ⟨b2, 0, none⟩ = some (.pointer (some ⟨g, 0, none⟩)) ∧ V'.cell? ⟨rb, ro, none⟩ = some (.int .i64 x0) ∧ Whole V' g 30 (brC p a)) := Lib.hid (fun V' hb => ⟨(hb.cell (p := ⟨b2, 0, none⟩) L_b2.out).trans Q_b2.out, (hb.cell (p := ⟨rb, ro, none⟩) Lrb.out).trans R0.out, H.out.box.under hb⟩)
  have HBd := Lib.hid (show Below w.heap.size w w.drew from below_drewB HB0.out 1)
  clear HB0
  refine wp_region_T (ls := [4]) (T := (fun V' => Below w.heap.size w V')) (by kernel_rfl) ?_
  refine kT 0 ?_ rfl ?_ HBd.out ?_
  rotate_left
  · intro V' hV; obtain ⟨y0, y1, y2⟩ := HL.out V' hV; go_simp <;> with_reducible rfl
  simp only [Act.put, lA, lZ, lS]
  refine kP 1 ?_ rfl ?_ (fun _ => HBd.out) ?_
  rotate_left
  · intro V'; go_simp <;> with_reducible rfl
  simp only [Act.put, lA, lZ, lS]
  refine kP 2 ?_ rfl ?_ (fun _ => HBd.out) ?_
  rotate_left
  · intro V'; go_simp <;> with_reducible rfl
  simp only [Act.put, lA, lZ, lS]
  refine kT 3 ?_ rfl ?_ HBd.out ?_
  rotate_left
  · intro V' hV; obtain ⟨y0, y1, y2⟩ := HL.out V' hV; go_simp <;> with_reducible rfl
  simp only [Act.put, lA, lZ, lS]
  refine oneT (i := 4) rfl (by kernel_rfl) (by rfl) (fun K hK => ?_)
  go_simp
  refine (drop_any p a x0 i base g w.drew (H.out.under HBd.out) hi hk).mono ?_
  rintro e wl ⟨rfl, hs, al, hal⟩
  have HS := Lib.hid ((Stp.of_below HBd.out (Nat.le_trans H.out.ge (Nat.le_of_lt H.out.lt))).trans hs)
  have HAL := Lib.hid hal
  clear hs hal
  refine hK.out _ _ (fun h => absurd h (by decide)) ?_
  clear hK K
  refine doneT (by kernel_rfl) ?_ _
  go_wp2_with fail
  go_end0
  exact ⟨rfl, HS.out, al, HAL.out⟩

set_option maxHeartbeats 2000000 in
theorem fTake (p : Br) (a : Ad) (base g : Nat) (b4 : Nat) (b2 : Nat) (rb ro c : Nat) (x0 : Int)  (w : World) (h : BrIn base g w p a) (e_b4 : Whole w b4 78 #[.func (.func 80) #[] #[.pointer (some ⟨b2, 0, none⟩)]]) (e_b2 : Whole w b2 65 #[.pointer (some ⟨g, 0, none⟩)]) (hrb : rb < w.heap.size) (hx0 : w.cell? ⟨rb, ro, none⟩ = some (.int .i64 x0)) (hk : p.kps.length ≤ 1000) :
    Calls Tryz.prog 91 #[.slice (some ⟨rb, ro, none⟩) 5 c, .pointer (some ⟨b4, 0, none⟩)] w (BoolPost (decide (1 ≤ x0) && decide (findB p x0 < 0)) w) := by
  have H := Lib.hid h
  have HB0 : Hid (Below w.heap.size w w) := Lib.hid (Below.refl _ w)
  have q_b4 := e_b4.cell 0
  simp only [List.getElem?_toArray, List.getElem?_cons_zero] at q_b4
  have q_b2 := e_b2.cell 0
  simp only [List.getElem?_toArray, List.getElem?_cons_zero] at q_b2
  clear h
  go_enter Tryz.func91, Tryz.ntmps91
  go_wp2_with fail
  have Q_b4 := Lib.hid q_b4
  have L_b4 := Lib.hid e_b4.lt
  clear q_b4
  have Q_b2 := Lib.hid q_b2
  have L_b2 := Lib.hid e_b2.lt
  clear q_b2
  have R0 := Lib.hid hx0
  have Lrb := Lib.hid hrb
  have HL : Hid (∀ V', Below w.heap.size w V' → V'.cell? ⟨b4, 0, none⟩ = some (.func (.func 80) #[] #[.pointer (some ⟨b2, 0, none⟩)]) ∧ V'.cell? ⟨b2, 0, none⟩ = some (.pointer (some ⟨g, 0, none⟩)) ∧ V'.cell? ⟨rb, ro, none⟩ = some (.int .i64 x0) ∧ Whole V' g 30 (brC p a)) := Lib.hid (fun V' hb => ⟨(hb.cell (p := ⟨b4, 0, none⟩) L_b4.out).trans Q_b4.out, (hb.cell (p := ⟨b2, 0, none⟩) L_b2.out).trans Q_b2.out, (hb.cell (p := ⟨rb, ro, none⟩) Lrb.out).trans R0.out, H.out.box.under hb⟩)
  have HBd := Lib.hid (show Below w.heap.size w w.drew from below_drewB HB0.out 1)
  clear HB0
  refine wp_region_T (ls := []) (T := (fun V' => Below w.heap.size w V')) (by kernel_rfl) ?_
  refine kT 0 ?_ rfl ?_ HBd.out ?_
  rotate_left
  · intro V' hV; obtain ⟨y0, y1, y2, y3⟩ := HL.out V' hV; go_simp <;> with_reducible rfl
  simp only [Act.put, lA, lZ, lS]
  refine kP 1 ?_ rfl ?_ (fun _ => HBd.out) ?_
  rotate_left
  · intro V'; go_simp <;> with_reducible rfl
  simp only [Act.put, lA, lZ, lS]
  refine kP 2 ?_ rfl ?_ (fun _ => HBd.out) ?_
  rotate_left
  · intro V'; go_simp <;> with_reducible rfl
  simp only [Act.put, lA, lZ, lS]
  refine kT 3 ?_ rfl ?_ HBd.out ?_
  rotate_left
  · intro V' hV; obtain ⟨y0, y1, y2, y3⟩ := HL.out V' hV; go_simp <;> with_reducible rfl
  simp only [Act.put, lA, lZ, lS]
  refine oneT (i := 4) rfl (by kernel_rfl) (by rfl) (fun K hK => ?_)
  go_simp
  refine (unkept_any p a base g b2 x0 w.drew (H.out.under HBd.out) (e_b2.under HBd.out) hk).mono ?_
  rintro e w1 ⟨rfl, hb_⟩
  have HB1 := Lib.hid (show Below w.heap.size w w1 from HBd.out.trans (hb_.mono HBd.out.size))
  clear hb_ HBd
  refine hK.out _ _ (fun _ => HB1.out) ?_
  clear hK K
  refine oneT (i := 5) rfl (by kernel_rfl) (by rfl) (fun K hK => ?_)
  go_simp
  refine hK.out _ _ (fun _ => HB1.out) ?_
  clear hK K
  refine doneT (by kernel_rfl) ?_ _
  go_wp2_with fail
  go_ret
  exact ⟨rfl, HB1.out⟩

set_option maxHeartbeats 2000000 in
theorem dTake (p : Br) (a : Ad) (base g : Nat) (b2 : Nat) (rb ro c : Nat) (x0 x1 x2 x3 x4 : Int)  (w : World) (h : BrIn base g w p a) (e_b2 : Whole w b2 65 #[.pointer (some ⟨g, 0, none⟩)]) (hrb : rb < w.heap.size) (hx0 : w.cell? ⟨rb, ro, none⟩ = some (.int .i64 x0)) (hx1 : w.cell? ⟨rb, ro + 1, none⟩ = some (.int .i64 x1)) (hx2 : w.cell? ⟨rb, ro + 2, none⟩ = some (.int .i64 x2)) (hx3 : w.cell? ⟨rb, ro + 3, none⟩ = some (.int .i64 x3)) (hx4 : w.cell? ⟨rb, ro + 4, none⟩ = some (.int .i64 x4)) (hk : p.kps.length ≤ 900) :
    Calls Tryz.prog 92 #[.slice (some ⟨rb, ro, none⟩) 5 c, .pointer (some ⟨b2, 0, none⟩)] w (StPost base g { p with kps := putK p.kps ⟨x0, x1, x2, x3, 8, x4, false, false⟩ } w) := by
  have H := Lib.hid h
  have HB0 : Hid (Below w.heap.size w w) := Lib.hid (Below.refl _ w)
  have q_b2 := e_b2.cell 0
  simp only [List.getElem?_toArray, List.getElem?_cons_zero] at q_b2
  clear h
  go_enter Tryz.func92, Tryz.ntmps92
  have Q_b2 := Lib.hid q_b2
  have L_b2 := Lib.hid e_b2.lt
  clear q_b2
  have R0 := Lib.hid hx0
  have R1 := Lib.hid hx1
  have R2 := Lib.hid hx2
  have R3 := Lib.hid hx3
  have R4 := Lib.hid hx4
  have Lrb := Lib.hid hrb
  have HL : Hid (∀ V', Below w.heap.size w V' → V'.cell? ⟨b2, 0, none⟩ = some (.pointer (some ⟨g, 0, none⟩)) ∧ V'.cell? ⟨rb, ro, none⟩ = some (.int .i64 x0) ∧ V'.cell? ⟨rb, ro + 1, none⟩ = some (.int .i64 x1) ∧ V'.cell? ⟨rb, ro + 2, none⟩ = some (.int .i64 x2) ∧ V'.cell? ⟨rb, ro + 3, none⟩ = some (.int .i64 x3) ∧ V'.cell? ⟨rb, ro + 4, none⟩ = some (.int .i64 x4) ∧ Whole V' g 30 (brC p a)) := Lib.hid (fun V' hb => ⟨(hb.cell (p := ⟨b2, 0, none⟩) L_b2.out).trans Q_b2.out, (hb.cell (p := ⟨rb, ro, none⟩) Lrb.out).trans R0.out, (hb.cell (p := ⟨rb, ro + 1, none⟩) Lrb.out).trans R1.out, (hb.cell (p := ⟨rb, ro + 2, none⟩) Lrb.out).trans R2.out, (hb.cell (p := ⟨rb, ro + 3, none⟩) Lrb.out).trans R3.out, (hb.cell (p := ⟨rb, ro + 4, none⟩) Lrb.out).trans R4.out, H.out.box.under hb⟩)
  have HBd := Lib.hid (show Below w.heap.size w w.drew from below_drewB HB0.out 1)
  clear HB0
  refine wp_region_T (ls := [17]) (T := (fun V' => Below w.heap.size w V')) (by kernel_rfl) ?_
  refine kT 0 ?_ rfl ?_ HBd.out ?_
  rotate_left
  · intro V' hV; obtain ⟨y0, y1, y2, y3, y4, y5, y6⟩ := HL.out V' hV; go_simp <;> with_reducible rfl
  simp only [Act.put, lA, lZ, lS]
  refine kP 1 ?_ rfl ?_ (fun _ => HBd.out) ?_
  rotate_left
  · intro V'; go_simp <;> with_reducible rfl
  simp only [Act.put, lA, lZ, lS]
  refine kP 2 ?_ rfl ?_ (fun _ => HBd.out) ?_
  rotate_left
  · intro V'; go_simp <;> with_reducible rfl
  simp only [Act.put, lA, lZ, lS]
  refine kT 3 ?_ rfl ?_ HBd.out ?_
  rotate_left
  · intro V' hV; obtain ⟨y0, y1, y2, y3, y4, y5, y6⟩ := HL.out V' hV; go_simp <;> with_reducible rfl
  simp only [Act.put, lA, lZ, lS]
  refine kP 4 ?_ rfl ?_ (fun _ => HBd.out) ?_
  rotate_left
  · intro V'; go_simp <;> with_reducible rfl
  simp only [Act.put, lA, lZ, lS]
  refine kP 5 ?_ rfl ?_ (fun _ => HBd.out) ?_
  rotate_left
  · intro V'; go_simp <;> with_reducible rfl
  simp only [Act.put, lA, lZ, lS]
  refine kT 6 ?_ rfl ?_ HBd.out ?_
  rotate_left
  · intro V' hV; obtain ⟨y0, y1, y2, y3, y4, y5, y6⟩ := HL.out V' hV; go_simp <;> with_reducible rfl
  simp only [Act.put, lA, lZ, lS]
  refine kP 7 ?_ rfl ?_ (fun _ => HBd.out) ?_
  rotate_left
  · intro V'; go_simp <;> with_reducible rfl
  simp only [Act.put, lA, lZ, lS]
  refine kP 8 ?_ rfl ?_ (fun _ => HBd.out) ?_
  rotate_left
  · intro V'; go_simp <;> with_reducible rfl
  simp only [Act.put, lA, lZ, lS]
  refine kT 9 ?_ rfl ?_ HBd.out ?_
  rotate_left
  · intro V' hV; obtain ⟨y0, y1, y2, y3, y4, y5, y6⟩ := HL.out V' hV; go_simp <;> with_reducible rfl
  simp only [Act.put, lA, lZ, lS]
  refine kP 10 ?_ rfl ?_ (fun _ => HBd.out) ?_
  rotate_left
  · intro V'; go_simp <;> with_reducible rfl
  simp only [Act.put, lA, lZ, lS]
  refine kP 11 ?_ rfl ?_ (fun _ => HBd.out) ?_
  rotate_left
  · intro V'; go_simp <;> with_reducible rfl
  simp only [Act.put, lA, lZ, lS]
  refine kT 12 ?_ rfl ?_ HBd.out ?_
  rotate_left
  · intro V' hV; obtain ⟨y0, y1, y2, y3, y4, y5, y6⟩ := HL.out V' hV; go_simp <;> with_reducible rfl
  simp only [Act.put, lA, lZ, lS]
  refine kP 13 ?_ rfl ?_ (fun _ => HBd.out) ?_
  rotate_left
  · intro V'; go_simp <;> with_reducible rfl
  simp only [Act.put, lA, lZ, lS]
  refine kP 14 ?_ rfl ?_ (fun _ => HBd.out) ?_
  rotate_left
  · intro V'; go_simp <;> with_reducible rfl
  simp only [Act.put, lA, lZ, lS]
  refine kT 15 ?_ rfl ?_ HBd.out ?_
  rotate_left
  · intro V' hV; obtain ⟨y0, y1, y2, y3, y4, y5, y6⟩ := HL.out V' hV; go_simp <;> with_reducible rfl
  simp only [Act.put, lA, lZ, lS]
  refine kP 16 ?_ rfl ?_ (fun _ => HBd.out) ?_
  rotate_left
  · intro V'; go_simp <;> with_reducible rfl
  simp only [Act.put, lA, lZ, lS]
  refine oneT (i := 17) rfl (by kernel_rfl) (by rfl) (fun K hK => ?_)
  go_simp
  refine (keepP_any p a ⟨x0, x1, x2, x3, 8, x4, false, false⟩ base g w.drew (H.out.under HBd.out) hk).mono ?_
  rintro e wl ⟨rfl, hs, al, hal⟩
  have HS := Lib.hid ((Stp.of_below HBd.out (Nat.le_trans H.out.ge (Nat.le_of_lt H.out.lt))).trans hs)
  have HAL := Lib.hid hal
  clear hs hal
  refine hK.out _ _ (fun h => absurd h (by decide)) ?_
  clear hK K
  refine doneT (by kernel_rfl) ?_ _
  go_wp2_with fail
  go_end0
  exact ⟨rfl, HS.out, al, HAL.out⟩

set_option maxHeartbeats 2000000 in
theorem fGuard_false (p : Br) (a : Ad) (base g : Nat) (b3 : Nat) (b2 : Nat) (rb ro c : Nat) (x0 x1 : Int)  (w : World) (h : BrIn base g w p a) (e_b3 : Whole w b3 56 #[.func (.func 79) #[] #[.pointer (some ⟨b2, 0, none⟩)]]) (e_b2 : Whole w b2 65 #[.pointer (some ⟨g, 0, none⟩)]) (hrb : rb < w.heap.size) (hx0 : w.cell? ⟨rb, ro, none⟩ = some (.int .i64 x0)) (hx1 : w.cell? ⟨rb, ro + 1, none⟩ = some (.int .i64 x1)) (hk : p.kps.length ≤ 1000) (q0 : decide (0 ≤ findB p x0) = false) :
    Calls Tryz.prog 94 #[.slice (some ⟨rb, ro, none⟩) 2 c, .pointer (some ⟨b3, 0, none⟩)] w (BoolPost false w) := by
  have H := Lib.hid h
  have HB0 : Hid (Below w.heap.size w w) := Lib.hid (Below.refl _ w)
  have HC := Lib.hid (kept_any p a base g b2 rb ro c x0 2 (by omega) w h e_b2 hrb hx0 hk)
  rw [q0] at HC
  have R1 := Lib.hid hx1
  have Lrb := Lib.hid hrb
  have q_b3 := e_b3.cell 0
  simp only [List.getElem?_toArray, List.getElem?_cons_zero] at q_b3
  have q_b2 := e_b2.cell 0
  simp only [List.getElem?_toArray, List.getElem?_cons_zero] at q_b2
  clear h q0 hx0 hx1
  go_enter Tryz.func94, Tryz.ntmps94
  go_wp2_with fail
  refine HC.out.mono ?_
  rintro e w1 ⟨rfl, hb_⟩
  have HB1 := Lib.hid hb_
  clear hb_ HC
  go_wp2_with fail
  go_ret
  exact ⟨rfl, HB1.out⟩

set_option maxHeartbeats 2000000 in
theorem fGuard_true (p : Br) (a : Ad) (base g : Nat) (b3 : Nat) (b2 : Nat) (rb ro c : Nat) (x0 x1 : Int)  (w : World) (h : BrIn base g w p a) (e_b3 : Whole w b3 56 #[.func (.func 79) #[] #[.pointer (some ⟨b2, 0, none⟩)]]) (e_b2 : Whole w b2 65 #[.pointer (some ⟨g, 0, none⟩)]) (hrb : rb < w.heap.size) (hx0 : w.cell? ⟨rb, ro, none⟩ = some (.int .i64 x0)) (hx1 : w.cell? ⟨rb, ro + 1, none⟩ = some (.int .i64 x1)) (hk : p.kps.length ≤ 1000) (q0 : decide (0 ≤ findB p x0) = true) :
    Calls Tryz.prog 94 #[.slice (some ⟨rb, ro, none⟩) 2 c, .pointer (some ⟨b3, 0, none⟩)] w (BoolPost (decide (x1 < 2)) w) := by
  have H := Lib.hid h
  have HB0 : Hid (Below w.heap.size w w) := Lib.hid (Below.refl _ w)
  have HC := Lib.hid (kept_any p a base g b2 rb ro c x0 2 (by omega) w h e_b2 hrb hx0 hk)
  rw [q0] at HC
  have R1 := Lib.hid hx1
  have Lrb := Lib.hid hrb
  have q_b3 := e_b3.cell 0
  simp only [List.getElem?_toArray, List.getElem?_cons_zero] at q_b3
  have q_b2 := e_b2.cell 0
  simp only [List.getElem?_toArray, List.getElem?_cons_zero] at q_b2
  clear h q0 hx0 hx1
  go_enter Tryz.func94, Tryz.ntmps94
  go_wp2_with fail
  refine HC.out.mono ?_
  rintro e w1 ⟨rfl, hb_⟩
  have hx1 := (hb_.cell (p := ⟨rb, ro + 1, none⟩) Lrb.out).trans R1.out
  have HB1 := Lib.hid hb_
  clear hb_ HC
  go_wp2_with fail
  go_ret
  exact ⟨rfl, HB1.out⟩

set_option maxHeartbeats 2000000 in
theorem dGuard (p : Br) (a : Ad) (base g : Nat) (b5 : Nat) (b2 : Nat) (rb ro c : Nat) (x0 x1 : Int) (b i : Nat) (x : Kp)  (w : World) (h : BrIn base g w p a) (e_b5 : Whole w b5 108 #[.func (.func 81) #[] #[.pointer (some ⟨b2, 0, none⟩)]]) (e_b2 : Whole w b2 65 #[.pointer (some ⟨g, 0, none⟩)]) (hrb : rb < w.heap.size) (hx0 : w.cell? ⟨rb, ro, none⟩ = some (.int .i64 x0)) (hx1 : w.cell? ⟨rb, ro + 1, none⟩ = some (.int .i64 x1)) (hk : p.kps.length ≤ 1000) (hi : p.kps.findIdx? (fun y => decide (y.id = x0)) = some i) (hx : p.kps[i]? = some x) (hB : a.B = some ⟨b, 0, none⟩) :
    Calls Tryz.prog 95 #[.slice (some ⟨rb, ro, none⟩) 2 c, .pointer (some ⟨b5, 0, none⟩)] w (StPost base g { p with kps := p.kps.set i { x with guard := (x1 == 1) } } w) := by
  have H := Lib.hid h
  have HB0 : Hid (Below w.heap.size w w) := Lib.hid (Below.refl _ w)
  have q_b5 := e_b5.cell 0
  simp only [List.getElem?_toArray, List.getElem?_cons_zero] at q_b5
  have q_b2 := e_b2.cell 0
  simp only [List.getElem?_toArray, List.getElem?_cons_zero] at q_b2
  clear h
  go_enter Tryz.func95, Tryz.ntmps95
  have Q_b5 := Lib.hid q_b5
  have L_b5 := Lib.hid e_b5.lt
  clear q_b5
  have Q_b2 := Lib.hid q_b2
  have L_b2 := Lib.hid e_b2.lt
  clear q_b2
  have R0 := Lib.hid hx0
  have R1 := Lib.hid hx1
  have Lrb := Lib.hid hrb
  have HL : Hid (∀ V', Below w.heap.size w V' → V'.cell? ⟨b5, 0, none⟩ = some (.func (.func 81) #[] #[.pointer (some ⟨b2, 0, none⟩)]) ∧ V'.cell? ⟨b2, 0, none⟩ = some (.pointer (some ⟨g, 0, none⟩)) ∧ V'.cell? ⟨rb, ro, none⟩ = some (.int .i64 x0) ∧ V'.cell? ⟨rb, ro + 1, none⟩ = some (.int .i64 x1) ∧ Whole V' g 30 (brC p a)) := Lib.hid (fun V' hb => ⟨(hb.cell (p := ⟨b5, 0, none⟩) L_b5.out).trans Q_b5.out, (hb.cell (p := ⟨b2, 0, none⟩) L_b2.out).trans Q_b2.out, (hb.cell (p := ⟨rb, ro, none⟩) Lrb.out).trans R0.out, (hb.cell (p := ⟨rb, ro + 1, none⟩) Lrb.out).trans R1.out, H.out.box.under hb⟩)
  have HBd := Lib.hid (show Below w.heap.size w w.drew from below_drewB HB0.out 1)
  clear HB0
  refine wp_region_T (ls := [11]) (T := (fun V' => Below w.heap.size w V')) (by kernel_rfl) ?_
  refine kT 0 ?_ rfl ?_ HBd.out ?_
  rotate_left
  · intro V' hV; obtain ⟨y0, y1, y2, y3, y4⟩ := HL.out V' hV; go_simp <;> with_reducible rfl
  simp only [Act.put, lA, lZ, lS]
  refine kP 1 ?_ rfl ?_ (fun _ => HBd.out) ?_
  rotate_left
  · intro V'; go_simp <;> with_reducible rfl
  simp only [Act.put, lA, lZ, lS]
  refine kP 2 ?_ rfl ?_ (fun _ => HBd.out) ?_
  rotate_left
  · intro V'; go_simp <;> with_reducible rfl
  simp only [Act.put, lA, lZ, lS]
  refine kT 3 ?_ rfl ?_ HBd.out ?_
  rotate_left
  · intro V' hV; obtain ⟨y0, y1, y2, y3, y4⟩ := HL.out V' hV; go_simp <;> with_reducible rfl
  simp only [Act.put, lA, lZ, lS]
  refine kP 5 ?_ rfl ?_ (fun _ => HBd.out) ?_
  rotate_left
  · intro V'; go_simp <;> with_reducible rfl
  simp only [Act.put, lA, lZ, lS]
  refine kP 6 ?_ rfl ?_ (fun _ => HBd.out) ?_
  rotate_left
  · intro V'; go_simp <;> with_reducible rfl
  simp only [Act.put, lA, lZ, lS]
  refine kT 7 ?_ rfl ?_ HBd.out ?_
  rotate_left
  · intro V' hV; obtain ⟨y0, y1, y2, y3, y4⟩ := HL.out V' hV; go_simp <;> with_reducible rfl
  simp only [Act.put, lA, lZ, lS]
  refine kP 8 ?_ rfl ?_ (fun _ => HBd.out) ?_
  rotate_left
  · intro V'; go_simp <;> with_reducible rfl
  simp only [Act.put, lA, lZ, lS]
  refine oneT (i := 4) rfl (by kernel_rfl) (by rfl) (fun K hK => ?_)
  go_simp
  refine (the_any p a base g b2 x0 b i w.drew (H.out.under HBd.out) (e_b2.under HBd.out) hk hB hi).mono ?_
  rintro e w1 ⟨rfl, hb_⟩
  have HB1 := Lib.hid (show Below w.heap.size w w1 from HBd.out.trans (hb_.mono HBd.out.size))
  clear hb_ HBd
  refine hK.out _ _ (fun _ => HB1.out) ?_
  clear hK K
  refine oneT (i := 9) rfl (by kernel_rfl) (by rfl) (fun K hK => ?_)
  go_simp
  refine hK.out _ _ (fun _ => HB1.out) ?_
  clear hK K
  refine oneT (i := 10) rfl (by kernel_rfl) (by rfl) (fun K hK => ?_)
  go_simp
  refine hK.out _ _ (fun _ => HB1.out) ?_
  clear hK K
  obtain ⟨z, zf, hz, hs⟩ := (H.out.under HB1.out).cell hB (j := 6) (y := { x with guard := (x1 == 1) }) (u := .bool (x1 == 1)) hx (by omega) rfl
  simp only [Kp.vs, List.getElem?_cons_succ, List.getElem?_cons_zero] at z
  have HZ := Lib.hid hz
  have HS := Lib.hid ((Stp.of_below HB1.out (Nat.le_trans H.out.ge (Nat.le_of_lt H.out.lt))).trans hs)
  clear hz hs
  refine oneL (i := 11) (by kernel_rfl) rfl (by kernel_rfl) (by rfl) (fun K hK => ?_)
  go_simp
  refine hK.out _ _ ?_
  clear hK K
  refine doneT (by kernel_rfl) ?_ _
  go_wp2_with fail
  go_end0
  exact ⟨rfl, HS.out, a, HZ.out⟩

set_option maxHeartbeats 2000000 in
theorem fDone_false (p : Br) (a : Ad) (base g : Nat) (b3 : Nat) (b5 : Nat) (b2 : Nat) (rb ro c : Nat) (x0 : Int)  (w : World) (h : BrIn base g w p a) (e_b3 : Whole w b3 56 #[.func (.func 79) #[] #[.pointer (some ⟨b2, 0, none⟩)]]) (e_b5 : Whole w b5 108 #[.func (.func 81) #[] #[.pointer (some ⟨b2, 0, none⟩)]]) (e_b2 : Whole w b2 65 #[.pointer (some ⟨g, 0, none⟩)]) (hrb : rb < w.heap.size) (hx0 : w.cell? ⟨rb, ro, none⟩ = some (.int .i64 x0)) (hk : p.kps.length ≤ 1000) (q0 : decide (0 ≤ findB p x0) = false) :
    Calls Tryz.prog 96 #[.slice (some ⟨rb, ro, none⟩) 1 c, .pointer (some ⟨b3, 0, none⟩), .pointer (some ⟨b5, 0, none⟩)] w (BoolPost false w) := by
  have H := Lib.hid h
  have HB0 : Hid (Below w.heap.size w w) := Lib.hid (Below.refl _ w)
  obtain ⟨F, hF⟩ : ∃ F, decide (0 ≤ findB p x0) = F := ⟨_, rfl⟩
  rw [hF] at q0
  subst q0
  have HF := Lib.hid hF
  clear hF
  have q_b3 := e_b3.cell 0
  simp only [List.getElem?_toArray, List.getElem?_cons_zero] at q_b3
  have q_b5 := e_b5.cell 0
  simp only [List.getElem?_toArray, List.getElem?_cons_zero] at q_b5
  have q_b2 := e_b2.cell 0
  simp only [List.getElem?_toArray, List.getElem?_cons_zero] at q_b2
  clear h
  go_enter Tryz.func96, Tryz.ntmps96
  go_wp2_with fail
  have Q_b3 := Lib.hid q_b3
  have L_b3 := Lib.hid e_b3.lt
  clear q_b3
  have Q_b5 := Lib.hid q_b5
  have L_b5 := Lib.hid e_b5.lt
  clear q_b5
  have Q_b2 := Lib.hid q_b2
  have L_b2 := Lib.hid e_b2.lt
  clear q_b2
  have R0 := Lib.hid hx0
  have Lrb := Lib.hid hrb
  have HL : Hid (∀ V', Below w.heap.size w V' → V'.cell? ⟨b3, 0, none⟩ = some (.func (.func 79) #[] #[.pointer (some ⟨b2, 0, none⟩)]) ∧ V'.cell? ⟨b5, 0, none⟩ = some (.func (.func 81) #[] #[.pointer (some ⟨b2, 0, none⟩)]) ∧ V'.cell? ⟨b2, 0, none⟩ = some (.pointer (some ⟨g, 0, none⟩)) ∧ V'.cell? ⟨rb, ro, none⟩ = some (.int .i64 x0) ∧ Whole V' g 30 (brC p a)) := Lib.hid (fun V' hb => ⟨(hb.cell (p := ⟨b3, 0, none⟩) L_b3.out).trans Q_b3.out, (hb.cell (p := ⟨b5, 0, none⟩) L_b5.out).trans Q_b5.out, (hb.cell (p := ⟨b2, 0, none⟩) L_b2.out).trans Q_b2.out, (hb.cell (p := ⟨rb, ro, none⟩) Lrb.out).trans R0.out, H.out.box.under hb⟩)
  have HBd := Lib.hid (show Below w.heap.size w w.drew from below_drewB HB0.out 1)
  clear HB0
  refine wp_region_T (ls := []) (T := (fun V' => Below w.heap.size w V')) (by kernel_rfl) ?_
  refine kT 0 ?_ rfl ?_ HBd.out ?_
  rotate_left
  · intro V' hV; obtain ⟨y0, y1, y2, y3, y4⟩ := HL.out V' hV; go_simp <;> with_reducible rfl
  simp only [Act.put, lA, lZ, lS]
  refine kP 1 ?_ rfl ?_ (fun _ => HBd.out) ?_
  rotate_left
  · intro V'; go_simp <;> with_reducible rfl
  simp only [Act.put, lA, lZ, lS]
  refine oneT (i := 2) rfl (by kernel_rfl) (by rfl) (fun K hK => ?_)
  go_simp
  refine (kept_any p a base g b2 rb ro c x0 1 (by omega) w.drew (H.out.under HBd.out) (e_b2.under HBd.out) (Nat.lt_of_lt_of_le Lrb.out HBd.out.size) ((HBd.out.cell (p := ⟨rb, ro, none⟩) Lrb.out).trans R0.out) hk).mono ?_
  rintro e w1 ⟨rfl, hb_⟩
  have HB1 := Lib.hid (show Below w.heap.size w w1 from HBd.out.trans (hb_.mono HBd.out.size))
  clear hb_ HBd
  rw [HF.out]
  refine hK.out _ _ (fun _ => HB1.out) ?_
  clear hK K
  refine kP 3 ?_ rfl ?_ (fun _ => HB1.out) ?_
  rotate_left
  · intro V'; go_simp <;> with_reducible rfl
  simp only [Act.put, lA, lZ, lS]
  refine kS 4 rfl (fun _ => HB1.out) ?_
  simp only [Act.put, lA, lZ, lS]
  refine kS 5 rfl (fun _ => HB1.out) ?_
  simp only [Act.put, lA, lZ, lS]
  refine kS 6 rfl (fun _ => HB1.out) ?_
  simp only [Act.put, lA, lZ, lS]
  refine kS 7 rfl (fun _ => HB1.out) ?_
  simp only [Act.put, lA, lZ, lS]
  refine kS 8 rfl (fun _ => HB1.out) ?_
  simp only [Act.put, lA, lZ, lS]
  refine kS 9 rfl (fun _ => HB1.out) ?_
  simp only [Act.put, lA, lZ, lS]
  refine kS 10 rfl (fun _ => HB1.out) ?_
  simp only [Act.put, lA, lZ, lS]
  refine kS 11 rfl (fun _ => HB1.out) ?_
  simp only [Act.put, lA, lZ, lS]
  refine kS 12 rfl (fun _ => HB1.out) ?_
  simp only [Act.put, lA, lZ, lS]
  refine kP 13 ?_ rfl ?_ (fun _ => HB1.out) ?_
  rotate_left
  · intro V'; go_simp <;> with_reducible rfl
  simp only [Act.put, lA, lZ, lS]
  refine oneT (i := 14) rfl (by kernel_rfl) (by rfl) (fun K hK => ?_)
  go_simp
  refine hK.out _ _ (fun _ => HB1.out) ?_
  clear hK K
  refine doneT (by kernel_rfl) ?_ _
  go_wp2_with fail
  go_ret
  exact ⟨rfl, HB1.out⟩

set_option maxHeartbeats 2000000 in
theorem fDone_true (p : Br) (a : Ad) (base g : Nat) (b3 : Nat) (b5 : Nat) (b2 : Nat) (rb ro c : Nat) (x0 : Int) (b i : Nat) (x : Kp)  (w : World) (h : BrIn base g w p a) (e_b3 : Whole w b3 56 #[.func (.func 79) #[] #[.pointer (some ⟨b2, 0, none⟩)]]) (e_b5 : Whole w b5 108 #[.func (.func 81) #[] #[.pointer (some ⟨b2, 0, none⟩)]]) (e_b2 : Whole w b2 65 #[.pointer (some ⟨g, 0, none⟩)]) (hrb : rb < w.heap.size) (hx0 : w.cell? ⟨rb, ro, none⟩ = some (.int .i64 x0)) (hk : p.kps.length ≤ 1000) (hi : p.kps.findIdx? (fun y => decide (y.id = x0)) = some i) (hx : p.kps[i]? = some x) (hB : a.B = some ⟨b, 0, none⟩) :
    Calls Tryz.prog 96 #[.slice (some ⟨rb, ro, none⟩) 1 c, .pointer (some ⟨b3, 0, none⟩), .pointer (some ⟨b5, 0, none⟩)] w (BoolPost (decide (x.phase = 1) || decide (x.phase = 7)) w) := by
  have H := Lib.hid h
  have HB0 : Hid (Below w.heap.size w w) := Lib.hid (Below.refl _ w)
  have q0 : decide (0 ≤ findB p x0) = true := by rw [(findB_some hi).1]; simp
  obtain ⟨F, hF⟩ : ∃ F, decide (0 ≤ findB p x0) = F := ⟨_, rfl⟩
  rw [hF] at q0
  subst q0
  have HF := Lib.hid hF
  clear hF
  have HB4 := Lib.hid (h.cell hB (j := 4) (y := x) (u := .int .u8 x.phase) hx (by omega) rfl).1
  have Lb := Lib.hid (show b < w.heap.size from by
    have := (h.own.kps.lt b (by rw [hB]; rfl)).2; exact this)
  have q_b3 := e_b3.cell 0
  simp only [List.getElem?_toArray, List.getElem?_cons_zero] at q_b3
  have q_b5 := e_b5.cell 0
  simp only [List.getElem?_toArray, List.getElem?_cons_zero] at q_b5
  have q_b2 := e_b2.cell 0
  simp only [List.getElem?_toArray, List.getElem?_cons_zero] at q_b2
  clear h hx
  go_enter Tryz.func96, Tryz.ntmps96
  go_wp2_with fail
  have Q_b3 := Lib.hid q_b3
  have L_b3 := Lib.hid e_b3.lt
  clear q_b3
  have Q_b5 := Lib.hid q_b5
  have L_b5 := Lib.hid e_b5.lt
  clear q_b5
  have Q_b2 := Lib.hid q_b2
  have L_b2 := Lib.hid e_b2.lt
  clear q_b2
  have R0 := Lib.hid hx0
  have Lrb := Lib.hid hrb
  have HL : Hid (∀ V', Below w.heap.size w V' → V'.cell? ⟨b3, 0, none⟩ = some (.func (.func 79) #[] #[.pointer (some ⟨b2, 0, none⟩)]) ∧ V'.cell? ⟨b5, 0, none⟩ = some (.func (.func 81) #[] #[.pointer (some ⟨b2, 0, none⟩)]) ∧ V'.cell? ⟨b2, 0, none⟩ = some (.pointer (some ⟨g, 0, none⟩)) ∧ V'.cell? ⟨rb, ro, none⟩ = some (.int .i64 x0) ∧ Whole V' g 30 (brC p a) ∧ V'.cell? ⟨b, i * 8 + 4, none⟩ = some (.int .u8 x.phase)) := Lib.hid (fun V' hb => ⟨(hb.cell (p := ⟨b3, 0, none⟩) L_b3.out).trans Q_b3.out, (hb.cell (p := ⟨b5, 0, none⟩) L_b5.out).trans Q_b5.out, (hb.cell (p := ⟨b2, 0, none⟩) L_b2.out).trans Q_b2.out, (hb.cell (p := ⟨rb, ro, none⟩) Lrb.out).trans R0.out, H.out.box.under hb, by have := HB4.out; exact (hb.cell (p := ⟨b, i * 8 + 4, none⟩) Lb.out).trans this⟩)
  have HBd := Lib.hid (show Below w.heap.size w w.drew from below_drewB HB0.out 1)
  clear HB0
  refine wp_region_T (ls := []) (T := (fun V' => Below w.heap.size w V')) (by kernel_rfl) ?_
  refine kT 0 ?_ rfl ?_ HBd.out ?_
  rotate_left
  · intro V' hV; obtain ⟨y0, y1, y2, y3, y4, y5⟩ := HL.out V' hV; go_simp <;> with_reducible rfl
  simp only [Act.put, lA, lZ, lS]
  refine kP 1 ?_ rfl ?_ (fun _ => HBd.out) ?_
  rotate_left
  · intro V'; go_simp <;> with_reducible rfl
  simp only [Act.put, lA, lZ, lS]
  refine oneT (i := 2) rfl (by kernel_rfl) (by rfl) (fun K hK => ?_)
  go_simp
  refine (kept_any p a base g b2 rb ro c x0 1 (by omega) w.drew (H.out.under HBd.out) (e_b2.under HBd.out) (Nat.lt_of_lt_of_le Lrb.out HBd.out.size) ((HBd.out.cell (p := ⟨rb, ro, none⟩) Lrb.out).trans R0.out) hk).mono ?_
  rintro e w1 ⟨rfl, hb_⟩
  have HB1 := Lib.hid (show Below w.heap.size w w1 from HBd.out.trans (hb_.mono HBd.out.size))
  clear hb_ HBd
  rw [HF.out]
  refine hK.out _ _ (fun _ => HB1.out) ?_
  clear hK K
  refine kP 3 ?_ rfl ?_ (fun _ => HB1.out) ?_
  rotate_left
  · intro V'; go_simp <;> with_reducible rfl
  simp only [Act.put, lA, lZ, lS]
  refine kT 4 ?_ rfl ?_ HB1.out ?_
  rotate_left
  · intro V' hV; obtain ⟨y0, y1, y2, y3, y4, y5⟩ := HL.out V' hV; go_simp <;> with_reducible rfl
  simp only [Act.put, lA, lZ, lS]
  refine kP 5 ?_ rfl ?_ (fun _ => HB1.out) ?_
  rotate_left
  · intro V'; go_simp <;> with_reducible rfl
  simp only [Act.put, lA, lZ, lS]
  refine kP 6 ?_ rfl ?_ (fun _ => HB1.out) ?_
  rotate_left
  · intro V'; go_simp <;> with_reducible rfl
  simp only [Act.put, lA, lZ, lS]
  refine kT 7 ?_ rfl ?_ HB1.out ?_
  rotate_left
  · intro V' hV; obtain ⟨y0, y1, y2, y3, y4, y5⟩ := HL.out V' hV; go_simp <;> with_reducible rfl
  simp only [Act.put, lA, lZ, lS]
  refine oneT (i := 8) rfl (by kernel_rfl) (by rfl) (fun K hK => ?_)
  go_simp
  refine (the_any p a base g b2 x0 b i w1 (H.out.under HB1.out) (e_b2.under HB1.out) hk hB hi).mono ?_
  rintro e w2 ⟨rfl, hb_⟩
  have HB2 := Lib.hid (show Below w.heap.size w w2 from HB1.out.trans (hb_.mono HB1.out.size))
  clear hb_ HB1
  refine hK.out _ _ (fun _ => HB2.out) ?_
  clear hK K
  refine kP 9 ?_ rfl ?_ (fun _ => HB2.out) ?_
  rotate_left
  · intro V'; go_simp <;> with_reducible rfl
  simp only [Act.put, lA, lZ, lS]
  refine kP 10 ?_ rfl ?_ (fun _ => HB2.out) ?_
  rotate_left
  · intro V'; go_simp <;> with_reducible rfl
  simp only [Act.put, lA, lZ, lS]
  refine kT 11 ?_ rfl ?_ HB2.out ?_
  rotate_left
  · intro V' hV; obtain ⟨y0, y1, y2, y3, y4, y5⟩ := HL.out V' hV; go_simp <;> with_reducible rfl
  simp only [Act.put, lA, lZ, lS]
  refine oneT (i := 12) rfl (by kernel_rfl) (by rfl) (fun K hK => ?_)
  go_simp
  refine (hooked_any x.phase w2).mono ?_
  rintro e w3 ⟨rfl, hw_⟩
  have hb_ : Below w2.heap.size w2 w3 := by rw [hw_]; exact Below.refl _ _
  clear hw_
  have HB3 := Lib.hid (show Below w.heap.size w w3 from HB2.out.trans (hb_.mono HB2.out.size))
  clear hb_ HB2
  refine hK.out _ _ (fun _ => HB3.out) ?_
  clear hK K
  refine kP 13 ?_ rfl ?_ (fun _ => HB3.out) ?_
  rotate_left
  · intro V'; go_simp <;> with_reducible rfl
  simp only [Act.put, lA, lZ, lS]
  refine oneT (i := 14) rfl (by kernel_rfl) (by rfl) (fun K hK => ?_)
  go_simp
  refine hK.out _ _ (fun _ => HB3.out) ?_
  clear hK K
  refine doneT (by kernel_rfl) ?_ _
  go_wp2_with fail
  go_ret
  exact ⟨rfl, HB3.out⟩

set_option maxHeartbeats 2000000 in
theorem dDone (p : Br) (a : Ad) (base g : Nat) (b5 : Nat) (b2 : Nat) (rb ro c : Nat) (x0 : Int) (b i : Nat) (x : Kp)  (w : World) (h : BrIn base g w p a) (e_b5 : Whole w b5 108 #[.func (.func 81) #[] #[.pointer (some ⟨b2, 0, none⟩)]]) (e_b2 : Whole w b2 65 #[.pointer (some ⟨g, 0, none⟩)]) (hrb : rb < w.heap.size) (hx0 : w.cell? ⟨rb, ro, none⟩ = some (.int .i64 x0)) (hk : p.kps.length ≤ 1000) (hi : p.kps.findIdx? (fun y => decide (y.id = x0)) = some i) (hx : p.kps[i]? = some x) (hB : a.B = some ⟨b, 0, none⟩) :
    Calls Tryz.prog 98 #[.slice (some ⟨rb, ro, none⟩) 1 c, .pointer (some ⟨b5, 0, none⟩)] w (StPost base g { p with kps := p.kps.set i { x with done := true } } w) := by
  have H := Lib.hid h
  have HB0 : Hid (Below w.heap.size w w) := Lib.hid (Below.refl _ w)
  have q_b5 := e_b5.cell 0
  simp only [List.getElem?_toArray, List.getElem?_cons_zero] at q_b5
  have q_b2 := e_b2.cell 0
  simp only [List.getElem?_toArray, List.getElem?_cons_zero] at q_b2
  clear h
  go_enter Tryz.func98, Tryz.ntmps98
  have Q_b5 := Lib.hid q_b5
  have L_b5 := Lib.hid e_b5.lt
  clear q_b5
  have Q_b2 := Lib.hid q_b2
  have L_b2 := Lib.hid e_b2.lt
  clear q_b2
  have R0 := Lib.hid hx0
  have Lrb := Lib.hid hrb
  have HL : Hid (∀ V', Below w.heap.size w V' → V'.cell? ⟨b5, 0, none⟩ = some (.func (.func 81) #[] #[.pointer (some ⟨b2, 0, none⟩)]) ∧ V'.cell? ⟨b2, 0, none⟩ = some (.pointer (some ⟨g, 0, none⟩)) ∧ V'.cell? ⟨rb, ro, none⟩ = some (.int .i64 x0) ∧ Whole V' g 30 (brC p a)) := Lib.hid (fun V' hb => ⟨(hb.cell (p := ⟨b5, 0, none⟩) L_b5.out).trans Q_b5.out, (hb.cell (p := ⟨b2, 0, none⟩) L_b2.out).trans Q_b2.out, (hb.cell (p := ⟨rb, ro, none⟩) Lrb.out).trans R0.out, H.out.box.under hb⟩)
  have HBd := Lib.hid (show Below w.heap.size w w.drew from below_drewB HB0.out 1)
  clear HB0
  refine wp_region_T (ls := [7]) (T := (fun V' => Below w.heap.size w V')) (by kernel_rfl) ?_
  refine kT 0 ?_ rfl ?_ HBd.out ?_
  rotate_left
  · intro V' hV; obtain ⟨y0, y1, y2, y3⟩ := HL.out V' hV; go_simp <;> with_reducible rfl
  simp only [Act.put, lA, lZ, lS]
  refine kP 1 ?_ rfl ?_ (fun _ => HBd.out) ?_
  rotate_left
  · intro V'; go_simp <;> with_reducible rfl
  simp only [Act.put, lA, lZ, lS]
  refine kP 2 ?_ rfl ?_ (fun _ => HBd.out) ?_
  rotate_left
  · intro V'; go_simp <;> with_reducible rfl
  simp only [Act.put, lA, lZ, lS]
  refine kT 3 ?_ rfl ?_ HBd.out ?_
  rotate_left
  · intro V' hV; obtain ⟨y0, y1, y2, y3⟩ := HL.out V' hV; go_simp <;> with_reducible rfl
  simp only [Act.put, lA, lZ, lS]
  refine oneT (i := 4) rfl (by kernel_rfl) (by rfl) (fun K hK => ?_)
  go_simp
  refine (the_any p a base g b2 x0 b i w.drew (H.out.under HBd.out) (e_b2.under HBd.out) hk hB hi).mono ?_
  rintro e w1 ⟨rfl, hb_⟩
  have HB1 := Lib.hid (show Below w.heap.size w w1 from HBd.out.trans (hb_.mono HBd.out.size))
  clear hb_ HBd
  refine hK.out _ _ (fun _ => HB1.out) ?_
  clear hK K
  refine oneT (i := 5) rfl (by kernel_rfl) (by rfl) (fun K hK => ?_)
  go_simp
  refine hK.out _ _ (fun _ => HB1.out) ?_
  clear hK K
  refine oneT (i := 6) rfl (by kernel_rfl) (by rfl) (fun K hK => ?_)
  go_simp
  refine hK.out _ _ (fun _ => HB1.out) ?_
  clear hK K
  obtain ⟨z, zf, hz, hs⟩ := (H.out.under HB1.out).cell hB (j := 7) (y := { x with done := true }) (u := .bool true) hx (by omega) rfl
  simp only [Kp.vs, List.getElem?_cons_succ, List.getElem?_cons_zero] at z
  have HZ := Lib.hid hz
  have HS := Lib.hid ((Stp.of_below HB1.out (Nat.le_trans H.out.ge (Nat.le_of_lt H.out.lt))).trans hs)
  clear hz hs
  refine oneL (i := 7) (by kernel_rfl) rfl (by kernel_rfl) (by rfl) (fun K hK => ?_)
  go_simp
  refine hK.out _ _ ?_
  clear hK K
  refine doneT (by kernel_rfl) ?_ _
  go_wp2_with fail
  go_end0
  exact ⟨rfl, HS.out, a, HZ.out⟩

end Go.Proofs.YtdaimejlcfhfiaaGreatDoor
