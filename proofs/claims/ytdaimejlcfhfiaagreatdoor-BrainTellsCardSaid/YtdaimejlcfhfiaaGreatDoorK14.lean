/-
  Texts that the walk of a statement over brains leans on, joined (BrClo3). Conditions: those that each theorem names.
-/
import Derived.Test.YtdaimejlcfhfiaaGreatDoorKQ
import Derived.Test.YtdaimejlcfhfiaaGreatDoorK12
set_option maxRecDepth 100000

namespace Go.Proofs.YtdaimejlcfhfiaaGreatDoor
open Go.RowKit Go.Shelf

set_option maxHeartbeats 2000000 in
theorem fBoot (p : Br) (a : Ad) (base g : Nat) (b1 : Nat) (A : Option Addr) (n c : Nat)  (w : World) (h : BrIn base g w p a) (e_b1 : Whole w b1 65 #[.pointer (some ⟨g, 0, none⟩)])   :
    Calls Tryz.prog 71 #[.slice A n c, .pointer (some ⟨b1, 0, none⟩)] w (BoolPost (decide (p.ep < 1099511627776)) w) := by
  have H := Lib.hid h
  have HB0 : Hid (Below w.heap.size w w) := Lib.hid (Below.refl _ w)
  have q0 := (cells27 h.box).1
  have q_b1 := e_b1.cell 0
  simp only [List.getElem?_toArray, List.getElem?_cons_zero] at q_b1
  clear h
  go_enter Tryz.func71, Tryz.ntmps71
  go_wp2_with fail
  go_ret
  exact ⟨rfl, HB0.out⟩

set_option maxHeartbeats 2000000 in
theorem dBoot (p : Br) (a : Ad) (base g : Nat) (b1 : Nat) (A : Option Addr) (n c : Nat)  (w : World) (h : BrIn base g w p a) (e_b1 : Whole w b1 65 #[.pointer (some ⟨g, 0, none⟩)])  (h1 : -9223372036854775808 ≤ p.ep) (h2 : p.ep < 1099511627776) :
    Calls Tryz.prog 72 #[.slice A n c, .pointer (some ⟨b1, 0, none⟩)] w (StPost base g { p with ep := p.ep + 1 } w) := by
  have H := Lib.hid h
  have HB0 : Hid (Below w.heap.size w w) := Lib.hid (Below.refl _ w)
  have q0 := (cells27 h.box).1
  have f0 := h.box.frozen 0
  have hwr : wrap64 (p.ep + 1) = p.ep + 1 := by simp only [wrap64]; omega
  have HS := Lib.hid (Stp.set h.box (by decide) h.ge 0 (.int .i64 (p.ep + 1)))
  have HZ := Lib.hid (h.set (p' := { p with ep := p.ep + 1 }) 0 (.int .i64 (p.ep + 1)) rfl rfl rfl rfl)
  have q_b1 := e_b1.cell 0
  simp only [List.getElem?_toArray, List.getElem?_cons_zero] at q_b1
  clear h
  go_enter Tryz.func72, Tryz.ntmps72
  go_wp2_with fail
  go_end0
  exact ⟨rfl, HS.out, a, HZ.out⟩

set_option maxHeartbeats 2000000 in
theorem dConf (p : Br) (a : Ad) (base g : Nat) (b1 : Nat) (A : Option Addr) (n c : Nat) (l : List Int) (B : Nat)  (w : World) (h : BrIn base g w p a) (e_b1 : Whole w b1 65 #[.pointer (some ⟨g, 0, none⟩)])  (hr : Rd w B A n (iv l)) (hB : B ≤ w.heap.size) (hc : n ≤ c) (hm : c ≤ maxLen) (hn : n ≤ 1000) (hT : Tab w) (hrow : isRow l = true) :
    Calls Tryz.prog 74 #[.slice A n c, .pointer (some ⟨b1, 0, none⟩)] w (StPost base g (confB p l) w) := by
  have H := Lib.hid h
  have HB0 : Hid (Below w.heap.size w w) := Lib.hid (Below.refl _ w)
  have HC := Lib.hid (regroup_any p a A n c l B base g w h hr hB hc hm hn hT hrow)
  have q_b1 := e_b1.cell 0
  simp only [List.getElem?_toArray, List.getElem?_cons_zero] at q_b1
  clear h hr hB hc hm hn hT hrow
  go_enter Tryz.func74, Tryz.ntmps74
  go_wp2_with fail
  refine HC.out.mono ?_
  rintro e w1 ⟨rfl, hs, a1, h1⟩
  have HS := Lib.hid hs
  have H1 := Lib.hid h1
  clear hs h1
  go_wp2_with fail
  go_end0
  exact ⟨rfl, HS.out, a1, H1.out⟩

/-- Whether a launch that is meant fits. -/
def intF (p : Br) (x0 x1 x2 : Int) : Bool := p.set && (decide (1 ≤ x0) && (decide (x1 < 4) && (decide (x2 < 2) && decide (p.sq < 1099511627776))))

set_option maxHeartbeats 2000000 in
theorem fIntent0 (p : Br) (a : Ad) (base g : Nat) (b1 : Nat) (rb ro c : Nat)  (w : World) (h : BrIn base g w p a) (e_b1 : Whole w b1 65 #[.pointer (some ⟨g, 0, none⟩)])    (t0 : p.set = false) :
    Calls Tryz.prog 76 #[.slice (some ⟨rb, ro, none⟩) 3 c, .pointer (some ⟨b1, 0, none⟩)] w (BoolPost false w) := by
  have H := Lib.hid h
  have HB0 : Hid (Below w.heap.size w w) := Lib.hid (Below.refl _ w)
  have q2 := (cells27 h.box).2.2.1
  have q1 := (cells27 h.box).2.1
  rw [t0] at q2
  have q_b1 := e_b1.cell 0
  simp only [List.getElem?_toArray, List.getElem?_cons_zero] at q_b1
  clear h t0
  go_enter Tryz.func76, Tryz.ntmps76
  go_wp2_with fail
  go_ret
  exact ⟨rfl, HB0.out⟩

set_option maxHeartbeats 2000000 in
theorem fIntent1 (p : Br) (a : Ad) (base g : Nat) (b1 : Nat) (rb ro c : Nat) (x0 : Int)  (w : World) (h : BrIn base g w p a) (e_b1 : Whole w b1 65 #[.pointer (some ⟨g, 0, none⟩)])  (hx0 : w.cell? ⟨rb, ro, none⟩ = some (.int .i64 x0)) (t0 : p.set = true) (t1 : decide (1 ≤ x0) = false) :
    Calls Tryz.prog 76 #[.slice (some ⟨rb, ro, none⟩) 3 c, .pointer (some ⟨b1, 0, none⟩)] w (BoolPost false w) := by
  have H := Lib.hid h
  have HB0 : Hid (Below w.heap.size w w) := Lib.hid (Below.refl _ w)
  have q2 := (cells27 h.box).2.2.1
  have q1 := (cells27 h.box).2.1
  rw [t0] at q2
  have q_b1 := e_b1.cell 0
  simp only [List.getElem?_toArray, List.getElem?_cons_zero] at q_b1
  clear h t0
  go_enter Tryz.func76, Tryz.ntmps76
  go_wp2_with fail
  go_ret
  exact ⟨rfl, HB0.out⟩

set_option maxHeartbeats 2000000 in
theorem fIntent2 (p : Br) (a : Ad) (base g : Nat) (b1 : Nat) (rb ro c : Nat) (x0 x1 : Int)  (w : World) (h : BrIn base g w p a) (e_b1 : Whole w b1 65 #[.pointer (some ⟨g, 0, none⟩)])  (hx0 : w.cell? ⟨rb, ro, none⟩ = some (.int .i64 x0)) (hx1 : w.cell? ⟨rb, ro + 1, none⟩ = some (.int .i64 x1)) (t0 : p.set = true) (t1 : decide (1 ≤ x0) = true) (t2 : decide (x1 < 4) = false) :
    Calls Tryz.prog 76 #[.slice (some ⟨rb, ro, none⟩) 3 c, .pointer (some ⟨b1, 0, none⟩)] w (BoolPost false w) := by
  have H := Lib.hid h
  have HB0 : Hid (Below w.heap.size w w) := Lib.hid (Below.refl _ w)
  have q2 := (cells27 h.box).2.2.1
  have q1 := (cells27 h.box).2.1
  rw [t0] at q2
  have q_b1 := e_b1.cell 0
  simp only [List.getElem?_toArray, List.getElem?_cons_zero] at q_b1
  clear h t0
  go_enter Tryz.func76, Tryz.ntmps76
  go_wp2_with fail
  go_ret
  exact ⟨rfl, HB0.out⟩

set_option maxHeartbeats 2000000 in
theorem fIntent3 (p : Br) (a : Ad) (base g : Nat) (b1 : Nat) (rb ro c : Nat) (x0 x1 x2 : Int)  (w : World) (h : BrIn base g w p a) (e_b1 : Whole w b1 65 #[.pointer (some ⟨g, 0, none⟩)])  (hx0 : w.cell? ⟨rb, ro, none⟩ = some (.int .i64 x0)) (hx1 : w.cell? ⟨rb, ro + 1, none⟩ = some (.int .i64 x1)) (hx2 : w.cell? ⟨rb, ro + 2, none⟩ = some (.int .i64 x2)) (t0 : p.set = true) (t1 : decide (1 ≤ x0) = true) (t2 : decide (x1 < 4) = true) (t3 : decide (x2 < 2) = false) :
    Calls Tryz.prog 76 #[.slice (some ⟨rb, ro, none⟩) 3 c, .pointer (some ⟨b1, 0, none⟩)] w (BoolPost false w) := by
  have H := Lib.hid h
  have HB0 : Hid (Below w.heap.size w w) := Lib.hid (Below.refl _ w)
  have q2 := (cells27 h.box).2.2.1
  have q1 := (cells27 h.box).2.1
  rw [t0] at q2
  have q_b1 := e_b1.cell 0
  simp only [List.getElem?_toArray, List.getElem?_cons_zero] at q_b1
  clear h t0
  go_enter Tryz.func76, Tryz.ntmps76
  go_wp2_with fail
  go_ret
  exact ⟨rfl, HB0.out⟩

set_option maxHeartbeats 2000000 in
theorem fIntent4 (p : Br) (a : Ad) (base g : Nat) (b1 : Nat) (rb ro c : Nat) (x0 x1 x2 : Int)  (w : World) (h : BrIn base g w p a) (e_b1 : Whole w b1 65 #[.pointer (some ⟨g, 0, none⟩)])  (hx0 : w.cell? ⟨rb, ro, none⟩ = some (.int .i64 x0)) (hx1 : w.cell? ⟨rb, ro + 1, none⟩ = some (.int .i64 x1)) (hx2 : w.cell? ⟨rb, ro + 2, none⟩ = some (.int .i64 x2)) (t0 : p.set = true) (t1 : decide (1 ≤ x0) = true) (t2 : decide (x1 < 4) = true) (t3 : decide (x2 < 2) = true) :
    Calls Tryz.prog 76 #[.slice (some ⟨rb, ro, none⟩) 3 c, .pointer (some ⟨b1, 0, none⟩)] w (BoolPost (decide (p.sq < 1099511627776)) w) := by
  have H := Lib.hid h
  have HB0 : Hid (Below w.heap.size w w) := Lib.hid (Below.refl _ w)
  have q2 := (cells27 h.box).2.2.1
  have q1 := (cells27 h.box).2.1
  rw [t0] at q2
  have q_b1 := e_b1.cell 0
  simp only [List.getElem?_toArray, List.getElem?_cons_zero] at q_b1
  clear h t0
  go_enter Tryz.func76, Tryz.ntmps76
  go_wp2_with fail
  go_ret
  exact ⟨rfl, HB0.out⟩

theorem fIntent_any (p : Br) (a : Ad) (base g b1 rb ro c : Nat) (x0 x1 x2 : Int) (w : World) (h : BrIn base g w p a) (e_b1 : Whole w b1 65 #[.pointer (some ⟨g, 0, none⟩)]) (hx0 : w.cell? ⟨rb, ro, none⟩ = some (.int .i64 x0)) (hx1 : w.cell? ⟨rb, ro + 1, none⟩ = some (.int .i64 x1)) (hx2 : w.cell? ⟨rb, ro + 2, none⟩ = some (.int .i64 x2)) :
    Calls Tryz.prog 76 #[.slice (some ⟨rb, ro, none⟩) 3 c, .pointer (some ⟨b1, 0, none⟩)] w (BoolPost (intF p x0 x1 x2) w) := by
  unfold intF
  cases t0 : p.set with
  | false => exact fIntent0 p a base g b1 rb ro c w h e_b1 t0
  | true =>
  rw [Bool.true_and]
  cases t1 : decide (1 ≤ x0) with
  | false => exact fIntent1 p a base g b1 rb ro c x0 w h e_b1 hx0 t0 t1
  | true =>
  rw [Bool.true_and]
  cases t2 : decide (x1 < 4) with
  | false => exact fIntent2 p a base g b1 rb ro c x0 x1 w h e_b1 hx0 hx1 t0 t1 t2
  | true =>
  rw [Bool.true_and]
  cases t3 : decide (x2 < 2) with
  | false => exact fIntent3 p a base g b1 rb ro c x0 x1 x2 w h e_b1 hx0 hx1 hx2 t0 t1 t2 t3
  | true =>
  rw [Bool.true_and]
  exact fIntent4 p a base g b1 rb ro c x0 x1 x2 w h e_b1 hx0 hx1 hx2 t0 t1 t2 t3

set_option maxHeartbeats 2000000 in
theorem dIntent (p : Br) (a : Ad) (base g : Nat) (b1 : Nat) (rb ro c : Nat) (x0 x1 x2 : Int)  (w : World) (h : BrIn base g w p a) (e_b1 : Whole w b1 65 #[.pointer (some ⟨g, 0, none⟩)]) (hrb : rb < w.heap.size) (hx0 : w.cell? ⟨rb, ro, none⟩ = some (.int .i64 x0)) (hx1 : w.cell? ⟨rb, ro + 1, none⟩ = some (.int .i64 x1)) (hx2 : w.cell? ⟨rb, ro + 2, none⟩ = some (.int .i64 x2)) (h1 : -9223372036854775808 ≤ p.sq) (h2 : p.sq < 1099511627776) (hn : p.its.length ≤ 1000) :
    Calls Tryz.prog 77 #[.slice (some ⟨rb, ro, none⟩) 3 c, .pointer (some ⟨b1, 0, none⟩)] w (StPost base g { p with sq := p.sq + 1, its := p.its ++ [⟨p.sq + 1, x0, x1, (x2 == 1)⟩] } w) := by
  have H := Lib.hid h
  have HB0 : Hid (Below w.heap.size w w) := Lib.hid (Below.refl _ w)
  have q_b1 := e_b1.cell 0
  simp only [List.getElem?_toArray, List.getElem?_cons_zero] at q_b1
  clear h
  go_enter Tryz.func77, Tryz.ntmps77
  have Q_b1 := Lib.hid q_b1
  have L_b1 := Lib.hid e_b1.lt
  clear q_b1
  have R0 := Lib.hid hx0
  have R1 := Lib.hid hx1
  have R2 := Lib.hid hx2
  have Lrb := Lib.hid hrb
  have HL : Hid (∀ V', Below w.heap.size w V' → V'.cell? ⟨b1, 0, none⟩ = some (.pointer (some ⟨g, 0, none⟩)) ∧ V'.cell? ⟨rb, ro, none⟩ = some (.int .i64 x0) ∧ V'.cell? ⟨rb, ro + 1, none⟩ = some (.int .i64 x1) ∧ V'.cell? ⟨rb, ro + 2, none⟩ = some (.int .i64 x2) ∧ Whole V' g 30 (brC p a)) := Lib.hid (fun V' hb => ⟨(hb.cell (p := ⟨b1, 0, none⟩) L_b1.out).trans Q_b1.out, (hb.cell (p := ⟨rb, ro, none⟩) Lrb.out).trans R0.out, (hb.cell (p := ⟨rb, ro + 1, none⟩) Lrb.out).trans R1.out, (hb.cell (p := ⟨rb, ro + 2, none⟩) Lrb.out).trans R2.out, H.out.box.under hb⟩)
  have HBd := Lib.hid (show Below w.heap.size w w.drew from below_drewB HB0.out 1)
  clear HB0
  refine wp_region_T (ls := [12]) (T := (fun V' => Below w.heap.size w V')) (by kernel_rfl) ?_
  refine kT 0 ?_ rfl ?_ HBd.out ?_
  rotate_left
  · intro V' hV; obtain ⟨y0, y1, y2, y3, y4⟩ := HL.out V' hV; go_simp <;> with_reducible rfl
  simp only [Act.put, lA, lZ, lS]
  refine kP 1 ?_ rfl ?_ (fun _ => HBd.out) ?_
  rotate_left
  · intro V'; go_simp <;> with_reducible rfl
  simp only [Act.put, lA, lZ, lS]
  refine kP 2 ?_ rfl ?_ (fun _ => HBd.out) ?_
  rotate_left
  · intro V'; go_simp <;> with_reducible rfl
  simp only [Act.put, lA, lZ, lS]
  refine kT 3 ?_ rfl ?_ HBd.out ?_
  rotate_left
  · intro V' hV; obtain ⟨y0, y1, y2, y3, y4⟩ := HL.out V' hV; go_simp <;> with_reducible rfl
  simp only [Act.put, lA, lZ, lS]
  refine kP 4 ?_ rfl ?_ (fun _ => HBd.out) ?_
  rotate_left
  · intro V'; go_simp <;> with_reducible rfl
  simp only [Act.put, lA, lZ, lS]
  refine kP 5 ?_ rfl ?_ (fun _ => HBd.out) ?_
  rotate_left
  · intro V'; go_simp <;> with_reducible rfl
  simp only [Act.put, lA, lZ, lS]
  refine kT 6 ?_ rfl ?_ HBd.out ?_
  rotate_left
  · intro V' hV; obtain ⟨y0, y1, y2, y3, y4⟩ := HL.out V' hV; go_simp <;> with_reducible rfl
  simp only [Act.put, lA, lZ, lS]
  refine kP 7 ?_ rfl ?_ (fun _ => HBd.out) ?_
  rotate_left
  · intro V'; go_simp <;> with_reducible rfl
  simp only [Act.put, lA, lZ, lS]
  refine kP 8 ?_ rfl ?_ (fun _ => HBd.out) ?_
  rotate_left
  · intro V'; go_simp <;> with_reducible rfl
  simp only [Act.put, lA, lZ, lS]
  refine kT 9 ?_ rfl ?_ HBd.out ?_
  rotate_left
  · intro V' hV; obtain ⟨y0, y1, y2, y3, y4⟩ := HL.out V' hV; go_simp <;> with_reducible rfl
  simp only [Act.put, lA, lZ, lS]
  refine kP 10 ?_ rfl ?_ (fun _ => HBd.out) ?_
  rotate_left
  · intro V'; go_simp <;> with_reducible rfl
  simp only [Act.put, lA, lZ, lS]
  refine kP 11 ?_ rfl ?_ (fun _ => HBd.out) ?_
  rotate_left
  · intro V'; go_simp <;> with_reducible rfl
  simp only [Act.put, lA, lZ, lS]
  refine oneT (i := 12) rfl (by kernel_rfl) (by rfl) (fun K hK => ?_)
  go_simp
  refine (mean_any p a ⟨0, x0, x1, (x2 == 1)⟩ base g w.drew (H.out.under HBd.out) h1 h2 hn).mono ?_
  rintro e wl ⟨rfl, hs, al, hal⟩
  have HS := Lib.hid ((Stp.of_below HBd.out (Nat.le_trans H.out.ge (Nat.le_of_lt H.out.lt))).trans hs)
  have HAL := Lib.hid hal
  clear hs hal
  refine hK.out _ _ (fun h => absurd h (by decide)) ?_
  clear hK K
  refine doneT (by kernel_rfl) ?_ _
  go_wp2_with fail
  go_end0
  exact ⟨rfl, HS.out, al, HAL.out⟩

set_option maxHeartbeats 2000000 in
theorem dFail (p : Br) (a : Ad) (base g : Nat) (b7 : Nat) (b6 : Nat) (A : Option Addr) (n c : Nat)  (w : World) (h : BrIn base g w p a) (e_b7 : Whole w b7 115 #[.pointer (some ⟨g, 20, none⟩)]) (e_b6 : Whole w b6 65 #[.pointer (some ⟨g, 0, none⟩)])   :
    Calls Tryz.prog 100 #[.slice A n c, .pointer (some ⟨b7, 0, none⟩), .pointer (some ⟨b6, 0, none⟩)] w (StPost base g { p with rf := failR p.rf p.cf.f10 } w) := by
  have H := Lib.hid h
  have HB0 : Hid (Below w.heap.size w w) := Lib.hid (Below.refl _ w)
  have q_b7 := e_b7.cell 0
  simp only [List.getElem?_toArray, List.getElem?_cons_zero] at q_b7
  have q_b6 := e_b6.cell 0
  simp only [List.getElem?_toArray, List.getElem?_cons_zero] at q_b6
  clear h
  go_enter Tryz.func100, Tryz.ntmps100
  have Q_b7 := Lib.hid q_b7
  have L_b7 := Lib.hid e_b7.lt
  clear q_b7
  have Q_b6 := Lib.hid q_b6
  have L_b6 := Lib.hid e_b6.lt
  clear q_b6
  have HL : Hid (∀ V', Below w.heap.size w V' → V'.cell? ⟨b7, 0, none⟩ = some (.pointer (some ⟨g, 20, none⟩)) ∧ V'.cell? ⟨b6, 0, none⟩ = some (.pointer (some ⟨g, 0, none⟩)) ∧ Whole V' g 30 (brC p a) ∧ V'.cell? ⟨g, 13, none⟩ = some (.int .i64 p.cf.f10)) := Lib.hid (fun V' hb => ⟨(hb.cell (p := ⟨b7, 0, none⟩) L_b7.out).trans Q_b7.out, (hb.cell (p := ⟨b6, 0, none⟩) L_b6.out).trans Q_b6.out, H.out.box.under hb, (H.out.box.under hb).cell 13⟩)
  have HBd := Lib.hid (show Below w.heap.size w w.drew from below_drewB HB0.out 1)
  clear HB0
  refine wp_region_T (ls := [6]) (T := (fun V' => Below w.heap.size w V')) (by kernel_rfl) ?_
  refine kT 0 ?_ rfl ?_ HBd.out ?_
  rotate_left
  · intro V' hV; obtain ⟨y0, y1, y2, y3⟩ := HL.out V' hV; go_simp <;> with_reducible rfl
  simp only [Act.put, lA, lZ, lS]
  refine kT 1 ?_ rfl ?_ HBd.out ?_
  rotate_left
  · intro V' hV; obtain ⟨y0, y1, y2, y3⟩ := HL.out V' hV; go_simp <;> with_reducible rfl
  simp only [Act.put, lA, lZ, lS]
  refine kP 2 ?_ rfl ?_ (fun _ => HBd.out) ?_
  rotate_left
  · intro V'; go_simp <;> with_reducible rfl
  simp only [Act.put, lA, lZ, lS]
  refine kP 3 ?_ rfl ?_ (fun _ => HBd.out) ?_
  rotate_left
  · intro V'; go_simp <;> with_reducible rfl
  simp only [Act.put, lA, lZ, lS]
  refine kP 4 ?_ rfl ?_ (fun _ => HBd.out) ?_
  rotate_left
  · intro V'; go_simp <;> with_reducible rfl
  simp only [Act.put, lA, lZ, lS]
  refine kT 5 ?_ rfl ?_ HBd.out ?_
  rotate_left
  · intro V' hV; obtain ⟨y0, y1, y2, y3⟩ := HL.out V' hV; go_simp <;> with_reducible rfl
  simp only [Act.put, lA, lZ, lS]
  refine oneT (i := 6) rfl (by kernel_rfl) (by rfl) (fun K hK => ?_)
  go_simp
  refine (fail_any p a p.cf.f10 base g w.drew (H.out.under HBd.out)).mono ?_
  rintro e wl ⟨rfl, hs, al, hal⟩
  have HS := Lib.hid ((Stp.of_below HBd.out (Nat.le_trans H.out.ge (Nat.le_of_lt H.out.lt))).trans hs)
  have HAL := Lib.hid hal
  clear hs hal
  refine hK.out _ _ (fun h => absurd h (by decide)) ?_
  clear hK K
  refine doneT (by kernel_rfl) ?_ _
  go_wp2_with fail
  go_end0
  exact ⟨rfl, HS.out, al, HAL.out⟩

def startF (p : Br) (x0 : Int) : Bool := p.set && (!(p.rf.st == 1) && decide (1 ≤ x0))

set_option maxHeartbeats 2000000 in
theorem fStart0 (p : Br) (a : Ad) (base g : Nat) (b6 : Nat) (b8 : Nat) (b7 rb ro c : Nat)  (w : World) (h : BrIn base g w p a) (e_b6 : Whole w b6 65 #[.pointer (some ⟨g, 0, none⟩)]) (e_b8 : Whole w b8 56 #[.func (.func 99) #[] #[.pointer (some ⟨b7, 0, none⟩)]])  (t0 : p.set = false) :
    Calls Tryz.prog 102 #[.slice (some ⟨rb, ro, none⟩) 2 c, .pointer (some ⟨b6, 0, none⟩), .pointer (some ⟨b8, 0, none⟩)] w (BoolPost false w) := by
  have H := Lib.hid h
  have HB0 : Hid (Below w.heap.size w w) := Lib.hid (Below.refl _ w)
  have q2 := (cells27 h.box).2.2.1
  rw [t0] at q2
  have q_b6 := e_b6.cell 0
  simp only [List.getElem?_toArray, List.getElem?_cons_zero] at q_b6
  have q_b8 := e_b8.cell 0
  simp only [List.getElem?_toArray, List.getElem?_cons_zero] at q_b8
  clear h t0
  go_enter Tryz.func102, Tryz.ntmps102
  go_wp2_with fail
  go_ret
  exact ⟨rfl, HB0.out⟩

set_option maxHeartbeats 2000000 in
theorem fStart1 (p : Br) (a : Ad) (base g : Nat) (b6 : Nat) (b8 : Nat) (b7 : Nat) (rb ro c : Nat) (x0 : Int)  (w : World) (h : BrIn base g w p a) (e_b6 : Whole w b6 65 #[.pointer (some ⟨g, 0, none⟩)]) (e_b8 : Whole w b8 56 #[.func (.func 99) #[] #[.pointer (some ⟨b7, 0, none⟩)]]) (e_b7 : Whole w b7 115 #[.pointer (some ⟨g, 20, none⟩)]) (hrb : rb < w.heap.size) (hx0 : w.cell? ⟨rb, ro, none⟩ = some (.int .i64 x0)) (t0 : p.set = true) (t1 : (p.rf.st == 1) = true) :
    Calls Tryz.prog 102 #[.slice (some ⟨rb, ro, none⟩) 2 c, .pointer (some ⟨b6, 0, none⟩), .pointer (some ⟨b8, 0, none⟩)] w (BoolPost false w) := by
  have H := Lib.hid h
  have HB0 : Hid (Below w.heap.size w w) := Lib.hid (Below.refl _ w)
  have q2 := (cells27 h.box).2.2.1
  rw [t0] at q2
  have HC := Lib.hid (active_any p a base g b7 (some ⟨rb, ro, none⟩) 2 c w h e_b7)
  rw [t1] at HC
  have R0 := Lib.hid hx0
  have Lrb := Lib.hid hrb
  have q_b6 := e_b6.cell 0
  simp only [List.getElem?_toArray, List.getElem?_cons_zero] at q_b6
  have q_b8 := e_b8.cell 0
  simp only [List.getElem?_toArray, List.getElem?_cons_zero] at q_b8
  have q_b7 := e_b7.cell 0
  simp only [List.getElem?_toArray, List.getElem?_cons_zero] at q_b7
  clear h t0 t1 hx0 hrb
  go_enter Tryz.func102, Tryz.ntmps102
  go_wp2_with fail
  refine HC.out.mono ?_
  rintro e w1 ⟨rfl, hb_⟩
  have HB1 := Lib.hid hb_
  clear hb_ HC
  go_wp2_with fail
  go_ret
  exact ⟨rfl, HB1.out⟩

set_option maxHeartbeats 2000000 in
theorem fStart2 (p : Br) (a : Ad) (base g : Nat) (b6 : Nat) (b8 : Nat) (b7 : Nat) (rb ro c : Nat) (x0 : Int)  (w : World) (h : BrIn base g w p a) (e_b6 : Whole w b6 65 #[.pointer (some ⟨g, 0, none⟩)]) (e_b8 : Whole w b8 56 #[.func (.func 99) #[] #[.pointer (some ⟨b7, 0, none⟩)]]) (e_b7 : Whole w b7 115 #[.pointer (some ⟨g, 20, none⟩)]) (hrb : rb < w.heap.size) (hx0 : w.cell? ⟨rb, ro, none⟩ = some (.int .i64 x0)) (t0 : p.set = true) (t1 : (p.rf.st == 1) = false) :
    Calls Tryz.prog 102 #[.slice (some ⟨rb, ro, none⟩) 2 c, .pointer (some ⟨b6, 0, none⟩), .pointer (some ⟨b8, 0, none⟩)] w (BoolPost (decide (1 ≤ x0)) w) := by
  have H := Lib.hid h
  have HB0 : Hid (Below w.heap.size w w) := Lib.hid (Below.refl _ w)
  have q2 := (cells27 h.box).2.2.1
  rw [t0] at q2
  have HC := Lib.hid (active_any p a base g b7 (some ⟨rb, ro, none⟩) 2 c w h e_b7)
  rw [t1] at HC
  have R0 := Lib.hid hx0
  have Lrb := Lib.hid hrb
  have q_b6 := e_b6.cell 0
  simp only [List.getElem?_toArray, List.getElem?_cons_zero] at q_b6
  have q_b8 := e_b8.cell 0
  simp only [List.getElem?_toArray, List.getElem?_cons_zero] at q_b8
  have q_b7 := e_b7.cell 0
  simp only [List.getElem?_toArray, List.getElem?_cons_zero] at q_b7
  clear h t0 t1 hx0 hrb
  go_enter Tryz.func102, Tryz.ntmps102
  go_wp2_with fail
  refine HC.out.mono ?_
  rintro e w1 ⟨rfl, hb_⟩
  have hx0 := (hb_.cell (p := ⟨rb, ro, none⟩) Lrb.out).trans R0.out
  have HB1 := Lib.hid hb_
  clear hb_ HC
  go_wp2_with fail
  go_ret
  exact ⟨rfl, HB1.out⟩

theorem fStart_any (p : Br) (a : Ad) (base g b6 b8 b7 rb ro c : Nat) (x0 : Int) (w : World) (h : BrIn base g w p a) (e_b6 : Whole w b6 65 #[.pointer (some ⟨g, 0, none⟩)]) (e_b8 : Whole w b8 56 #[.func (.func 99) #[] #[.pointer (some ⟨b7, 0, none⟩)]]) (e_b7 : Whole w b7 115 #[.pointer (some ⟨g, 20, none⟩)]) (hrb : rb < w.heap.size) (hx0 : w.cell? ⟨rb, ro, none⟩ = some (.int .i64 x0)) :
    Calls Tryz.prog 102 #[.slice (some ⟨rb, ro, none⟩) 2 c, .pointer (some ⟨b6, 0, none⟩), .pointer (some ⟨b8, 0, none⟩)] w (BoolPost (startF p x0) w) := by
  unfold startF
  cases t0 : p.set with
  | false => exact fStart0 p a base g b6 b8 b7 rb ro c w h e_b6 e_b8 t0
  | true =>
    rw [Bool.true_and]
    cases t1 : (p.rf.st == 1) with
    | true => exact fStart1 p a base g b6 b8 b7 rb ro c x0 w h e_b6 e_b8 e_b7 hrb hx0 t0 t1
    | false =>
      rw [Bool.not_false, Bool.true_and]
      exact fStart2 p a base g b6 b8 b7 rb ro c x0 w h e_b6 e_b8 e_b7 hrb hx0 t0 t1

theorem wp_store_at {P : Program} {K : Act → World → Prop} {o : Oper} {a : Act} {w : World} {Q : Exit → Act → World → Prop} (ty : TypeId) (x y : Operand) (ho : o.op = .store ty x y)
    (g off : Nat) (cells : Array Value) (hx : a.eval x = .pointer (some ⟨g, off, none⟩)) (hy : a.eval y = .agg cells)
    (t : TypeId) (old : Array Value) (hg : w.heap[g]? = some (.cells old t (0, 0))) (hi : (P.info? ty).map (·.size) = some cells.size)
    (hfit : off + cells.size ≤ old.size) (h1 : cells.all (·.oneCell') = true)
    (h : K (a.put o.dst undef) (w.setRow g (old.toList.take off ++ cells.toList ++ old.toList.drop (off + cells.size)).toArray)) : o.wp P a w K Q := by
  have hst := run_storeCells_at P g off t cells.toList 0 old w hg (by simpa using hfit) (fun v hv => (Array.all_eq_true_iff_forall_mem.1 h1) v (by simpa using hv))
  simp only [Nat.add_zero, Array.length_toList] at hst
  have hv : (storeVar ty ⟨g, off, none⟩ (.agg cells)).run P w = .ok () (w.setRow g (old.toList.take off ++ cells.toList ++ old.toList.drop (off + cells.size)).toArray) := by
    cases hq : P.info? ty with
    | none => simp [hq] at hi
    | some i =>
      have hs : cells.size = i.size := by simp [hq] at hi; omega
      rw [← hst]
      simp [storeVar, sizeOf, typeInfo, hq, Value.cells, hs]
  unfold Oper.wp execOp
  simp only [ho, hx, hy, Instr.storeAt, Instr.sureAddr, Sem.run_bind, Sem.run_pure, Result.andThen_ok, hv]
  exact h

set_option maxHeartbeats 2000000 in
theorem dStart (p : Br) (a : Ad) (base g : Nat) (b6 : Nat) (b7 : Nat) (rb ro c : Nat) (x0 x1 : Int)  (w : World) (h : BrIn base g w p a) (e_b6 : Whole w b6 65 #[.pointer (some ⟨g, 0, none⟩)]) (e_b7 : Whole w b7 115 #[.pointer (some ⟨g, 20, none⟩)]) (hrb : rb < w.heap.size) (hx0 : w.cell? ⟨rb, ro, none⟩ = some (.int .i64 x0)) (hx1 : w.cell? ⟨rb, ro + 1, none⟩ = some (.int .i64 x1))  :
    Calls Tryz.prog 103 #[.slice (some ⟨rb, ro, none⟩) 2 c, .pointer (some ⟨b6, 0, none⟩), .pointer (some ⟨b7, 0, none⟩)] w (StPost base g { p with rf := ⟨1, p.cf.f12, x0, 0, false, x1, 0⟩ } w) := by
  have H := Lib.hid h
  have HB0 : Hid (Below w.heap.size w w) := Lib.hid (Below.refl _ w)
  have q_b6 := e_b6.cell 0
  simp only [List.getElem?_toArray, List.getElem?_cons_zero] at q_b6
  have q_b7 := e_b7.cell 0
  simp only [List.getElem?_toArray, List.getElem?_cons_zero] at q_b7
  clear h
  go_enter Tryz.func103, Tryz.ntmps103
  have Q_b6 := Lib.hid q_b6
  have L_b6 := Lib.hid e_b6.lt
  clear q_b6
  have Q_b7 := Lib.hid q_b7
  have L_b7 := Lib.hid e_b7.lt
  clear q_b7
  have R0 := Lib.hid hx0
  have R1 := Lib.hid hx1
  have Lrb := Lib.hid hrb
  have HL : Hid (∀ V', Below w.heap.size w V' → V'.cell? ⟨b6, 0, none⟩ = some (.pointer (some ⟨g, 0, none⟩)) ∧ V'.cell? ⟨b7, 0, none⟩ = some (.pointer (some ⟨g, 20, none⟩)) ∧ V'.cell? ⟨rb, ro, none⟩ = some (.int .i64 x0) ∧ V'.cell? ⟨rb, ro + 1, none⟩ = some (.int .i64 x1) ∧ Whole V' g 30 (brC p a) ∧ V'.cell? ⟨g, 15, none⟩ = some (.int .i64 p.cf.f12)) := Lib.hid (fun V' hb => ⟨(hb.cell (p := ⟨b6, 0, none⟩) L_b6.out).trans Q_b6.out, (hb.cell (p := ⟨b7, 0, none⟩) L_b7.out).trans Q_b7.out, (hb.cell (p := ⟨rb, ro, none⟩) Lrb.out).trans R0.out, (hb.cell (p := ⟨rb, ro + 1, none⟩) Lrb.out).trans R1.out, H.out.box.under hb, (H.out.box.under hb).cell 15⟩)
  have HBd := Lib.hid (show Below w.heap.size w w.drew from below_drewB HB0.out 1)
  clear HB0
  refine wp_region_T (ls := [14]) (T := (fun V' => Below w.heap.size w V')) (by kernel_rfl) ?_
  refine kT 0 ?_ rfl ?_ HBd.out ?_
  rotate_left
  · intro V' hV; obtain ⟨y0, y1, y2, y3, y4, y5⟩ := HL.out V' hV; go_simp <;> with_reducible rfl
  simp only [Act.put, lA, lZ, lS]
  refine kT 1 ?_ rfl ?_ HBd.out ?_
  rotate_left
  · intro V' hV; obtain ⟨y0, y1, y2, y3, y4, y5⟩ := HL.out V' hV; go_simp <;> with_reducible rfl
  simp only [Act.put, lA, lZ, lS]
  refine kP 2 ?_ rfl ?_ (fun _ => HBd.out) ?_
  rotate_left
  · intro V'; go_simp <;> with_reducible rfl
  simp only [Act.put, lA, lZ, lS]
  refine kP 3 ?_ rfl ?_ (fun _ => HBd.out) ?_
  rotate_left
  · intro V'; go_simp <;> with_reducible rfl
  simp only [Act.put, lA, lZ, lS]
  refine kP 4 ?_ rfl ?_ (fun _ => HBd.out) ?_
  rotate_left
  · intro V'; go_simp <;> with_reducible rfl
  simp only [Act.put, lA, lZ, lS]
  refine kT 5 ?_ rfl ?_ HBd.out ?_
  rotate_left
  · intro V' hV; obtain ⟨y0, y1, y2, y3, y4, y5⟩ := HL.out V' hV; go_simp <;> with_reducible rfl
  simp only [Act.put, lA, lZ, lS]
  refine kP 6 ?_ rfl ?_ (fun _ => HBd.out) ?_
  rotate_left
  · intro V'; go_simp <;> with_reducible rfl
  simp only [Act.put, lA, lZ, lS]
  refine kP 7 ?_ rfl ?_ (fun _ => HBd.out) ?_
  rotate_left
  · intro V'; go_simp <;> with_reducible rfl
  simp only [Act.put, lA, lZ, lS]
  refine kT 8 ?_ rfl ?_ HBd.out ?_
  rotate_left
  · intro V' hV; obtain ⟨y0, y1, y2, y3, y4, y5⟩ := HL.out V' hV; go_simp <;> with_reducible rfl
  simp only [Act.put, lA, lZ, lS]
  refine kP 9 ?_ rfl ?_ (fun _ => HBd.out) ?_
  rotate_left
  · intro V'; go_simp <;> with_reducible rfl
  simp only [Act.put, lA, lZ, lS]
  refine kP 10 ?_ rfl ?_ (fun _ => HBd.out) ?_
  rotate_left
  · intro V'; go_simp <;> with_reducible rfl
  simp only [Act.put, lA, lZ, lS]
  refine kT 11 ?_ rfl ?_ HBd.out ?_
  rotate_left
  · intro V' hV; obtain ⟨y0, y1, y2, y3, y4, y5⟩ := HL.out V' hV; go_simp <;> with_reducible rfl
  simp only [Act.put, lA, lZ, lS]
  refine kP 12 ?_ rfl ?_ (fun _ => HBd.out) ?_
  rotate_left
  · intro V'; go_simp <;> with_reducible rfl
  simp only [Act.put, lA, lZ, lS]
  refine oneT (i := 13) rfl (by kernel_rfl) (by rfl) (fun K hK => ?_)
  go_simp
  refine hK.out _ _ (fun _ => HBd.out) ?_
  clear hK K
  have hb0 := (H.out.under HBd.out).box
  have hz : BrIn base g (w.drew.setRow g ((brC p a).toList.take 20 ++ (Rf.cells ⟨1, p.cf.f12, x0, 0, false, x1, 0⟩).toList ++ (brC p a).toList.drop (20 + (Rf.cells ⟨1, p.cf.f12, x0, 0, false, x1, 0⟩).size)).toArray) { p with rf := ⟨1, p.cf.f12, x0, 0, false, x1, 0⟩ } a := by
    have hbox := setRow_heap w.drew g _ ((brC p a).toList.take 20 ++ (Rf.cells ⟨1, p.cf.f12, x0, 0, false, x1, 0⟩).toList ++ (brC p a).toList.drop (20 + (Rf.cells ⟨1, p.cf.f12, x0, 0, false, x1, 0⟩).size)).toArray _ _ hb0
    have ho := (H.out.under HBd.out).own.rowset hb0 (by decide) (by decide) (by decide) ((brC p a).toList.take 20 ++ (Rf.cells ⟨1, p.cf.f12, x0, 0, false, x1, 0⟩).toList ++ (brC p a).toList.drop (20 + (Rf.cells ⟨1, p.cf.f12, x0, 0, false, x1, 0⟩).size)).toArray
    exact ⟨hbox, ⟨ho.ms, ho.its, ho.kps⟩, H.out.ge⟩
  have hs := (Stp.of_below HBd.out (Nat.le_trans H.out.ge (Nat.le_of_lt H.out.lt))).trans (Stp.row hb0 (by decide) H.out.ge ((brC p a).toList.take 20 ++ (Rf.cells ⟨1, p.cf.f12, x0, 0, false, x1, 0⟩).toList ++ (brC p a).toList.drop (20 + (Rf.cells ⟨1, p.cf.f12, x0, 0, false, x1, 0⟩).size)).toArray (by rfl))
  have HZ := Lib.hid hz
  have HS := Lib.hid hs
  have HX := Lib.hid hb0
  clear hz hs hb0
  refine oneL (i := 14) (by kernel_rfl) rfl (by kernel_rfl) (by rfl) (fun K hK => ?_)
  refine wp_store_at 28 _ _ rfl g 20 (Rf.cells ⟨1, p.cf.f12, x0, 0, false, x1, 0⟩) (by rfl) (by rfl) 30 _ HX.out (by kernel_rfl) (by simp) (by simp [Value.oneCell']) ?_
  simp only [Act.put]
  refine hK.out _ _ ?_
  clear hK K
  refine doneT (by kernel_rfl) ?_ _
  go_wp2_with fail
  go_end0
  exact ⟨rfl, HS.out, a, HZ.out⟩

set_option maxHeartbeats 2000000 in
theorem dCancel (p : Br) (a : Ad) (base g : Nat) (b7 : Nat) (A : Option Addr) (n c : Nat)  (w : World) (h : BrIn base g w p a) (e_b7 : Whole w b7 115 #[.pointer (some ⟨g, 20, none⟩)])   :
    Calls Tryz.prog 104 #[.slice A n c, .pointer (some ⟨b7, 0, none⟩)] w (StPost base g { p with rf := { p.rf with st := 3, paused := false } } w) := by
  have H := Lib.hid h
  have HB0 : Hid (Below w.heap.size w w) := Lib.hid (Below.refl _ w)
  have HC := Lib.hid (end_any p a 3 base g w h)
  have q_b7 := e_b7.cell 0
  simp only [List.getElem?_toArray, List.getElem?_cons_zero] at q_b7
  clear h
  go_enter Tryz.func104, Tryz.ntmps104
  go_wp2_with fail
  refine HC.out.mono ?_
  rintro e w1 ⟨rfl, hs, a1, h1⟩
  have HS := Lib.hid hs
  have H1 := Lib.hid h1
  clear hs h1
  go_wp2_with fail
  go_end0
  exact ⟨rfl, HS.out, a1, H1.out⟩

set_option maxHeartbeats 2000000 in
theorem dRoll (p : Br) (a : Ad) (base g : Nat) (b7 : Nat) (A : Option Addr) (n c : Nat)  (w : World) (h : BrIn base g w p a) (e_b7 : Whole w b7 115 #[.pointer (some ⟨g, 20, none⟩)])   :
    Calls Tryz.prog 106 #[.slice A n c, .pointer (some ⟨b7, 0, none⟩)] w (StPost base g { p with rf := { p.rf with to_ := p.rf.fr } } w) := by
  have H := Lib.hid h
  have HB0 : Hid (Below w.heap.size w w) := Lib.hid (Below.refl _ w)
  have q_b7 := e_b7.cell 0
  simp only [List.getElem?_toArray, List.getElem?_cons_zero] at q_b7
  clear h
  go_enter Tryz.func106, Tryz.ntmps106
  have Q_b7 := Lib.hid q_b7
  have L_b7 := Lib.hid e_b7.lt
  clear q_b7
  have HL : Hid (∀ V', Below w.heap.size w V' → V'.cell? ⟨b7, 0, none⟩ = some (.pointer (some ⟨g, 20, none⟩)) ∧ Whole V' g 30 (brC p a) ∧ V'.cell? ⟨g, 21, none⟩ = some (.int .i64 p.rf.fr)) := Lib.hid (fun V' hb => ⟨(hb.cell (p := ⟨b7, 0, none⟩) L_b7.out).trans Q_b7.out, H.out.box.under hb, (H.out.box.under hb).cell 21⟩)
  have HBd := Lib.hid (show Below w.heap.size w w.drew from below_drewB HB0.out 1)
  clear HB0
  refine wp_region_T (ls := [7]) (T := (fun V' => Below w.heap.size w V')) (by kernel_rfl) ?_
  refine kT 0 ?_ rfl ?_ HBd.out ?_
  rotate_left
  · intro V' hV; obtain ⟨y0, y1, y2⟩ := HL.out V' hV; go_simp <;> with_reducible rfl
  simp only [Act.put, lA, lZ, lS]
  refine kT 1 ?_ rfl ?_ HBd.out ?_
  rotate_left
  · intro V' hV; obtain ⟨y0, y1, y2⟩ := HL.out V' hV; go_simp <;> with_reducible rfl
  simp only [Act.put, lA, lZ, lS]
  refine kP 2 ?_ rfl ?_ (fun _ => HBd.out) ?_
  rotate_left
  · intro V'; go_simp <;> with_reducible rfl
  simp only [Act.put, lA, lZ, lS]
  refine kP 3 ?_ rfl ?_ (fun _ => HBd.out) ?_
  rotate_left
  · intro V'; go_simp <;> with_reducible rfl
  simp only [Act.put, lA, lZ, lS]
  refine kT 4 ?_ rfl ?_ HBd.out ?_
  rotate_left
  · intro V' hV; obtain ⟨y0, y1, y2⟩ := HL.out V' hV; go_simp <;> with_reducible rfl
  simp only [Act.put, lA, lZ, lS]
  refine oneT (i := 5) rfl (by kernel_rfl) (by rfl) (fun K hK => ?_)
  go_simp
  refine hK.out _ _ (fun _ => HBd.out) ?_
  clear hK K
  refine oneT (i := 6) rfl (by kernel_rfl) (by rfl) (fun K hK => ?_)
  go_simp
  refine hK.out _ _ (fun _ => HBd.out) ?_
  clear hK K
  have hs0 := Stp.set (H.out.under HBd.out).box (by decide) H.out.ge 22 (.int .i64 p.rf.fr)
  have hz0 := (H.out.under HBd.out).set (p' := { p with rf := { p.rf with to_ := p.rf.fr } }) 22 (.int .i64 p.rf.fr) rfl rfl rfl rfl
  have f_ := (H.out.under HBd.out).box.frozen 22
  obtain ⟨c0, c1, c2, c3, c4, c5, c6, c7, c8, c9, c10, c11, c12, c13, c14, c15, c16, c17, c18, c19, c20, c21, c22, c23, c24, c25, c26⟩ := cells27 (H.out.under HBd.out).box
  clear c0 c1 c2 c3 c4 c5 c6 c7 c8 c9 c10 c11 c12 c13 c14 c15 c16 c17 c18 c19 c20 c21 c23 c24 c25 c26
  refine oneL (i := 7) (by kernel_rfl) rfl (by kernel_rfl) (by rfl) (fun K hK => ?_)
  go_simp
  refine hK.out _ _ ?_
  clear hK K f_ c22
  refine doneT (by kernel_rfl) ?_ _
  have HS := Lib.hid ((Stp.of_below HBd.out (Nat.le_trans H.out.ge (Nat.le_of_lt H.out.lt))).trans hs0)
  have HZ := Lib.hid hz0
  clear hs0 hz0
  go_wp2_with fail
  go_end0
  exact ⟨rfl, HS.out, a, HZ.out⟩

set_option maxHeartbeats 2000000 in
theorem fPause_false (p : Br) (a : Ad) (base g : Nat) (b8 : Nat) (b7 : Nat) (A : Option Addr) (n c : Nat)  (w : World) (h : BrIn base g w p a) (e_b8 : Whole w b8 56 #[.func (.func 99) #[] #[.pointer (some ⟨b7, 0, none⟩)]]) (e_b7 : Whole w b7 115 #[.pointer (some ⟨g, 20, none⟩)])  (q0 : (p.rf.st == 1) = false) :
    Calls Tryz.prog 107 #[.slice A n c, .pointer (some ⟨b8, 0, none⟩), .pointer (some ⟨b7, 0, none⟩)] w (BoolPost false w) := by
  have H := Lib.hid h
  have HB0 : Hid (Below w.heap.size w w) := Lib.hid (Below.refl _ w)
  have HC := Lib.hid (active_any p a base g b7 A n c w h e_b7)
  rw [q0] at HC
  have L7 := Lib.hid e_b7.lt
  have q_b8 := e_b8.cell 0
  simp only [List.getElem?_toArray, List.getElem?_cons_zero] at q_b8
  have q_b7 := e_b7.cell 0
  simp only [List.getElem?_toArray, List.getElem?_cons_zero] at q_b7
  clear h q0
  go_enter Tryz.func107, Tryz.ntmps107
  have Q7 := Lib.hid q_b7
  clear q_b7
  go_wp2_with fail
  refine HC.out.mono ?_
  rintro e w1 ⟨rfl, hb_⟩
  have HB1 := Lib.hid hb_
  clear hb_ HC
  go_wp2_with fail
  go_ret
  exact ⟨rfl, HB1.out⟩

set_option maxHeartbeats 2000000 in
theorem fPause_true (p : Br) (a : Ad) (base g : Nat) (b8 : Nat) (b7 : Nat) (A : Option Addr) (n c : Nat)  (w : World) (h : BrIn base g w p a) (e_b8 : Whole w b8 56 #[.func (.func 99) #[] #[.pointer (some ⟨b7, 0, none⟩)]]) (e_b7 : Whole w b7 115 #[.pointer (some ⟨g, 20, none⟩)])  (q0 : (p.rf.st == 1) = true) :
    Calls Tryz.prog 107 #[.slice A n c, .pointer (some ⟨b8, 0, none⟩), .pointer (some ⟨b7, 0, none⟩)] w (BoolPost (!p.rf.paused) w) := by
  have H := Lib.hid h
  have HB0 : Hid (Below w.heap.size w w) := Lib.hid (Below.refl _ w)
  have HC := Lib.hid (active_any p a base g b7 A n c w h e_b7)
  rw [q0] at HC
  have L7 := Lib.hid e_b7.lt
  have q_b8 := e_b8.cell 0
  simp only [List.getElem?_toArray, List.getElem?_cons_zero] at q_b8
  have q_b7 := e_b7.cell 0
  simp only [List.getElem?_toArray, List.getElem?_cons_zero] at q_b7
  clear h q0
  go_enter Tryz.func107, Tryz.ntmps107
  have Q7 := Lib.hid q_b7
  clear q_b7
  go_wp2_with fail
  refine HC.out.mono ?_
  rintro e w1 ⟨rfl, hb_⟩
  have q7 := (hb_.cell (p := ⟨b7, 0, none⟩) L7.out).trans Q7.out
  have q24 := (cells27 (H.out.under hb_).box).2.2.2.2.2.2.2.2.2.2.2.2.2.2.2.2.2.2.2.2.2.2.2.2.1
  have HB1 := Lib.hid hb_
  clear hb_ HC
  go_wp2_with fail
  go_ret
  exact ⟨rfl, HB1.out⟩

set_option maxHeartbeats 2000000 in
theorem fGo_false (p : Br) (a : Ad) (base g : Nat) (b8 : Nat) (b7 : Nat) (A : Option Addr) (n c : Nat)  (w : World) (h : BrIn base g w p a) (e_b8 : Whole w b8 56 #[.func (.func 99) #[] #[.pointer (some ⟨b7, 0, none⟩)]]) (e_b7 : Whole w b7 115 #[.pointer (some ⟨g, 20, none⟩)])  (q0 : (p.rf.st == 1) = false) :
    Calls Tryz.prog 109 #[.slice A n c, .pointer (some ⟨b8, 0, none⟩), .pointer (some ⟨b7, 0, none⟩)] w (BoolPost false w) := by
  have H := Lib.hid h
  have HB0 : Hid (Below w.heap.size w w) := Lib.hid (Below.refl _ w)
  have HC := Lib.hid (active_any p a base g b7 A n c w h e_b7)
  rw [q0] at HC
  have L7 := Lib.hid e_b7.lt
  have q_b8 := e_b8.cell 0
  simp only [List.getElem?_toArray, List.getElem?_cons_zero] at q_b8
  have q_b7 := e_b7.cell 0
  simp only [List.getElem?_toArray, List.getElem?_cons_zero] at q_b7
  clear h q0
  go_enter Tryz.func109, Tryz.ntmps109
  have Q7 := Lib.hid q_b7
  clear q_b7
  go_wp2_with fail
  refine HC.out.mono ?_
  rintro e w1 ⟨rfl, hb_⟩
  have HB1 := Lib.hid hb_
  clear hb_ HC
  go_wp2_with fail
  go_ret
  exact ⟨rfl, HB1.out⟩

set_option maxHeartbeats 2000000 in
theorem fGo_true (p : Br) (a : Ad) (base g : Nat) (b8 : Nat) (b7 : Nat) (A : Option Addr) (n c : Nat)  (w : World) (h : BrIn base g w p a) (e_b8 : Whole w b8 56 #[.func (.func 99) #[] #[.pointer (some ⟨b7, 0, none⟩)]]) (e_b7 : Whole w b7 115 #[.pointer (some ⟨g, 20, none⟩)])  (q0 : (p.rf.st == 1) = true) :
    Calls Tryz.prog 109 #[.slice A n c, .pointer (some ⟨b8, 0, none⟩), .pointer (some ⟨b7, 0, none⟩)] w (BoolPost p.rf.paused w) := by
  have H := Lib.hid h
  have HB0 : Hid (Below w.heap.size w w) := Lib.hid (Below.refl _ w)
  have HC := Lib.hid (active_any p a base g b7 A n c w h e_b7)
  rw [q0] at HC
  have L7 := Lib.hid e_b7.lt
  have q_b8 := e_b8.cell 0
  simp only [List.getElem?_toArray, List.getElem?_cons_zero] at q_b8
  have q_b7 := e_b7.cell 0
  simp only [List.getElem?_toArray, List.getElem?_cons_zero] at q_b7
  clear h q0
  go_enter Tryz.func109, Tryz.ntmps109
  have Q7 := Lib.hid q_b7
  clear q_b7
  go_wp2_with fail
  refine HC.out.mono ?_
  rintro e w1 ⟨rfl, hb_⟩
  have q7 := (hb_.cell (p := ⟨b7, 0, none⟩) L7.out).trans Q7.out
  have q24 := (cells27 (H.out.under hb_).box).2.2.2.2.2.2.2.2.2.2.2.2.2.2.2.2.2.2.2.2.2.2.2.2.1
  have HB1 := Lib.hid hb_
  clear hb_ HC
  go_wp2_with fail
  go_ret
  exact ⟨rfl, HB1.out⟩

set_option maxHeartbeats 2000000 in
theorem dPause (p : Br) (a : Ad) (base g : Nat) (b7 : Nat) (rb ro c : Nat) (x0 : Int)  (w : World) (h : BrIn base g w p a) (e_b7 : Whole w b7 115 #[.pointer (some ⟨g, 20, none⟩)]) (hrb : rb < base) (hx0 : w.cell? ⟨rb, ro, none⟩ = some (.int .i64 x0))  :
    Calls Tryz.prog 108 #[.slice (some ⟨rb, ro, none⟩) 1 c, .pointer (some ⟨b7, 0, none⟩)] w (StPost base g { p with rf := { p.rf with paused := true, since := x0 } } w) := by
  have H := Lib.hid h
  have HB0 : Hid (Below w.heap.size w w) := Lib.hid (Below.refl _ w)
  have E7 := Lib.hid e_b7
  have q_b7 := e_b7.cell 0
  simp only [List.getElem?_toArray, List.getElem?_cons_zero] at q_b7
  clear h
  go_enter Tryz.func108, Tryz.ntmps108
  have Q_b7 := Lib.hid q_b7
  clear q_b7
  have R0 := Lib.hid hx0
  have Lrb := Lib.hid hrb
  have hT : w.drew.cell? ⟨b7, 0, none⟩ = some (.pointer (some ⟨g, 20, none⟩)) ∧ w.drew.cell? ⟨rb, ro, none⟩ = some (.int .i64 x0) := ⟨Q_b7.out, R0.out⟩
  have HT := Lib.hid hT
  clear hT
  have HL : Hid (∀ V' : World, (V'.cell? ⟨b7, 0, none⟩ = some (.pointer (some ⟨g, 20, none⟩)) ∧ V'.cell? ⟨rb, ro, none⟩ = some (.int .i64 x0)) → (V'.cell? ⟨b7, 0, none⟩ = some (.pointer (some ⟨g, 20, none⟩)) ∧ V'.cell? ⟨rb, ro, none⟩ = some (.int .i64 x0))) := Lib.hid (fun _ h => h)
  clear HB0
  refine wp_region_T (ls := [10]) (T := (fun V' : World => V'.cell? ⟨b7, 0, none⟩ = some (.pointer (some ⟨g, 20, none⟩)) ∧ V'.cell? ⟨rb, ro, none⟩ = some (.int .i64 x0))) (by kernel_rfl) ?_
  refine kT 0 ?_ rfl ?_ HT.out ?_
  rotate_left
  · intro V' hV; obtain ⟨y0, y1⟩ := HL.out V' hV; go_simp <;> with_reducible rfl
  simp only [Act.put, lA, lZ, lS]
  refine kT 1 ?_ rfl ?_ HT.out ?_
  rotate_left
  · intro V' hV; obtain ⟨y0, y1⟩ := HL.out V' hV; go_simp <;> with_reducible rfl
  simp only [Act.put, lA, lZ, lS]
  refine kP 2 ?_ rfl ?_ (fun _ => HT.out) ?_
  rotate_left
  · intro V'; go_simp <;> with_reducible rfl
  simp only [Act.put, lA, lZ, lS]
  refine kP 3 ?_ rfl ?_ (fun _ => HT.out) ?_
  rotate_left
  · intro V'; go_simp <;> with_reducible rfl
  simp only [Act.put, lA, lZ, lS]
  refine kT 4 ?_ rfl ?_ HT.out ?_
  rotate_left
  · intro V' hV; obtain ⟨y0, y1⟩ := HL.out V' hV; go_simp <;> with_reducible rfl
  simp only [Act.put, lA, lZ, lS]
  refine oneT (i := 5) rfl (by kernel_rfl) (by rfl) (fun K hK => ?_)
  go_simp
  refine hK.out _ _ (fun _ => HT.out) ?_
  clear hK K
  refine oneT (i := 6) rfl (by kernel_rfl) (by rfl) (fun K hK => ?_)
  go_simp
  refine hK.out _ _ (fun _ => HT.out) ?_
  clear hK K
  have hs0 := Stp.set H.out.box (by decide) H.out.ge 24 (.bool true)
  have hz0 := H.out.set (p' := { p with rf := { p.rf with paused := true } }) 24 (.bool true) rfl rfl rfl rfl
  have f_ := H.out.box.frozen 24
  obtain ⟨c0, c1, c2, c3, c4, c5, c6, c7, c8, c9, c10, c11, c12, c13, c14, c15, c16, c17, c18, c19, c20, c21, c22, c23, c24, c25, c26⟩ := cells27 H.out.box
  clear c0 c1 c2 c3 c4 c5 c6 c7 c8 c9 c10 c11 c12 c13 c14 c15 c16 c17 c18 c19 c20 c21 c22 c23 c25 c26
  have hT2 : (w.setCell ⟨g, 24, none⟩ (.bool true)).cell? ⟨b7, 0, none⟩ = some (.pointer (some ⟨g, 20, none⟩)) ∧ (w.setCell ⟨g, 24, none⟩ (.bool true)).cell? ⟨rb, ro, none⟩ = some (.int .i64 x0) := ⟨(hs0.whole E7.out (by decide)).cell 0, (hs0.below.cell (p := ⟨rb, ro, none⟩) Lrb.out).trans R0.out⟩
  have HT2 := Lib.hid hT2
  have HS0 := Lib.hid hs0
  have HZ0 := Lib.hid hz0
  clear hT2 hs0 hz0
  refine oneT (i := 7) rfl (by kernel_rfl) (by rfl) (fun K hK => ?_)
  go_simp
  refine hK.out _ _ (fun _ => HT2.out) ?_
  clear hK K f_ c24 HT
  refine oneT (i := 8) rfl (by kernel_rfl) (by rfl) (fun K hK => ?_)
  go_simp
  refine hK.out _ _ (fun _ => HT2.out) ?_
  clear hK K
  refine oneT (i := 9) rfl (by kernel_rfl) (by rfl) (fun K hK => ?_)
  go_simp
  refine hK.out _ _ (fun _ => HT2.out) ?_
  clear hK K
  have hs1 := HS0.out.trans (Stp.set HZ0.out.box (by decide) H.out.ge 25 (.int .i64 x0))
  have hz1 := HZ0.out.set (p' := { p with rf := { p.rf with paused := true, since := x0 } }) 25 (.int .i64 x0) rfl rfl rfl rfl
  have HS := Lib.hid hs1
  have HZ := Lib.hid hz1
  clear hs1 hz1
  have f_ := H.out.box.frozen 25
  obtain ⟨c0, c1, c2, c3, c4, c5, c6, c7, c8, c9, c10, c11, c12, c13, c14, c15, c16, c17, c18, c19, c20, c21, c22, c23, c24, c25, c26⟩ := cells27 H.out.box
  clear c0 c1 c2 c3 c4 c5 c6 c7 c8 c9 c10 c11 c12 c13 c14 c15 c16 c17 c18 c19 c20 c21 c22 c23 c24 c26
  refine oneL (i := 10) (by kernel_rfl) rfl (by kernel_rfl) (by rfl) (fun K hK => ?_)
  go_simp
  refine hK.out _ _ ?_
  clear hK K f_ c25
  refine doneT (by kernel_rfl) ?_ _
  go_wp2_with fail
  go_end0
  exact ⟨rfl, ⟨below_drewB HS.out.below 1, HS.out.keeps, HS.out.brn⟩, a, HZ.out.under (below_drewB (Below.refl _ _) 1)⟩

set_option maxHeartbeats 2000000 in
theorem dGo (p : Br) (a : Ad) (base g : Nat) (b7 : Nat) (A : Option Addr) (n c : Nat)  (w : World) (h : BrIn base g w p a) (e_b7 : Whole w b7 115 #[.pointer (some ⟨g, 20, none⟩)])   :
    Calls Tryz.prog 110 #[.slice A n c, .pointer (some ⟨b7, 0, none⟩)] w (StPost base g { p with rf := { p.rf with paused := false, step := wrap64 (p.rf.step + 1) } } w) := by
  have H := Lib.hid h
  have HB0 : Hid (Below w.heap.size w w) := Lib.hid (Below.refl _ w)
  have E7 := Lib.hid e_b7
  obtain ⟨S, hS⟩ : ∃ S, wrap64 (p.rf.step + 1) = S := ⟨_, rfl⟩
  rw [hS]
  have hw : IntKind.i64.wrap (p.rf.step + 1) = S := by
    rw [← hS, IntKind.wrap_i64]
    first | rfl | (simp only [wrap64]; done) | (simp only [wrap64]; omega)
  clear hS
  have q_b7 := e_b7.cell 0
  simp only [List.getElem?_toArray, List.getElem?_cons_zero] at q_b7
  clear h
  go_enter Tryz.func110, Tryz.ntmps110
  have Q_b7 := Lib.hid q_b7
  clear q_b7
  have hT : w.drew.cell? ⟨b7, 0, none⟩ = some (.pointer (some ⟨g, 20, none⟩)) ∧ w.drew.cell? ⟨g, 23, none⟩ = some (.int .i64 p.rf.step) := ⟨Q_b7.out, H.out.box.cell 23⟩
  have HT := Lib.hid hT
  clear hT
  have HL : Hid (∀ V' : World, (V'.cell? ⟨b7, 0, none⟩ = some (.pointer (some ⟨g, 20, none⟩)) ∧ V'.cell? ⟨g, 23, none⟩ = some (.int .i64 p.rf.step)) → (V'.cell? ⟨b7, 0, none⟩ = some (.pointer (some ⟨g, 20, none⟩)) ∧ V'.cell? ⟨g, 23, none⟩ = some (.int .i64 p.rf.step))) := Lib.hid (fun _ h => h)
  clear HB0
  refine wp_region_T (ls := [12]) (T := (fun V' : World => V'.cell? ⟨b7, 0, none⟩ = some (.pointer (some ⟨g, 20, none⟩)) ∧ V'.cell? ⟨g, 23, none⟩ = some (.int .i64 p.rf.step))) (by kernel_rfl) ?_
  refine kT 0 ?_ rfl ?_ HT.out ?_
  rotate_left
  · intro V' hV; obtain ⟨y0, y1⟩ := HL.out V' hV; go_simp <;> with_reducible rfl
  simp only [Act.put, lA, lZ, lS]
  refine kT 1 ?_ rfl ?_ HT.out ?_
  rotate_left
  · intro V' hV; obtain ⟨y0, y1⟩ := HL.out V' hV; go_simp <;> with_reducible rfl
  simp only [Act.put, lA, lZ, lS]
  refine kT 2 ?_ rfl ?_ HT.out ?_
  rotate_left
  · intro V' hV; obtain ⟨y0, y1⟩ := HL.out V' hV; go_simp <;> with_reducible rfl
  simp only [Act.put, lA, lZ, lS]
  refine kP 3 ?_ rfl ?_ (fun _ => HT.out) ?_
  rotate_left
  · intro V'; go_simp <;> with_reducible rfl
  simp only [Act.put, lA, lZ, lS]
  refine kP 4 ?_ rfl ?_ (fun _ => HT.out) ?_
  rotate_left
  · intro V'; go_simp <;> with_reducible rfl
  simp only [Act.put, lA, lZ, lS]
  refine kT 5 ?_ rfl ?_ HT.out ?_
  rotate_left
  · intro V' hV; obtain ⟨y0, y1⟩ := HL.out V' hV; go_simp <;> with_reducible rfl
  simp only [Act.put, lA, lZ, lS]
  refine kP 6 ?_ rfl ?_ (fun _ => HT.out) ?_
  rotate_left
  · intro V'; go_simp <;> with_reducible rfl
  simp only [Act.put, lA, lZ, lS]
  refine oneT (i := 7) rfl (by kernel_rfl) (by rfl) (fun K hK => ?_)
  go_simp
  refine hK.out _ _ (fun _ => HT.out) ?_
  clear hK K
  refine oneT (i := 8) rfl (by kernel_rfl) (by rfl) (fun K hK => ?_)
  go_simp
  refine hK.out _ _ (fun _ => HT.out) ?_
  clear hK K
  have hs0 := Stp.set H.out.box (by decide) H.out.ge 24 (.bool false)
  have hz0 := H.out.set (p' := { p with rf := { p.rf with paused := false } }) 24 (.bool false) rfl rfl rfl rfl
  have f_ := H.out.box.frozen 24
  obtain ⟨c0, c1, c2, c3, c4, c5, c6, c7, c8, c9, c10, c11, c12, c13, c14, c15, c16, c17, c18, c19, c20, c21, c22, c23, c24, c25, c26⟩ := cells27 H.out.box
  clear c0 c1 c2 c3 c4 c5 c6 c7 c8 c9 c10 c11 c12 c13 c14 c15 c16 c17 c18 c19 c20 c21 c22 c23 c25 c26
  have hT2 : (w.setCell ⟨g, 24, none⟩ (.bool false)).cell? ⟨b7, 0, none⟩ = some (.pointer (some ⟨g, 20, none⟩)) ∧ (w.setCell ⟨g, 24, none⟩ (.bool false)).cell? ⟨g, 23, none⟩ = some (.int .i64 p.rf.step) := ⟨(hs0.whole E7.out (by decide)).cell 0, hz0.box.cell 23⟩
  have HT2 := Lib.hid hT2
  have HS0 := Lib.hid hs0
  have HZ0 := Lib.hid hz0
  clear hT2 hs0 hz0
  refine oneT (i := 9) rfl (by kernel_rfl) (by rfl) (fun K hK => ?_)
  go_simp
  refine hK.out _ _ (fun _ => HT2.out) ?_
  clear hK K f_ c24 HT
  refine oneT (i := 10) rfl (by kernel_rfl) (by rfl) (fun K hK => ?_)
  go_simp
  refine hK.out _ _ (fun _ => HT2.out) ?_
  clear hK K
  refine oneT (i := 11) rfl (by kernel_rfl) (by rfl) (fun K hK => ?_)
  go_simp
  refine hK.out _ _ (fun _ => HT2.out) ?_
  clear hK K
  have hs1 := HS0.out.trans (Stp.set HZ0.out.box (by decide) H.out.ge 23 (.int .i64 S))
  have hz1 := HZ0.out.set (p' := { p with rf := { p.rf with paused := false, step := S } }) 23 (.int .i64 S) rfl rfl rfl rfl
  have HS := Lib.hid hs1
  have HZ := Lib.hid hz1
  clear hs1 hz1
  have f_ := H.out.box.frozen 23
  obtain ⟨c0, c1, c2, c3, c4, c5, c6, c7, c8, c9, c10, c11, c12, c13, c14, c15, c16, c17, c18, c19, c20, c21, c22, c23, c24, c25, c26⟩ := cells27 H.out.box
  clear c0 c1 c2 c3 c4 c5 c6 c7 c8 c9 c10 c11 c12 c13 c14 c15 c16 c17 c18 c19 c20 c21 c22 c24 c25 c26
  refine oneL (i := 12) (by kernel_rfl) rfl (by kernel_rfl) (by rfl) (fun K hK => ?_)
  go_simp
  refine hK.out _ _ ?_
  clear hK K f_ c23
  refine doneT (by kernel_rfl) ?_ _
  go_wp2_with fail
  go_end0
  exact ⟨rfl, ⟨below_drewB HS.out.below 1, HS.out.keeps, HS.out.brn⟩, a, HZ.out.under (below_drewB (Below.refl _ _) 1)⟩

set_option maxHeartbeats 2000000 in
theorem dOver (p : Br) (a : Ad) (base g : Nat) (b7 : Nat) (b6 : Nat) (A : Option Addr) (n c : Nat)  (w : World) (h : BrIn base g w p a) (e_b7 : Whole w b7 115 #[.pointer (some ⟨g, 20, none⟩)]) (e_b6 : Whole w b6 65 #[.pointer (some ⟨g, 0, none⟩)])   :
    Calls Tryz.prog 111 #[.slice A n c, .pointer (some ⟨b7, 0, none⟩), .pointer (some ⟨b6, 0, none⟩)] w (StPost base g { p with rf := { p.rf with st := 2, paused := false }, cf := { p.cf with f12 := p.rf.to_ } } w) := by
  have H := Lib.hid h
  have HB0 : Hid (Below w.heap.size w w) := Lib.hid (Below.refl _ w)
  have HC := Lib.hid (end_any p a 2 base g w h)
  have HE6 := Lib.hid e_b6
  have HE7 := Lib.hid e_b7
  have q_b7 := e_b7.cell 0
  simp only [List.getElem?_toArray, List.getElem?_cons_zero] at q_b7
  have q_b6 := e_b6.cell 0
  simp only [List.getElem?_toArray, List.getElem?_cons_zero] at q_b6
  clear h
  go_enter Tryz.func111, Tryz.ntmps111
  go_wp2_with fail
  refine HC.out.mono ?_
  rintro e w1 ⟨rfl, hs, a1, h1⟩
  have HS := Lib.hid hs
  have H1 := Lib.hid h1
  have T6 := Lib.hid (hs.whole HE6.out (by decide))
  have T7 := Lib.hid (hs.whole HE7.out (by decide))
  clear hs h1 q_b6 q_b7 HC H HB0
  have HL : Hid (∀ V', Below w1.heap.size w1 V' → V'.cell? ⟨b7, 0, none⟩ = some (.pointer (some ⟨g, 20, none⟩)) ∧ V'.cell? ⟨b6, 0, none⟩ = some (.pointer (some ⟨g, 0, none⟩)) ∧ V'.cell? ⟨g, 22, none⟩ = some (.int .i64 p.rf.to_)) := Lib.hid (fun V' hb => ⟨(T7.out.under hb).cell 0, (T6.out.under hb).cell 0, (H1.out.box.under hb).cell 22⟩)
  have HBd := Lib.hid (show Below w1.heap.size w1 w1.drew from below_drewB (Below.refl _ w1) 1)
  go_wp2_with fail
  refine wp_region_T (ls := [8]) (T := (fun V' => Below w1.heap.size w1 V')) (by kernel_rfl) ?_
  refine kT 0 ?_ rfl ?_ HBd.out ?_
  rotate_left
  · intro V' hV; obtain ⟨y0, y1, y2⟩ := HL.out V' hV; go_simp <;> with_reducible rfl
  simp only [Act.put, lA, lZ, lS]
  refine kT 1 ?_ rfl ?_ HBd.out ?_
  rotate_left
  · intro V' hV; obtain ⟨y0, y1, y2⟩ := HL.out V' hV; go_simp <;> with_reducible rfl
  simp only [Act.put, lA, lZ, lS]
  refine kP 2 ?_ rfl ?_ (fun _ => HBd.out) ?_
  rotate_left
  · intro V'; go_simp <;> with_reducible rfl
  simp only [Act.put, lA, lZ, lS]
  refine kP 3 ?_ rfl ?_ (fun _ => HBd.out) ?_
  rotate_left
  · intro V'; go_simp <;> with_reducible rfl
  simp only [Act.put, lA, lZ, lS]
  refine kT 4 ?_ rfl ?_ HBd.out ?_
  rotate_left
  · intro V' hV; obtain ⟨y0, y1, y2⟩ := HL.out V' hV; go_simp <;> with_reducible rfl
  simp only [Act.put, lA, lZ, lS]
  refine oneT (i := 5) rfl (by kernel_rfl) (by rfl) (fun K hK => ?_)
  go_simp
  refine hK.out _ _ (fun _ => HBd.out) ?_
  clear hK K
  refine oneT (i := 6) rfl (by kernel_rfl) (by rfl) (fun K hK => ?_)
  go_simp
  refine hK.out _ _ (fun _ => HBd.out) ?_
  clear hK K
  refine oneT (i := 7) rfl (by kernel_rfl) (by rfl) (fun K hK => ?_)
  go_simp
  refine hK.out _ _ (fun _ => HBd.out) ?_
  clear hK K
  have hs0 := Stp.set (H1.out.under HBd.out).box (by decide) H1.out.ge 15 (.int .i64 p.rf.to_)
  have hz0 := (H1.out.under HBd.out).set (p' := { p with rf := { p.rf with st := 2, paused := false }, cf := { p.cf with f12 := p.rf.to_ } }) 15 (.int .i64 p.rf.to_) rfl rfl rfl rfl
  have f_ := (H1.out.under HBd.out).box.frozen 15
  obtain ⟨c0, c1, c2, c3, c4, c5, c6, c7, c8, c9, c10, c11, c12, c13, c14, c15, c16, c17, c18, c19, c20, c21, c22, c23, c24, c25, c26⟩ := cells27 (H1.out.under HBd.out).box
  clear c0 c1 c2 c3 c4 c5 c6 c7 c8 c9 c10 c11 c12 c13 c14 c16 c17 c18 c19 c20 c21 c22 c23 c24 c25 c26
  refine oneL (i := 8) (by kernel_rfl) rfl (by kernel_rfl) (by rfl) (fun K hK => ?_)
  go_simp
  refine hK.out _ _ ?_
  clear hK K f_ c15
  refine doneT (by kernel_rfl) ?_ _
  have HS2 := Lib.hid (HS.out.trans ((Stp.of_below HBd.out (Nat.le_trans H1.out.ge (Nat.le_of_lt H1.out.lt))).trans hs0))
  have HZ := Lib.hid hz0
  clear hs0 hz0
  go_wp2_with fail
  go_end0
  exact ⟨rfl, HS2.out, a1, HZ.out⟩

end Go.Proofs.YtdaimejlcfhfiaaGreatDoor
