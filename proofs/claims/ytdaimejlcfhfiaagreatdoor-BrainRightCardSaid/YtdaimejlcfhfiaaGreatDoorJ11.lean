/-
  Texts that the walks of the statements over logs lean on, joined (BrClo3, RecMany, BrFitP, BrDeeds, BrCopy). Conditions: those that each theorem names.
-/
import Derived.Test.YtdaimejlcfhfiaaGreatDoorJ0
import Derived.Test.YtdaimejlcfhfiaaGreatDoorJ1
import Derived.Test.YtdaimejlcfhfiaaGreatDoorJ9
import Derived.Test.YtdaimejlcfhfiaaGreatDoorJ10
import Derived.Maps.OwnOps
import Derived.Maps.OwnSet
import Derived.Laws.EntriesVeiled
import Derived.Lib.SlMapMerge
import Derived.Maps.Ext
import Derived.Maps.RangeWalk
import Derived.Laws.IdiomRangeMap

/-
  The walks of the closures that the deeds of epochs, of the group and of refreshes are made of. Conditions: those that each theorem names.
-/
namespace Go.Proofs.YtdaimejlcfhfiaaGreatDoor
open Go.RowKit Go.Shelf

set_option maxRecDepth 100000 in
set_option maxHeartbeats 2000000 in
theorem fBoot (p : Br) (a : Ad) (base g : Nat) (b1 : Nat) (A : Option Addr) (n c : Nat)  (w : World) (h : BrIn base g w p a) (e_b1 : Whole w b1 65 #[.pointer (some ⟨g, 0, none⟩)])   :
    Calls Tryz.prog 71 #[.slice A n c, .pointer (some ⟨b1, 0, none⟩)] w (BoolPost (decide (p.ep < 1099511627776)) w) := by
  have H := Lib.hid h
  have HB0 : Hid (Below w.heap.size w w) := Lib.hid (Below.refl _ w)
  have q0 := (cells27 h.box).1
  have q_b1 := e_b1.cell 0
  simp only [List.getElem?_toArray, List.getElem?_cons_zero] at q_b1
  clear h
  go_enter Tryz.func71, Tryz.ntmps71
  go_wp2_with fail
  go_ret
  exact ⟨rfl, HB0.out⟩

set_option maxRecDepth 100000 in
set_option maxHeartbeats 2000000 in
theorem dBoot (p : Br) (a : Ad) (base g : Nat) (b1 : Nat) (A : Option Addr) (n c : Nat)  (w : World) (h : BrIn base g w p a) (e_b1 : Whole w b1 65 #[.pointer (some ⟨g, 0, none⟩)])  (h1 : -9223372036854775808 ≤ p.ep) (h2 : p.ep < 1099511627776) :
    Calls Tryz.prog 72 #[.slice A n c, .pointer (some ⟨b1, 0, none⟩)] w (StPost base g { p with ep := p.ep + 1 } w) := by
  have H := Lib.hid h
  have HB0 : Hid (Below w.heap.size w w) := Lib.hid (Below.refl _ w)
  have q0 := (cells27 h.box).1
  have f0 := h.box.frozen 0
  have hwr : wrap64 (p.ep + 1) = p.ep + 1 := by simp only [wrap64]; omega
  have HS := Lib.hid (Stp.set h.box (by decide) h.ge 0 (.int .i64 (p.ep + 1)))
  have HZ := Lib.hid (h.set (p' := { p with ep := p.ep + 1 }) 0 (.int .i64 (p.ep + 1)) rfl rfl rfl rfl)
  have q_b1 := e_b1.cell 0
  simp only [List.getElem?_toArray, List.getElem?_cons_zero] at q_b1
  clear h
  go_enter Tryz.func72, Tryz.ntmps72
  go_wp2_with fail
  go_end0
  exact ⟨rfl, HS.out, a, HZ.out⟩

set_option maxRecDepth 100000 in
set_option maxHeartbeats 2000000 in
theorem dConf (p : Br) (a : Ad) (base g : Nat) (b1 : Nat) (A : Option Addr) (n c : Nat) (l : List Int) (B : Nat)  (w : World) (h : BrIn base g w p a) (e_b1 : Whole w b1 65 #[.pointer (some ⟨g, 0, none⟩)])  (hr : Rd w B A n (iv l)) (hB : B ≤ w.heap.size) (hc : n ≤ c) (hm : c ≤ maxLen) (hn : n ≤ 1000) (hT : Tab w) (hrow : isRow l = true) :
    Calls Tryz.prog 74 #[.slice A n c, .pointer (some ⟨b1, 0, none⟩)] w (StPost base g (confB p l) w) := by
  have H := Lib.hid h
  have HB0 : Hid (Below w.heap.size w w) := Lib.hid (Below.refl _ w)
  have HC := Lib.hid (regroup_any p a A n c l B base g w h hr hB hc hm hn hT hrow)
  have q_b1 := e_b1.cell 0
  simp only [List.getElem?_toArray, List.getElem?_cons_zero] at q_b1
  clear h hr hB hc hm hn hT hrow
  go_enter Tryz.func74, Tryz.ntmps74
  go_wp2_with fail
  refine HC.out.mono ?_
  rintro e w1 ⟨rfl, hs, a1, h1⟩
  have HS := Lib.hid hs
  have H1 := Lib.hid h1
  clear hs h1
  go_wp2_with fail
  go_end0
  exact ⟨rfl, HS.out, a1, H1.out⟩

/-- Whether a launch that is meant fits. -/
def intF (p : Br) (x0 x1 x2 : Int) : Bool := p.set && (decide (1 ≤ x0) && (decide (x1 < 4) && (decide (x2 < 2) && decide (p.sq < 1099511627776))))

set_option maxRecDepth 100000 in
set_option maxHeartbeats 2000000 in
theorem fIntent0 (p : Br) (a : Ad) (base g : Nat) (b1 : Nat) (rb ro c : Nat)  (w : World) (h : BrIn base g w p a) (e_b1 : Whole w b1 65 #[.pointer (some ⟨g, 0, none⟩)])    (t0 : p.set = false) :
    Calls Tryz.prog 76 #[.slice (some ⟨rb, ro, none⟩) 3 c, .pointer (some ⟨b1, 0, none⟩)] w (BoolPost false w) := by
  have H := Lib.hid h
  have HB0 : Hid (Below w.heap.size w w) := Lib.hid (Below.refl _ w)
  have q2 := (cells27 h.box).2.2.1
  have q1 := (cells27 h.box).2.1
  rw [t0] at q2
  have q_b1 := e_b1.cell 0
  simp only [List.getElem?_toArray, List.getElem?_cons_zero] at q_b1
  clear h t0
  go_enter Tryz.func76, Tryz.ntmps76
  go_wp2_with fail
  go_ret
  exact ⟨rfl, HB0.out⟩

set_option maxRecDepth 100000 in
set_option maxHeartbeats 2000000 in
theorem fIntent1 (p : Br) (a : Ad) (base g : Nat) (b1 : Nat) (rb ro c : Nat) (x0 : Int)  (w : World) (h : BrIn base g w p a) (e_b1 : Whole w b1 65 #[.pointer (some ⟨g, 0, none⟩)])  (hx0 : w.cell? ⟨rb, ro, none⟩ = some (.int .i64 x0)) (t0 : p.set = true) (t1 : decide (1 ≤ x0) = false) :
    Calls Tryz.prog 76 #[.slice (some ⟨rb, ro, none⟩) 3 c, .pointer (some ⟨b1, 0, none⟩)] w (BoolPost false w) := by
  have H := Lib.hid h
  have HB0 : Hid (Below w.heap.size w w) := Lib.hid (Below.refl _ w)
  have q2 := (cells27 h.box).2.2.1
  have q1 := (cells27 h.box).2.1
  rw [t0] at q2
  have q_b1 := e_b1.cell 0
  simp only [List.getElem?_toArray, List.getElem?_cons_zero] at q_b1
  clear h t0
  go_enter Tryz.func76, Tryz.ntmps76
  go_wp2_with fail
  go_ret
  exact ⟨rfl, HB0.out⟩

set_option maxRecDepth 100000 in
set_option maxHeartbeats 2000000 in
theorem fIntent2 (p : Br) (a : Ad) (base g : Nat) (b1 : Nat) (rb ro c : Nat) (x0 x1 : Int)  (w : World) (h : BrIn base g w p a) (e_b1 : Whole w b1 65 #[.pointer (some ⟨g, 0, none⟩)])  (hx0 : w.cell? ⟨rb, ro, none⟩ = some (.int .i64 x0)) (hx1 : w.cell? ⟨rb, ro + 1, none⟩ = some (.int .i64 x1)) (t0 : p.set = true) (t1 : decide (1 ≤ x0) = true) (t2 : decide (x1 < 4) = false) :
    Calls Tryz.prog 76 #[.slice (some ⟨rb, ro, none⟩) 3 c, .pointer (some ⟨b1, 0, none⟩)] w (BoolPost false w) := by
  have H := Lib.hid h
  have HB0 : Hid (Below w.heap.size w w) := Lib.hid (Below.refl _ w)
  have q2 := (cells27 h.box).2.2.1
  have q1 := (cells27 h.box).2.1
  rw [t0] at q2
  have q_b1 := e_b1.cell 0
  simp only [List.getElem?_toArray, List.getElem?_cons_zero] at q_b1
  clear h t0
  go_enter Tryz.func76, Tryz.ntmps76
  go_wp2_with fail
  go_ret
  exact ⟨rfl, HB0.out⟩

set_option maxRecDepth 100000 in
set_option maxHeartbeats 2000000 in
theorem fIntent3 (p : Br) (a : Ad) (base g : Nat) (b1 : Nat) (rb ro c : Nat) (x0 x1 x2 : Int)  (w : World) (h : BrIn base g w p a) (e_b1 : Whole w b1 65 #[.pointer (some ⟨g, 0, none⟩)])  (hx0 : w.cell? ⟨rb, ro, none⟩ = some (.int .i64 x0)) (hx1 : w.cell? ⟨rb, ro + 1, none⟩ = some (.int .i64 x1)) (hx2 : w.cell? ⟨rb, ro + 2, none⟩ = some (.int .i64 x2)) (t0 : p.set = true) (t1 : decide (1 ≤ x0) = true) (t2 : decide (x1 < 4) = true) (t3 : decide (x2 < 2) = false) :
    Calls Tryz.prog 76 #[.slice (some ⟨rb, ro, none⟩) 3 c, .pointer (some ⟨b1, 0, none⟩)] w (BoolPost false w) := by
  have H := Lib.hid h
  have HB0 : Hid (Below w.heap.size w w) := Lib.hid (Below.refl _ w)
  have q2 := (cells27 h.box).2.2.1
  have q1 := (cells27 h.box).2.1
  rw [t0] at q2
  have q_b1 := e_b1.cell 0
  simp only [List.getElem?_toArray, List.getElem?_cons_zero] at q_b1
  clear h t0
  go_enter Tryz.func76, Tryz.ntmps76
  go_wp2_with fail
  go_ret
  exact ⟨rfl, HB0.out⟩

set_option maxRecDepth 100000 in
set_option maxHeartbeats 2000000 in
theorem fIntent4 (p : Br) (a : Ad) (base g : Nat) (b1 : Nat) (rb ro c : Nat) (x0 x1 x2 : Int)  (w : World) (h : BrIn base g w p a) (e_b1 : Whole w b1 65 #[.pointer (some ⟨g, 0, none⟩)])  (hx0 : w.cell? ⟨rb, ro, none⟩ = some (.int .i64 x0)) (hx1 : w.cell? ⟨rb, ro + 1, none⟩ = some (.int .i64 x1)) (hx2 : w.cell? ⟨rb, ro + 2, none⟩ = some (.int .i64 x2)) (t0 : p.set = true) (t1 : decide (1 ≤ x0) = true) (t2 : decide (x1 < 4) = true) (t3 : decide (x2 < 2) = true) :
    Calls Tryz.prog 76 #[.slice (some ⟨rb, ro, none⟩) 3 c, .pointer (some ⟨b1, 0, none⟩)] w (BoolPost (decide (p.sq < 1099511627776)) w) := by
  have H := Lib.hid h
  have HB0 : Hid (Below w.heap.size w w) := Lib.hid (Below.refl _ w)
  have q2 := (cells27 h.box).2.2.1
  have q1 := (cells27 h.box).2.1
  rw [t0] at q2
  have q_b1 := e_b1.cell 0
  simp only [List.getElem?_toArray, List.getElem?_cons_zero] at q_b1
  clear h t0
  go_enter Tryz.func76, Tryz.ntmps76
  go_wp2_with fail
  go_ret
  exact ⟨rfl, HB0.out⟩

theorem fIntent_any (p : Br) (a : Ad) (base g b1 rb ro c : Nat) (x0 x1 x2 : Int) (w : World) (h : BrIn base g w p a) (e_b1 : Whole w b1 65 #[.pointer (some ⟨g, 0, none⟩)]) (hx0 : w.cell? ⟨rb, ro, none⟩ = some (.int .i64 x0)) (hx1 : w.cell? ⟨rb, ro + 1, none⟩ = some (.int .i64 x1)) (hx2 : w.cell? ⟨rb, ro + 2, none⟩ = some (.int .i64 x2)) :
    Calls Tryz.prog 76 #[.slice (some ⟨rb, ro, none⟩) 3 c, .pointer (some ⟨b1, 0, none⟩)] w (BoolPost (intF p x0 x1 x2) w) := by
  unfold intF
  cases t0 : p.set with
  | false => exact fIntent0 p a base g b1 rb ro c w h e_b1 t0
  | true =>
  rw [Bool.true_and]
  cases t1 : decide (1 ≤ x0) with
  | false => exact fIntent1 p a base g b1 rb ro c x0 w h e_b1 hx0 t0 t1
  | true =>
  rw [Bool.true_and]
  cases t2 : decide (x1 < 4) with
  | false => exact fIntent2 p a base g b1 rb ro c x0 x1 w h e_b1 hx0 hx1 t0 t1 t2
  | true =>
  rw [Bool.true_and]
  cases t3 : decide (x2 < 2) with
  | false => exact fIntent3 p a base g b1 rb ro c x0 x1 x2 w h e_b1 hx0 hx1 hx2 t0 t1 t2 t3
  | true =>
  rw [Bool.true_and]
  exact fIntent4 p a base g b1 rb ro c x0 x1 x2 w h e_b1 hx0 hx1 hx2 t0 t1 t2 t3

set_option maxRecDepth 100000 in
set_option maxHeartbeats 2000000 in
theorem dIntent (p : Br) (a : Ad) (base g : Nat) (b1 : Nat) (rb ro c : Nat) (x0 x1 x2 : Int)  (w : World) (h : BrIn base g w p a) (e_b1 : Whole w b1 65 #[.pointer (some ⟨g, 0, none⟩)]) (hrb : rb < w.heap.size) (hx0 : w.cell? ⟨rb, ro, none⟩ = some (.int .i64 x0)) (hx1 : w.cell? ⟨rb, ro + 1, none⟩ = some (.int .i64 x1)) (hx2 : w.cell? ⟨rb, ro + 2, none⟩ = some (.int .i64 x2)) (h1 : -9223372036854775808 ≤ p.sq) (h2 : p.sq < 1099511627776) (hn : p.its.length ≤ 1000) :
    Calls Tryz.prog 77 #[.slice (some ⟨rb, ro, none⟩) 3 c, .pointer (some ⟨b1, 0, none⟩)] w (StPost base g { p with sq := p.sq + 1, its := p.its ++ [⟨p.sq + 1, x0, x1, (x2 == 1)⟩] } w) := by
  have H := Lib.hid h
  have HB0 : Hid (Below w.heap.size w w) := Lib.hid (Below.refl _ w)
  have q_b1 := e_b1.cell 0
  simp only [List.getElem?_toArray, List.getElem?_cons_zero] at q_b1
  clear h
  go_enter Tryz.func77, Tryz.ntmps77
  have Q_b1 := Lib.hid q_b1
  have L_b1 := Lib.hid e_b1.lt
  clear q_b1
  have R0 := Lib.hid hx0
  have R1 := Lib.hid hx1
  have R2 := Lib.hid hx2
  have Lrb := Lib.hid hrb
  have HL : Hid (∀ V', Below w.heap.size w V' → V'.cell? ⟨b1, 0, none⟩ = some (.pointer (some ⟨g, 0, none⟩)) ∧ V'.cell? ⟨rb, ro, none⟩ = some (.int .i64 x0) ∧ V'.cell? ⟨rb, ro + 1, none⟩ = some (.int .i64 x1) ∧ V'.cell? ⟨rb, ro + 2, none⟩ = some (.int .i64 x2) ∧ Whole V' g 30 (brC p a)) := Lib.hid (fun V' hb => ⟨(hb.cell (p := ⟨b1, 0, none⟩) L_b1.out).trans Q_b1.out, (hb.cell (p := ⟨rb, ro, none⟩) Lrb.out).trans R0.out, (hb.cell (p := ⟨rb, ro + 1, none⟩) Lrb.out).trans R1.out, (hb.cell (p := ⟨rb, ro + 2, none⟩) Lrb.out).trans R2.out, H.out.box.under hb⟩)
  have HBd := Lib.hid (show Below w.heap.size w w.drew from below_drewB HB0.out 1)
  clear HB0
  refine wp_region_T (ls := [12]) (T := (fun V' => Below w.heap.size w V')) (by kernel_rfl) ?_
  refine takeT (i := 0) (v := ?_) rfl (by kernel_rfl) (by kernel_rfl) (by kernel_rfl) (by kernel_rfl) (fun _ _ _ h => h) (by rfl) ?_ HBd.out ?_
  rotate_left
  · intro V' hV; obtain ⟨y0, y1, y2, y3, y4⟩ := HL.out V' hV; go_simp <;> with_reducible rfl
  simp only [Act.put, List.setIfInBounds_toArray, List.set_cons_zero, List.set_cons_succ]
  refine takeP (i := 1) (v := ?_) rfl (by kernel_rfl) (by kernel_rfl) (by kernel_rfl) (by kernel_rfl) (fun _ _ _ h => h) (by rfl) ?_ (fun _ => HBd.out) ?_
  rotate_left
  · intro V'; go_simp <;> with_reducible rfl
  simp only [Act.put, List.setIfInBounds_toArray, List.set_cons_zero, List.set_cons_succ]
  refine takeP (i := 2) (v := ?_) rfl (by kernel_rfl) (by kernel_rfl) (by kernel_rfl) (by kernel_rfl) (fun _ _ _ h => h) (by rfl) ?_ (fun _ => HBd.out) ?_
  rotate_left
  · intro V'; go_simp <;> with_reducible rfl
  simp only [Act.put, List.setIfInBounds_toArray, List.set_cons_zero, List.set_cons_succ]
  refine takeT (i := 3) (v := ?_) rfl (by kernel_rfl) (by kernel_rfl) (by kernel_rfl) (by kernel_rfl) (fun _ _ _ h => h) (by rfl) ?_ HBd.out ?_
  rotate_left
  · intro V' hV; obtain ⟨y0, y1, y2, y3, y4⟩ := HL.out V' hV; go_simp <;> with_reducible rfl
  simp only [Act.put, List.setIfInBounds_toArray, List.set_cons_zero, List.set_cons_succ]
  refine takeP (i := 4) (v := ?_) rfl (by kernel_rfl) (by kernel_rfl) (by kernel_rfl) (by kernel_rfl) (fun _ _ _ h => h) (by rfl) ?_ (fun _ => HBd.out) ?_
  rotate_left
  · intro V'; go_simp <;> with_reducible rfl
  simp only [Act.put, List.setIfInBounds_toArray, List.set_cons_zero, List.set_cons_succ]
  refine takeP (i := 5) (v := ?_) rfl (by kernel_rfl) (by kernel_rfl) (by kernel_rfl) (by kernel_rfl) (fun _ _ _ h => h) (by rfl) ?_ (fun _ => HBd.out) ?_
  rotate_left
  · intro V'; go_simp <;> with_reducible rfl
  simp only [Act.put, List.setIfInBounds_toArray, List.set_cons_zero, List.set_cons_succ]
  refine takeT (i := 6) (v := ?_) rfl (by kernel_rfl) (by kernel_rfl) (by kernel_rfl) (by kernel_rfl) (fun _ _ _ h => h) (by rfl) ?_ HBd.out ?_
  rotate_left
  · intro V' hV; obtain ⟨y0, y1, y2, y3, y4⟩ := HL.out V' hV; go_simp <;> with_reducible rfl
  simp only [Act.put, List.setIfInBounds_toArray, List.set_cons_zero, List.set_cons_succ]
  refine takeP (i := 7) (v := ?_) rfl (by kernel_rfl) (by kernel_rfl) (by kernel_rfl) (by kernel_rfl) (fun _ _ _ h => h) (by rfl) ?_ (fun _ => HBd.out) ?_
  rotate_left
  · intro V'; go_simp <;> with_reducible rfl
  simp only [Act.put, List.setIfInBounds_toArray, List.set_cons_zero, List.set_cons_succ]
  refine takeP (i := 8) (v := ?_) rfl (by kernel_rfl) (by kernel_rfl) (by kernel_rfl) (by kernel_rfl) (fun _ _ _ h => h) (by rfl) ?_ (fun _ => HBd.out) ?_
  rotate_left
  · intro V'; go_simp <;> with_reducible rfl
  simp only [Act.put, List.setIfInBounds_toArray, List.set_cons_zero, List.set_cons_succ]
  refine takeT (i := 9) (v := ?_) rfl (by kernel_rfl) (by kernel_rfl) (by kernel_rfl) (by kernel_rfl) (fun _ _ _ h => h) (by rfl) ?_ HBd.out ?_
  rotate_left
  · intro V' hV; obtain ⟨y0, y1, y2, y3, y4⟩ := HL.out V' hV; go_simp <;> with_reducible rfl
  simp only [Act.put, List.setIfInBounds_toArray, List.set_cons_zero, List.set_cons_succ]
  refine takeP (i := 10) (v := ?_) rfl (by kernel_rfl) (by kernel_rfl) (by kernel_rfl) (by kernel_rfl) (fun _ _ _ h => h) (by rfl) ?_ (fun _ => HBd.out) ?_
  rotate_left
  · intro V'; go_simp <;> with_reducible rfl
  simp only [Act.put, List.setIfInBounds_toArray, List.set_cons_zero, List.set_cons_succ]
  refine takeP (i := 11) (v := ?_) rfl (by kernel_rfl) (by kernel_rfl) (by kernel_rfl) (by kernel_rfl) (fun _ _ _ h => h) (by rfl) ?_ (fun _ => HBd.out) ?_
  rotate_left
  · intro V'; go_simp <;> with_reducible rfl
  simp only [Act.put, List.setIfInBounds_toArray, List.set_cons_zero, List.set_cons_succ]
  refine oneT (i := 12) rfl (by kernel_rfl) (by rfl) (fun K hK => ?_)
  go_simp
  refine (mean_any p a ⟨0, x0, x1, (x2 == 1)⟩ base g w.drew (H.out.under HBd.out) h1 h2 hn).mono ?_
  rintro e wl ⟨rfl, hs, al, hal⟩
  have HS := Lib.hid ((Stp.of_below HBd.out (Nat.le_trans H.out.ge (Nat.le_of_lt H.out.lt))).trans hs)
  have HAL := Lib.hid hal
  clear hs hal
  refine hK.out _ _ (fun h => absurd h (by decide)) ?_
  clear hK K
  refine doneT (by kernel_rfl) ?_ _
  go_wp2_with fail
  go_end0
  exact ⟨rfl, HS.out, al, HAL.out⟩

set_option maxRecDepth 100000 in
set_option maxHeartbeats 2000000 in
theorem dFail (p : Br) (a : Ad) (base g : Nat) (b7 : Nat) (b6 : Nat) (A : Option Addr) (n c : Nat)  (w : World) (h : BrIn base g w p a) (e_b7 : Whole w b7 115 #[.pointer (some ⟨g, 20, none⟩)]) (e_b6 : Whole w b6 65 #[.pointer (some ⟨g, 0, none⟩)])   :
    Calls Tryz.prog 100 #[.slice A n c, .pointer (some ⟨b7, 0, none⟩), .pointer (some ⟨b6, 0, none⟩)] w (StPost base g { p with rf := failR p.rf p.cf.f10 } w) := by
  have H := Lib.hid h
  have HB0 : Hid (Below w.heap.size w w) := Lib.hid (Below.refl _ w)
  have q_b7 := e_b7.cell 0
  simp only [List.getElem?_toArray, List.getElem?_cons_zero] at q_b7
  have q_b6 := e_b6.cell 0
  simp only [List.getElem?_toArray, List.getElem?_cons_zero] at q_b6
  clear h
  go_enter Tryz.func100, Tryz.ntmps100
  have Q_b7 := Lib.hid q_b7
  have L_b7 := Lib.hid e_b7.lt
  clear q_b7
  have Q_b6 := Lib.hid q_b6
  have L_b6 := Lib.hid e_b6.lt
  clear q_b6
  have HL : Hid (∀ V', Below w.heap.size w V' → V'.cell? ⟨b7, 0, none⟩ = some (.pointer (some ⟨g, 20, none⟩)) ∧ V'.cell? ⟨b6, 0, none⟩ = some (.pointer (some ⟨g, 0, none⟩)) ∧ Whole V' g 30 (brC p a) ∧ V'.cell? ⟨g, 13, none⟩ = some (.int .i64 p.cf.f10)) := Lib.hid (fun V' hb => ⟨(hb.cell (p := ⟨b7, 0, none⟩) L_b7.out).trans Q_b7.out, (hb.cell (p := ⟨b6, 0, none⟩) L_b6.out).trans Q_b6.out, H.out.box.under hb, (H.out.box.under hb).cell 13⟩)
  have HBd := Lib.hid (show Below w.heap.size w w.drew from below_drewB HB0.out 1)
  clear HB0
  refine wp_region_T (ls := [6]) (T := (fun V' => Below w.heap.size w V')) (by kernel_rfl) ?_
  refine takeT (i := 0) (v := ?_) rfl (by kernel_rfl) (by kernel_rfl) (by kernel_rfl) (by kernel_rfl) (fun _ _ _ h => h) (by rfl) ?_ HBd.out ?_
  rotate_left
  · intro V' hV; obtain ⟨y0, y1, y2, y3⟩ := HL.out V' hV; go_simp <;> with_reducible rfl
  simp only [Act.put, List.setIfInBounds_toArray, List.set_cons_zero, List.set_cons_succ]
  refine takeT (i := 1) (v := ?_) rfl (by kernel_rfl) (by kernel_rfl) (by kernel_rfl) (by kernel_rfl) (fun _ _ _ h => h) (by rfl) ?_ HBd.out ?_
  rotate_left
  · intro V' hV; obtain ⟨y0, y1, y2, y3⟩ := HL.out V' hV; go_simp <;> with_reducible rfl
  simp only [Act.put, List.setIfInBounds_toArray, List.set_cons_zero, List.set_cons_succ]
  refine takeP (i := 2) (v := ?_) rfl (by kernel_rfl) (by kernel_rfl) (by kernel_rfl) (by kernel_rfl) (fun _ _ _ h => h) (by rfl) ?_ (fun _ => HBd.out) ?_
  rotate_left
  · intro V'; go_simp <;> with_reducible rfl
  simp only [Act.put, List.setIfInBounds_toArray, List.set_cons_zero, List.set_cons_succ]
  refine takeP (i := 3) (v := ?_) rfl (by kernel_rfl) (by kernel_rfl) (by kernel_rfl) (by kernel_rfl) (fun _ _ _ h => h) (by rfl) ?_ (fun _ => HBd.out) ?_
  rotate_left
  · intro V'; go_simp <;> with_reducible rfl
  simp only [Act.put, List.setIfInBounds_toArray, List.set_cons_zero, List.set_cons_succ]
  refine takeP (i := 4) (v := ?_) rfl (by kernel_rfl) (by kernel_rfl) (by kernel_rfl) (by kernel_rfl) (fun _ _ _ h => h) (by rfl) ?_ (fun _ => HBd.out) ?_
  rotate_left
  · intro V'; go_simp <;> with_reducible rfl
  simp only [Act.put, List.setIfInBounds_toArray, List.set_cons_zero, List.set_cons_succ]
  refine takeT (i := 5) (v := ?_) rfl (by kernel_rfl) (by kernel_rfl) (by kernel_rfl) (by kernel_rfl) (fun _ _ _ h => h) (by rfl) ?_ HBd.out ?_
  rotate_left
  · intro V' hV; obtain ⟨y0, y1, y2, y3⟩ := HL.out V' hV; go_simp <;> with_reducible rfl
  simp only [Act.put, List.setIfInBounds_toArray, List.set_cons_zero, List.set_cons_succ]
  refine oneT (i := 6) rfl (by kernel_rfl) (by rfl) (fun K hK => ?_)
  go_simp
  refine (fail_any p a p.cf.f10 base g w.drew (H.out.under HBd.out)).mono ?_
  rintro e wl ⟨rfl, hs, al, hal⟩
  have HS := Lib.hid ((Stp.of_below HBd.out (Nat.le_trans H.out.ge (Nat.le_of_lt H.out.lt))).trans hs)
  have HAL := Lib.hid hal
  clear hs hal
  refine hK.out _ _ (fun h => absurd h (by decide)) ?_
  clear hK K
  refine doneT (by kernel_rfl) ?_ _
  go_wp2_with fail
  go_end0
  exact ⟨rfl, HS.out, al, HAL.out⟩

def startF (p : Br) (x0 : Int) : Bool := p.set && (!(p.rf.st == 1) && decide (1 ≤ x0))

set_option maxRecDepth 100000 in
set_option maxHeartbeats 2000000 in
theorem fStart0 (p : Br) (a : Ad) (base g : Nat) (b6 : Nat) (b8 : Nat) (b7 rb ro c : Nat)  (w : World) (h : BrIn base g w p a) (e_b6 : Whole w b6 65 #[.pointer (some ⟨g, 0, none⟩)]) (e_b8 : Whole w b8 56 #[.func (.func 99) #[] #[.pointer (some ⟨b7, 0, none⟩)]])  (t0 : p.set = false) :
    Calls Tryz.prog 102 #[.slice (some ⟨rb, ro, none⟩) 2 c, .pointer (some ⟨b6, 0, none⟩), .pointer (some ⟨b8, 0, none⟩)] w (BoolPost false w) := by
  have H := Lib.hid h
  have HB0 : Hid (Below w.heap.size w w) := Lib.hid (Below.refl _ w)
  have q2 := (cells27 h.box).2.2.1
  rw [t0] at q2
  have q_b6 := e_b6.cell 0
  simp only [List.getElem?_toArray, List.getElem?_cons_zero] at q_b6
  have q_b8 := e_b8.cell 0
  simp only [List.getElem?_toArray, List.getElem?_cons_zero] at q_b8
  clear h t0
  go_enter Tryz.func102, Tryz.ntmps102
  go_wp2_with fail
  go_ret
  exact ⟨rfl, HB0.out⟩

set_option maxRecDepth 100000 in
set_option maxHeartbeats 2000000 in
theorem fStart1 (p : Br) (a : Ad) (base g : Nat) (b6 : Nat) (b8 : Nat) (b7 : Nat) (rb ro c : Nat) (x0 : Int)  (w : World) (h : BrIn base g w p a) (e_b6 : Whole w b6 65 #[.pointer (some ⟨g, 0, none⟩)]) (e_b8 : Whole w b8 56 #[.func (.func 99) #[] #[.pointer (some ⟨b7, 0, none⟩)]]) (e_b7 : Whole w b7 115 #[.pointer (some ⟨g, 20, none⟩)]) (hrb : rb < w.heap.size) (hx0 : w.cell? ⟨rb, ro, none⟩ = some (.int .i64 x0)) (t0 : p.set = true) (t1 : (p.rf.st == 1) = true) :
    Calls Tryz.prog 102 #[.slice (some ⟨rb, ro, none⟩) 2 c, .pointer (some ⟨b6, 0, none⟩), .pointer (some ⟨b8, 0, none⟩)] w (BoolPost false w) := by
  have H := Lib.hid h
  have HB0 : Hid (Below w.heap.size w w) := Lib.hid (Below.refl _ w)
  have q2 := (cells27 h.box).2.2.1
  rw [t0] at q2
  have HC := Lib.hid (active_any p a base g b7 (some ⟨rb, ro, none⟩) 2 c w h e_b7)
  rw [t1] at HC
  have R0 := Lib.hid hx0
  have Lrb := Lib.hid hrb
  have q_b6 := e_b6.cell 0
  simp only [List.getElem?_toArray, List.getElem?_cons_zero] at q_b6
  have q_b8 := e_b8.cell 0
  simp only [List.getElem?_toArray, List.getElem?_cons_zero] at q_b8
  have q_b7 := e_b7.cell 0
  simp only [List.getElem?_toArray, List.getElem?_cons_zero] at q_b7
  clear h t0 t1 hx0 hrb
  go_enter Tryz.func102, Tryz.ntmps102
  go_wp2_with fail
  refine HC.out.mono ?_
  rintro e w1 ⟨rfl, hb_⟩
  have HB1 := Lib.hid hb_
  clear hb_ HC
  go_wp2_with fail
  go_ret
  exact ⟨rfl, HB1.out⟩

set_option maxRecDepth 100000 in
set_option maxHeartbeats 2000000 in
theorem fStart2 (p : Br) (a : Ad) (base g : Nat) (b6 : Nat) (b8 : Nat) (b7 : Nat) (rb ro c : Nat) (x0 : Int)  (w : World) (h : BrIn base g w p a) (e_b6 : Whole w b6 65 #[.pointer (some ⟨g, 0, none⟩)]) (e_b8 : Whole w b8 56 #[.func (.func 99) #[] #[.pointer (some ⟨b7, 0, none⟩)]]) (e_b7 : Whole w b7 115 #[.pointer (some ⟨g, 20, none⟩)]) (hrb : rb < w.heap.size) (hx0 : w.cell? ⟨rb, ro, none⟩ = some (.int .i64 x0)) (t0 : p.set = true) (t1 : (p.rf.st == 1) = false) :
    Calls Tryz.prog 102 #[.slice (some ⟨rb, ro, none⟩) 2 c, .pointer (some ⟨b6, 0, none⟩), .pointer (some ⟨b8, 0, none⟩)] w (BoolPost (decide (1 ≤ x0)) w) := by
  have H := Lib.hid h
  have HB0 : Hid (Below w.heap.size w w) := Lib.hid (Below.refl _ w)
  have q2 := (cells27 h.box).2.2.1
  rw [t0] at q2
  have HC := Lib.hid (active_any p a base g b7 (some ⟨rb, ro, none⟩) 2 c w h e_b7)
  rw [t1] at HC
  have R0 := Lib.hid hx0
  have Lrb := Lib.hid hrb
  have q_b6 := e_b6.cell 0
  simp only [List.getElem?_toArray, List.getElem?_cons_zero] at q_b6
  have q_b8 := e_b8.cell 0
  simp only [List.getElem?_toArray, List.getElem?_cons_zero] at q_b8
  have q_b7 := e_b7.cell 0
  simp only [List.getElem?_toArray, List.getElem?_cons_zero] at q_b7
  clear h t0 t1 hx0 hrb
  go_enter Tryz.func102, Tryz.ntmps102
  go_wp2_with fail
  refine HC.out.mono ?_
  rintro e w1 ⟨rfl, hb_⟩
  have hx0 := (hb_.cell (p := ⟨rb, ro, none⟩) Lrb.out).trans R0.out
  have HB1 := Lib.hid hb_
  clear hb_ HC
  go_wp2_with fail
  go_ret
  exact ⟨rfl, HB1.out⟩

theorem fStart_any (p : Br) (a : Ad) (base g b6 b8 b7 rb ro c : Nat) (x0 : Int) (w : World) (h : BrIn base g w p a) (e_b6 : Whole w b6 65 #[.pointer (some ⟨g, 0, none⟩)]) (e_b8 : Whole w b8 56 #[.func (.func 99) #[] #[.pointer (some ⟨b7, 0, none⟩)]]) (e_b7 : Whole w b7 115 #[.pointer (some ⟨g, 20, none⟩)]) (hrb : rb < w.heap.size) (hx0 : w.cell? ⟨rb, ro, none⟩ = some (.int .i64 x0)) :
    Calls Tryz.prog 102 #[.slice (some ⟨rb, ro, none⟩) 2 c, .pointer (some ⟨b6, 0, none⟩), .pointer (some ⟨b8, 0, none⟩)] w (BoolPost (startF p x0) w) := by
  unfold startF
  cases t0 : p.set with
  | false => exact fStart0 p a base g b6 b8 b7 rb ro c w h e_b6 e_b8 t0
  | true =>
    rw [Bool.true_and]
    cases t1 : (p.rf.st == 1) with
    | true => exact fStart1 p a base g b6 b8 b7 rb ro c x0 w h e_b6 e_b8 e_b7 hrb hx0 t0 t1
    | false =>
      rw [Bool.not_false, Bool.true_and]
      exact fStart2 p a base g b6 b8 b7 rb ro c x0 w h e_b6 e_b8 e_b7 hrb hx0 t0 t1

theorem wp_store_at {P : Program} {K : Act → World → Prop} {o : Oper} {a : Act} {w : World} {Q : Exit → Act → World → Prop} (ty : TypeId) (x y : Operand) (ho : o.op = .store ty x y)
    (g off : Nat) (cells : Array Value) (hx : a.eval x = .pointer (some ⟨g, off, none⟩)) (hy : a.eval y = .agg cells)
    (t : TypeId) (old : Array Value) (hg : w.heap[g]? = some (.cells old t (0, 0))) (hi : (P.info? ty).map (·.size) = some cells.size)
    (hfit : off + cells.size ≤ old.size) (h1 : cells.all (·.oneCell') = true)
    (h : K (a.put o.dst undef) (w.setRow g (old.toList.take off ++ cells.toList ++ old.toList.drop (off + cells.size)).toArray)) : o.wp P a w K Q := by
  have hst := run_storeCells_at P g off t cells.toList 0 old w hg (by simpa using hfit) (fun v hv => (Array.all_eq_true_iff_forall_mem.1 h1) v (by simpa using hv))
  simp only [Nat.add_zero, Array.length_toList] at hst
  have hv : (storeVar ty ⟨g, off, none⟩ (.agg cells)).run P w = .ok () (w.setRow g (old.toList.take off ++ cells.toList ++ old.toList.drop (off + cells.size)).toArray) := by
    cases hq : P.info? ty with
    | none => simp [hq] at hi
    | some i =>
      have hs : cells.size = i.size := by simp [hq] at hi; omega
      rw [← hst]
      simp [storeVar, sizeOf, typeInfo, hq, Value.cells, hs]
  unfold Oper.wp execOp
  simp only [ho, hx, hy, Instr.storeAt, Instr.sureAddr, Sem.run_bind, Sem.run_pure, Result.andThen_ok, hv]
  exact h

set_option maxRecDepth 100000 in
set_option maxHeartbeats 2000000 in
theorem dStart (p : Br) (a : Ad) (base g : Nat) (b6 : Nat) (b7 : Nat) (rb ro c : Nat) (x0 x1 : Int)  (w : World) (h : BrIn base g w p a) (e_b6 : Whole w b6 65 #[.pointer (some ⟨g, 0, none⟩)]) (e_b7 : Whole w b7 115 #[.pointer (some ⟨g, 20, none⟩)]) (hrb : rb < w.heap.size) (hx0 : w.cell? ⟨rb, ro, none⟩ = some (.int .i64 x0)) (hx1 : w.cell? ⟨rb, ro + 1, none⟩ = some (.int .i64 x1))  :
    Calls Tryz.prog 103 #[.slice (some ⟨rb, ro, none⟩) 2 c, .pointer (some ⟨b6, 0, none⟩), .pointer (some ⟨b7, 0, none⟩)] w (StPost base g { p with rf := ⟨1, p.cf.f12, x0, 0, false, x1, 0⟩ } w) := by
  have H := Lib.hid h
  have HB0 : Hid (Below w.heap.size w w) := Lib.hid (Below.refl _ w)
  have q_b6 := e_b6.cell 0
  simp only [List.getElem?_toArray, List.getElem?_cons_zero] at q_b6
  have q_b7 := e_b7.cell 0
  simp only [List.getElem?_toArray, List.getElem?_cons_zero] at q_b7
  clear h
  go_enter Tryz.func103, Tryz.ntmps103
  have Q_b6 := Lib.hid q_b6
  have L_b6 := Lib.hid e_b6.lt
  clear q_b6
  have Q_b7 := Lib.hid q_b7
  have L_b7 := Lib.hid e_b7.lt
  clear q_b7
  have R0 := Lib.hid hx0
  have R1 := Lib.hid hx1
  have Lrb := Lib.hid hrb
  have HL : Hid (∀ V', Below w.heap.size w V' → V'.cell? ⟨b6, 0, none⟩ = some (.pointer (some ⟨g, 0, none⟩)) ∧ V'.cell? ⟨b7, 0, none⟩ = some (.pointer (some ⟨g, 20, none⟩)) ∧ V'.cell? ⟨rb, ro, none⟩ = some (.int .i64 x0) ∧ V'.cell? ⟨rb, ro + 1, none⟩ = some (.int .i64 x1) ∧ Whole V' g 30 (brC p a) ∧ V'.cell? ⟨g, 15, none⟩ = some (.int .i64 p.cf.f12)) := Lib.hid (fun V' hb => ⟨(hb.cell (p := ⟨b6, 0, none⟩) L_b6.out).trans Q_b6.out, (hb.cell (p := ⟨b7, 0, none⟩) L_b7.out).trans Q_b7.out, (hb.cell (p := ⟨rb, ro, none⟩) Lrb.out).trans R0.out, (hb.cell (p := ⟨rb, ro + 1, none⟩) Lrb.out).trans R1.out, H.out.box.under hb, (H.out.box.under hb).cell 15⟩)
  have HBd := Lib.hid (show Below w.heap.size w w.drew from below_drewB HB0.out 1)
  clear HB0
  refine wp_region_T (ls := [14]) (T := (fun V' => Below w.heap.size w V')) (by kernel_rfl) ?_
  refine takeT (i := 0) (v := ?_) rfl (by kernel_rfl) (by kernel_rfl) (by kernel_rfl) (by kernel_rfl) (fun _ _ _ h => h) (by rfl) ?_ HBd.out ?_
  rotate_left
  · intro V' hV; obtain ⟨y0, y1, y2, y3, y4, y5⟩ := HL.out V' hV; go_simp <;> with_reducible rfl
  simp only [Act.put, List.setIfInBounds_toArray, List.set_cons_zero, List.set_cons_succ]
  refine takeT (i := 1) (v := ?_) rfl (by kernel_rfl) (by kernel_rfl) (by kernel_rfl) (by kernel_rfl) (fun _ _ _ h => h) (by rfl) ?_ HBd.out ?_
  rotate_left
  · intro V' hV; obtain ⟨y0, y1, y2, y3, y4, y5⟩ := HL.out V' hV; go_simp <;> with_reducible rfl
  simp only [Act.put, List.setIfInBounds_toArray, List.set_cons_zero, List.set_cons_succ]
  refine takeP (i := 2) (v := ?_) rfl (by kernel_rfl) (by kernel_rfl) (by kernel_rfl) (by kernel_rfl) (fun _ _ _ h => h) (by rfl) ?_ (fun _ => HBd.out) ?_
  rotate_left
  · intro V'; go_simp <;> with_reducible rfl
  simp only [Act.put, List.setIfInBounds_toArray, List.set_cons_zero, List.set_cons_succ]
  refine takeP (i := 3) (v := ?_) rfl (by kernel_rfl) (by kernel_rfl) (by kernel_rfl) (by kernel_rfl) (fun _ _ _ h => h) (by rfl) ?_ (fun _ => HBd.out) ?_
  rotate_left
  · intro V'; go_simp <;> with_reducible rfl
  simp only [Act.put, List.setIfInBounds_toArray, List.set_cons_zero, List.set_cons_succ]
  refine takeP (i := 4) (v := ?_) rfl (by kernel_rfl) (by kernel_rfl) (by kernel_rfl) (by kernel_rfl) (fun _ _ _ h => h) (by rfl) ?_ (fun _ => HBd.out) ?_
  rotate_left
  · intro V'; go_simp <;> with_reducible rfl
  simp only [Act.put, List.setIfInBounds_toArray, List.set_cons_zero, List.set_cons_succ]
  refine takeT (i := 5) (v := ?_) rfl (by kernel_rfl) (by kernel_rfl) (by kernel_rfl) (by kernel_rfl) (fun _ _ _ h => h) (by rfl) ?_ HBd.out ?_
  rotate_left
  · intro V' hV; obtain ⟨y0, y1, y2, y3, y4, y5⟩ := HL.out V' hV; go_simp <;> with_reducible rfl
  simp only [Act.put, List.setIfInBounds_toArray, List.set_cons_zero, List.set_cons_succ]
  refine takeP (i := 6) (v := ?_) rfl (by kernel_rfl) (by kernel_rfl) (by kernel_rfl) (by kernel_rfl) (fun _ _ _ h => h) (by rfl) ?_ (fun _ => HBd.out) ?_
  rotate_left
  · intro V'; go_simp <;> with_reducible rfl
  simp only [Act.put, List.setIfInBounds_toArray, List.set_cons_zero, List.set_cons_succ]
  refine takeP (i := 7) (v := ?_) rfl (by kernel_rfl) (by kernel_rfl) (by kernel_rfl) (by kernel_rfl) (fun _ _ _ h => h) (by rfl) ?_ (fun _ => HBd.out) ?_
  rotate_left
  · intro V'; go_simp <;> with_reducible rfl
  simp only [Act.put, List.setIfInBounds_toArray, List.set_cons_zero, List.set_cons_succ]
  refine takeT (i := 8) (v := ?_) rfl (by kernel_rfl) (by kernel_rfl) (by kernel_rfl) (by kernel_rfl) (fun _ _ _ h => h) (by rfl) ?_ HBd.out ?_
  rotate_left
  · intro V' hV; obtain ⟨y0, y1, y2, y3, y4, y5⟩ := HL.out V' hV; go_simp <;> with_reducible rfl
  simp only [Act.put, List.setIfInBounds_toArray, List.set_cons_zero, List.set_cons_succ]
  refine takeP (i := 9) (v := ?_) rfl (by kernel_rfl) (by kernel_rfl) (by kernel_rfl) (by kernel_rfl) (fun _ _ _ h => h) (by rfl) ?_ (fun _ => HBd.out) ?_
  rotate_left
  · intro V'; go_simp <;> with_reducible rfl
  simp only [Act.put, List.setIfInBounds_toArray, List.set_cons_zero, List.set_cons_succ]
  refine takeP (i := 10) (v := ?_) rfl (by kernel_rfl) (by kernel_rfl) (by kernel_rfl) (by kernel_rfl) (fun _ _ _ h => h) (by rfl) ?_ (fun _ => HBd.out) ?_
  rotate_left
  · intro V'; go_simp <;> with_reducible rfl
  simp only [Act.put, List.setIfInBounds_toArray, List.set_cons_zero, List.set_cons_succ]
  refine takeT (i := 11) (v := ?_) rfl (by kernel_rfl) (by kernel_rfl) (by kernel_rfl) (by kernel_rfl) (fun _ _ _ h => h) (by rfl) ?_ HBd.out ?_
  rotate_left
  · intro V' hV; obtain ⟨y0, y1, y2, y3, y4, y5⟩ := HL.out V' hV; go_simp <;> with_reducible rfl
  simp only [Act.put, List.setIfInBounds_toArray, List.set_cons_zero, List.set_cons_succ]
  refine takeP (i := 12) (v := ?_) rfl (by kernel_rfl) (by kernel_rfl) (by kernel_rfl) (by kernel_rfl) (fun _ _ _ h => h) (by rfl) ?_ (fun _ => HBd.out) ?_
  rotate_left
  · intro V'; go_simp <;> with_reducible rfl
  simp only [Act.put, List.setIfInBounds_toArray, List.set_cons_zero, List.set_cons_succ]
  refine oneT (i := 13) rfl (by kernel_rfl) (by rfl) (fun K hK => ?_)
  go_simp
  refine hK.out _ _ (fun _ => HBd.out) ?_
  clear hK K
  have hb0 := (H.out.under HBd.out).box
  have hz : BrIn base g (w.drew.setRow g ((brC p a).toList.take 20 ++ (Rf.cells ⟨1, p.cf.f12, x0, 0, false, x1, 0⟩).toList ++ (brC p a).toList.drop (20 + (Rf.cells ⟨1, p.cf.f12, x0, 0, false, x1, 0⟩).size)).toArray) { p with rf := ⟨1, p.cf.f12, x0, 0, false, x1, 0⟩ } a := by
    have hbox := setRow_heap w.drew g _ ((brC p a).toList.take 20 ++ (Rf.cells ⟨1, p.cf.f12, x0, 0, false, x1, 0⟩).toList ++ (brC p a).toList.drop (20 + (Rf.cells ⟨1, p.cf.f12, x0, 0, false, x1, 0⟩).size)).toArray _ _ hb0
    have ho := (H.out.under HBd.out).own.rowset hb0 (by decide) (by decide) (by decide) ((brC p a).toList.take 20 ++ (Rf.cells ⟨1, p.cf.f12, x0, 0, false, x1, 0⟩).toList ++ (brC p a).toList.drop (20 + (Rf.cells ⟨1, p.cf.f12, x0, 0, false, x1, 0⟩).size)).toArray
    exact ⟨hbox, ⟨ho.ms, ho.its, ho.kps⟩, H.out.ge⟩
  have hs := (Stp.of_below HBd.out (Nat.le_trans H.out.ge (Nat.le_of_lt H.out.lt))).trans (Stp.row hb0 (by decide) H.out.ge ((brC p a).toList.take 20 ++ (Rf.cells ⟨1, p.cf.f12, x0, 0, false, x1, 0⟩).toList ++ (brC p a).toList.drop (20 + (Rf.cells ⟨1, p.cf.f12, x0, 0, false, x1, 0⟩).size)).toArray (by rfl))
  have HZ := Lib.hid hz
  have HS := Lib.hid hs
  have HX := Lib.hid hb0
  clear hz hs hb0
  refine oneL (i := 14) (by kernel_rfl) rfl (by kernel_rfl) (by rfl) (fun K hK => ?_)
  refine wp_store_at 28 _ _ rfl g 20 (Rf.cells ⟨1, p.cf.f12, x0, 0, false, x1, 0⟩) (by rfl) (by rfl) 30 _ HX.out (by kernel_rfl) (by simp) (by simp [Value.oneCell']) ?_
  simp only [Act.put]
  refine hK.out _ _ ?_
  clear hK K
  refine doneT (by kernel_rfl) ?_ _
  go_wp2_with fail
  go_end0
  exact ⟨rfl, HS.out, a, HZ.out⟩

set_option maxRecDepth 100000 in
set_option maxHeartbeats 2000000 in
theorem dCancel (p : Br) (a : Ad) (base g : Nat) (b7 : Nat) (A : Option Addr) (n c : Nat)  (w : World) (h : BrIn base g w p a) (e_b7 : Whole w b7 115 #[.pointer (some ⟨g, 20, none⟩)])   :
    Calls Tryz.prog 104 #[.slice A n c, .pointer (some ⟨b7, 0, none⟩)] w (StPost base g { p with rf := { p.rf with st := 3, paused := false } } w) := by
  have H := Lib.hid h
  have HB0 : Hid (Below w.heap.size w w) := Lib.hid (Below.refl _ w)
  have HC := Lib.hid (end_any p a 3 base g w h)
  have q_b7 := e_b7.cell 0
  simp only [List.getElem?_toArray, List.getElem?_cons_zero] at q_b7
  clear h
  go_enter Tryz.func104, Tryz.ntmps104
  go_wp2_with fail
  refine HC.out.mono ?_
  rintro e w1 ⟨rfl, hs, a1, h1⟩
  have HS := Lib.hid hs
  have H1 := Lib.hid h1
  clear hs h1
  go_wp2_with fail
  go_end0
  exact ⟨rfl, HS.out, a1, H1.out⟩

set_option maxRecDepth 100000 in
set_option maxHeartbeats 2000000 in
theorem dRoll (p : Br) (a : Ad) (base g : Nat) (b7 : Nat) (A : Option Addr) (n c : Nat)  (w : World) (h : BrIn base g w p a) (e_b7 : Whole w b7 115 #[.pointer (some ⟨g, 20, none⟩)])   :
    Calls Tryz.prog 106 #[.slice A n c, .pointer (some ⟨b7, 0, none⟩)] w (StPost base g { p with rf := { p.rf with to_ := p.rf.fr } } w) := by
  have H := Lib.hid h
  have HB0 : Hid (Below w.heap.size w w) := Lib.hid (Below.refl _ w)
  have q_b7 := e_b7.cell 0
  simp only [List.getElem?_toArray, List.getElem?_cons_zero] at q_b7
  clear h
  go_enter Tryz.func106, Tryz.ntmps106
  have Q_b7 := Lib.hid q_b7
  have L_b7 := Lib.hid e_b7.lt
  clear q_b7
  have HL : Hid (∀ V', Below w.heap.size w V' → V'.cell? ⟨b7, 0, none⟩ = some (.pointer (some ⟨g, 20, none⟩)) ∧ Whole V' g 30 (brC p a) ∧ V'.cell? ⟨g, 21, none⟩ = some (.int .i64 p.rf.fr)) := Lib.hid (fun V' hb => ⟨(hb.cell (p := ⟨b7, 0, none⟩) L_b7.out).trans Q_b7.out, H.out.box.under hb, (H.out.box.under hb).cell 21⟩)
  have HBd := Lib.hid (show Below w.heap.size w w.drew from below_drewB HB0.out 1)
  clear HB0
  refine wp_region_T (ls := [7]) (T := (fun V' => Below w.heap.size w V')) (by kernel_rfl) ?_
  refine takeT (i := 0) (v := ?_) rfl (by kernel_rfl) (by kernel_rfl) (by kernel_rfl) (by kernel_rfl) (fun _ _ _ h => h) (by rfl) ?_ HBd.out ?_
  rotate_left
  · intro V' hV; obtain ⟨y0, y1, y2⟩ := HL.out V' hV; go_simp <;> with_reducible rfl
  simp only [Act.put, List.setIfInBounds_toArray, List.set_cons_zero, List.set_cons_succ]
  refine takeT (i := 1) (v := ?_) rfl (by kernel_rfl) (by kernel_rfl) (by kernel_rfl) (by kernel_rfl) (fun _ _ _ h => h) (by rfl) ?_ HBd.out ?_
  rotate_left
  · intro V' hV; obtain ⟨y0, y1, y2⟩ := HL.out V' hV; go_simp <;> with_reducible rfl
  simp only [Act.put, List.setIfInBounds_toArray, List.set_cons_zero, List.set_cons_succ]
  refine takeP (i := 2) (v := ?_) rfl (by kernel_rfl) (by kernel_rfl) (by kernel_rfl) (by kernel_rfl) (fun _ _ _ h => h) (by rfl) ?_ (fun _ => HBd.out) ?_
  rotate_left
  · intro V'; go_simp <;> with_reducible rfl
  simp only [Act.put, List.setIfInBounds_toArray, List.set_cons_zero, List.set_cons_succ]
  refine takeP (i := 3) (v := ?_) rfl (by kernel_rfl) (by kernel_rfl) (by kernel_rfl) (by kernel_rfl) (fun _ _ _ h => h) (by rfl) ?_ (fun _ => HBd.out) ?_
  rotate_left
  · intro V'; go_simp <;> with_reducible rfl
  simp only [Act.put, List.setIfInBounds_toArray, List.set_cons_zero, List.set_cons_succ]
  refine takeT (i := 4) (v := ?_) rfl (by kernel_rfl) (by kernel_rfl) (by kernel_rfl) (by kernel_rfl) (fun _ _ _ h => h) (by rfl) ?_ HBd.out ?_
  rotate_left
  · intro V' hV; obtain ⟨y0, y1, y2⟩ := HL.out V' hV; go_simp <;> with_reducible rfl
  simp only [Act.put, List.setIfInBounds_toArray, List.set_cons_zero, List.set_cons_succ]
  refine oneT (i := 5) rfl (by kernel_rfl) (by rfl) (fun K hK => ?_)
  go_simp
  refine hK.out _ _ (fun _ => HBd.out) ?_
  clear hK K
  refine oneT (i := 6) rfl (by kernel_rfl) (by rfl) (fun K hK => ?_)
  go_simp
  refine hK.out _ _ (fun _ => HBd.out) ?_
  clear hK K
  have hs0 := Stp.set (H.out.under HBd.out).box (by decide) H.out.ge 22 (.int .i64 p.rf.fr)
  have hz0 := (H.out.under HBd.out).set (p' := { p with rf := { p.rf with to_ := p.rf.fr } }) 22 (.int .i64 p.rf.fr) rfl rfl rfl rfl
  have f_ := (H.out.under HBd.out).box.frozen 22
  obtain ⟨c0, c1, c2, c3, c4, c5, c6, c7, c8, c9, c10, c11, c12, c13, c14, c15, c16, c17, c18, c19, c20, c21, c22, c23, c24, c25, c26⟩ := cells27 (H.out.under HBd.out).box
  clear c0 c1 c2 c3 c4 c5 c6 c7 c8 c9 c10 c11 c12 c13 c14 c15 c16 c17 c18 c19 c20 c21 c23 c24 c25 c26
  refine oneL (i := 7) (by kernel_rfl) rfl (by kernel_rfl) (by rfl) (fun K hK => ?_)
  go_simp
  refine hK.out _ _ ?_
  clear hK K f_ c22
  refine doneT (by kernel_rfl) ?_ _
  have HS := Lib.hid ((Stp.of_below HBd.out (Nat.le_trans H.out.ge (Nat.le_of_lt H.out.lt))).trans hs0)
  have HZ := Lib.hid hz0
  clear hs0 hz0
  go_wp2_with fail
  go_end0
  exact ⟨rfl, HS.out, a, HZ.out⟩

set_option maxRecDepth 100000 in
set_option maxHeartbeats 2000000 in
theorem fPause_false (p : Br) (a : Ad) (base g : Nat) (b8 : Nat) (b7 : Nat) (A : Option Addr) (n c : Nat)  (w : World) (h : BrIn base g w p a) (e_b8 : Whole w b8 56 #[.func (.func 99) #[] #[.pointer (some ⟨b7, 0, none⟩)]]) (e_b7 : Whole w b7 115 #[.pointer (some ⟨g, 20, none⟩)])  (q0 : (p.rf.st == 1) = false) :
    Calls Tryz.prog 107 #[.slice A n c, .pointer (some ⟨b8, 0, none⟩), .pointer (some ⟨b7, 0, none⟩)] w (BoolPost false w) := by
  have H := Lib.hid h
  have HB0 : Hid (Below w.heap.size w w) := Lib.hid (Below.refl _ w)
  have HC := Lib.hid (active_any p a base g b7 A n c w h e_b7)
  rw [q0] at HC
  have L7 := Lib.hid e_b7.lt
  have q_b8 := e_b8.cell 0
  simp only [List.getElem?_toArray, List.getElem?_cons_zero] at q_b8
  have q_b7 := e_b7.cell 0
  simp only [List.getElem?_toArray, List.getElem?_cons_zero] at q_b7
  clear h q0
  go_enter Tryz.func107, Tryz.ntmps107
  have Q7 := Lib.hid q_b7
  clear q_b7
  go_wp2_with fail
  refine HC.out.mono ?_
  rintro e w1 ⟨rfl, hb_⟩
  have HB1 := Lib.hid hb_
  clear hb_ HC
  go_wp2_with fail
  go_ret
  exact ⟨rfl, HB1.out⟩

set_option maxRecDepth 100000 in
set_option maxHeartbeats 2000000 in
theorem fPause_true (p : Br) (a : Ad) (base g : Nat) (b8 : Nat) (b7 : Nat) (A : Option Addr) (n c : Nat)  (w : World) (h : BrIn base g w p a) (e_b8 : Whole w b8 56 #[.func (.func 99) #[] #[.pointer (some ⟨b7, 0, none⟩)]]) (e_b7 : Whole w b7 115 #[.pointer (some ⟨g, 20, none⟩)])  (q0 : (p.rf.st == 1) = true) :
    Calls Tryz.prog 107 #[.slice A n c, .pointer (some ⟨b8, 0, none⟩), .pointer (some ⟨b7, 0, none⟩)] w (BoolPost (!p.rf.paused) w) := by
  have H := Lib.hid h
  have HB0 : Hid (Below w.heap.size w w) := Lib.hid (Below.refl _ w)
  have HC := Lib.hid (active_any p a base g b7 A n c w h e_b7)
  rw [q0] at HC
  have L7 := Lib.hid e_b7.lt
  have q_b8 := e_b8.cell 0
  simp only [List.getElem?_toArray, List.getElem?_cons_zero] at q_b8
  have q_b7 := e_b7.cell 0
  simp only [List.getElem?_toArray, List.getElem?_cons_zero] at q_b7
  clear h q0
  go_enter Tryz.func107, Tryz.ntmps107
  have Q7 := Lib.hid q_b7
  clear q_b7
  go_wp2_with fail
  refine HC.out.mono ?_
  rintro e w1 ⟨rfl, hb_⟩
  have q7 := (hb_.cell (p := ⟨b7, 0, none⟩) L7.out).trans Q7.out
  have q24 := (cells27 (H.out.under hb_).box).2.2.2.2.2.2.2.2.2.2.2.2.2.2.2.2.2.2.2.2.2.2.2.2.1
  have HB1 := Lib.hid hb_
  clear hb_ HC
  go_wp2_with fail
  go_ret
  exact ⟨rfl, HB1.out⟩

set_option maxRecDepth 100000 in
set_option maxHeartbeats 2000000 in
theorem fGo_false (p : Br) (a : Ad) (base g : Nat) (b8 : Nat) (b7 : Nat) (A : Option Addr) (n c : Nat)  (w : World) (h : BrIn base g w p a) (e_b8 : Whole w b8 56 #[.func (.func 99) #[] #[.pointer (some ⟨b7, 0, none⟩)]]) (e_b7 : Whole w b7 115 #[.pointer (some ⟨g, 20, none⟩)])  (q0 : (p.rf.st == 1) = false) :
    Calls Tryz.prog 109 #[.slice A n c, .pointer (some ⟨b8, 0, none⟩), .pointer (some ⟨b7, 0, none⟩)] w (BoolPost false w) := by
  have H := Lib.hid h
  have HB0 : Hid (Below w.heap.size w w) := Lib.hid (Below.refl _ w)
  have HC := Lib.hid (active_any p a base g b7 A n c w h e_b7)
  rw [q0] at HC
  have L7 := Lib.hid e_b7.lt
  have q_b8 := e_b8.cell 0
  simp only [List.getElem?_toArray, List.getElem?_cons_zero] at q_b8
  have q_b7 := e_b7.cell 0
  simp only [List.getElem?_toArray, List.getElem?_cons_zero] at q_b7
  clear h q0
  go_enter Tryz.func109, Tryz.ntmps109
  have Q7 := Lib.hid q_b7
  clear q_b7
  go_wp2_with fail
  refine HC.out.mono ?_
  rintro e w1 ⟨rfl, hb_⟩
  have HB1 := Lib.hid hb_
  clear hb_ HC
  go_wp2_with fail
  go_ret
  exact ⟨rfl, HB1.out⟩

set_option maxRecDepth 100000 in
set_option maxHeartbeats 2000000 in
theorem fGo_true (p : Br) (a : Ad) (base g : Nat) (b8 : Nat) (b7 : Nat) (A : Option Addr) (n c : Nat)  (w : World) (h : BrIn base g w p a) (e_b8 : Whole w b8 56 #[.func (.func 99) #[] #[.pointer (some ⟨b7, 0, none⟩)]]) (e_b7 : Whole w b7 115 #[.pointer (some ⟨g, 20, none⟩)])  (q0 : (p.rf.st == 1) = true) :
    Calls Tryz.prog 109 #[.slice A n c, .pointer (some ⟨b8, 0, none⟩), .pointer (some ⟨b7, 0, none⟩)] w (BoolPost p.rf.paused w) := by
  have H := Lib.hid h
  have HB0 : Hid (Below w.heap.size w w) := Lib.hid (Below.refl _ w)
  have HC := Lib.hid (active_any p a base g b7 A n c w h e_b7)
  rw [q0] at HC
  have L7 := Lib.hid e_b7.lt
  have q_b8 := e_b8.cell 0
  simp only [List.getElem?_toArray, List.getElem?_cons_zero] at q_b8
  have q_b7 := e_b7.cell 0
  simp only [List.getElem?_toArray, List.getElem?_cons_zero] at q_b7
  clear h q0
  go_enter Tryz.func109, Tryz.ntmps109
  have Q7 := Lib.hid q_b7
  clear q_b7
  go_wp2_with fail
  refine HC.out.mono ?_
  rintro e w1 ⟨rfl, hb_⟩
  have q7 := (hb_.cell (p := ⟨b7, 0, none⟩) L7.out).trans Q7.out
  have q24 := (cells27 (H.out.under hb_).box).2.2.2.2.2.2.2.2.2.2.2.2.2.2.2.2.2.2.2.2.2.2.2.2.1
  have HB1 := Lib.hid hb_
  clear hb_ HC
  go_wp2_with fail
  go_ret
  exact ⟨rfl, HB1.out⟩

set_option maxRecDepth 100000 in
set_option maxHeartbeats 2000000 in
theorem dPause (p : Br) (a : Ad) (base g : Nat) (b7 : Nat) (rb ro c : Nat) (x0 : Int)  (w : World) (h : BrIn base g w p a) (e_b7 : Whole w b7 115 #[.pointer (some ⟨g, 20, none⟩)]) (hrb : rb < base) (hx0 : w.cell? ⟨rb, ro, none⟩ = some (.int .i64 x0))  :
    Calls Tryz.prog 108 #[.slice (some ⟨rb, ro, none⟩) 1 c, .pointer (some ⟨b7, 0, none⟩)] w (StPost base g { p with rf := { p.rf with paused := true, since := x0 } } w) := by
  have H := Lib.hid h
  have HB0 : Hid (Below w.heap.size w w) := Lib.hid (Below.refl _ w)
  have E7 := Lib.hid e_b7
  have q_b7 := e_b7.cell 0
  simp only [List.getElem?_toArray, List.getElem?_cons_zero] at q_b7
  clear h
  go_enter Tryz.func108, Tryz.ntmps108
  have Q_b7 := Lib.hid q_b7
  clear q_b7
  have R0 := Lib.hid hx0
  have Lrb := Lib.hid hrb
  have hT : w.drew.cell? ⟨b7, 0, none⟩ = some (.pointer (some ⟨g, 20, none⟩)) ∧ w.drew.cell? ⟨rb, ro, none⟩ = some (.int .i64 x0) := ⟨Q_b7.out, R0.out⟩
  have HT := Lib.hid hT
  clear hT
  have HL : Hid (∀ V' : World, (V'.cell? ⟨b7, 0, none⟩ = some (.pointer (some ⟨g, 20, none⟩)) ∧ V'.cell? ⟨rb, ro, none⟩ = some (.int .i64 x0)) → (V'.cell? ⟨b7, 0, none⟩ = some (.pointer (some ⟨g, 20, none⟩)) ∧ V'.cell? ⟨rb, ro, none⟩ = some (.int .i64 x0))) := Lib.hid (fun _ h => h)
  clear HB0
  refine wp_region_T (ls := [10]) (T := (fun V' : World => V'.cell? ⟨b7, 0, none⟩ = some (.pointer (some ⟨g, 20, none⟩)) ∧ V'.cell? ⟨rb, ro, none⟩ = some (.int .i64 x0))) (by kernel_rfl) ?_
  refine takeT (i := 0) (v := ?_) rfl (by kernel_rfl) (by kernel_rfl) (by kernel_rfl) (by kernel_rfl) (fun _ _ _ h => h) (by rfl) ?_ HT.out ?_
  rotate_left
  · intro V' hV; obtain ⟨y0, y1⟩ := HL.out V' hV; go_simp <;> with_reducible rfl
  simp only [Act.put, List.setIfInBounds_toArray, List.set_cons_zero, List.set_cons_succ]
  refine takeT (i := 1) (v := ?_) rfl (by kernel_rfl) (by kernel_rfl) (by kernel_rfl) (by kernel_rfl) (fun _ _ _ h => h) (by rfl) ?_ HT.out ?_
  rotate_left
  · intro V' hV; obtain ⟨y0, y1⟩ := HL.out V' hV; go_simp <;> with_reducible rfl
  simp only [Act.put, List.setIfInBounds_toArray, List.set_cons_zero, List.set_cons_succ]
  refine takeP (i := 2) (v := ?_) rfl (by kernel_rfl) (by kernel_rfl) (by kernel_rfl) (by kernel_rfl) (fun _ _ _ h => h) (by rfl) ?_ (fun _ => HT.out) ?_
  rotate_left
  · intro V'; go_simp <;> with_reducible rfl
  simp only [Act.put, List.setIfInBounds_toArray, List.set_cons_zero, List.set_cons_succ]
  refine takeP (i := 3) (v := ?_) rfl (by kernel_rfl) (by kernel_rfl) (by kernel_rfl) (by kernel_rfl) (fun _ _ _ h => h) (by rfl) ?_ (fun _ => HT.out) ?_
  rotate_left
  · intro V'; go_simp <;> with_reducible rfl
  simp only [Act.put, List.setIfInBounds_toArray, List.set_cons_zero, List.set_cons_succ]
  refine takeT (i := 4) (v := ?_) rfl (by kernel_rfl) (by kernel_rfl) (by kernel_rfl) (by kernel_rfl) (fun _ _ _ h => h) (by rfl) ?_ HT.out ?_
  rotate_left
  · intro V' hV; obtain ⟨y0, y1⟩ := HL.out V' hV; go_simp <;> with_reducible rfl
  simp only [Act.put, List.setIfInBounds_toArray, List.set_cons_zero, List.set_cons_succ]
  refine oneT (i := 5) rfl (by kernel_rfl) (by rfl) (fun K hK => ?_)
  go_simp
  refine hK.out _ _ (fun _ => HT.out) ?_
  clear hK K
  refine oneT (i := 6) rfl (by kernel_rfl) (by rfl) (fun K hK => ?_)
  go_simp
  refine hK.out _ _ (fun _ => HT.out) ?_
  clear hK K
  have hs0 := Stp.set H.out.box (by decide) H.out.ge 24 (.bool true)
  have hz0 := H.out.set (p' := { p with rf := { p.rf with paused := true } }) 24 (.bool true) rfl rfl rfl rfl
  have f_ := H.out.box.frozen 24
  obtain ⟨c0, c1, c2, c3, c4, c5, c6, c7, c8, c9, c10, c11, c12, c13, c14, c15, c16, c17, c18, c19, c20, c21, c22, c23, c24, c25, c26⟩ := cells27 H.out.box
  clear c0 c1 c2 c3 c4 c5 c6 c7 c8 c9 c10 c11 c12 c13 c14 c15 c16 c17 c18 c19 c20 c21 c22 c23 c25 c26
  have hT2 : (w.setCell ⟨g, 24, none⟩ (.bool true)).cell? ⟨b7, 0, none⟩ = some (.pointer (some ⟨g, 20, none⟩)) ∧ (w.setCell ⟨g, 24, none⟩ (.bool true)).cell? ⟨rb, ro, none⟩ = some (.int .i64 x0) := ⟨(hs0.whole E7.out (by decide)).cell 0, (hs0.below.cell (p := ⟨rb, ro, none⟩) Lrb.out).trans R0.out⟩
  have HT2 := Lib.hid hT2
  have HS0 := Lib.hid hs0
  have HZ0 := Lib.hid hz0
  clear hT2 hs0 hz0
  refine oneT (i := 7) rfl (by kernel_rfl) (by rfl) (fun K hK => ?_)
  go_simp
  refine hK.out _ _ (fun _ => HT2.out) ?_
  clear hK K f_ c24 HT
  refine oneT (i := 8) rfl (by kernel_rfl) (by rfl) (fun K hK => ?_)
  go_simp
  refine hK.out _ _ (fun _ => HT2.out) ?_
  clear hK K
  refine oneT (i := 9) rfl (by kernel_rfl) (by rfl) (fun K hK => ?_)
  go_simp
  refine hK.out _ _ (fun _ => HT2.out) ?_
  clear hK K
  have hs1 := HS0.out.trans (Stp.set HZ0.out.box (by decide) H.out.ge 25 (.int .i64 x0))
  have hz1 := HZ0.out.set (p' := { p with rf := { p.rf with paused := true, since := x0 } }) 25 (.int .i64 x0) rfl rfl rfl rfl
  have HS := Lib.hid hs1
  have HZ := Lib.hid hz1
  clear hs1 hz1
  have f_ := H.out.box.frozen 25
  obtain ⟨c0, c1, c2, c3, c4, c5, c6, c7, c8, c9, c10, c11, c12, c13, c14, c15, c16, c17, c18, c19, c20, c21, c22, c23, c24, c25, c26⟩ := cells27 H.out.box
  clear c0 c1 c2 c3 c4 c5 c6 c7 c8 c9 c10 c11 c12 c13 c14 c15 c16 c17 c18 c19 c20 c21 c22 c23 c24 c26
  refine oneL (i := 10) (by kernel_rfl) rfl (by kernel_rfl) (by rfl) (fun K hK => ?_)
  go_simp
  refine hK.out _ _ ?_
  clear hK K f_ c25
  refine doneT (by kernel_rfl) ?_ _
  go_wp2_with fail
  go_end0
  exact ⟨rfl, ⟨below_drewB HS.out.below 1, HS.out.keeps, HS.out.brn⟩, a, HZ.out.under (below_drewB (Below.refl _ _) 1)⟩

set_option maxRecDepth 100000 in
set_option maxHeartbeats 2000000 in
theorem dGo (p : Br) (a : Ad) (base g : Nat) (b7 : Nat) (A : Option Addr) (n c : Nat)  (w : World) (h : BrIn base g w p a) (e_b7 : Whole w b7 115 #[.pointer (some ⟨g, 20, none⟩)])   :
    Calls Tryz.prog 110 #[.slice A n c, .pointer (some ⟨b7, 0, none⟩)] w (StPost base g { p with rf := { p.rf with paused := false, step := wrap64 (p.rf.step + 1) } } w) := by
  have H := Lib.hid h
  have HB0 : Hid (Below w.heap.size w w) := Lib.hid (Below.refl _ w)
  have E7 := Lib.hid e_b7
  obtain ⟨S, hS⟩ : ∃ S, wrap64 (p.rf.step + 1) = S := ⟨_, rfl⟩
  rw [hS]
  have hw : IntKind.i64.wrap (p.rf.step + 1) = S := by
    rw [← hS, IntKind.wrap_i64]
    first | rfl | (simp only [wrap64]; done) | (simp only [wrap64]; omega)
  clear hS
  have q_b7 := e_b7.cell 0
  simp only [List.getElem?_toArray, List.getElem?_cons_zero] at q_b7
  clear h
  go_enter Tryz.func110, Tryz.ntmps110
  have Q_b7 := Lib.hid q_b7
  clear q_b7
  have hT : w.drew.cell? ⟨b7, 0, none⟩ = some (.pointer (some ⟨g, 20, none⟩)) ∧ w.drew.cell? ⟨g, 23, none⟩ = some (.int .i64 p.rf.step) := ⟨Q_b7.out, H.out.box.cell 23⟩
  have HT := Lib.hid hT
  clear hT
  have HL : Hid (∀ V' : World, (V'.cell? ⟨b7, 0, none⟩ = some (.pointer (some ⟨g, 20, none⟩)) ∧ V'.cell? ⟨g, 23, none⟩ = some (.int .i64 p.rf.step)) → (V'.cell? ⟨b7, 0, none⟩ = some (.pointer (some ⟨g, 20, none⟩)) ∧ V'.cell? ⟨g, 23, none⟩ = some (.int .i64 p.rf.step))) := Lib.hid (fun _ h => h)
  clear HB0
  refine wp_region_T (ls := [12]) (T := (fun V' : World => V'.cell? ⟨b7, 0, none⟩ = some (.pointer (some ⟨g, 20, none⟩)) ∧ V'.cell? ⟨g, 23, none⟩ = some (.int .i64 p.rf.step))) (by kernel_rfl) ?_
  refine takeT (i := 0) (v := ?_) rfl (by kernel_rfl) (by kernel_rfl) (by kernel_rfl) (by kernel_rfl) (fun _ _ _ h => h) (by rfl) ?_ HT.out ?_
  rotate_left
  · intro V' hV; obtain ⟨y0, y1⟩ := HL.out V' hV; go_simp <;> with_reducible rfl
  simp only [Act.put, List.setIfInBounds_toArray, List.set_cons_zero, List.set_cons_succ]
  refine takeT (i := 1) (v := ?_) rfl (by kernel_rfl) (by kernel_rfl) (by kernel_rfl) (by kernel_rfl) (fun _ _ _ h => h) (by rfl) ?_ HT.out ?_
  rotate_left
  · intro V' hV; obtain ⟨y0, y1⟩ := HL.out V' hV; go_simp <;> with_reducible rfl
  simp only [Act.put, List.setIfInBounds_toArray, List.set_cons_zero, List.set_cons_succ]
  refine takeT (i := 2) (v := ?_) rfl (by kernel_rfl) (by kernel_rfl) (by kernel_rfl) (by kernel_rfl) (fun _ _ _ h => h) (by rfl) ?_ HT.out ?_
  rotate_left
  · intro V' hV; obtain ⟨y0, y1⟩ := HL.out V' hV; go_simp <;> with_reducible rfl
  simp only [Act.put, List.setIfInBounds_toArray, List.set_cons_zero, List.set_cons_succ]
  refine takeP (i := 3) (v := ?_) rfl (by kernel_rfl) (by kernel_rfl) (by kernel_rfl) (by kernel_rfl) (fun _ _ _ h => h) (by rfl) ?_ (fun _ => HT.out) ?_
  rotate_left
  · intro V'; go_simp <;> with_reducible rfl
  simp only [Act.put, List.setIfInBounds_toArray, List.set_cons_zero, List.set_cons_succ]
  refine takeP (i := 4) (v := ?_) rfl (by kernel_rfl) (by kernel_rfl) (by kernel_rfl) (by kernel_rfl) (fun _ _ _ h => h) (by rfl) ?_ (fun _ => HT.out) ?_
  rotate_left
  · intro V'; go_simp <;> with_reducible rfl
  simp only [Act.put, List.setIfInBounds_toArray, List.set_cons_zero, List.set_cons_succ]
  refine takeT (i := 5) (v := ?_) rfl (by kernel_rfl) (by kernel_rfl) (by kernel_rfl) (by kernel_rfl) (fun _ _ _ h => h) (by rfl) ?_ HT.out ?_
  rotate_left
  · intro V' hV; obtain ⟨y0, y1⟩ := HL.out V' hV; go_simp <;> with_reducible rfl
  simp only [Act.put, List.setIfInBounds_toArray, List.set_cons_zero, List.set_cons_succ]
  refine takeP (i := 6) (v := ?_) rfl (by kernel_rfl) (by kernel_rfl) (by kernel_rfl) (by kernel_rfl) (fun _ _ _ h => h) (by rfl) ?_ (fun _ => HT.out) ?_
  rotate_left
  · intro V'; go_simp <;> with_reducible rfl
  simp only [Act.put, List.setIfInBounds_toArray, List.set_cons_zero, List.set_cons_succ]
  refine oneT (i := 7) rfl (by kernel_rfl) (by rfl) (fun K hK => ?_)
  go_simp
  refine hK.out _ _ (fun _ => HT.out) ?_
  clear hK K
  refine oneT (i := 8) rfl (by kernel_rfl) (by rfl) (fun K hK => ?_)
  go_simp
  refine hK.out _ _ (fun _ => HT.out) ?_
  clear hK K
  have hs0 := Stp.set H.out.box (by decide) H.out.ge 24 (.bool false)
  have hz0 := H.out.set (p' := { p with rf := { p.rf with paused := false } }) 24 (.bool false) rfl rfl rfl rfl
  have f_ := H.out.box.frozen 24
  obtain ⟨c0, c1, c2, c3, c4, c5, c6, c7, c8, c9, c10, c11, c12, c13, c14, c15, c16, c17, c18, c19, c20, c21, c22, c23, c24, c25, c26⟩ := cells27 H.out.box
  clear c0 c1 c2 c3 c4 c5 c6 c7 c8 c9 c10 c11 c12 c13 c14 c15 c16 c17 c18 c19 c20 c21 c22 c23 c25 c26
  have hT2 : (w.setCell ⟨g, 24, none⟩ (.bool false)).cell? ⟨b7, 0, none⟩ = some (.pointer (some ⟨g, 20, none⟩)) ∧ (w.setCell ⟨g, 24, none⟩ (.bool false)).cell? ⟨g, 23, none⟩ = some (.int .i64 p.rf.step) := ⟨(hs0.whole E7.out (by decide)).cell 0, hz0.box.cell 23⟩
  have HT2 := Lib.hid hT2
  have HS0 := Lib.hid hs0
  have HZ0 := Lib.hid hz0
  clear hT2 hs0 hz0
  refine oneT (i := 9) rfl (by kernel_rfl) (by rfl) (fun K hK => ?_)
  go_simp
  refine hK.out _ _ (fun _ => HT2.out) ?_
  clear hK K f_ c24 HT
  refine oneT (i := 10) rfl (by kernel_rfl) (by rfl) (fun K hK => ?_)
  go_simp
  refine hK.out _ _ (fun _ => HT2.out) ?_
  clear hK K
  refine oneT (i := 11) rfl (by kernel_rfl) (by rfl) (fun K hK => ?_)
  go_simp
  refine hK.out _ _ (fun _ => HT2.out) ?_
  clear hK K
  have hs1 := HS0.out.trans (Stp.set HZ0.out.box (by decide) H.out.ge 23 (.int .i64 S))
  have hz1 := HZ0.out.set (p' := { p with rf := { p.rf with paused := false, step := S } }) 23 (.int .i64 S) rfl rfl rfl rfl
  have HS := Lib.hid hs1
  have HZ := Lib.hid hz1
  clear hs1 hz1
  have f_ := H.out.box.frozen 23
  obtain ⟨c0, c1, c2, c3, c4, c5, c6, c7, c8, c9, c10, c11, c12, c13, c14, c15, c16, c17, c18, c19, c20, c21, c22, c23, c24, c25, c26⟩ := cells27 H.out.box
  clear c0 c1 c2 c3 c4 c5 c6 c7 c8 c9 c10 c11 c12 c13 c14 c15 c16 c17 c18 c19 c20 c21 c22 c24 c25 c26
  refine oneL (i := 12) (by kernel_rfl) rfl (by kernel_rfl) (by rfl) (fun K hK => ?_)
  go_simp
  refine hK.out _ _ ?_
  clear hK K f_ c23
  refine doneT (by kernel_rfl) ?_ _
  go_wp2_with fail
  go_end0
  exact ⟨rfl, ⟨below_drewB HS.out.below 1, HS.out.keeps, HS.out.brn⟩, a, HZ.out.under (below_drewB (Below.refl _ _) 1)⟩

set_option maxRecDepth 100000 in
set_option maxHeartbeats 2000000 in
theorem dOver (p : Br) (a : Ad) (base g : Nat) (b7 : Nat) (b6 : Nat) (A : Option Addr) (n c : Nat)  (w : World) (h : BrIn base g w p a) (e_b7 : Whole w b7 115 #[.pointer (some ⟨g, 20, none⟩)]) (e_b6 : Whole w b6 65 #[.pointer (some ⟨g, 0, none⟩)])   :
    Calls Tryz.prog 111 #[.slice A n c, .pointer (some ⟨b7, 0, none⟩), .pointer (some ⟨b6, 0, none⟩)] w (StPost base g { p with rf := { p.rf with st := 2, paused := false }, cf := { p.cf with f12 := p.rf.to_ } } w) := by
  have H := Lib.hid h
  have HB0 : Hid (Below w.heap.size w w) := Lib.hid (Below.refl _ w)
  have HC := Lib.hid (end_any p a 2 base g w h)
  have HE6 := Lib.hid e_b6
  have HE7 := Lib.hid e_b7
  have q_b7 := e_b7.cell 0
  simp only [List.getElem?_toArray, List.getElem?_cons_zero] at q_b7
  have q_b6 := e_b6.cell 0
  simp only [List.getElem?_toArray, List.getElem?_cons_zero] at q_b6
  clear h
  go_enter Tryz.func111, Tryz.ntmps111
  go_wp2_with fail
  refine HC.out.mono ?_
  rintro e w1 ⟨rfl, hs, a1, h1⟩
  have HS := Lib.hid hs
  have H1 := Lib.hid h1
  have T6 := Lib.hid (hs.whole HE6.out (by decide))
  have T7 := Lib.hid (hs.whole HE7.out (by decide))
  clear hs h1 q_b6 q_b7 HC H HB0
  have HL : Hid (∀ V', Below w1.heap.size w1 V' → V'.cell? ⟨b7, 0, none⟩ = some (.pointer (some ⟨g, 20, none⟩)) ∧ V'.cell? ⟨b6, 0, none⟩ = some (.pointer (some ⟨g, 0, none⟩)) ∧ V'.cell? ⟨g, 22, none⟩ = some (.int .i64 p.rf.to_)) := Lib.hid (fun V' hb => ⟨(T7.out.under hb).cell 0, (T6.out.under hb).cell 0, (H1.out.box.under hb).cell 22⟩)
  have HBd := Lib.hid (show Below w1.heap.size w1 w1.drew from below_drewB (Below.refl _ w1) 1)
  go_wp2_with fail
  refine wp_region_T (ls := [8]) (T := (fun V' => Below w1.heap.size w1 V')) (by kernel_rfl) ?_
  refine takeT (i := 0) (v := ?_) rfl (by kernel_rfl) (by kernel_rfl) (by kernel_rfl) (by kernel_rfl) (fun _ _ _ h => h) (by rfl) ?_ HBd.out ?_
  rotate_left
  · intro V' hV; obtain ⟨y0, y1, y2⟩ := HL.out V' hV; go_simp <;> with_reducible rfl
  simp only [Act.put, List.setIfInBounds_toArray, List.set_cons_zero, List.set_cons_succ]
  refine takeT (i := 1) (v := ?_) rfl (by kernel_rfl) (by kernel_rfl) (by kernel_rfl) (by kernel_rfl) (fun _ _ _ h => h) (by rfl) ?_ HBd.out ?_
  rotate_left
  · intro V' hV; obtain ⟨y0, y1, y2⟩ := HL.out V' hV; go_simp <;> with_reducible rfl
  simp only [Act.put, List.setIfInBounds_toArray, List.set_cons_zero, List.set_cons_succ]
  refine takeP (i := 2) (v := ?_) rfl (by kernel_rfl) (by kernel_rfl) (by kernel_rfl) (by kernel_rfl) (fun _ _ _ h => h) (by rfl) ?_ (fun _ => HBd.out) ?_
  rotate_left
  · intro V'; go_simp <;> with_reducible rfl
  simp only [Act.put, List.setIfInBounds_toArray, List.set_cons_zero, List.set_cons_succ]
  refine takeP (i := 3) (v := ?_) rfl (by kernel_rfl) (by kernel_rfl) (by kernel_rfl) (by kernel_rfl) (fun _ _ _ h => h) (by rfl) ?_ (fun _ => HBd.out) ?_
  rotate_left
  · intro V'; go_simp <;> with_reducible rfl
  simp only [Act.put, List.setIfInBounds_toArray, List.set_cons_zero, List.set_cons_succ]
  refine takeT (i := 4) (v := ?_) rfl (by kernel_rfl) (by kernel_rfl) (by kernel_rfl) (by kernel_rfl) (fun _ _ _ h => h) (by rfl) ?_ HBd.out ?_
  rotate_left
  · intro V' hV; obtain ⟨y0, y1, y2⟩ := HL.out V' hV; go_simp <;> with_reducible rfl
  simp only [Act.put, List.setIfInBounds_toArray, List.set_cons_zero, List.set_cons_succ]
  refine oneT (i := 5) rfl (by kernel_rfl) (by rfl) (fun K hK => ?_)
  go_simp
  refine hK.out _ _ (fun _ => HBd.out) ?_
  clear hK K
  refine oneT (i := 6) rfl (by kernel_rfl) (by rfl) (fun K hK => ?_)
  go_simp
  refine hK.out _ _ (fun _ => HBd.out) ?_
  clear hK K
  refine oneT (i := 7) rfl (by kernel_rfl) (by rfl) (fun K hK => ?_)
  go_simp
  refine hK.out _ _ (fun _ => HBd.out) ?_
  clear hK K
  have hs0 := Stp.set (H1.out.under HBd.out).box (by decide) H1.out.ge 15 (.int .i64 p.rf.to_)
  have hz0 := (H1.out.under HBd.out).set (p' := { p with rf := { p.rf with st := 2, paused := false }, cf := { p.cf with f12 := p.rf.to_ } }) 15 (.int .i64 p.rf.to_) rfl rfl rfl rfl
  have f_ := (H1.out.under HBd.out).box.frozen 15
  obtain ⟨c0, c1, c2, c3, c4, c5, c6, c7, c8, c9, c10, c11, c12, c13, c14, c15, c16, c17, c18, c19, c20, c21, c22, c23, c24, c25, c26⟩ := cells27 (H1.out.under HBd.out).box
  clear c0 c1 c2 c3 c4 c5 c6 c7 c8 c9 c10 c11 c12 c13 c14 c16 c17 c18 c19 c20 c21 c22 c23 c24 c25 c26
  refine oneL (i := 8) (by kernel_rfl) rfl (by kernel_rfl) (by rfl) (fun K hK => ?_)
  go_simp
  refine hK.out _ _ ?_
  clear hK K f_ c15
  refine doneT (by kernel_rfl) ?_ _
  have HS2 := Lib.hid (HS.out.trans ((Stp.of_below HBd.out (Nat.le_trans H1.out.ge (Nat.le_of_lt H1.out.lt))).trans hs0))
  have HZ := Lib.hid hz0
  clear hs0 hz0
  go_wp2_with fail
  go_end0
  exact ⟨rfl, HS2.out, a1, HZ.out⟩

end Go.Proofs.YtdaimejlcfhfiaaGreatDoor

/-
  How many numbers a record of each kind has, and which records may be: plain words, and the walks of 'many'. Conditions: those that each theorem names.
-/
namespace Go.Proofs.YtdaimejlcfhfiaaGreatDoor
open Go.RowKit Go.Shelf

/-- The fewest, and the most, numbers of a kind; of none: more than there may be. -/
def loL : List Nat := [1, 0, 14, 3, 3, 1, 3, 1, 5, 2, 1, 2, 0, 0, 1, 0, 0]
def hiL : List Nat := [0, 0, 18, 3, 3, 1, 3, 1, 5, 2, 1, 2, 0, 0, 1, 0, 0]
def lo (k : Nat) : Nat := loL.getD k 1
def hi (k : Nat) : Nat := hiL.getD k 0
set_option maxRecDepth 100000 in
theorem lo_out {k : Nat} (h : 17 ≤ k) : lo k = 1 := by simp [lo, loL, List.getD, h]
set_option maxRecDepth 100000 in
theorem hi_out {k : Nat} (h : 17 ≤ k) : hi k = 0 := by simp [hi, hiL, List.getD, h]
set_option maxRecDepth 100000 in
theorem kind_cases {k : Nat} (h : k < 17) : k = 0 ∨ k = 1 ∨ k = 2 ∨ k = 3 ∨ k = 4 ∨ k = 5 ∨ k = 6 ∨ k = 7 ∨ k = 8 ∨ k = 9 ∨ k = 10 ∨ k = 11 ∨ k = 12 ∨ k = 13 ∨ k = 14 ∨ k = 15 ∨ k = 16 := by omega
set_option maxRecDepth 100000 in
theorem hi_le (k : Nat) : hi k ≤ 18 ∧ lo k ≤ 14 := by
  rcases Nat.lt_or_ge k 17 with h | h
  · rcases kind_cases h with rfl | rfl | rfl | rfl | rfl | rfl | rfl | rfl | rfl | rfl | rfl | rfl | rfl | rfl | rfl | rfl | rfl <;> decide
  · rw [hi_out h, lo_out h]; omega

/-- Whether a record may be. -/
def mayB (k : Nat) (zs : List Int) : Bool := decide (lo k ≤ zs.length) && decide (zs.length ≤ hi k) && zs.all isNum

set_option maxRecDepth 100000 in
theorem mayB_yes {k : Nat} {zs : List Int} (h : mayB k zs = true) : lo k ≤ zs.length ∧ zs.length ≤ hi k ∧ zs.all isNum = true := by simpa [mayB, and_assoc] using h
set_option maxRecDepth 100000 in
theorem mayB_kind {k : Nat} {zs : List Int} (h : mayB k zs = true) : 0 < k ∧ k < 17 := by
  obtain ⟨h1, h2, _⟩ := mayB_yes h
  rcases Nat.lt_or_ge k 17 with h3 | h3
  · refine ⟨?_, h3⟩
    rcases Nat.eq_zero_or_pos k with rfl | h4
    · have e1 : lo 0 = 1 := rfl
      have e2 : hi 0 = 0 := rfl
      omega
    · exact h4
  · rw [lo_out h3] at h1; rw [hi_out h3] at h2; omega

set_option maxRecDepth 100000 in
theorem kind_ne {k : Int} (h : 17 ≤ k) (m : Int) (hm : m < 17) : (k == m) = false := by rw [beq_eq_false_iff_ne]; omega

set_option maxRecDepth 100000 in
set_option maxHeartbeats 4000000 in
theorem many_any (k : Nat) (w : World) :
    Calls Tryz.prog 60 #[.int .u8 (k : Int)] w fun e w' => e = .returned (.tuple #[.int .i64 (lo k : Int), .int .i64 (hi k : Int)]) ∧ w = w' := by
  rcases Nat.lt_or_ge k 17 with h | h
  · rcases kind_cases h with rfl | rfl | rfl | rfl | rfl | rfl | rfl | rfl | rfl | rfl | rfl | rfl | rfl | rfl | rfl | rfl | rfl
    all_goals
      clear h
      go_enter Tryz.func60, Tryz.ntmps60
      go_wp2
      go_ret2
      exact ⟨rfl, rfl⟩
  · rw [lo_out h, hi_out h]
    obtain ⟨z, hz⟩ : ∃ z : Int, (k : Int) = z := ⟨_, rfl⟩
    have h17 : 17 ≤ z := by omega
    rw [hz]
    clear hz h
    have e1 := kind_ne h17 1 (by omega)
    have e2 := kind_ne h17 2 (by omega)
    have e3 := kind_ne h17 3 (by omega)
    have e4 := kind_ne h17 4 (by omega)
    have e5 := kind_ne h17 5 (by omega)
    have e6 := kind_ne h17 6 (by omega)
    have e7 := kind_ne h17 7 (by omega)
    have e8 := kind_ne h17 8 (by omega)
    have e9 := kind_ne h17 9 (by omega)
    have e10 := kind_ne h17 10 (by omega)
    have e11 := kind_ne h17 11 (by omega)
    have e12 := kind_ne h17 12 (by omega)
    have e13 := kind_ne h17 13 (by omega)
    have e14 := kind_ne h17 14 (by omega)
    have e15 := kind_ne h17 15 (by omega)
    have e16 := kind_ne h17 16 (by omega)
    clear h17
    go_enter Tryz.func60, Tryz.ntmps60
    go_wp2
    go_ret2
    exact ⟨rfl, rfl⟩

end Go.Proofs.YtdaimejlcfhfiaaGreatDoor

/-
  What a record does, told by places in the rows: plain. Conditions: those that each theorem names.
-/
namespace Go.Proofs.YtdaimejlcfhfiaaGreatDoor
open Go.RowKit Go.Shelf

section
variable {p : Br} {k : Nat} {zs : List Int}
/-- What no int leaves. -/
structure Good (m : Nat) (p : Br) : Prop where
  len : p.its.length + p.kps.length ≤ m
  ep : -9223372036854775808 ≤ p.ep
  sq : -9223372036854775808 ≤ p.sq
  ph : ∀ x ∈ p.kps, 0 ≤ x.phase
theorem good_apply {m : Nat} (h : Good m p) (k : Int) (zs : List Int) : Good (m + 1) (applyB p k zs) := by
  have h1 := len_apply p k zs
  have h2 := step_apply p k zs
  refine ⟨by have := h.len; omega, Int.le_trans h.ep h2.ep, Int.le_trans h.sq h2.sq, ?_⟩
  have hb := h.ph
  refine apply_cases (P := fun o : Br => ∀ x ∈ o.kps, 0 ≤ x.phase) (fun _ hr => ?_) (fun hn _ _ => ?_) hb
  · unfold confB; rw [if_pos hr]; exact hb
  refine fit_cases (P := fun o : Br => ∀ x ∈ o.kps, 0 ≤ x.phase) (fun e => ?_) (fun e => ?_) (fun e => ?_) (fun e => ?_) (fun e => ?_) (fun e => ?_) (fun e => ?_) (fun e => ?_) (fun e => ?_) (fun _ e => ?_) hb
  · unfold bootB; split <;> exact hb
  · unfold intentB; split <;> exact hb
  · unfold madeB; split
    · exact hb
    · split
      · intro x hx
        rcases putK_mem.1 hx with rfl | hx
        · show (0 : Int) ≤ if _ then 9 else 1
          split <;> decide
        · exact hb x hx
      · exact hb
  · unfold phaseB; split
    · exact hb
    · split
      · rename_i hl
        intro x hx
        rcases setK_mem hx with hx | ⟨z, hz, _, rfl⟩
        · exact hb x hx
        · have := legal_bd hl.2
          show 0 ≤ zs.getD 1 0
          omega
      · exact hb
  · unfold goneB_; split
    · exact hb
    · exact fun x hx => hb x (List.mem_of_mem_eraseP hx)
  · unfold takeB; split
    · intro x hx
      rcases putK_mem.1 hx with rfl | hx
      · show (0 : Int) ≤ 8; decide
      · exact hb x hx
    · exact hb
  · unfold guardB; split
    · exact hb
    · split
      · intro x hx
        rcases setK_mem hx with hx | ⟨z, hz, _, rfl⟩
        · exact hb x hx
        · exact hb z hz
      · exact hb
  · unfold doneB; split
    · exact hb
    · split
      · intro x hx
        rcases setK_mem hx with hx | ⟨z, hz, _, rfl⟩
        · exact hb x hx
        · exact hb z hz
      · exact hb
  · unfold startB; split <;> exact hb
  · unfold refB
    repeat' split
    all_goals exact hb

theorem kept_idx (p : Br) (id : Int) : (p.kps.findIdx? (fun y => decide (y.id = id)) = none ∧ keptB p id = none ∧ findB p id = -1) ∨
    ∃ (i : Nat) (x : Kp), p.kps.findIdx? (fun y => decide (y.id = id)) = some i ∧ p.kps[i]? = some x ∧ keptB p id = some x ∧ findB p id = (i : Int) := by
  cases h : p.kps.findIdx? (fun y => decide (y.id = id)) with
  | none =>
    refine .inl ⟨rfl, ?_, by simp [findB, h]⟩
    rw [List.findIdx?_eq_none_iff] at h
    simp only [keptB, List.find?_eq_none]
    exact fun x hx => by simpa using h x hx
  | some i =>
    have h2 := h
    rw [List.findIdx?_eq_some_iff_getElem] at h2
    obtain ⟨hi, h3, h4⟩ := h2
    refine .inr ⟨i, p.kps[i], rfl, List.getElem?_eq_getElem hi, ?_, by simp [findB, h]⟩
    rw [keptB, List.find?_eq_some_iff_getElem]
    exact ⟨h3, i, hi, rfl, fun j hj => by simpa using h4 j hj⟩
theorem meant_idx (p : Br) (t : Int) : (p.its.findIdx? (fun y => decide (y.tok = t)) = none ∧ meantB p t = none ∧ tokenB p t = -1) ∨
    ∃ (i : Nat) (x : It), p.its.findIdx? (fun y => decide (y.tok = t)) = some i ∧ p.its[i]? = some x ∧ meantB p t = some x ∧ tokenB p t = (i : Int) := by
  cases h : p.its.findIdx? (fun y => decide (y.tok = t)) with
  | none =>
    refine .inl ⟨rfl, ?_, by simp [tokenB, h]⟩
    rw [List.findIdx?_eq_none_iff] at h
    simp only [meantB, List.find?_eq_none]
    exact fun x hx => by simpa using h x hx
  | some i =>
    have h2 := h
    rw [List.findIdx?_eq_some_iff_getElem] at h2
    obtain ⟨hi, h3, h4⟩ := h2
    refine .inr ⟨i, p.its[i], rfl, List.getElem?_eq_getElem hi, ?_, by simp [tokenB, h]⟩
    rw [meantB, List.find?_eq_some_iff_getElem]
    exact ⟨h3, i, hi, rfl, fun j hj => by simpa using h4 j hj⟩
theorem setK_set {id : Int} {f : Kp → Kp} {l : List Kp} {i : Nat} {x : Kp} (h : l.findIdx? (fun y => decide (y.id = id)) = some i) (hx : l[i]? = some x) : setK id f l = l.set i (f x) := by
  apply List.ext_getElem?
  intro j
  rw [setK_get h j]
  have hi := (List.getElem?_eq_some_iff.1 hx).1
  by_cases e : j = i
  · subst e
    rw [if_pos rfl, hx, List.getElem?_set_self hi]
    rfl
  · rw [if_neg e, List.getElem?_set_ne (Ne.symm e)]
theorem fresh_iff (p : Br) (id : Int) : decide (findB p id < 0) = true ↔ keptB p id = none := by
  rcases kept_idx p id with ⟨_, h2, h3⟩ | ⟨i, x, _, _, h2, h3⟩
  · simp [h2, h3]
  · simp [h2, h3]

theorem many_of (h : mayB k zs = true) (h2 : k ≠ 2) : manyB (k : Int) = (zs.length : Int) := by
  obtain ⟨h1, h3, _⟩ := mayB_yes h
  obtain ⟨h4, h5⟩ := mayB_kind h
  rcases kind_cases h5 with rfl | rfl | rfl | rfl | rfl | rfl | rfl | rfl | rfl | rfl | rfl | rfl | rfl | rfl | rfl | rfl | rfl
  all_goals first
    | omega
    | (simp only [lo, hi, loL, hiL, List.getD_cons_succ, List.getD_cons_zero] at h1 h3
       have hl : zs.length = _ := Nat.le_antisymm h3 h1
       rw [hl]; try decide)
theorem apply_fit (h : mayB k zs = true) (h2 : k ≠ 2) : applyB p (k : Int) zs = fitB p (k : Int) (zs.getD 0 0) (zs.getD 1 0) (zs.getD 2 0) (zs.getD 3 0) (zs.getD 4 0) := by
  have hn : numsB zs = true := (mayB_yes h).2.2
  unfold applyB
  rw [if_pos hn, if_neg (by omega), if_pos (many_of h h2)]
theorem len_of (h : mayB k zs = true) (h2 : k ≠ 2) : (zs.length : Int) = manyB (k : Int) := (many_of h h2).symm
theorem apply_conf (h : mayB 2 zs = true) : applyB p 2 zs = confB p zs := by
  have hn : numsB zs = true := (mayB_yes h).2.2
  unfold applyB
  rw [if_pos hn, if_pos rfl]
/-- A record that may not be does nothing. -/
theorem apply_not (h : mayB k zs = false) : applyB p (k : Int) zs = p := by
  by_cases hn : numsB zs = true
  · by_cases h2 : k = 2
    · subst h2
      unfold applyB
      rw [if_pos hn, if_pos (by rfl)]
      unfold confB
      rw [if_neg]
      intro hr
      have hs : shapeB zs = true := by
        unfold isRow at hr
        simp only [Bool.and_eq_true] at hr
        exact hr.1
      have hl : 14 ≤ zs.length ∧ zs.length ≤ 18 := by
        unfold shapeB at hs
        unfold isRow may marksB at hr
        simp only [Bool.and_eq_true, decide_eq_true_eq] at hs hr
        have := hr.2.2.1.1
        simp only [ofRow, List.length_drop] at this
        omega
      have : mayB 2 zs = true := by
        have hn' : zs.all isNum = true := hn
        simp only [mayB, Bool.and_eq_true, decide_eq_true_eq, hn', and_true]
        exact hl
      rw [this] at h; cases h
    · refine not_len (by omega) ?_
      intro hm
      rcases Nat.lt_or_ge k 17 with h5 | h5
      · have : mayB k zs = true := by
          have hn' : zs.all isNum = true := hn
          simp only [mayB, Bool.and_eq_true, decide_eq_true_eq, hn', and_true]
          rcases kind_cases h5 with rfl | rfl | rfl | rfl | rfl | rfl | rfl | rfl | rfl | rfl | rfl | rfl | rfl | rfl | rfl | rfl | rfl
          all_goals first
            | omega
            | (simp only [lo, hi, loL, hiL, List.getD_cons_succ, List.getD_cons_zero]
               revert hm
               simp only [manyB]
               simp
               first | done | omega | (intro h9; exact List.length_eq_zero_iff.1 (by omega)))
        rw [this] at h; cases h
      · have : manyB (k : Int) = -1 := by
          unfold manyB
          rw [if_neg (by omega), if_neg (by omega), if_neg (by omega), if_neg (by omega), if_neg (by omega)]
        omega
  · exact not_nums (by simpa using hn)
end

end Go.Proofs.YtdaimejlcfhfiaaGreatDoor

/-
  The deeds that records are to a brain, as a map of closures. Conditions: those that each theorem names.
-/
namespace Go.Proofs.YtdaimejlcfhfiaaGreatDoor
open Go.RowKit Go.Shelf
open Go.Maps (Keyed int_keyed keyOf_int_mk)

def pairOk (l : List Value) : Bool := match l with
  | [x, y] => x.oneCell' && y.oneCell'
  | _ => false
def deedR (v : Value) : Option (DataW Value × List MemPlace) := match v with
  | .agg cs => if pairOk cs.toList then some (.held v, []) else none
  | _ => none
def deedP (c : Value × Value) : Value := .agg #[c.1, c.2]
theorem deedR_inv {v : Value} {y : DataW Value × List MemPlace} (h : deedR v = some y) : ∃ c, v = deedP c := by
  cases v with
  | agg cs =>
    simp only [deedR] at h
    split at h
    · rename_i e
      obtain ⟨l⟩ := cs
      simp only at e
      unfold pairOk at e
      split at e
      · rename_i a b
        exact ⟨(a, b), rfl⟩
      · cases e
    · cases h
  | _ => cases h
theorem deedR_mk {c : Value × Value} {y : DataW Value × List MemPlace} (h : deedR (deedP c) = some y) : c.1.oneCell' = true ∧ c.2.oneCell' = true ∧ y = (.held (deedP c), []) := by
  have h2 : (if (c.1.oneCell' && c.2.oneCell') = true then some ((DataW.held (deedP c), []) : DataW Value × List MemPlace) else none) = some y := h
  by_cases e : (c.1.oneCell' && c.2.oneCell') = true
  · rw [if_pos e] at h2
    simp only [Bool.and_eq_true] at e
    exact ⟨e.1, e.2, by cases h2; rfl⟩
  · rw [if_neg e] at h2
    cases h2
abbrev pB (b : Nat) : Value := .pointer (some ⟨b, 0, none⟩)
abbrev clo (f : Nat) (l : Array Value) : Value := .func (.func f) #[] l
/-- The map under way: its own block is the first one. -/
def DAt (W0 : World) (n : Nat) (D : DataW Value) (W : World) : Prop := W.ownsMap Tryz.prog 5 deedR W0.heap.size n D ∧ Below W0.heap.size W0 W

theorem wpList_deed {W0 W : World} {ops : Array Oper} {rest : List Oper} {o : Oper} {a : Act} {Q : Exit → Act → World → Prop} (n k : Nat) (D : DataW Value) (f : Nat → Value) (h : DAt W0 n D W) (hn : n < 1000) (hk : k < 256) (hg : o.guard = none) (m x v : Operand)
    (hop : o.op = Op.insert 63 m x v) (hm : a.eval m = .map (some W0.heap.size)) (hx : a.eval x = .int .u8 (k : Int)) (hv : a.eval v = f k) (hf : deedR (f k) = some (.held (f k), []))
    (hK : ∀ W', DAt W0 (n + 1) (D.put (.int .u8 (k : Int)) (.held (f k))) W' → wpList Tryz.prog ops Q rest (a.put o.dst undef) W') : wpList Tryz.prog ops Q (o :: rest) a W := by
  refine wpList_plain hg fun K' hK' => ?_
  obtain ⟨w', hrun, r1, r2⟩ := h.1.update (int_keyed Tryz.underlying5) Tryz.underlying63 (by unfold maxLen; omega) (keyOf_int_mk (q := .u8) (a := (k : Int)) Tryz.underlying5 (by
    have h1 : IntKind.u8.min = 0 := rfl
    have h2 : IntKind.u8.max = 255 := rfl
    simp [Lit.wf, h1, h2]; omega)) (val := f k) hf
  unfold Oper.wp
  simp [execOp, hop, hm, hx, hv, hrun, Result.andThen]
  exact hK' _ _ (hK w' ⟨r1, h.2.trans ((Below.refl _ _).grown r2 h.2.size (fun k e => by cases e; exact Nat.le_refl _))⟩)

/-- The map of some deeds, in the order of their kinds. -/
def mapD (l : List (Nat × Value)) : DataW Value := .map (l.map fun x => (.int .u8 (x.1 : Int), .held x.2))
/-- The boxes that the deeds hold. -/
structure Bx where
  (b1 b2 b3 b4 b5 b6 b7 b8 : Nat)
/-- The deeds of the kinds. -/
def deedV (x : Bx) : Nat → Value
  | 1 => .agg #[clo 71 #[pB x.b1], clo 72 #[pB x.b1]]
  | 2 => .agg #[clo 73 #[], clo 74 #[pB x.b1]]
  | 3 => .agg #[clo 76 #[pB x.b1], clo 77 #[pB x.b1]]
  | 4 => .agg #[clo 82 #[pB x.b2, pB x.b4], clo 83 #[pB x.b2]]
  | 5 => .agg #[clo 99 #[pB x.b7], clo 100 #[pB x.b7, pB x.b6]]
  | 6 => .agg #[clo 85 #[pB x.b3, pB x.b5], clo 87 #[pB x.b5]]
  | 7 => .agg #[clo 79 #[pB x.b2], clo 89 #[pB x.b2]]
  | 8 => .agg #[clo 91 #[pB x.b4], clo 92 #[pB x.b2]]
  | 9 => .agg #[clo 94 #[pB x.b3], clo 95 #[pB x.b5]]
  | 10 => .agg #[clo 96 #[pB x.b3, pB x.b5], clo 98 #[pB x.b5]]
  | 11 => .agg #[clo 102 #[pB x.b6, pB x.b8], clo 103 #[pB x.b6, pB x.b7]]
  | 12 => .agg #[clo 99 #[pB x.b7], clo 104 #[pB x.b7]]
  | 13 => .agg #[clo 99 #[pB x.b7], clo 106 #[pB x.b7]]
  | 14 => .agg #[clo 107 #[pB x.b8, pB x.b7], clo 108 #[pB x.b7]]
  | 15 => .agg #[clo 109 #[pB x.b8, pB x.b7], clo 110 #[pB x.b7]]
  | 16 => .agg #[clo 99 #[pB x.b7], clo 111 #[pB x.b7, pB x.b6]]
  | _ => .agg #[]
def deedL (x : Bx) (l : List Nat) : DataW Value := mapD (l.map fun k => (k, deedV x k))

def GroupPost (g : Nat) (w : World) (e : Ending) (w' : World) : Prop := ∃ m b1, e = .returned (.map (some m)) ∧ w.heap.size ≤ m ∧ Below w.heap.size w w' ∧ Whole w' b1 65 #[.pointer (some ⟨g, 0, none⟩)] ∧ ∀ x : Bx, x.b1 = b1 → w'.ownsMap Tryz.prog 5 deedR m 3 (deedL x [1, 2, 3])

set_option maxRecDepth 100000 in
set_option maxHeartbeats 2000000 in
theorem ofGroup_any (g : Nat) (w : World) : Calls Tryz.prog 55 #[.pointer (some ⟨g, 0, none⟩)] w (GroupPost g w) := by
  have hmm := @run_makeMap Tryz.prog
  obtain ⟨V, hV⟩ : ∃ V, w.alloc (.cells #[.pointer (some ⟨g, 0, none⟩)] 65) = V := ⟨_, rfl⟩
  have hw : Whole V w.heap.size 65 #[.pointer (some ⟨g, 0, none⟩)] := by rw [← hV]; exact Whole.new _ _ _
  have hb : Below w.heap.size w V := by rw [← hV]; exact (Below.refl _ _).alloc (Nat.le_refl _) _
  have HN : DAt V 0 (.map []) (V.alloc (.map #[] 0)) := ⟨World.ownsMap_made V _ _ _, (Below.refl _ V).alloc (Nat.le_refl _) _⟩
  have HV := Lib.hid hV
  have HW := Lib.hid hw
  have HB := Lib.hid hb
  clear hV hw hb
  go_enter Tryz.func55, Tryz.ntmps55
  go_upto_region 1 with fail
  rw [HV.out]
  go_wp2_with (refine wpList_deed _ _ _ (deedV ⟨w.heap.size, 0, 0, 0, 0, 0, 0, 0⟩) HN (by decide) (by decide) rfl _ _ _ rfl rfl rfl rfl rfl ?_; clear HN; intro w1 HN)
  go_ret
  refine ⟨V.heap.size, w.heap.size, rfl, HB.out.size, HB.out.trans (HN.2.mono HB.out.size), HW.out.under HN.2, fun x hx => ?_⟩
  have e : deedL x [1, 2, 3] = deedL ⟨w.heap.size, 0, 0, 0, 0, 0, 0, 0⟩ [1, 2, 3] := by
    simp only [deedL, List.map_cons, List.map_nil, deedV, hx]
  rw [e]
  exact HN.1

/-- What the box is of. -/
def KBox (w : World) (g b2 b3 b4 b5 : Nat) : Prop :=
  Whole w b2 65 #[.pointer (some ⟨g, 0, none⟩)] ∧ Whole w b3 56 #[clo 79 #[pB b2]] ∧ Whole w b4 78 #[clo 80 #[pB b2]] ∧ Whole w b5 108 #[clo 81 #[pB b2]]
def KeptPost (g : Nat) (w : World) (e : Ending) (w' : World) : Prop := ∃ m b2 b3 b4 b5, e = .returned (.map (some m)) ∧ w.heap.size ≤ m ∧ Below w.heap.size w w' ∧ KBox w' g b2 b3 b4 b5 ∧ ∀ x : Bx, x.b2 = b2 → x.b3 = b3 → x.b4 = b4 → x.b5 = b5 → w'.ownsMap Tryz.prog 5 deedR m 6 (deedL x [4, 6, 7, 8, 9, 10])

set_option maxRecDepth 100000 in
set_option maxHeartbeats 2000000 in
theorem ofKept_any (g : Nat) (w : World) : Calls Tryz.prog 57 #[.pointer (some ⟨g, 0, none⟩)] w (KeptPost g w) := by
  have hmm := @run_makeMap Tryz.prog
  obtain ⟨V, hV⟩ : ∃ V, (((w.alloc (.cells #[.pointer (some ⟨g, 0, none⟩)] 65)).alloc (.cells #[clo 79 #[pB w.heap.size]] 56)).alloc (.cells #[clo 80 #[pB w.heap.size]] 78)).alloc (.cells #[clo 81 #[pB w.heap.size]] 108) = V := ⟨_, rfl⟩
  have hb : Below w.heap.size w V := by
    rw [← hV]
    exact ((((Below.refl _ _).alloc (Nat.le_refl _) _).alloc (by simp) _).alloc (by simp; omega) _).alloc (by simp; omega) _
  have hk : KBox V g w.heap.size (w.heap.size + 1) (w.heap.size + 1 + 1) (w.heap.size + 1 + 1 + 1) := by
    rw [← hV]
    refine ⟨(((Whole.new w _ _).alloc _).alloc _).alloc _, ?_, ?_, ?_⟩
    · have := ((Whole.new (w.alloc (.cells #[.pointer (some ⟨g, 0, none⟩)] 65)) 56 #[clo 79 #[pB w.heap.size]]).alloc (.cells #[clo 80 #[pB w.heap.size]] 78)).alloc (.cells #[clo 81 #[pB w.heap.size]] 108)
      simp only [World.size_alloc] at this
      exact this
    · have := (Whole.new ((w.alloc (.cells #[.pointer (some ⟨g, 0, none⟩)] 65)).alloc (.cells #[clo 79 #[pB w.heap.size]] 56)) 78 #[clo 80 #[pB w.heap.size]]).alloc (.cells #[clo 81 #[pB w.heap.size]] 108)
      simp only [World.size_alloc] at this
      exact this
    · have := Whole.new (((w.alloc (.cells #[.pointer (some ⟨g, 0, none⟩)] 65)).alloc (.cells #[clo 79 #[pB w.heap.size]] 56)).alloc (.cells #[clo 80 #[pB w.heap.size]] 78)) 108 #[clo 81 #[pB w.heap.size]]
      simp only [World.size_alloc] at this
      exact this
  have HN : DAt V 0 (.map []) (V.alloc (.map #[] 0)) := ⟨World.ownsMap_made V _ _ _, (Below.refl _ V).alloc (Nat.le_refl _) _⟩
  have q3 := (hk.2.1.alloc (.map #[] 0)).cell 0
  have HV := Lib.hid hV
  have HK := Lib.hid hk
  have HB := Lib.hid hb
  have L3 := Lib.hid hk.2.1.lt
  have Q3 := Lib.hid (hk.2.1.cell 0)
  clear hV hb hk
  go_enter Tryz.func57, Tryz.ntmps57
  go_upto_region 4 with fail
  rw [HV.out]
  go_wp2_with (refine wpList_deed _ _ _ (deedV ⟨0, w.heap.size, w.heap.size + 1, w.heap.size + 1 + 1, w.heap.size + 1 + 1 + 1, 0, 0, 0⟩) HN (by decide) (by decide) rfl _ _ _ rfl rfl rfl rfl rfl ?_; clear HN q3; intro w1 HN; have q3 := (HN.2.cell (p := ⟨w.heap.size + 1, 0, none⟩) L3.out).trans Q3.out; simp only [List.getElem?_toArray, List.getElem?_cons_zero] at q3)
  go_ret
  refine ⟨V.heap.size, _, _, _, _, rfl, HB.out.size, HB.out.trans (HN.2.mono HB.out.size), ⟨HK.out.1.under HN.2, HK.out.2.1.under HN.2, HK.out.2.2.1.under HN.2, HK.out.2.2.2.under HN.2⟩, fun x h2 h3 h4 h5 => ?_⟩
  have e : deedL x [4, 6, 7, 8, 9, 10] = deedL ⟨0, w.heap.size, w.heap.size + 1, w.heap.size + 1 + 1, w.heap.size + 1 + 1 + 1, 0, 0, 0⟩ [4, 6, 7, 8, 9, 10] := by
    simp only [deedL, List.map_cons, List.map_nil, deedV, h2, h3, h4, h5]
  rw [e]
  exact HN.1

/-- What the boxes of a refresh hold. -/
def RBox (w : World) (g b6 b7 b8 : Nat) : Prop :=
  Whole w b6 65 #[.pointer (some ⟨g, 0, none⟩)] ∧ Whole w b7 115 #[.pointer (some ⟨g, 20, none⟩)] ∧ Whole w b8 56 #[clo 99 #[pB b7]]
def RefPost (g : Nat) (w : World) (e : Ending) (w' : World) : Prop := ∃ m b6 b7 b8, e = .returned (.map (some m)) ∧ w.heap.size ≤ m ∧ Below w.heap.size w w' ∧ RBox w' g b6 b7 b8 ∧ ∀ x : Bx, x.b6 = b6 → x.b7 = b7 → x.b8 = b8 → w'.ownsMap Tryz.prog 5 deedR m 7 (deedL x [5, 11, 12, 13, 14, 15, 16])

set_option maxRecDepth 100000 in
set_option maxHeartbeats 2000000 in
theorem ofRefresh_any (g : Nat) (w : World) {p : Br} {a : Ad} {base : Nat} (h : BrIn base g w p a) : Calls Tryz.prog 58 #[.pointer (some ⟨g, 0, none⟩)] w (RefPost g w) := by
  have hmm := @run_makeMap Tryz.prog
  obtain ⟨V, hV⟩ : ∃ V, ((w.alloc (.cells #[.pointer (some ⟨g, 0, none⟩)] 65)).alloc (.cells #[.pointer (some ⟨g, 20, none⟩)] 115)).alloc (.cells #[clo 99 #[pB (w.heap.size + 1)]] 56) = V := ⟨_, rfl⟩
  have hb : Below w.heap.size w V := by
    rw [← hV]
    exact (((Below.refl _ _).alloc (Nat.le_refl _) _).alloc (by simp) _).alloc (by simp; omega) _
  have hk : RBox V g w.heap.size (w.heap.size + 1) (w.heap.size + 1 + 1) := by
    rw [← hV]
    refine ⟨((Whole.new w _ _).alloc _).alloc _, ?_, ?_⟩
    · have := (Whole.new (w.alloc (.cells #[.pointer (some ⟨g, 0, none⟩)] 65)) 115 #[.pointer (some ⟨g, 20, none⟩)]).alloc (.cells #[clo 99 #[pB (w.heap.size + 1)]] 56)
      simp only [World.size_alloc] at this
      exact this
    · have := Whole.new ((w.alloc (.cells #[.pointer (some ⟨g, 0, none⟩)] 65)).alloc (.cells #[.pointer (some ⟨g, 20, none⟩)] 115)) 56 #[clo 99 #[pB (w.heap.size + 1)]]
      simp only [World.size_alloc] at this
      exact this
  have HN : DAt V 0 (.map []) (V.alloc (.map #[] 0)) := ⟨World.ownsMap_made V _ _ _, (Below.refl _ V).alloc (Nat.le_refl _) _⟩
  have q3 := (hk.2.2.alloc (.map #[] 0)).cell 0
  have HV := Lib.hid hV
  have HK := Lib.hid hk
  have HB := Lib.hid hb
  have L3 := Lib.hid hk.2.2.lt
  have Q3 := Lib.hid (hk.2.2.cell 0)
  have hgl := h.lt
  have q20 := (cells27 h.box).2.2.2.2.2.2.2.2.2.2.2.2.2.2.2.2.2.2.2.2.1
  clear hV hb hk h
  go_enter Tryz.func58, Tryz.ntmps58
  go_upto_region 3 with fail
  rw [HV.out]
  clear q20
  go_wp2_with (refine wpList_deed _ _ _ (deedV ⟨0, 0, 0, 0, 0, w.heap.size, w.heap.size + 1, w.heap.size + 1 + 1⟩) HN (by decide) (by decide) rfl _ _ _ rfl rfl rfl rfl rfl ?_; clear HN q3; intro w1 HN; have q3 := (HN.2.cell (p := ⟨w.heap.size + 1 + 1, 0, none⟩) L3.out).trans Q3.out; simp only [List.getElem?_toArray, List.getElem?_cons_zero] at q3)
  go_ret
  refine ⟨V.heap.size, _, _, _, rfl, HB.out.size, HB.out.trans (HN.2.mono HB.out.size), ⟨HK.out.1.under HN.2, HK.out.2.1.under HN.2, HK.out.2.2.under HN.2⟩, fun x h6 h7 h8 => ?_⟩
  have e : deedL x [5, 11, 12, 13, 14, 15, 16] = deedL ⟨0, 0, 0, 0, 0, w.heap.size, w.heap.size + 1, w.heap.size + 1 + 1⟩ [5, 11, 12, 13, 14, 15, 16] := by
    simp only [deedL, List.map_cons, List.map_nil, deedV, h6, h7, h8]
  rw [e]
  exact HN.1

end Go.Proofs.YtdaimejlcfhfiaaGreatDoor

/-
  The walk of maps.Copy over deeds, and of 'deeds'. Conditions: those that each theorem names.
-/
namespace Go.Proofs.YtdaimejlcfhfiaaGreatDoor
open Go.RowKit Go.Shelf Go.Maps

abbrev deedM (w : World) (b n : Nat) (D : DataW Value) : Prop := w.ownsMap Tryz.prog 5 deedR b n D
def CopyPost (bd bs nd ns : Nat) (Dd Ds : DataW Value) (w : World) (e : Ending) (w' : World) : Prop :=
  e = .returned (.tuple #[]) ∧ deedM w' bd (nd + Maps.size Ds) (Lib.mergeD Dd Ds) ∧ deedM w' bs ns Ds ∧ w.grownBy w' (some bd)

/-- A deed into its new box. -/
theorem wpList_storeD {ops : Array Oper} {rest : List Oper} {o : Oper} {a : Act} {V : World} {Q : Exit → Act → World → Prop} (hgd : o.guard = none) (x y : Operand) (ho : o.op = .store 71 x y) (c1 c2 : Value) (h1 : c1.oneCell' = true) (h2 : c2.oneCell' = true)
    (b : Nat) (hb : V.heap.size = b) (hx : a.eval x = .pointer (some ⟨b, 0, none⟩)) (hy : a.eval y = .agg #[c1, c2])
    (h : ∀ W2, Whole W2 b 71 #[c1, c2] → V.grownBy W2 none → W2.heap.size = b + 1 → wpList Tryz.prog ops Q rest (a.put o.dst undef) W2) : wpList Tryz.prog ops Q (o :: rest) a (V.alloc (.cells #[.nilFunc, .nilFunc] 71)) := by
  subst hb
  have hn := Whole.new V 71 #[.nilFunc, .nilFunc]
  refine wpList_store_at hgd 71 x y ho V.heap.size 0 #[c1, c2] hx hy 71 #[.nilFunc, .nilFunc] hn (by kernel_rfl) (by simp) (by simp [h1, h2]) (h _ ?_ ?_ ?_)
  · exact setRow_heap _ _ _ _ _ _ hn
  · have hg := World.grownBy_alloc V (.cells #[.nilFunc, .nilFunc] 71) none
    have k := below_rowsetB (Below.refl V.heap.size (V.alloc (.cells #[.nilFunc, .nilFunc] 71))) (Nat.le_refl _) #[c1, c2]
    exact ⟨k.os.trans hg.os, k.tape.trans hg.tape, k.output.trans hg.output, Nat.le_trans hg.size k.size, fun i hi hne => (k.block i hi).trans (hg.block i hi hne)⟩
  · simp [World.setRow]
theorem wpList_loadD {ops : Array Oper} {rest : List Oper} {o : Oper} {a : Act} {w : World} {Q : Exit → Act → World → Prop} (hgd : o.guard = none) (x : Operand) (ho : o.op = .load 71 x) (g : Nat) (c1 c2 : Value) (hx : a.eval x = .pointer (some ⟨g, 0, none⟩)) (hW : Whole w g 71 #[c1, c2])
    (h : wpList Tryz.prog ops Q rest (a.put o.dst (.agg #[c1, c2])) w) : wpList Tryz.prog ops Q (o :: rest) a w := by
  refine wpList_plain hgd fun K hK => ?_
  unfold Oper.wp execOp
  simp only [ho, hx, Instr.loadAt, Instr.sureAddr, Sem.run_bind, Sem.run_pure, Result.andThen_ok, run_loadVar_row (P := Tryz.prog) w g 71 71 #[c1, c2] (0, 0) _ hW Tryz.underlying71 rfl (by kernel_rfl)]
  exact hK _ _ h

set_option maxHeartbeats 4000000 in
set_option maxRecDepth 100000 in
theorem copy_any (bd bs nd ns : Nat) (Dd Ds : DataW Value) (w : World) (hd : deedM w bd nd Dd) (hs : deedM w bs ns Ds) (hne : bd ≠ bs) (hroom : nd + Maps.size Ds ≤ maxLen) :
    Calls Tryz.prog 56 #[.map (some bd), .map (some bs)] w (CopyPost bd bs nd ns Dd Ds w) := by
  have K : Keyed Tryz.prog 5 := int_keyed Tryz.underlying5
  have hbd := hd.lt
  have hbs := hs.lt
  go_enter Tryz.func56, Tryz.ntmps56
  go_wp2_with (first
    | (at_range; refine wpList_range_own _ rfl _ 63 rfl 5 71 K Tryz.underlying63 deedR bs ns _ rfl hs ?_; intro w0 hrg0 hg0 hs0)
    | go_in)
  go_frame
  go_loopw [8] (fun _ wr => ∃ (left : Lit → Bool) (cnt : Nat) (Dout : DataW Value), wr.ranges Tryz.prog 5 deedR bs w.heap.size ns Ds left cnt ∧ cnt ≤ Maps.size Ds ∧
      wr.ownsMap Tryz.prog 5 deedR bd (nd + (Maps.size Ds - cnt)) Dout ∧ Merged Dout Dd Ds left ∧ w.grownBy wr (some bd))
    (fun _ wr => wr.rangeLeft bs w.heap.size)
  case atStart =>
    exact ⟨_, _, Dd, hrg0, Nat.le_refl _, (hd.kept hg0 (by simp)).mono (by omega), merged_start Dd Ds, hg0.but _⟩
  case round =>
    obtain ⟨left, cnt, Dout, hrg, hcs, hout, hM, hgw⟩ := hrel
    go_wp2_with (first
      | (at_next; refine wpList_next_ranges _ rfl _ rfl 5 K deedR id deedP (fun key _ _ => ⟨key, rfl⟩) (fun v _ hv => deedR_inv hv) bs w.heap.size ns _ _ _ rfl hrg ?_ ?_)
      | go_in)
    · intro hc0 hl0
      go_wp2
      go_end0
      subst hc0
      have e := merged_eq K.one hM hl0 (hout.canon K) (hd.canonK K) (hs.canonK K)
      subst e
      exact ⟨rfl, by simpa using hout, hrg.owns, hgw⟩
    · intro x c1 c2 kl y1 y2 w1 cnt1 hkey hlx hv hat hrg1 hlt hg1 hs1 hen
      have hout1 := hout.kept hg1 (fun e => by have := Option.some.inj e; omega)
      obtain ⟨k1, k2, k3⟩ := deedR_mk hv
      have hv' : deedR (.agg #[c1, c2]) = some (y1, y2) := hv
      have hen' : (Instr.entry (.pointer (some ⟨w.heap.size, 0, none⟩))).run Tryz.prog w1 = .ok (.tuple #[x, .agg #[c1, c2]]) w1 := hen
      clear hen hv k3
      go_wp2_with (first
        | (refine wpList_storeD rfl _ _ rfl c1 c2 k1 k2 _ hs1 rfl rfl ?_; intro w2 hw2 hg2 hs2)
        | (refine wpList_loadD rfl _ rfl _ c1 c2 rfl hw2 ?_)
        | (at_mapUpdate; refine wpList_mapUpdate_own _ rfl _ _ _ 63 rfl 5 71 K Tryz.underlying63 deedR bd _ _ rfl (hout1.kept hg2 (by simp)) (by omega) _ _ _ rfl rfl hkey y1 y2 hv' ?_; intro w3 hout3 hg3; go_frame)
        | go_in)
      have hrg2 := (hrg1.kept hg2 (by simp) (by simp)).kept hg3 (fun e => hne (Option.some.inj e).symm) (fun e => by have := Option.some.inj e; omega)
      go_roundw
      case rel =>
        exact ⟨_, cnt1, _, hrg2, by omega, hout3.mono (by omega), merged_step hM hout.isMap (K.key hkey) hat, ((hgw.andThen hg1 (fun j hj => .inl (by cases hj; exact Nat.le_refl _))).andThen hg2 (fun j hj => by cases hj)).andThen hg3 (fun j hj => .inr hj)⟩
      case measure => rw [hrg2.left_eq, hrg.left_eq]; exact hlt

theorem size_deedL (x : Bx) (l : List Nat) : Maps.size (deedL x l) = l.length := by simp [deedL, mapD, Maps.size]
/-- All boxes. -/
structure DBox (w : World) (g : Nat) (x : Bx) : Prop where
  e1 : Whole w x.b1 65 #[.pointer (some ⟨g, 0, none⟩)]
  k : KBox w g x.b2 x.b3 x.b4 x.b5
  r : RBox w g x.b6 x.b7 x.b8
theorem KBox.under {w w' : World} {g b2 b3 b4 b5 : Nat} (h : KBox w g b2 b3 b4 b5) (hb : Below w.heap.size w w') : KBox w' g b2 b3 b4 b5 := ⟨h.1.under hb, h.2.1.under hb, h.2.2.1.under hb, h.2.2.2.under hb⟩
theorem RBox.under {w w' : World} {g b6 b7 b8 : Nat} (h : RBox w g b6 b7 b8) (hb : Below w.heap.size w w') : RBox w' g b6 b7 b8 := ⟨h.1.under hb, h.2.1.under hb, h.2.2.under hb⟩
theorem DBox.under {w w' : World} {g : Nat} {x : Bx} (h : DBox w g x) (hb : Below w.heap.size w w') : DBox w' g x := ⟨h.e1.under hb, h.k.under hb, h.r.under hb⟩
theorem DBox.stp {base : Nat} {w w' : World} {g : Nat} {x : Bx} (h : DBox w g x) (hs : Stp base w w') : DBox w' g x :=
  ⟨hs.whole h.e1 (by decide), ⟨hs.whole h.k.1 (by decide), hs.whole h.k.2.1 (by decide), hs.whole h.k.2.2.1 (by decide), hs.whole h.k.2.2.2 (by decide)⟩, ⟨hs.whole h.r.1 (by decide), hs.whole h.r.2.1 (by decide), hs.whole h.r.2.2 (by decide)⟩⟩
/-- No map turns what lies in cells. -/
theorem whole_but {w w' : World} {m b : Nat} {t : TypeId} {cs : Array Value} {n : Nat} {D : DataW Value} (h : Whole w b t cs) (hm : deedM w m n D) (hg : w.grownBy w' (some m)) : Whole w' b t cs :=
  h.grown hg (fun e => by
    cases e
    obtain ⟨es, clock, hb, _⟩ := hm
    unfold Whole at h
    rw [h] at hb; cases hb)
theorem KBox.but {w w' : World} {m n g b2 b3 b4 b5 : Nat} {D : DataW Value} (h : KBox w g b2 b3 b4 b5) (hm : deedM w m n D) (hg : w.grownBy w' (some m)) : KBox w' g b2 b3 b4 b5 := ⟨whole_but h.1 hm hg, whole_but h.2.1 hm hg, whole_but h.2.2.1 hm hg, whole_but h.2.2.2 hm hg⟩
theorem RBox.but {w w' : World} {m n g b6 b7 b8 : Nat} {D : DataW Value} (h : RBox w g b6 b7 b8) (hm : deedM w m n D) (hg : w.grownBy w' (some m)) : RBox w' g b6 b7 b8 := ⟨whole_but h.1 hm hg, whole_but h.2.1 hm hg, whole_but h.2.2 hm hg⟩
def allK : List Nat := [1, 2, 3, 4, 5, 6, 7, 8, 9, 10, 11, 12, 13, 14, 15, 16]
theorem merge1 (x : Bx) : Lib.mergeD (deedL x [1, 2, 3]) (deedL x [4, 6, 7, 8, 9, 10]) = deedL x [1, 2, 3, 4, 6, 7, 8, 9, 10] := by kernel_rfl
theorem merge2 (x : Bx) : Lib.mergeD (deedL x [1, 2, 3, 4, 6, 7, 8, 9, 10]) (deedL x [5, 11, 12, 13, 14, 15, 16]) = deedL x allK := by kernel_rfl
def DeedsPost (g : Nat) (w : World) (e : Ending) (w' : World) : Prop := ∃ m x, e = .returned (.map (some m)) ∧ w.heap.size ≤ m ∧ Below w.heap.size w w' ∧ DBox w' g x ∧ deedM w' m 16 (deedL x allK)

set_option maxRecDepth 100000 in
set_option maxHeartbeats 2000000 in
theorem deeds_any (g base : Nat) (w : World) {p : Br} {a : Ad} (h : BrIn base g w p a) : Calls Tryz.prog 35 #[.pointer (some ⟨g, 0, none⟩)] w (DeedsPost g w) := by
  have H := Lib.hid h
  clear h
  go_enter Tryz.func35, Tryz.ntmps35
  go_wp2_with fail
  refine (ofGroup_any g w).mono ?_
  rintro e w1 ⟨m, b1, rfl, hm, hb, hw1, ho⟩
  have HM := Lib.hid hm
  have HB := Lib.hid hb
  have HW := Lib.hid hw1
  have HO := Lib.hid ho
  clear hm hb hw1 ho
  go_wp2_with fail
  refine (ofKept_any g w1).mono ?_
  rintro e w2 ⟨m2, b2, b3, b4, b5, rfl, hm2, hb2, hk2, ho2⟩
  have HM2 := Lib.hid hm2
  have HB2 := Lib.hid hb2
  have HK2 := Lib.hid hk2
  have HO2 := Lib.hid ho2
  clear hm2 hb2 hk2 ho2
  have but : ∀ {W W' : World}, Below W.heap.size W W' → W.grownBy W' none := fun hB => ⟨hB.os, hB.tape, hB.output, hB.size, fun i hi _ => hB.block i hi⟩
  have o1 := HO.out ⟨b1, b2, b3, b4, b5, 0, 0, 0⟩ rfl
  have l1 := o1.lt
  have HC := Lib.hid (copy_any m m2 3 6 _ _ w2 (World.ownsMap.kept o1 (but HB2.out) (by simp)) (HO2.out ⟨b1, b2, b3, b4, b5, 0, 0, 0⟩ rfl rfl rfl rfl) (by have := HM2.out; omega) (by rw [size_deedL]; decide))
  have L1 := Lib.hid l1
  clear o1 l1
  go_wp2_with fail
  refine HC.out.mono ?_
  rintro e w3 ⟨rfl, o3, _, g3⟩
  rw [merge1, size_deedL] at o3
  have o1' := World.ownsMap.kept (HO.out ⟨b1, b2, b3, b4, b5, 0, 0, 0⟩ rfl) (but HB2.out) (by simp)
  have B2 := HB.out.trans (HB2.out.mono HB.out.size)
  have B3 := B2.grown g3 B2.size (fun k e => by cases e; exact HM.out)
  have hk3 := HK2.out.but o1' g3
  have hw3 := whole_but (HW.out.under HB2.out) o1' g3
  have hl3 : w1.heap.size ≤ w3.heap.size := Nat.le_trans HB2.out.size g3.size
  have HR := Lib.hid (ofRefresh_any g w3 (H.out.under B3))
  have HB3 := Lib.hid B3
  have HK3 := Lib.hid hk3
  have HW3 := Lib.hid hw3
  have HL3 := Lib.hid hl3
  have HO3 := Lib.hid o3
  clear o3 g3 o1' B2 B3 hk3 hw3 hl3 HC HO2 HK2 HB2 HM2 HB HW HO H
  go_wp2_with fail
  refine HR.out.mono ?_
  rintro e w4 ⟨m3, b6, b7, b8, rfl, hm4, hb4, hr4, ho4⟩
  have hM4 := Lib.hid hm4
  have hB4 := Lib.hid hb4
  have hR4 := Lib.hid hr4
  have hO4 := Lib.hid ho4
  have o4 : deedM w4 m 9 (deedL ⟨b1, b2, b3, b4, b5, b6, b7, b8⟩ [1, 2, 3, 4, 6, 7, 8, 9, 10]) := by
    have e : deedL ⟨b1, b2, b3, b4, b5, b6, b7, b8⟩ [1, 2, 3, 4, 6, 7, 8, 9, 10] = deedL ⟨b1, b2, b3, b4, b5, 0, 0, 0⟩ [1, 2, 3, 4, 6, 7, 8, 9, 10] := by
      simp only [deedL, List.map_cons, List.map_nil, deedV]
    rw [e]
    exact World.ownsMap.kept HO3.out (but hb4) (by simp)
  have HC := Lib.hid (copy_any m m3 9 7 _ _ w4 o4 (ho4 ⟨b1, b2, b3, b4, b5, b6, b7, b8⟩ rfl rfl rfl) (by have := HL3.out; have := L1.out; omega) (by rw [size_deedL]; decide))
  have HO4 := Lib.hid o4
  clear hm4 hb4 hr4 ho4 o4 HR
  go_wp2_with fail
  refine HC.out.mono ?_
  rintro e w5 ⟨rfl, o5, _, g5⟩
  rw [merge2, size_deedL] at o5
  have HO5 := Lib.hid o5
  have HG5 := Lib.hid g5
  clear o5 g5
  go_wp2_with fail
  go_ret
  have B4 := HB3.out.trans (hB4.out.mono HB3.out.size)
  exact ⟨m, ⟨b1, b2, b3, b4, b5, b6, b7, b8⟩, rfl, HM.out, B4.grown HG5.out B4.size (fun k e => by cases e; exact HM.out), ⟨whole_but (HW3.out.under hB4.out) HO4.out HG5.out, (HK3.out.under hB4.out).but HO4.out HG5.out, hR4.out.but HO4.out HG5.out⟩, HO5.out⟩

end Go.Proofs.YtdaimejlcfhfiaaGreatDoor
