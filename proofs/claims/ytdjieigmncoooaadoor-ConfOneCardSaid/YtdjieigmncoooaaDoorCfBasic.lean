/-
  The walks of 'Check', 'Floor', 'Bound' of package conf. Conditions: those that each theorem names.
-/
import Derived.Test.YtdjieigmncoooaaDoorCfRight
namespace Go.Proofs.YtdjieigmncoooaaDoor
open Go.RowKit Go.Shelf

/-- What the contracts of a group ask: where it lies, and the table. -/
structure Has (x : Cf) (w : World) : Prop where
  lies : Lies x w w.heap.size
  tab : Tab w
set_option maxRecDepth 100000 in
theorem Has.under {x : Cf} {w w' : World} (h : Has x w) (hb : Below w.heap.size w w') : Has x w' := ⟨(h.lies.below hb).more hb.size, h.tab.under hb⟩
set_option maxRecDepth 100000 in
theorem Has.right {x : Cf} {w : World} (h : Has x w) : Calls Tryd.prog 22 #[x.v] w (BoolPost (may x) w) := right_any x w.heap.size w h.lies (Nat.le_refl _) h.tab

set_option maxRecDepth 100000 in
theorem may_inB {x : Cf} (h : may x = true) : inB x = true := by
  unfold may at h
  simp only [Bool.and_eq_true] at h
  exact h.1
set_option maxRecDepth 100000 in
theorem may_marks {x : Cf} (h : may x = true) : marksB x.ms = true ∧ x.ms.length ≤ 4 := by
  unfold may at h
  simp only [Bool.and_eq_true] at h
  refine ⟨h.2.1, ?_⟩
  have := h.2.1
  unfold marksB at this
  simp only [Bool.and_eq_true, decide_eq_true_eq] at this
  exact this.1
set_option maxRecDepth 100000 in
theorem may_room {x : Cf} (h : may x = true) : x.f0 = 0 ∨ 1 ≤ x.f2 + x.f0 - fl x := by
  unfold may at h
  simp only [Bool.and_eq_true] at h
  have := h.2.2
  unfold roomB at this
  simpa using this

set_option maxRecDepth 100000 in
set_option maxHeartbeats 1000000 in
theorem check_any (x : Cf) (w : World) (h : Has x w) : Calls Tryd.prog 15 #[x.v] w (IntPost (er (may x)) w) := by
  have hb : Below w.heap.size w (w.alloc (.cells x.cells 24)) := (Below.refl _ w).alloc (Nat.le_refl _) _
  have HR := Lib.hid (h.under hb).right
  have HB := Lib.hid hb
  clear h hb
  by_cases hm : may x = true
  · rw [hm] at HR ⊢
    clear hm
    go_enter Tryd.func15, Tryd.ntmps15
    go_wp2_with fail
    refine (HR.out).mono ?_
    rintro e w1 ⟨rfl, b1⟩
    have HB1 := Lib.hid (HB.out.trans (b1.mono HB.out.size))
    clear b1 HR
    go_wp2_with fail
    go_ret
    exact ⟨rfl, HB1.out⟩
  · have hm : may x = false := by simpa using hm
    rw [hm] at HR ⊢
    clear hm
    go_enter Tryd.func15, Tryd.ntmps15
    go_wp2_with fail
    refine (HR.out).mono ?_
    rintro e w1 ⟨rfl, b1⟩
    have HB1 := Lib.hid (HB.out.trans (b1.mono HB.out.size))
    clear b1 HR
    go_wp2_with fail
    go_ret
    exact ⟨rfl, HB1.out⟩

set_option maxRecDepth 100000 in
set_option maxHeartbeats 1000000 in
theorem floorC_any (x : Cf) (w : World) (h : Has x w) : Calls Tryd.prog 17 #[x.v] w (IntPost (floorOf x) w) := by
  have hb : Below w.heap.size w (w.alloc (.cells x.cells 24)) := (Below.refl _ w).alloc (Nat.le_refl _) _
  have HR := Lib.hid (h.under hb).right
  have HB := Lib.hid hb
  have HX := Lib.hid (InBox.new x w)
  clear h hb
  by_cases hm : may x = true
  · rw [hm] at HR
    have HF := Lib.hid (show floorOf x = fl x by unfold floorOf; rw [if_pos hm])
    have HC := Lib.hid (floor_any x (may_inB hm))
    clear hm
    go_enter Tryd.func17, Tryd.ntmps17
    go_wp2_with fail
    refine (HR.out).mono ?_
    rintro e w1 ⟨rfl, b1⟩
    have HX1 := Lib.hid (HX.out.under b1)
    clear b1 HR HX HB
    obtain ⟨c0, c1, c2, c3, c4, c5, c6, c7, c8, c9, c10, c11, c12, c13, c14⟩ := HX1.out.1.conf
    go_wp2_with fail
    refine (HC.out _).mono ?_
    rintro e w2 ⟨rfl, b2⟩
    have HX2 := Lib.hid (HX1.out.under b2)
    clear b2 HX1 HC
    go_wp2_with fail
    go_ret
    exact ⟨by rw [HF.out]; rfl, HX2.out.2⟩
  · have hm : may x = false := by simpa using hm
    rw [hm] at HR
    have HF := Lib.hid (show floorOf x = 0 by unfold floorOf; rw [hm]; rfl)
    clear hm
    go_enter Tryd.func17, Tryd.ntmps17
    go_wp2_with fail
    refine (HR.out).mono ?_
    rintro e w1 ⟨rfl, b1⟩
    have HB1 := Lib.hid (HB.out.trans (b1.mono HB.out.size))
    clear b1 HR
    go_wp2_with fail
    go_ret
    exact ⟨by rw [HF.out]; rfl, HB1.out⟩

set_option maxRecDepth 100000 in
set_option maxHeartbeats 1000000 in
theorem boundC_any (x : Cf) (w : World) (h : Has x w) : Calls Tryd.prog 19 #[x.v] w (IntPost (boundOf x) w) := by
  have hb : Below w.heap.size w (w.alloc (.cells x.cells 24)) := (Below.refl _ w).alloc (Nat.le_refl _) _
  have HR := Lib.hid (h.under hb).right
  have HB := Lib.hid hb
  have HX := Lib.hid (InBox.new x w)
  clear h hb
  by_cases hm : may x = true
  · rw [hm] at HR
    have HF := Lib.hid (show boundOf x = x.f0 + x.f2 + x.f3 by unfold boundOf; rw [if_pos hm])
    obtain ⟨⟨⟨a0, a1⟩, _, ⟨e0, e1⟩, ⟨g0, g1⟩⟩, _⟩ := inB_iff.1 (may_inB hm)
    clear hm
    go_enter Tryd.func19, Tryd.ntmps19
    go_wp2_with fail
    refine (HR.out).mono ?_
    rintro e w1 ⟨rfl, b1⟩
    have HX1 := Lib.hid (HX.out.under b1)
    clear b1 HR HX HB
    obtain ⟨c0, c1, c2, c3, c4, c5, c6, c7, c8, c9, c10, c11, c12, c13, c14⟩ := HX1.out.1.conf
    go_wp2_with fail
    go_ret
    exact ⟨by rw [HF.out]; rfl, HX1.out.2⟩
  · have hm : may x = false := by simpa using hm
    rw [hm] at HR
    have HF := Lib.hid (show boundOf x = 0 by unfold boundOf; rw [hm]; rfl)
    clear hm
    go_enter Tryd.func19, Tryd.ntmps19
    go_wp2_with fail
    refine (HR.out).mono ?_
    rintro e w1 ⟨rfl, b1⟩
    have HB1 := Lib.hid (HB.out.trans (b1.mono HB.out.size))
    clear b1 HR
    go_wp2_with fail
    go_ret
    exact ⟨by rw [HF.out]; rfl, HB1.out⟩

end Go.Proofs.YtdjieigmncoooaaDoor
