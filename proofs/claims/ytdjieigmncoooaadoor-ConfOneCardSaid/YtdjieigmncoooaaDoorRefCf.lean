/-
  The walks of 'Floor', 'Bound', 'Row', 'Same' of the document's own answer (layer 7). Conditions: those that each theorem names.
-/
import Derived.Test.YtdjieigmncoooaaDoorRefCheck
import Derived.Test.YtdjieigmncoooaaDoorCfRow
import Derived.Test.YtdjieigmncoooaaDoorCfSame
namespace Go.Proofs.YtdjieigmncoooaaDoor
open Go.RowKit Go.Shelf

set_option maxRecDepth 100000 in
set_option maxHeartbeats 1000000 in
theorem refFloorC_any (x : Cf) (w : World) (h : Lies x w w.heap.size) (hn : x.n ≤ 1000) : Calls Tryd.prog 18 #[x.v] w (IntPost (floorOf x) w) := by
  have hb : Below w.heap.size w (w.alloc (.cells x.cells 24)) := (Below.refl _ w).alloc (Nat.le_refl _) _
  have HR := Lib.hid (refCheck_any x w.heap.size _ (h.below hb) hb.size hn)
  have HB := Lib.hid hb
  have HX := Lib.hid (InBox.new x w)
  clear h hb
  by_cases hm : may x = true
  · rw [hm] at HR
    have HF := Lib.hid (show floorOf x = fl x by unfold floorOf; rw [if_pos hm])
    have HC := Lib.hid (refFloor_any x (may_inB hm))
    have he : er true = 0 := rfl
    rw [he] at HR
    clear hm he
    go_enter Tryd.func18, Tryd.ntmps18
    go_wp2_with fail
    refine (HR.out).mono ?_
    rintro e w1 ⟨rfl, b1⟩
    have HX1 := Lib.hid (HX.out.under b1)
    clear b1 HR HX HB
    obtain ⟨c0, c1, c2, c3, c4, c5, c6, c7, c8, c9, c10, c11, c12, c13, c14⟩ := HX1.out.1.conf
    go_wp2_with fail
    refine (HC.out _).mono ?_
    rintro e w2 ⟨rfl, b2⟩
    have HX2 := Lib.hid (HX1.out.under b2)
    clear b2 HX1 HC
    go_wp2_with fail
    go_ret
    exact ⟨by rw [HF.out]; rfl, HX2.out.2⟩
  · have hm : may x = false := by simpa using hm
    rw [hm] at HR
    have HF := Lib.hid (show floorOf x = 0 by unfold floorOf; rw [hm]; rfl)
    have he : er false = 70 := rfl
    rw [he] at HR
    clear hm he
    go_enter Tryd.func18, Tryd.ntmps18
    go_wp2_with fail
    refine (HR.out).mono ?_
    rintro e w1 ⟨rfl, b1⟩
    have HB1 := Lib.hid (HB.out.trans (b1.mono HB.out.size))
    clear b1 HR
    go_wp2_with fail
    go_ret
    exact ⟨by rw [HF.out]; rfl, HB1.out⟩

set_option maxRecDepth 100000 in
set_option maxHeartbeats 1000000 in
theorem refBoundC_any (x : Cf) (w : World) (h : Lies x w w.heap.size) (hn : x.n ≤ 1000) : Calls Tryd.prog 20 #[x.v] w (IntPost (boundOf x) w) := by
  have hb : Below w.heap.size w (w.alloc (.cells x.cells 24)) := (Below.refl _ w).alloc (Nat.le_refl _) _
  have HR := Lib.hid (refCheck_any x w.heap.size _ (h.below hb) hb.size hn)
  have HB := Lib.hid hb
  have HX := Lib.hid (InBox.new x w)
  clear h hb
  by_cases hm : may x = true
  · rw [hm] at HR
    have HF := Lib.hid (show boundOf x = x.f0 + x.f2 + x.f3 by unfold boundOf; rw [if_pos hm])
    obtain ⟨⟨⟨a0, a1⟩, _, ⟨e0, e1⟩, ⟨g0, g1⟩⟩, _⟩ := inB_iff.1 (may_inB hm)
    have he : er true = 0 := rfl
    rw [he] at HR
    clear hm he
    go_enter Tryd.func20, Tryd.ntmps20
    go_wp2_with fail
    refine (HR.out).mono ?_
    rintro e w1 ⟨rfl, b1⟩
    have HX1 := Lib.hid (HX.out.under b1)
    clear b1 HR HX HB
    obtain ⟨c0, c1, c2, c3, c4, c5, c6, c7, c8, c9, c10, c11, c12, c13, c14⟩ := HX1.out.1.conf
    go_wp2_with fail
    go_ret
    exact ⟨by rw [HF.out]; rfl, HX1.out.2⟩
  · have hm : may x = false := by simpa using hm
    rw [hm] at HR
    have HF := Lib.hid (show boundOf x = 0 by unfold boundOf; rw [hm]; rfl)
    have he : er false = 70 := rfl
    rw [he] at HR
    clear hm he
    go_enter Tryd.func20, Tryd.ntmps20
    go_wp2_with fail
    refine (HR.out).mono ?_
    rintro e w1 ⟨rfl, b1⟩
    have HB1 := Lib.hid (HB.out.trans (b1.mono HB.out.size))
    clear b1 HR
    go_wp2_with fail
    go_ret
    exact ⟨by rw [HF.out]; rfl, HB1.out⟩

/-- The literal of the numbers and Skip. -/
def row14 (x : Cf) (s : Int) : Array Value := #[.int .i64 x.f0, .int .i64 x.f1, .int .i64 x.f2, .int .i64 x.f3, .int .i64 x.f4, .int .i64 x.f5, .int .i64 x.f6, .int .i64 x.f7, .int .i64 x.f8, .int .i64 x.f9, .int .i64 x.f10, .int .i64 x.f11, .int .i64 x.f12, .int .i64 s]
set_option maxRecDepth 100000 in
theorem row14_app (x : Cf) (w W : World) (s : Int) (hn : x.n ≤ 1000) (hx : Lies x W w.heap.size) (hb : Below w.heap.size w W) :
    ∃ A c W3, (Builtin.append_ #[22, 22] 22 #[.slice (some ⟨W.heap.size, 0, none⟩) 14 14, .slice x.A x.n x.c]).run Tryd.prog (W.alloc (.cells (row14 x s) 3)) = .ok (.slice A (14 + x.n) c) W3 ∧
      W3.ownsRow w.heap.size 3 1 (.slice A (14 + x.n) c) (14 + x.n) (iv (x.fs ++ s :: x.ms)) ∧ Below w.heap.size w W3 := by
  have hb1 : Below w.heap.size w (W.alloc (.cells (row14 x s) 3)) := hb.alloc hb.size _
  have hown : (W.alloc (.cells (row14 x s) 3)).ownsRow w.heap.size 3 1 (.slice (some ⟨W.heap.size, 0, none⟩) 14 14) 14 (iv (x.fs ++ [s])) :=
    ⟨by simp [iv, Cf.fs], .inr ⟨W.heap.size, 14, row14 x s, rfl, hb.size, heap_alloc_new W _, by omega, by unfold maxLen; omega, rfl, rfl⟩⟩
  obtain ⟨v, W3, r, o3, g⟩ := run_appI _ w.heap.size _ 14 _ hown w.heap.size x.A x.n x.c x.ms (hx.on hb.size ((Below.refl _ W).alloc (Nat.le_refl _) _)).rd (by omega) hb1.size
  obtain ⟨A, c, rfl⟩ := own_form o3
  refine ⟨A, c, W3, r, ?_, hb1.trans (below_row hown g hb1.size)⟩
  have e : iv (x.fs ++ [s]) ++ iv x.ms = iv (x.fs ++ s :: x.ms) := by simp [iv]
  rw [← e]
  exact o3

set_option maxRecDepth 100000 in
set_option maxHeartbeats 2000000 in
theorem refRow_any (x : Cf) (w : World) (h : Lies x w w.heap.size) (hn : x.n ≤ 1000) : Calls Tryd.prog 10 #[x.v] w (RowIs x w) := by
  have hb : Below w.heap.size w (w.alloc (.cells x.cells 24)) := (Below.refl _ w).alloc (Nat.le_refl _) _
  have HR := Lib.hid (refCheck_any x w.heap.size _ (h.below hb) hb.size hn)
  have HB := Lib.hid hb
  have HX := Lib.hid (InBox.new x w)
  have HLi := Lib.hid h
  clear h hb
  by_cases hm : may x = true
  · rw [hm] at HR
    have HM := Lib.hid hm
    have he : er true = 0 := rfl
    rw [he] at HR
    clear hm he
    go_enter Tryd.func10, Tryd.ntmps10
    go_wp2_with fail
    refine (HR.out).mono ?_
    rintro e w1 ⟨rfl, b1⟩
    have HX1 := Lib.hid (HX.out.under b1)
    clear b1 HR HX HB
    obtain ⟨c0, c1, c2, c3, c4, c5, c6, c7, c8, c9, c10, c11, c12, c13, c14⟩ := HX1.out.1.conf
    have hs1 : w.heap.size ≠ w1.heap.size := by have := HX1.out.1.lt; omega
    by_cases hs : x.sk = true
    · rw [hs] at c13
      have HE : Hid (rowOf x = x.fs ++ 1 :: x.ms) := Lib.hid (by unfold rowOf; rw [hs]; rfl)
      obtain ⟨A, c, W3, hrun, o3, b3⟩ := row14_app x w w1 1 hn (HLi.out.below HX1.out.2) HX1.out.2
      have HRun := Lib.hid hrun
      have HO := Lib.hid o3
      have HB3 := Lib.hid b3
      have hcm : (w1.alloc (.cells (row14 x 1) 3)).cell? ⟨w.heap.size, 14, none⟩ = some (.slice x.A x.n x.c) := (HX1.out.1.alloc _).cell 14
      unfold row14 at HRun hcm
      clear hrun o3 b3 hs
      go_wp2_with (at_builtin; refine wpList_app (by rfl) _ _ _ rfl _ _ _ _ rfl rfl HRun.out ?_; clear HRun)
      go_ret2
      exact ⟨A, _, c, by rw [HM.out]; rfl, by rw [if_pos HM.out, HE.out]; exact HO.out, HB3.out⟩
    · have hs' : x.sk = false := by simpa using hs
      rw [hs'] at c13
      have HE : Hid (rowOf x = x.fs ++ 0 :: x.ms) := Lib.hid (by unfold rowOf; rw [hs']; rfl)
      obtain ⟨A, c, W3, hrun, o3, b3⟩ := row14_app x w w1 0 hn (HLi.out.below HX1.out.2) HX1.out.2
      have HRun := Lib.hid hrun
      have HO := Lib.hid o3
      have HB3 := Lib.hid b3
      have hcm : (w1.alloc (.cells (row14 x 0) 3)).cell? ⟨w.heap.size, 14, none⟩ = some (.slice x.A x.n x.c) := (HX1.out.1.alloc _).cell 14
      unfold row14 at HRun hcm
      clear hrun o3 b3 hs hs'
      go_wp2_with (at_builtin; refine wpList_app (by rfl) _ _ _ rfl _ _ _ _ rfl rfl HRun.out ?_; clear HRun)
      go_ret2
      exact ⟨A, _, c, by rw [HM.out]; rfl, by rw [if_pos HM.out, HE.out]; exact HO.out, HB3.out⟩
  · have hm : may x = false := by simpa using hm
    rw [hm] at HR
    have HM := Lib.hid hm
    have he : er false = 70 := rfl
    rw [he] at HR
    clear hm he
    go_enter Tryd.func10, Tryd.ntmps10
    go_wp2_with fail
    refine (HR.out).mono ?_
    rintro e w1 ⟨rfl, b1⟩
    have HB1 := Lib.hid (HB.out.trans (b1.mono HB.out.size))
    clear b1 HR
    go_wp2_with fail
    go_ret2
    refine ⟨none, 0, 0, by rw [HM.out]; rfl, ?_, HB1.out⟩
    rw [HM.out]
    exact World.ownsRow_nil _ _ _ _

end Go.Proofs.YtdjieigmncoooaaDoor
