/-
  The walk of the document's own 'Own' (layer 8). Conditions: those that each theorem names.
-/
import Derived.Test.YtoiegffnmjlkdaaCdPlain
import Derived.Test.YtoiegffnmjlkdaaCdSmall
namespace Go.Proofs.Ytoiegffnmjlkdaa
open Go.RowKit Go.Shelf

set_option maxRecDepth 100000 in
/-- 'append([]api.Box{}, l...)': it runs, and what comes reads as l, in memory of its own. -/
theorem run_copyX (W : World) (B : Nat) (A : Option Addr) (n c : Nat) (l : List Bx) (hr : RdX W B A n l) (hB : B ≤ W.heap.size) (hn : n ≤ 1000) (g : Nat) (hg : W.heap.size = g) :
    ∃ A1 c1 W1, (Builtin.append_ #[22, 22] 22 #[.slice (some ⟨g, 0, none⟩) 0 0, .slice A n c]).run Try.prog (W.alloc (.cells #[] 36)) = .ok (.slice A1 n c1) W1 ∧ W1.ownsRow W.heap.size 36 11 (.slice A1 n c1) n (flat l) ∧ Below W.heap.size W W1 := by
  subst hg
  have ho := World.ownsRow_made (base := W.heap.size) (e := 36) (size := 11) W #[] 0 (Nat.le_refl _) (Nat.zero_le _) rfl
  obtain ⟨v1, W1, r1, o1, g1⟩ := run_appX (W.alloc (.cells #[] 36)) W.heap.size _ 0 [] ho B A n c l (hr.alloc hB _) (by omega) (by omega) (by simp)
  rw [Nat.zero_add, List.nil_append] at o1
  obtain ⟨A1, c1, rfl⟩ := own_formX o1
  exact ⟨A1, c1, W1, r1, o1, ((Below.refl _ W).alloc (Nat.le_refl _) _).trans (below_row ho g1 (by simp))⟩

set_option maxRecDepth 100000 in
set_option maxHeartbeats 1000000 in
theorem refOwn_any (A : Option Addr) (n c : Nat) (x : Cw) (B : Nat) (w : World) (hr : RdX w B A n x.l) (hB : B ≤ w.heap.size) (hn : n ≤ 1000) :
    Calls Try.prog 18 #[.agg #[.slice A n c, .int .i64 x.fl, .int .i64 x.dr, .int .i64 x.nw, .bool x.tg]] w (OwnPost n x w) := by
  have hb0 : Below w.heap.size w ((w.alloc (.cells #[.slice A n c, .int .i64 x.fl, .int .i64 x.dr, .int .i64 x.nw, .bool x.tg] 24)).alloc (.cells #[.slice none 0 0, .int .i64 0, .int .i64 0, .int .i64 0, .bool false] 24)) := ((Below.refl _ w).alloc (Nat.le_refl _) _).alloc (by simp) _
  obtain ⟨A1, c1, W1, r1, o1, g1⟩ := run_copyX ((w.alloc (.cells #[.slice A n c, .int .i64 x.fl, .int .i64 x.dr, .int .i64 x.nw, .bool x.tg] 24)).alloc (.cells #[.slice none 0 0, .int .i64 0, .int .i64 0, .int .i64 0, .bool false] 24)) B A n c x.l (hr.below (hb0.mono hB)) (by simp; omega) hn (w.heap.size + 1 + 1) (by simp)
  have hA : Whole W1 w.heap.size 24 #[.slice A n c, .int .i64 x.fl, .int .i64 x.dr, .int .i64 x.nw, .bool x.tg] := ((Whole.new w _ _).alloc _).under g1
  have hC : Whole W1 (w.heap.size + 1) 24 #[.slice none 0 0, .int .i64 0, .int .i64 0, .int .i64 0, .bool false] := by
    have := (Whole.new (w.alloc (.cells #[.slice A n c, .int .i64 x.fl, .int .i64 x.dr, .int .i64 x.nw, .bool x.tg] 24)) 24 #[.slice none 0 0, .int .i64 0, .int .i64 0, .int .i64 0, .bool false]).under g1
    rwa [World.size_alloc] at this
  have hb1 : Below w.heap.size w W1 := hb0.trans (g1.mono hb0.size)
  rw [World.size_alloc, World.size_alloc] at o1
  have HR := Lib.hid r1
  have HO := Lib.hid o1
  have HB := Lib.hid hb1
  have HA := Lib.hid hA
  have HC := Lib.hid hC
  have a1 := hA.cell 1
  have a2 := hA.cell 2
  have a3 := hA.cell 3
  have a4 := hA.cell 4
  have a0 := hA.cell 0
  have f0 := hA.frozen 0
  have k0 := hC.cell 0
  have k1 := hC.cell 1
  have k2 := hC.cell 2
  have k3 := hC.cell 3
  have k4 := hC.cell 4
  have z0 := hC.frozen 0
  have z1 := hC.frozen 1
  have z2 := hC.frozen 2
  have z3 := hC.frozen 3
  have z4 := hC.frozen 4
  simp only [List.getElem?_toArray, List.getElem?_cons_zero, List.getElem?_cons_succ] at a0 a1 a2 a3 a4 k0 k1 k2 k3 k4
  clear hr hB hb0 r1 o1 g1 hA hC hb1
  go_enter Try.func18, Try.ntmps18
  go_wp2_with (refine wpList_app (by rfl) _ _ 22 rfl _ _ _ W1 (by rfl) (by rfl) HR.out ?_)
  have HC5 := put5 (HC.out.far (p := ⟨w.heap.size, 0, none⟩) (by simp) (.slice A1 n c1)) (.slice A1 n c1) (.int .i64 x.fl) (.int .i64 x.dr) (.int .i64 x.nw) (.bool x.tg)
  obtain ⟨q0, q1, q2, q3, q4⟩ := HC5.1
  refine bodyPost_ret (v := cwV A1 n c1 x) (by simp [results, Try.results18, go_sem, q0, q1, q2, q3, q4, cwV]) rfl ⟨A1, c1, rfl, ?_, ?_⟩
  · refine own_weaker (base' := w.heap.size + 1 + 1) ?_ (by omega)
    exact own_set (b := w.heap.size + 1) (own_set (b := w.heap.size + 1) (own_set (b := w.heap.size + 1) (own_set (b := w.heap.size + 1) (own_set (b := w.heap.size + 1) (own_set (b := w.heap.size) HO.out (by omega) _) (by omega) _) (by omega) _) (by omega) _) (by omega) _) (by omega) _
  · exact (((((HB.out.setCell (p := ⟨w.heap.size, 0, none⟩) (Nat.le_refl _) _).setCell (p := ⟨w.heap.size + 1, 0, none⟩) (Nat.le_succ _) _).setCell (p := ⟨w.heap.size + 1, 1, none⟩) (Nat.le_succ _) _).setCell (p := ⟨w.heap.size + 1, 2, none⟩) (Nat.le_succ _) _).setCell (p := ⟨w.heap.size + 1, 3, none⟩) (Nat.le_succ _) _).setCell (p := ⟨w.heap.size + 1, 4, none⟩) (Nat.le_succ _) _

end Go.Proofs.Ytoiegffnmjlkdaa
