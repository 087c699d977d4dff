/-
  The walk of what the statements of package zone all end with: what the document says of some numbers. Conditions: those that each theorem names.
-/
import Derived.Test.YtpjmmjkgcoongaaZnNext
import Derived.Test.YtpjmmjkgcoongaaZnCounts
namespace Go.Proofs.Ytpjmmjkgcoongaa
open Go.RowKit Go.Shelf

theorem rd_lit1 {W : World} {b : Nat} {x : Int} (h : W.cell? ⟨b, 0, none⟩ = some (.int .i64 x)) (hb : b < W.heap.size) : Rd W W.heap.size (some ⟨b, 0, none⟩) 1 (iv [x]) :=
  ⟨rfl, fun _ => ⟨b, 0, rfl, hb, fun j hj => (by
    have hj0 : j = 0 := by omega
    subst hj0
    simpa [iv] using h)⟩⟩
theorem rd_lit2 {W : World} {b : Nat} {x y : Int} (h : W.cell? ⟨b, 0, none⟩ = some (.int .i64 x)) (h1 : W.cell? ⟨b, 1, none⟩ = some (.int .i64 y)) (hb : b < W.heap.size) : Rd W W.heap.size (some ⟨b, 0, none⟩) 2 (iv [x, y]) :=
  ⟨rfl, fun _ => ⟨b, 0, rfl, hb, fun j hj => by rcases (by omega : j = 0 ∨ j = 1) with rfl | rfl; simpa [iv] using h; simpa [iv] using h1⟩⟩
theorem rd_lit3 {W : World} {b : Nat} {x y z : Int} (h : W.cell? ⟨b, 0, none⟩ = some (.int .i64 x)) (h1 : W.cell? ⟨b, 1, none⟩ = some (.int .i64 y)) (h2 : W.cell? ⟨b, 2, none⟩ = some (.int .i64 z)) (hb : b < W.heap.size) : Rd W W.heap.size (some ⟨b, 0, none⟩) 3 (iv [x, y, z]) :=
  ⟨rfl, fun _ => ⟨b, 0, rfl, hb, fun j hj => by rcases (by omega : j = 0 ∨ j = 1 ∨ j = 2) with rfl | rfl | rfl; simpa [iv] using h; simpa [iv] using h1; simpa [iv] using h2⟩⟩

/-- An array of four integers is itself. -/
theorem run_eq4 (w : World) (a b c d : Int) : (Op.equalIn 10000 31 (.agg #[.int .i64 a, .int .i64 b, .int .i64 c, .int .i64 d]) (.agg #[.int .i64 a, .int .i64 b, .int .i64 c, .int .i64 d])).run Try.prog w = .ok true w := by
  obtain ⟨i0, hi, hz0, hz1, hz2⟩ := info_parts info_int
  have hc : Try.prog.cellsOf 3 = 1 := by kernel_rfl
  rw [run_equalIn_array w 9999 _ _ Try.underlying31 hi, hc]
  have hr : List.range 4 = [0, 1, 2, 3] := rfl
  rw [hr]
  simp only [Op.eqItems]
  go_simp

theorem next_0 (W : World) : Calls Try.prog 11 #[.slice none 0 0] W (IntB 0 W) := next_any none 0 0 [] 0 W (Rd.nil_ _ _ _) (Nat.zero_le _) (by omega)
theorem next_1 (W : World) (b : Nat) (h : W.cell? ⟨b, 0, none⟩ = some (.int .i64 0)) (hb : b < W.heap.size) : Calls Try.prog 11 #[.slice (some ⟨b, 0, none⟩) 1 1] W (IntB 2 W) := next_any _ 1 1 [0] _ W (rd_lit1 h hb) (Nat.le_refl _) (by omega)
theorem next_2 (W : World) (b : Nat) (h : W.cell? ⟨b, 0, none⟩ = some (.int .i64 0)) (h1 : W.cell? ⟨b, 1, none⟩ = some (.int .i64 2)) (hb : b < W.heap.size) : Calls Try.prog 11 #[.slice (some ⟨b, 0, none⟩) 2 2] W (IntB 0 W) := next_any _ 2 2 [0, 2] _ W (rd_lit2 h h1 hb) (Nat.le_refl _) (by omega)
theorem pull_3 (W : World) (b : Nat) (h : W.cell? ⟨b, 0, none⟩ = some (.int .i64 0)) (h1 : W.cell? ⟨b, 1, none⟩ = some (.int .i64 1)) (h2 : W.cell? ⟨b, 2, none⟩ = some (.int .i64 1)) (hb : b < W.heap.size) : Calls Try.prog 13 #[.slice (some ⟨b, 0, none⟩) 3 3] W (CxB 1 2 W) := pull_any _ 3 3 [0, 1, 1] _ W (rd_lit3 h h1 h2 hb) (Nat.le_refl _) (by omega) (by omega)
theorem counts_2 (W : World) (b : Nat) (h : W.cell? ⟨b, 0, none⟩ = some (.int .i64 5)) (h1 : W.cell? ⟨b, 1, none⟩ = some (.int .i64 (-1))) (hb : b < W.heap.size) : Calls Try.prog 12 #[.slice (some ⟨b, 0, none⟩) 2 2] W fun e w' => e = .returned (.agg #[.int .i64 0, .int .i64 1, .int .i64 0, .int .i64 1]) ∧ Below W.heap.size W w' := counts_any _ 2 2 [5, -1] _ W (rd_lit2 h h1 hb) (Nat.le_refl _) (by omega) (by omega)
theorem turn_23 (W : World) : Calls Try.prog 8 #[.complex .f64 4611686018427387904 4613937818241073152] W (CxPost (-3) 2 W) := turn_yes isW_2 isW_3 (by omega) (by omega) (by omega) (by omega) W
theorem size_23 (W : World) : Calls Try.prog 9 #[.complex .f64 4611686018427387904 13837309855095848960] W (IntIs 13 W) := size_yes isW_2 isW_3n (by omega) (by omega) (by omega) (by omega) W

set_option maxRecDepth 100000 in
set_option maxHeartbeats 1000000 in
theorem wakes_any (w : World) : Calls Try.prog 7 #[] w (TruePost w) := by
  go_enter Try.func7, Try.ntmps7
  go_wp2_with fail
  refine (next_0 _).mono ?_
  rintro e w1 ⟨rfl, hb1⟩
  have B1 := Lib.hid hb1
  clear hb1
  go_wp2_with fail
  refine (next_1 _ _ (by simp) (by simp)).mono ?_
  rintro e w2 ⟨rfl, hb⟩
  have B2 := Lib.hid (B1.out.trans ((((Below.refl _ w1).alloc (Nat.le_refl _) _).trans (hb.mono (by simp))).mono B1.out.size))
  clear hb
  go_wp2_with fail
  refine (next_2 _ _ (by simp) (by simp) (by simp)).mono ?_
  rintro e w3 ⟨rfl, hb⟩
  have B3 := Lib.hid (B2.out.trans ((((Below.refl _ w2).alloc (Nat.le_refl _) _).trans (hb.mono (by simp))).mono B2.out.size))
  clear hb
  go_wp2_with fail
  refine (at_any 3 _).mono ?_
  rintro e w4 ⟨⟨x, y, rfl, hx, hy⟩, hb⟩
  have B4 := Lib.hid (B3.out.trans (hb.mono B3.out.size))
  clear hb
  have e1 := ord_eq hx isW_0 rfl
  have e2 := ord_eq hy isW_1n rfl
  clear hx hy
  go_wp2_with fail
  refine (turn_23 _).mono ?_
  rintro e wq ⟨⟨x2, y2, rfl, hx, hy⟩, rfl⟩
  clear e1 e2
  have e1 := ord_eq hx isW_3n rfl
  have e2 := ord_eq hy isW_2 rfl
  clear hx hy
  go_wp2_with fail
  refine (size_23 _).mono ?_
  rintro e wq ⟨rfl, rfl⟩
  go_wp2_with fail
  refine (size_half 0 _).mono ?_
  rintro e wq ⟨rfl, rfl⟩
  go_wp2_with fail
  refine (pull_3 _ _ (by simp) (by simp) (by simp) (by simp)).mono ?_
  rintro e w5 ⟨⟨x3, y3, rfl, hx, hy⟩, hb⟩
  have B5 := Lib.hid (B4.out.trans ((((Below.refl _ w4).alloc (Nat.le_refl _) _).trans (hb.mono (by simp))).mono B4.out.size))
  clear hb
  clear e1 e2
  have e1 := ord_eq hx isW_1 rfl
  have e2 := ord_eq hy isW_2 rfl
  clear hx hy
  go_wp2_with fail
  refine (counts_2 _ _ (by simp) (by simp) (by simp)).mono ?_
  rintro e w6 ⟨rfl, hb⟩
  have B6 := Lib.hid (B5.out.trans ((((Below.refl _ w5).alloc (Nat.le_refl _) _).trans (hb.mono (by simp))).mono B5.out.size))
  clear hb
  clear e1 e2
  have q4 := run_eq4 w6 0 1 0 1
  go_wp2_with fail
  go_ret
  exact ⟨rfl, B6.out⟩

end Go.Proofs.Ytpjmmjkgcoongaa
