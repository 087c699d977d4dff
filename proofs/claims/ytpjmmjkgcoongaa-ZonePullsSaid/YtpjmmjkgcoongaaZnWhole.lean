/-
  The walks of 'whole', 'plain', 'square', 'Size' and 'Turn' of package zone, at numbers whose parts are whole. Conditions: those that each theorem names.
-/
import Derived.Test.YtpjmmjkgcoongaaMem
import Derived.Test.YtpjmmjkgcoongaaZnFloat
import Derived.Laws.Externs
import Derived.Laws.FloatArith
import Derived.IntWalk
namespace Go.Proofs.Ytpjmmjkgcoongaa
open Go.RowKit Go.Shelf

/-- A complex number whose parts stand for these whole numbers. -/
def CxIs (a b : Int) (v : Value) : Prop := ∃ x y, v = .complex .f64 x y ∧ IsW x a ∧ IsW y b
/-- A call that tells such a number. -/
def CxPost (a b : Int) (w : World) (e : Ending) (w' : World) : Prop := (∃ x y, e = .returned (.complex .f64 x y) ∧ IsW x a ∧ IsW y b) ∧ w = w'

theorem run_archTrunc_num {x : Nat} {s : Bool} {m : Nat} {i : Int} (h : Ieee.double.read x = .number s m i) (w : World) : (callFunc 23 #[.float .f64 x]).run Try.prog w = .ok (.value (.float .f64 (Ieee.double.write ((Ieee.Datum.number s m i).integral .zero)))) w := by
  rw [run_callFunc_extern (e := Extern.MathFloor.toIntegral "math.archTrunc" .zero) Try.func23 (by kernel_rfl) (by kernel_rfl) (by kernel_rfl) (by kernel_rfl)]
  have h' : FloatKind.f64.decode x = .number s m i := h
  have h2 : (Extern.MathFloor.toIntegral "math.archTrunc" .zero #[.float .f64 x]).run Try.prog w = .ok (.float .f64 (Ieee.double.write ((Ieee.Datum.number s m i).integral .zero))) w := by
    delta Extern.MathFloor.toIntegral
    show Sem.run Try.prog (Extern.MathFloor.toIntegral.match_1 (fun _ => Sem Value) (FloatKind.f64.decode x) _ _) w = _
    rw [h']
    rfl
  rw [h2]
  rfl
theorem run_archTrunc {x : Nat} {n : Int} (hx : IsW x n) (hn : n.natAbs < 2 ^ 53) : ∃ r, IsW r n ∧ ∀ w, (callFunc 23 #[.float .f64 x]).run Try.prog w = .ok (.value (.float .f64 r)) w := by
  obtain ⟨s, m, i, h⟩ := isW_number hx
  exact ⟨_, isW_integral hx hn, fun w => by rw [run_archTrunc_num h, h]⟩

def FlPost (n : Int) (w : World) (e : Ending) (w' : World) : Prop := (∃ r, e = .returned (.float .f64 r) ∧ IsW r n) ∧ w = w'
theorem trunc_any {x : Nat} {n : Int} (hx : IsW x n) (hn : n.natAbs < 2 ^ 53) (w : World) : Calls Try.prog 22 #[.float .f64 x] w (FlPost n w) := by
  obtain ⟨r, hr, hc⟩ := run_archTrunc hx hn
  go_enter Try.func22, Try.ntmps22
  go_wp2
  go_ret
  exact ⟨⟨r, rfl, hr⟩, rfl⟩

def BoolIs (v : Bool) (w : World) (e : Ending) (w' : World) : Prop := e = .returned (.bool v) ∧ w = w'
theorem whole_yes {x : Nat} {n : Int} (hx : IsW x n) (h0 : -1000 ≤ n) (h1 : n ≤ 1000) (w : World) : Calls Try.prog 20 #[.float .f64 x] w (BoolIs true w) := by
  have k0 := ord_leB isW_thn hx h0
  have k1 := ord_leB hx isW_th h1
  have HX := Lib.hid hx
  have HN := Lib.hid (show n.natAbs < 2 ^ 53 by omega)
  clear hx h0 h1
  go_enter Try.func20, Try.ntmps20
  go_wp2_with fail
  refine (trunc_any HX.out HN.out _).mono ?_
  rintro e w' ⟨⟨r, rfl, hr⟩, rfl⟩
  have k2 := ord_eqB HX.out hr rfl
  have HR := Lib.hid hr
  clear hr
  go_wp2_with fail
  go_ret
  exact ⟨rfl, rfl⟩

/-- A half is not whole. -/
theorem half_cut : Ieee.double.write ((Ieee.Datum.number false (2 ^ 52) (-53)).integral .zero) = 0 := by decide
theorem run_archTrunc_half {H : Nat} (hH : H = 4602678819172646912) (w : World) : (callFunc 23 #[.float .f64 H]).run Try.prog w = .ok (.value (.float .f64 0)) w := by
  have h : Ieee.double.read H = .number false (2 ^ 52) (-53) := by rw [hH]; decide
  rw [run_archTrunc_num h, half_cut]
theorem whole_half (w : World) : Calls Try.prog 20 #[.float .f64 4602678819172646912] w (BoolIs false w) := by
  have k0 : (FloatKind.f64.format.order 13875379345695965184 4602678819172646912 == some .lt || FloatKind.f64.format.order 13875379345695965184 4602678819172646912 == some .eq) = true := by decide
  have k1 : (FloatKind.f64.format.order 4602678819172646912 4652007308841189376 == some .lt || FloatKind.f64.format.order 4602678819172646912 4652007308841189376 == some .eq) = true := by decide
  have k2 : (FloatKind.f64.format.order 4602678819172646912 0 == some .eq) = false := by decide
  obtain ⟨H, hH⟩ : ∃ H, H = 4602678819172646912 := ⟨_, rfl⟩
  have ht : ∀ w, Calls Try.prog 22 #[.float .f64 H] w fun e w' => e = .returned (.float .f64 0) ∧ w = w' := by
    intro w
    have hc := run_archTrunc_half hH w
    clear hH
    go_enter Try.func22, Try.ntmps22
    go_wp2
    go_ret
    exact ⟨rfl, rfl⟩
  rw [← hH] at k0 k1 k2 ⊢
  have HT := Lib.hid ht
  clear ht hH
  go_enter Try.func20, Try.ntmps20
  go_wp2_with fail
  refine (HT.out _).mono ?_
  rintro e w' ⟨rfl, rfl⟩
  go_wp2_with fail
  go_ret
  exact ⟨rfl, rfl⟩

theorem plain_yes {x y : Nat} {a b : Int} (hx : IsW x a) (hy : IsW y b) (h0 : -1000 ≤ a) (h1 : a ≤ 1000) (h2 : -1000 ≤ b) (h3 : b ≤ 1000) (w : World) : Calls Try.prog 14 #[.complex .f64 x y] w (BoolIs true w) := by
  have K1 := Lib.hid (whole_yes hx h0 h1)
  have K2 := Lib.hid (whole_yes hy h2 h3)
  clear hx hy h0 h1 h2 h3
  go_enter Try.func14, Try.ntmps14
  go_wp2_with fail
  refine (K1.out _).mono ?_
  rintro e w' ⟨rfl, rfl⟩
  go_wp2_with fail
  refine (K2.out _).mono ?_
  rintro e w' ⟨rfl, rfl⟩
  go_wp2_with fail
  go_ret
  exact ⟨rfl, rfl⟩
theorem plain_half (y : Nat) (w : World) : Calls Try.prog 14 #[.complex .f64 4602678819172646912 y] w (BoolIs false w) := by
  obtain ⟨H, hH⟩ : ∃ H, H = 4602678819172646912 := ⟨_, rfl⟩
  have K1 := Lib.hid whole_half
  rw [← hH] at K1 ⊢
  clear hH
  go_enter Try.func14, Try.ntmps14
  go_wp2_with fail
  refine (K1.out _).mono ?_
  rintro e w' ⟨rfl, rfl⟩
  go_wp2_with fail
  go_ret
  exact ⟨rfl, rfl⟩

theorem sq_bd {a : Int} (h0 : -2000 ≤ a) (h1 : a ≤ 2000) : 0 ≤ a * a ∧ a * a ≤ 4000000 := by
  obtain ⟨n, hn⟩ : ∃ n : Nat, a.natAbs = n := ⟨_, rfl⟩
  have h2 : a * a = ((n * n : Nat) : Int) := by rw [← hn, ← Int.natAbs_mul_self]
  have h3 : n ≤ 2000 := by omega
  have h4 : n * n ≤ 2000 * 2000 := Nat.mul_le_mul h3 h3
  omega
theorem i64_min : IntKind.i64.min = -9223372036854775808 := by decide
theorem i64_max : IntKind.i64.max = 9223372036854775807 := by decide
def IntIs (n : Int) (w : World) (e : Ending) (w' : World) : Prop := e = .returned (.int .i64 n) ∧ w = w'
theorem square_any {x y : Nat} {a b : Int} (hx : IsW x a) (hy : IsW y b) (h0 : -2000 ≤ a) (h1 : a ≤ 2000) (h2 : -2000 ≤ b) (h3 : b ≤ 2000) (w : World) : Calls Try.prog 15 #[.complex .f64 x y] w (IntIs (a * a + b * b) w) := by
  obtain ⟨q1, q2⟩ := sq_bd h0 h1
  obtain ⟨q3, q4⟩ := sq_bd h2 h3
  have e1 : IntKind.i64.wrap (a * a) = a * a := IntWalk.i64_in _ ⟨by omega, by omega⟩
  have e2 : IntKind.i64.wrap (b * b) = b * b := IntWalk.i64_in _ ⟨by omega, by omega⟩
  have e3 : IntKind.i64.wrap (a * a + b * b) = a * a + b * b := IntWalk.i64_in _ ⟨by omega, by omega⟩
  have c1 : ∀ w, (convert 24 3 (.float .f64 x)).run Try.prog w = .ok (.int .i64 a) w := fun w => run_convert_float_int w _ _ .f64 .i64 x a (by rw [Try.underlying24]; rfl) Try.underlying3 (isW_int hx (by rw [i64_min]; omega) (by rw [i64_max]; omega))
  have c2 : ∀ w, (convert 24 3 (.float .f64 y)).run Try.prog w = .ok (.int .i64 b) w := fun w => run_convert_float_int w _ _ .f64 .i64 y b (by rw [Try.underlying24]; rfl) Try.underlying3 (isW_int hy (by rw [i64_min]; omega) (by rw [i64_max]; omega))
  have c1 := c1 w
  have c2 := c2 w
  clear hx hy h0 h1 h2 h3 q1 q2 q3 q4
  go_enter Try.func15, Try.ntmps15
  go_wp2_with fail
  go_ret
  exact ⟨rfl, rfl⟩

theorem size_yes {x y : Nat} {a b : Int} (hx : IsW x a) (hy : IsW y b) (h0 : -1000 ≤ a) (h1 : a ≤ 1000) (h2 : -1000 ≤ b) (h3 : b ≤ 1000) (w : World) : Calls Try.prog 9 #[.complex .f64 x y] w (IntIs (a * a + b * b) w) := by
  have K1 := Lib.hid (plain_yes hx hy h0 h1 h2 h3)
  have K2 := Lib.hid (square_any hx hy (by omega) (by omega) (by omega) (by omega))
  clear hx hy h0 h1 h2 h3
  obtain ⟨S, hS⟩ : ∃ S, a * a + b * b = S := ⟨_, rfl⟩
  rw [hS] at K2 ⊢
  clear hS
  go_enter Try.func9, Try.ntmps9
  go_wp2_with fail
  refine (K1.out _).mono ?_
  rintro e w' ⟨rfl, rfl⟩
  go_wp2_with fail
  refine (K2.out _).mono ?_
  rintro e w' ⟨rfl, rfl⟩
  go_wp2_with fail
  go_ret
  exact ⟨rfl, rfl⟩
theorem size_half (y : Nat) (w : World) : Calls Try.prog 9 #[.complex .f64 4602678819172646912 y] w (IntIs (-1) w) := by
  obtain ⟨H, hH⟩ : ∃ H, H = 4602678819172646912 := ⟨_, rfl⟩
  have K1 := Lib.hid plain_half
  rw [← hH] at K1 ⊢
  clear hH
  go_enter Try.func9, Try.ntmps9
  go_wp2_with fail
  refine (K1.out _ _).mono ?_
  rintro e w' ⟨rfl, rfl⟩
  go_wp2_with fail
  go_ret
  exact ⟨rfl, rfl⟩

theorem turn_yes {x y : Nat} {a b : Int} (hx : IsW x a) (hy : IsW y b) (h0 : -1000 ≤ a) (h1 : a ≤ 1000) (h2 : -1000 ≤ b) (h3 : b ≤ 1000) (w : World) : Calls Try.prog 8 #[.complex .f64 x y] w (CxPost (-b) a w) := by
  have K1 := Lib.hid (plain_yes hx hy h0 h1 h2 h3)
  obtain ⟨p, q, hm, hp, hq⟩ := run_cmulW (P := Try.prog) w 23 hx hy isW_0 isW_1 (by omega) (by omega) (by omega) (by omega)
  obtain ⟨r, s, ha, hr, hs⟩ := run_caddW (P := Try.prog) w 23 hp hq isW_0 isW_0 (by omega) (by omega)
  have HR := Lib.hid (show IsW r (-b) by have h := hr; simpa using h)
  have HS := Lib.hid (show IsW s a by have h := hs; simpa using h)
  clear hx hy h0 h1 h2 h3 hp hq hr hs
  go_enter Try.func8, Try.ntmps8
  go_wp2_with fail
  refine (K1.out _).mono ?_
  rintro e w' ⟨rfl, rfl⟩
  go_wp2_with fail
  go_ret
  exact ⟨⟨r, s, rfl, HR.out, HS.out⟩, rfl⟩

end Go.Proofs.Ytpjmmjkgcoongaa
