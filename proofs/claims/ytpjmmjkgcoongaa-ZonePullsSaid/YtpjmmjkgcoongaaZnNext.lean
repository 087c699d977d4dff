/-
  The walk of 'Next' of package zone. Conditions: those that each theorem names.
-/
import Derived.Test.YtpjmmjkgcoongaaZnSum
import Derived.Test.YtpjmmjkgcoongaaScope2
namespace Go.Proofs.Ytpjmmjkgcoongaa
open Go.RowKit Go.Shelf

theorem sq_any {x y : Nat} {a b z : Int} (hx : IsW x (a + px z)) (hy : IsW y (b + py z)) (ha : a.natAbs ≤ 1500) (hb : b.natAbs ≤ 1500) (w : World) : Calls Try.prog 15 #[.complex .f64 x y] w (IntIs (sq a b z) w) := by
  have h1 := px_bd z
  have h2 := py_bd z
  exact square_any hx hy (by omega) (by omega) (by omega) (by omega) w

/-- Where the look stands. -/
def NextAt (A : Option Addr) (n c x y : Nat) (p q : Int) (w : World) (a' : Act) (w' : World) : Prop :=
  ∃ (k : Nat) (v i : Int) (u8 u9 u10 u11 u12 u13 u14 u15 u16 u17 u18 u19 u20 u21 u22 u23 u24 : Value), a' = { tmps := #[.slice A n c, undef, .int .i64 0, .complex .f64 x y, .int .i64 v, .int .i64 i, .slice A n c, .complex .f64 x y, u8, u9, u10, u11, u12, u13, u14, u15, u16, u17, u18, u19, u20, u21, u22, u23, u24], defers := [] } ∧ v = nx p q k ∧ i = (k : Int) ∧ k ≤ 4 ∧ Below w.heap.size w w'
def NextIn (A : Option Addr) (n c : Nat) (p q : Int) (w : World) (a' : Act) (w' : World) : Prop := ∃ x y, IsW x p ∧ IsW y q ∧ NextAt A n c x y p q w a' w'
def NextOut (p q : Int) (w : World) (a' : Act) (w' : World) : Prop :=
  ∃ (v : Int) (u0 u1 u2 u3 u5 u6 u7 u8 u9 u10 u11 u12 u13 u14 u15 u16 u17 u18 u19 u20 u21 u22 u23 u24 : Value), a' = { tmps := #[u0, u1, u2, u3, .int .i64 v, u5, u6, u7, u8, u9, u10, u11, u12, u13, u14, u15, u16, u17, u18, u19, u20, u21, u22, u23, u24], defers := [] } ∧ v = nx p q 4 ∧ Below w.heap.size w w'
def IntB (n : Int) (w : World) (e : Ending) (w' : World) : Prop := e = .returned (.int .i64 n) ∧ Below w.heap.size w w'

set_option maxRecDepth 100000 in
set_option maxHeartbeats 1000000 in
theorem next_any (A : Option Addr) (n c : Nat) (l : List Int) (B : Nat) (w : World) (hr : Rd w B A n (iv l)) (hB : B ≤ w.heap.size) (hn : n ≤ 1000) :
    Calls Try.prog 11 #[.slice A n c] w (IntB (nx (sx l) (sy l) 4) w) := by
  have hl : l.length = n := by have := hr.1; rwa [iv_length] at this
  have b1 := sx_bd l
  have b2 := sy_bd l
  have HS := Lib.hid (sum_any A n c l B w hr hB (by omega))
  obtain ⟨p, hp⟩ : ∃ p, sx l = p := ⟨_, rfl⟩
  obtain ⟨q, hq⟩ : ∃ q, sy l = q := ⟨_, rfl⟩
  rw [hp] at b1 HS ⊢
  rw [hq] at b2 HS ⊢
  have hp1 : p.natAbs ≤ 1500 := by omega
  have hq1 : q.natAbs ≤ 1500 := by omega
  clear hp hq hl b1 b2 hr hB
  go_enter Try.func11, Try.ntmps11
  go_wp2_with fail
  refine wp_scope_back_fwd 0 1 (NextOut p q w) (NextIn A n c p q w) (fun a' _ => 4 - (intOf (a'.tmps.getD 5 undef)).toNat) rfl rfl ?ahead ?pass ?tail
  case ahead =>
    go_wp2_with fail
    refine HS.out.mono ?_
    rintro e w1 ⟨⟨x, y, rfl, hx, hy⟩, hb⟩
    have HX := Lib.hid hx
    have HY := Lib.hid hy
    have HB := Lib.hid hb
    clear hx hy hb
    go_wp2_with fail
    exact ⟨x, y, HX.out, HY.out, 0, _, _, _, _, _, _, _, _, _, _, _, _, _, _, _, _, _, _, _, rfl, rfl, rfl, by omega, HB.out⟩
  case tail =>
    rintro a' w' ⟨v, u0, u1, u2, u3, u5, u6, u7, u8, u9, u10, u11, u12, u13, u14, u15, u16, u17, u18, u19, u20, u21, u22, u23, u24, rfl, hv, hb⟩
    have HB := Lib.hid hb
    have HN := Lib.hid hv
    clear hb hv
    go_wp2_with fail
    refine bodyPost_ret (v := .int .i64 v) (by simp [results, Try.results11, go_sem]) rfl ⟨by rw [HN.out], HB.out⟩
  case pass =>
    rintro a' w' ⟨x, y, hx, hy, k, N, i, u8, u9, u10, u11, u12, u13, u14, u15, u16, u17, u18, u19, u20, u21, u22, u23, u24, rfl, hN, rfl, hk, hb⟩
    have HX := Lib.hid hx
    have HY := Lib.hid hy
    have HB := Lib.hid hb
    clear hx hy hb
    by_cases h4 : k = 4
    · subst h4
      have HN := Lib.hid hN
      clear hN
      go_wp2_with fail
      go_step3
      exact .inl ⟨rfl, (show NextOut p q w _ _ from ⟨_, _, _, _, _, _, _, _, _, _, _, _, _, _, _, _, _, _, _, _, _, _, _, _, _, rfl, HN.out, HB.out⟩)⟩
    · have hk3 : k < 4 := by omega
      have hki : (k : Int) < 4 := by omega
      have hne : ((k : Int) == 4) = false := by rw [beq_eq_false_iff_ne]; omega
      have hs : nx p q (k + 1) = if sq p q (k : Int) < sq p q (nx p q k) then (k : Int) else nx p q k := rfl
      rw [← hN] at hs
      obtain ⟨S1, hS1⟩ : ∃ S1, sq p q (k : Int) = S1 := ⟨_, rfl⟩
      obtain ⟨S2, hS2⟩ : ∃ S2, sq p q N = S2 := ⟨_, rfl⟩
      rw [hS1, hS2] at hs
      have HK1 := Lib.hid hS1
      have HK2 := Lib.hid hS2
      have HS1 := Lib.hid hs
      clear h4 hN hS1 hS2 hs hk HS
      have bk := px_bd k
      have bk' := py_bd k
      have bN := px_bd N
      have bN' := py_bd N
      have wf : IntKind.i64.wrap ((k : Int) + 1) = (k : Int) + 1 := by rw [IntKind.wrap_i64]; omega
      by_cases hlt : S1 < S2
      all_goals
        go_wp2_with fail
        refine (at_any _ _).mono ?_
        rintro e w1 ⟨⟨x1, y1, rfl, hx1, hy1⟩, hb1⟩
        obtain ⟨r1, s1, ha1, hr1, hs1⟩ := run_caddW (P := Try.prog) w1 23 HX.out HY.out hx1 hy1 (by omega) (by omega)
        have HC1 := Lib.hid (HB.out.trans (hb1.mono HB.out.size))
        have HR1 := Lib.hid hr1
        have HT1 := Lib.hid hs1
        clear hx1 hy1 hb1 hr1 hs1
        go_wp2_with fail
        refine (sq_any HR1.out HT1.out hp1 hq1 _).mono ?_
        rw [HK1.out]
        rintro e w2 ⟨rfl, rfl⟩
        go_wp2_with fail
        refine (at_any _ _).mono ?_
        rintro e w2 ⟨⟨x2, y2, rfl, hx2, hy2⟩, hb2⟩
        obtain ⟨r2, s2, ha2, hr2, hs2⟩ := run_caddW (P := Try.prog) w2 23 HX.out HY.out hx2 hy2 (by omega) (by omega)
        have HC2 := Lib.hid (HC1.out.trans (hb2.mono HC1.out.size))
        have HR2 := Lib.hid hr2
        have HT2 := Lib.hid hs2
        clear hx2 hy2 hb2 hr2 hs2
        go_wp2_with fail
        refine (sq_any HR2.out HT2.out hp1 hq1 _).mono ?_
        rw [HK2.out]
        rintro e w3 ⟨rfl, rfl⟩
        go_wp2_with fail
        go_step3
        refine .inr ⟨rfl, (show NextIn A n c p q w _ _ from ⟨x, y, HX.out, HY.out, k + 1, _, _, _, _, _, _, _, _, _, _, _, _, _, _, _, _, _, _, _, rfl, ?_, rfl, by omega, HC2.out⟩), ?_⟩
        · rw [HS1.out]
          first
            | rw [if_pos hlt]
            | rw [if_neg (by omega)]
        · simp [intOf]; omega

end Go.Proofs.Ytpjmmjkgcoongaa
