/-
  The walk of the statement 'ZoneLeast': it answers true, and nothing that was there turns. Conditions: none.
-/
import Derived.Test.YtpjmmjkgcoongaaZnWakes
namespace Go.Proofs.Ytpjmmjkgcoongaa
open Go.RowKit Go.Shelf

theorem zoneLeast_out (A : Option Addr) (n c : Nat) (w : World) (h : ¬ n ≤ 900) :
    Calls Try.prog 5 #[.slice A n c] w fun e w' => e = .returned (.bool true) ∧ Below w.heap.size w w' := by
  have h0 : (900 : Int) < (n : Int) := by omega
  go_enter Try.func5, Try.ntmps5
  go_wp2_with fail
  refine (wakes_any _).mono ?_
  rintro e w1 ⟨rfl, hb⟩
  go_wp2_with fail
  go_ret
  exact ⟨rfl, hb⟩

theorem size_sq {x y : Nat} {a b z : Int} (hx : IsW x (a + px z)) (hy : IsW y (b + py z)) (ha : a.natAbs ≤ 900) (hb : b.natAbs ≤ 900) (w : World) : Calls Try.prog 9 #[.complex .f64 x y] w (IntIs (sq a b z) w) := by
  have h1 := px_bd z
  have h2 := py_bd z
  exact size_yes hx hy (by omega) (by omega) (by omega) (by omega) w

set_option maxRecDepth 100000 in
set_option maxHeartbeats 1000000 in
theorem zoneLeast_in (A : Option Addr) (n c : Nat) (l : List Int) (w : World) (hr : Rd w w.heap.size A n (iv l)) (hc : n ≤ c) (h : n ≤ 900) :
    Calls Try.prog 5 #[.slice A n c] w fun e w' => e = .returned (.bool true) ∧ Below w.heap.size w w' := by
  have hl : l.length = n := by have := hr.1; rwa [iv_length] at this
  have h0 : ¬ (900 : Int) < (n : Int) := by omega
  have b1 := sx_bd l
  have b2 := sy_bd l
  have HN := Lib.hid (next_any A n c l w.heap.size w hr (Nat.le_refl _) (by omega))
  have HP := Lib.hid (fun W (hb : Below w.heap.size w W) => pull_any A n c l w.heap.size W (hr.below hb) hb.size (by omega) hc)
  obtain ⟨p, hp⟩ : ∃ p, sx l = p := ⟨_, rfl⟩
  obtain ⟨q, hq⟩ : ∃ q, sy l = q := ⟨_, rfl⟩
  rw [hp] at b1 HN HP
  rw [hq] at b2 HN HP
  have hp1 : p.natAbs ≤ 900 := by omega
  have hq1 : q.natAbs ≤ 900 := by omega
  have hbd := nx_bd p q 4
  have hls := nx_least p q 4
  obtain ⟨N, hN⟩ : ∃ N, nx p q 4 = N := ⟨_, rfl⟩
  rw [hN] at HN hbd hls
  have HLs := Lib.hid hls
  have hN0 : 0 ≤ N := hbd.1
  have hN3 : N ≤ 3 := by omega
  have bN := px_bd N
  have bN' := py_bd N
  have hSB := sq_bd0 p q N
  obtain ⟨S, hS⟩ : ∃ S, sq p q N = S := ⟨_, rfl⟩
  rw [hS] at hSB
  have HS := Lib.hid hS
  clear hp hq hl b1 b2 hr hc h hbd hls hN hS
  go_enter Try.func5, Try.ntmps5
  go_wp2_with fail
  refine HN.out.mono ?_
  rintro e w1 ⟨rfl, hb1⟩
  have HB1 := Lib.hid hb1
  clear hb1 HN
  go_wp2_with fail
  refine (HP.out _ HB1.out).mono ?_
  rintro e w2 ⟨⟨x, y, rfl, hx, hy⟩, hb2⟩
  have HX := Lib.hid hx
  have HY := Lib.hid hy
  have HB2 := Lib.hid (HB1.out.trans (hb2.mono HB1.out.size))
  clear hx hy hb2 HP
  go_wp2_with fail
  refine (at_any _ _).mono ?_
  rintro e w3 ⟨⟨x1, y1, rfl, hx1, hy1⟩, hb3⟩
  obtain ⟨r1, s1, ha1, hr1, hs1⟩ := run_caddW (P := Try.prog) w3 23 HX.out HY.out hx1 hy1 (by omega) (by omega)
  have HB3 := Lib.hid (HB2.out.trans (hb3.mono HB2.out.size))
  have HR1 := Lib.hid hr1
  have HT1 := Lib.hid hs1
  clear hx1 hy1 hb3 hr1 hs1
  go_wp2_with fail
  refine (size_sq HR1.out HT1.out hp1 hq1 _).mono ?_
  rw [HS.out]
  rintro e w4 ⟨rfl, rfl⟩
  clear ha1
  go_wp2_with fail
  go_loopw [6] (fun i wr => ∃ k : Nat, i = .int .i64 (k : Int) ∧ k ≤ 4 ∧ Below w.heap.size w wr) (fun i _ => 4 - (intOf i).toNat)
  case atStart => exact ⟨0, rfl, by omega, HB3.out⟩
  case round =>
    obtain ⟨k, rfl, hk, hb⟩ := hrel
    have HB := Lib.hid hb
    clear hb
    by_cases h4 : k = 4
    · subst h4
      go_wp2_with fail
      refine (wakes_any _).mono ?_
      rintro e w1 ⟨rfl, hb5⟩
      go_wp2_with fail
      go_ret
      exact ⟨rfl, HB.out.trans (hb5.mono HB.out.size)⟩
    · have hk3 : k < 4 := by omega
      have hki : (k : Int) < 4 := by omega
      have bk := px_bd k
      have bk' := py_bd k
      have hls := HLs.out k hk3
      rw [HS.out] at hls
      obtain ⟨S1, hS1⟩ : ∃ S1, sq p q (k : Int) = S1 := ⟨_, rfl⟩
      rw [hS1] at hls
      have HS1 := Lib.hid hS1
      have d1 : decide (S1 < S) = false := by simp; omega
      have d2 : (S1 == S) = false ∨ ((S1 == S) = true ∧ decide ((k : Int) < N) = false) := by
        by_cases e : S1 = S
        · exact .inr ⟨by simp [e], by simp; omega⟩
        · exact .inl (by simp [e])
      clear hS1 hls h4 hk
      rcases d2 with d2 | ⟨d2, d3⟩
      all_goals
        go_wp2_with fail
        refine (at_any _ _).mono ?_
        rintro e w4 ⟨⟨x2, y2, rfl, hx2, hy2⟩, hb4⟩
        obtain ⟨r2, s2, ha2, hr2, hs2⟩ := run_caddW (P := Try.prog) w4 23 HX.out HY.out hx2 hy2 (by omega) (by omega)
        have HB4 := Lib.hid (HB.out.trans (hb4.mono HB.out.size))
        have HR2 := Lib.hid hr2
        have HT2 := Lib.hid hs2
        clear hx2 hy2 hb4 hr2 hs2
        go_wp2_with fail
        refine (size_sq HR2.out HT2.out hp1 hq1 _).mono ?_
        rw [HS1.out]
        rintro e w5 ⟨rfl, rfl⟩
        clear ha2
        go_wp2_with fail
        go_roundw
        case rel => exact ⟨k + 1, by go_num, by omega, HB4.out⟩
        case measure => simp [intOf]; omega

theorem zoneLeast_walk (A : Option Addr) (n c : Nat) (l : List Int) (w : World) (hr : Rd w w.heap.size A n (iv l)) (hc : n ≤ c) :
    Calls Try.prog 5 #[.slice A n c] w fun e w' => e = .returned (.bool true) ∧ Below w.heap.size w w' := by
  by_cases h : n ≤ 900
  · exact zoneLeast_in A n c l w hr hc h
  · exact zoneLeast_out A n c w h

end Go.Proofs.Ytpjmmjkgcoongaa
