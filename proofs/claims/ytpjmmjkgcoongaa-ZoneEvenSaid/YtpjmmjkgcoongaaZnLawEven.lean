/-
  The walk of the statement 'ZoneEven': it answers true, and nothing that was there turns. Conditions: none.
-/
import Derived.Test.YtpjmmjkgcoongaaZnWakes
namespace Go.Proofs.Ytpjmmjkgcoongaa
open Go.RowKit Go.Shelf

theorem zoneEven_out (z : Int) (w : World) (h : ¬ (0 ≤ z ∧ z ≤ 300)) :
    Calls Try.prog 4 #[.int .i64 z] w fun e w' => e = .returned (.bool true) ∧ Below w.heap.size w w' := by
  by_cases h0 : z < 0
  · go_enter Try.func4, Try.ntmps4
    go_wp2_with fail
    refine (wakes_any _).mono ?_
    rintro e w1 ⟨rfl, hb⟩
    go_wp2_with fail
    go_ret
    exact ⟨rfl, hb⟩
  · have h1 : 300 < z := by omega
    go_enter Try.func4, Try.ntmps4
    go_wp2_with fail
    refine (wakes_any _).mono ?_
    rintro e w1 ⟨rfl, hb⟩
    go_wp2_with fail
    go_ret
    exact ⟨rfl, hb⟩

/-- What comes of putting the zone that is told next, from nothing. -/
def alt : Nat → List Int
  | 0 => []
  | i + 1 => alt i ++ [nx (sx (alt i)) (sy (alt i)) 4]
theorem alt_len (i : Nat) : (alt i).length = i := by
  induction i with
  | zero => rfl
  | succ i ih => simp [alt, ih]
theorem alt_is (i : Nat) : sy (alt i) = 0 ∧ ((sx (alt i) = 0 ∧ cn 0 (alt i) = cn 2 (alt i)) ∨ (sx (alt i) = 1 ∧ cn 0 (alt i) = cn 2 (alt i) + 1)) ∧ cn 1 (alt i) = 0 ∧ cn 3 (alt i) = 0 ∧ cn 0 (alt i) + cn 2 (alt i) = i := by
  induction i with
  | zero => exact ⟨rfl, .inl ⟨rfl, rfl⟩, rfl, rfl, rfl⟩
  | succ i ih =>
    obtain ⟨h1, h2, h3, h4, h5⟩ := ih
    simp only [alt, sx_snoc, sy_snoc, cn_snoc]
    rw [h1]
    rcases h2 with ⟨h2, h6⟩ | ⟨h2, h6⟩
    · rw [h2, nx_nil]
      have e1 : py 0 = 0 := rfl
      have e2 : px 0 = 1 := rfl
      rw [e1, e2]
      refine ⟨rfl, .inr ⟨rfl, ?_⟩, ?_, ?_, ?_⟩
      · simp; omega
      · simp; omega
      · simp; omega
      · simp; omega
    · rw [h2, nx_one]
      have e1 : py 2 = 0 := rfl
      have e2 : px 2 = -1 := rfl
      rw [e1, e2]
      refine ⟨rfl, .inl ⟨rfl, ?_⟩, ?_, ?_, ?_⟩
      · simp; omega
      · simp; omega
      · simp; omega
      · simp; omega

set_option maxRecDepth 100000 in
set_option maxHeartbeats 1000000 in
theorem zoneEven_in (m : Nat) (w : World) (h : m ≤ 300) :
    Calls Try.prog 4 #[.int .i64 (m : Int)] w fun e w' => e = .returned (.bool true) ∧ Below w.heap.size w w' := by
  have h0 : ¬ (m : Int) < 0 := by omega
  have h1 : ¬ 300 < (m : Int) := by omega
  go_enter Try.func4, Try.ntmps4
  go_wp2_with fail
  go_loopw [3, 4] (fun v i wr => ∃ k : Nat, i = .int .i64 (k : Int) ∧ k ≤ m ∧ wr.ownsRow w.heap.size 3 1 v k (iv (alt k)) ∧ Below w.heap.size w wr) (fun _ i _ => m - (intOf i).toNat)
  case atStart => exact ⟨0, rfl, Nat.zero_le _, World.ownsRow_nil _ _ _ _, Below.refl _ _⟩
  case round =>
    obtain ⟨k, rfl, hk, hown, hb⟩ := hrel
    obtain ⟨A, c, rfl⟩ := own_form hown
    have HO := Lib.hid hown
    have HB := Lib.hid hb
    clear hown hb
    rcases Nat.eq_or_lt_of_le hk with rfl | hlt
    · obtain ⟨a1, a2, a3, a4, a5⟩ := alt_is k
      have HC := Lib.hid (counts_any A k c (alt k) wr.heap.size wr (Rd.of_own HO.out) (Nat.le_refl _) (by omega) (own_cap HO.out))
      unfold CntPost cnts at HC
      rw [a3, a4] at HC
      have hcap := own_cap HO.out
      have hp : ∀ W, Below wr.heap.size wr W → Calls Try.prog 13 #[.slice A k c] W (CxB (sx (alt k)) 0 W) := fun W hb => by
        have h9 := pull_any A k c (alt k) wr.heap.size W ((Rd.of_own HO.out).below hb) hb.size (by omega) hcap
        rwa [a1] at h9
      have HP := Lib.hid hp
      have hxb : 0 ≤ sx (alt k) ∧ sx (alt k) ≤ 1 := by rcases a2 with ⟨e, _⟩ | ⟨e, _⟩ <;> omega
      obtain ⟨X, hX⟩ : ∃ X, sx (alt k) = X := ⟨_, rfl⟩
      rw [hX] at HP hxb
      obtain ⟨c0, hc0⟩ : ∃ c0, cn 0 (alt k) = c0 := ⟨_, rfl⟩
      obtain ⟨c2, hc2⟩ : ∃ c2, cn 2 (alt k) = c2 := ⟨_, rfl⟩
      rw [hc0, hc2] at HC a5
      have hd : 0 ≤ c0 - c2 ∧ c0 - c2 ≤ 1 := by rcases a2 with ⟨_, e⟩ | ⟨_, e⟩ <;> omega
      have hx0 := hxb.1
      have hx1 := hxb.2
      clear a1 a2 a3 a4 hp hX hc0 hc2 hxb hcap
      obtain ⟨D, hD⟩ : ∃ D, c0 - c2 = D := ⟨_, rfl⟩
      rw [hD] at hd
      have hw1 : IntKind.i64.wrap (c0 - c2) = D := by rw [hD, IntKind.wrap_i64]; omega
      have hd0 := hd.1
      have hd1 := hd.2
      have hc00 : 0 ≤ c0 := by omega
      have hc01 : c0 ≤ 301 := by omega
      have hc20 : 0 ≤ c2 := by omega
      have hc21 : c2 ≤ 301 := by omega
      have he : (c0 + c2 == (k : Int)) = true := by simp [a5]
      clear hD hd a5
      go_wp2_with fail
      refine HC.out.mono ?_
      rintro e w1 ⟨rfl, hb1⟩
      have HB1 := Lib.hid hb1
      clear hb1 HC
      go_wp2_with fail
      obtain ⟨W2, hW2⟩ : ∃ W2, w1.alloc (.cells #[.int .i64 c0, .int .i64 0, .int .i64 c2, .int .i64 0] 31) = W2 := ⟨_, rfl⟩
      have wh2 : Whole W2 w1.heap.size 31 #[.int .i64 c0, .int .i64 0, .int .i64 c2, .int .i64 0] := by rw [← hW2]; exact Whole.new w1 _ _
      have HB2 := Lib.hid (show Below wr.heap.size wr W2 by rw [← hW2]; exact HB1.out.alloc HB1.out.size _)
      rw [hW2]
      clear hW2
      have q0 := wh2.cell 0
      have q1 := wh2.cell 1
      have q2 := wh2.cell 2
      have q3 := wh2.cell 3
      simp only [List.getElem?_toArray, List.getElem?_cons_zero, List.getElem?_cons_succ] at q0 q1 q2 q3
      have HW2 := Lib.hid wh2
      clear wh2
      go_quiet (fail)
      have HB3 := Lib.hid (below_drewN HB2.out nq)
      have HW3 := Lib.hid (show Whole (W2.drewN nq) w1.heap.size 31 #[.int .i64 c0, .int .i64 0, .int .i64 c2, .int .i64 0] from HW2.out)
      obtain ⟨W3, hW3⟩ : ∃ W3, W2.drewN nq = W3 := ⟨_, rfl⟩
      rw [hW3] at HB3 HW3 ⊢
      clear hW3 q0 q1 q2 q3
      go_wp2_with fail
      refine (HP.out _ HB3.out).mono ?_
      rintro e w4 ⟨⟨x, y, rfl, hx, hy⟩, hb4⟩
      have HB4 := Lib.hid (HB3.out.trans (hb4.mono HB3.out.size))
      have wh4 := HW3.out.under hb4
      have q0 := wh4.cell 0
      have q1 := wh4.cell 1
      have q2 := wh4.cell 2
      have q3 := wh4.cell 3
      simp only [List.getElem?_toArray, List.getElem?_cons_zero, List.getElem?_cons_succ] at q0 q1 q2 q3
      have HSz := Lib.hid (size_yes hx hy (by omega) (by omega) (by omega) (by omega) w4)
      obtain ⟨S, hS⟩ : ∃ S, X * X + 0 * 0 = S := ⟨_, rfl⟩
      rw [hS] at HSz
      have hS2 : S ≤ 2 := by
        rcases (by omega : X = 0 ∨ X = 1) with e | e <;> subst e <;> omega
      clear hx hy hb4 wh4 hS HP hw1
      go_wp2_with fail
      refine HSz.out.mono ?_
      rintro e w5 ⟨rfl, rfl⟩
      go_wp2_with fail
      refine (wakes_any _).mono ?_
      rintro e w6 ⟨rfl, hb6⟩
      go_wp2_with fail
      go_ret
      exact ⟨rfl, HB.out.trans ((HB4.out.trans (hb6.mono HB4.out.size)).mono HB.out.size)⟩
    · have hli : (k : Int) < (m : Int) := by omega
      have HN := Lib.hid (next_any A k c (alt k) wr.heap.size wr (Rd.of_own HO.out) (Nat.le_refl _) (by omega))
      have hbd := nx_bd (sx (alt k)) (sy (alt k)) 4
      have hal : alt (k + 1) = alt k ++ [nx (sx (alt k)) (sy (alt k)) 4] := rfl
      obtain ⟨N, hN⟩ : ∃ N, nx (sx (alt k)) (sy (alt k)) 4 = N := ⟨_, rfl⟩
      rw [hN] at HN hbd hal
      have HA := Lib.hid hal
      have hN0 : 0 ≤ N := hbd.1
      have hN3 : N ≤ 3 := by omega
      clear hN hal hbd
      go_wp2_with fail
      refine HN.out.mono ?_
      rintro e w1 ⟨rfl, hb1⟩
      have HB1 := Lib.hid (HB.out.trans (hb1.mono HB.out.size))
      obtain ⟨v', w', hrun, hown', hg⟩ := run_appI (w1.alloc (.cells #[.int .i64 N] 3)) w.heap.size (.slice A k c) k (iv (alt k)) ((own_under HO.out hb1).alloc _) (w1.alloc (.cells #[.int .i64 N] 3)).heap.size (some ⟨w1.heap.size, 0, none⟩) 1 1 [N] (rd_lit1 (by simp) (by simp)) (by omega) (Nat.le_trans HB1.out.size (by simp))
      have HRun := Lib.hid hrun
      have hown2 : w'.ownsRow w.heap.size 3 1 v' (k + 1) (iv (alt (k + 1))) := by
        rw [HA.out]; simpa [iv] using hown'
      have HO2 := Lib.hid hown2
      have HB2 : Hid (Below w.heap.size w w') := Lib.hid ((HB1.out.alloc HB1.out.size _).trans (below_row ((own_under HO.out hb1).alloc _) hg (Nat.le_trans HB1.out.size (by simp))))
      clear hb1 hrun hown' hg hown2 HN
      go_wp2_with (first | (at_builtin; refine wpList_app (by rfl) _ _ _ rfl _ _ _ _ rfl rfl HRun.out ?_; clear HRun))
      go_roundw
      case rel => exact ⟨k + 1, by go_num, by omega, HO2.out, HB2.out⟩
      case measure => simp [intOf]; omega

theorem zoneEven_walk (z : Int) (w : World) :
    Calls Try.prog 4 #[.int .i64 z] w fun e w' => e = .returned (.bool true) ∧ Below w.heap.size w w' := by
  by_cases h : 0 ≤ z ∧ z ≤ 300
  · obtain ⟨m, rfl⟩ := Int.eq_ofNat_of_zero_le h.1
    exact zoneEven_in m w (by omega)
  · exact zoneEven_out z w h

end Go.Proofs.Ytpjmmjkgcoongaa
