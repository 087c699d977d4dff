/-
  The walk of the statements' 'wakes' (stage 4): it answers true, and nothing that was there turns. Conditions: none.
-/
import Derived.Test.YtocleikdabclkaaFrAll
import Derived.Test.YtocleikdabclkaaFrRows
namespace Go.Proofs.Ytocleikdabclkaa
open Go.RowKit Go.Shelf

theorem put_0 : put 0 = [0] := put_small (by omega)
theorem fr_nil : fr [] = [0, 1, 0, 0, 0] := by simp [fr, put_0, le4, sumOf]
theorem frLen_0 : frLen 0 = 5 := by simp [frLen, put_0]
theorem same_yes (A A' : Option Addr) (n c n' c' : Nat) (a : List Nat) (B B' : Nat) (w : World) (hr : Rd w B A n (bv a)) (hr' : Rd w B' A' n' (bv a)) (ha : ∀ x ∈ a, x < 256) :
    Calls Try.prog 15 #[.slice A n c, .slice A' n' c'] w fun e w' => e = .returned (.bool true) ∧ w = w' :=
  (same_any A A' n c n' c' a a (max B B') w (hr.more (Nat.le_max_left _ _)) (hr'.more (Nat.le_max_right _ _)) ha ha).mono fun _ _ h => by simpa using h

theorem w_put (w : World) : Calls Try.prog 9 #[.slice none 0 0] w fun e w' => ∃ A c, e = .returned (.tuple #[.slice A 5 c, .int .i64 0]) ∧ Rd w' w'.heap.size A 5 (bv [0, 1, 0, 0, 0]) ∧ Below w.heap.size w w' := by
  refine (frPut_any none 0 0 [] w.heap.size w (Rd.nil_ _ _ _) (Nat.le_refl _) (by simp) (by omega) (Nat.le_refl _) (by unfold maxLen; omega)).mono ?_
  rintro e w' ⟨A, c, rfl, ho, hb⟩
  have h := Rd.of_own ho
  rw [fr_nil] at h
  rw [show ([] : List Nat).length = 0 from rfl, frLen_0] at h
  exact ⟨A, c, by rw [show ([] : List Nat).length = 0 from rfl, frLen_0], h, hb⟩
theorem w_take (A : Option Addr) (c : Nat) (w : World) (hr : Rd w w.heap.size A 6 (bv [0, 1, 0, 0, 0, 9])) (hc : 6 ≤ c) : Calls Try.prog 11 #[.slice A 6 c] w fun e w' => ∃ A c A' c', e = .returned (.tuple #[.slice A 0 c, .slice A' 1 c', .int .i64 0]) ∧ Rd w' w'.heap.size A' 1 (bv [9]) ∧ Below w.heap.size w w' := by
  have hf : IsFr [0, 1, 0, 0, 0, 9] [] := ⟨by simp, [9], by rw [fr_nil]; rfl⟩
  refine (frTake_yes A 6 c [0, 1, 0, 0, 0, 9] [] [9] w.heap.size w hf (by rw [show ([] : List Nat).length = 0 from rfl, frLen_0]; rfl) hr (Nat.le_refl _) (by decide) (by omega) hc).mono ?_
  rintro e w' ⟨A1, c1, A2, c2, rfl, _, h2, hb⟩
  exact ⟨A1, c1, A2, c2, rfl, Rd.of_own h2, hb⟩
theorem w_no (A : Option Addr) (c : Nat) (w : World) (hr : Rd w w.heap.size A 4 (bv [0, 1, 0, 0])) (hc : 4 ≤ c) : Calls Try.prog 11 #[.slice A 4 c] w (TakeNo w) := by
  have hf : ∀ p, ¬ IsFr [0, 1, 0, 0] p := fun p => by
    have h := not_isFr_cut (p := []) (q := p) (k := 4) (by simp) (by rw [fr_nil]; decide)
    rwa [fr_nil] at h
  exact frTake_no A 4 c _ w.heap.size w hf hr (Nat.le_refl _) (by decide) (by omega) hc
theorem w_all (A : Option Addr) (c : Nat) (w : World) (hr : Rd w w.heap.size A 11 (bv [0, 1, 0, 0, 0, 0, 1, 0, 0, 0, 7])) (hc : 11 ≤ c) : Calls Try.prog 13 #[.slice A 11 c] w fun e w' => ∃ A c, e = .returned (.tuple #[.slice A 2 c, .int .i64 10]) ∧ Below w.heap.size w w' := by
  have h7 : ∀ p, ¬ IsFr [7] p := fun p hp => by
    have h1 := isFr_first_all hp
    have h2 := hp.le
    have h3 : first [7] = (7, 1, 0) := by decide
    rw [h3] at h1
    simp only [Prod.mk.injEq] at h1
    unfold frLen at h2
    simp only [List.length_singleton] at h2
    omega
  have hall := allIs_app [[], []] [7] (by simp) h7
  have e1 : ([[], []] : List (List Nat)).flatMap fr = [0, 1, 0, 0, 0, 0, 1, 0, 0, 0] := by simp [fr_nil]
  rw [e1] at hall
  refine (frAll_any A 11 c _ [[], []] 10 w.heap.size w hall hr (Nat.le_refl _) (by decide) (by omega) hc).mono ?_
  rintro e w' ⟨A1, c1, rfl, _, hb⟩
  exact ⟨A1, c1, rfl, hb⟩
theorem w_sum (A : Option Addr) (c : Nat) (w : World) (hr : Rd w w.heap.size A 1 (bv [1])) : Calls Try.prog 17 #[.slice A 1 c] w fun e w' => e = .returned (.int .u32 39) ∧ Below w.heap.size w w' :=
  sum_any A 1 c [1] w.heap.size w hr (Nat.le_refl _) (by decide) (by omega)
theorem w_long (w : World) : Calls Try.prog 19 #[.int .i64 3] w fun e w' => e = .returned (.int .i64 8) ∧ Below w.heap.size w w' := by
  have h := frLong_yes 3 (by omega) w
  rw [show frLen 3 = 8 by simp [frLen, put_small]] at h
  exact h
theorem w_neg (w : World) : Calls Try.prog 19 #[.int .i64 (-1)] w fun e w' => e = .returned (.int .i64 (-1)) ∧ Below w.heap.size w w' := frLong_no (-1) (by omega) w

set_option maxRecDepth 100000 in
set_option maxHeartbeats 1000000 in
theorem wakes_any (w : World) : Calls Try.prog 8 #[] w (WakePost w) := by
  go_enter Try.func8, Try.ntmps8
  go_wp2_with fail
  refine (w_put _).mono ?_
  rintro e w1 ⟨A1, c1, rfl, R1, b1⟩
  go_wp2_with fail
  refine (w_take _ 6 _ ((rd_lit w1 (bv [0, 1, 0, 0, 0, 9]) 5 6 rfl).more (by simp)) (Nat.le_refl _)).mono ?_
  rintro e w2 ⟨_, _, A2, c2, rfl, R2, e2⟩
  have d2 : Below w1.heap.size w1 w2 := ((Below.refl _ w1).alloc (Nat.le_refl _) _).trans (e2.mono (by simp))
  have R1 := (R1.below d2).more d2.size
  have b2 := b1.trans (d2.mono b1.size)
  clear e2 d2 b1
  go_wp2_with fail
  refine (w_no _ 4 _ ((rd_lit w2 (bv [0, 1, 0, 0]) 5 4 rfl).more (by simp)) (Nat.le_refl _)).mono ?_
  rintro e w3 ⟨rfl, e3⟩
  have d3 : Below w2.heap.size w2 w3 := ((Below.refl _ w2).alloc (Nat.le_refl _) _).trans (e3.mono (by simp))
  have R1 := (R1.below d3).more d3.size
  have R2 := (R2.below d3).more d3.size
  have b3 := b2.trans (d3.mono b2.size)
  clear e3 d3 b2
  go_wp2_with fail
  refine (w_all _ 11 _ ((rd_lit w3 (bv [0, 1, 0, 0, 0, 0, 1, 0, 0, 0, 7]) 5 11 rfl).more (by simp)) (Nat.le_refl _)).mono ?_
  rintro e w4 ⟨A4, c4, rfl, e4⟩
  have d4 : Below w3.heap.size w3 w4 := ((Below.refl _ w3).alloc (Nat.le_refl _) _).trans (e4.mono (by simp))
  have R1 := (R1.below d4).more d4.size
  have R2 := (R2.below d4).more d4.size
  have b4 := b3.trans (d4.mono b3.size)
  clear e4 d4 b3
  go_wp2_with fail
  have d5 : Below w4.heap.size w4 (w4.alloc (.cells #[.int .u8 0, .int .u8 1, .int .u8 0, .int .u8 0, .int .u8 0] 5)) := (Below.refl _ w4).alloc (Nat.le_refl _) _
  have R1 := R1.below d5
  have R2 := R2.below d5
  refine (same_yes _ _ 5 _ 5 _ [0, 1, 0, 0, 0] _ _ _ R1 (rd_lit w4 (bv [0, 1, 0, 0, 0]) 5 5 rfl) (by decide)).mono ?_
  rintro e w5 ⟨rfl, rfl⟩
  clear R1
  go_wp2_with fail
  have R2 := R2.alloc (by simp) (.cells #[.int .u8 9] 5)
  refine (same_yes _ _ 1 _ 1 _ [9] _ _ _ R2 (rd_lit_at _ (bv [9]) 5 1 (w4.heap.size + 1) rfl (by simp)) (by decide)).mono ?_
  rintro e w5 ⟨rfl, rfl⟩
  clear R2
  go_wp2_with fail
  have d6 := (d5.alloc d5.size (.cells #[.int .u8 9] 5)).alloc (by simp; omega) (.cells #[.int .u8 1] 5)
  refine (w_sum _ 1 _ ((rd_lit_at _ (bv [1]) 5 1 (w4.heap.size + 1 + 1) rfl (by simp)).more (by simp))).mono ?_
  rintro e w6 ⟨rfl, e6⟩
  have d7 := d6.trans (e6.mono (by simp; omega))
  have b7 := b4.trans (d7.mono b4.size)
  clear d5 d6 e6 d7 b4
  go_wp2_with fail
  refine (w_long _).mono ?_
  rintro e w8 ⟨rfl, e8⟩
  have b8 := b7.trans (e8.mono b7.size)
  clear e8 b7
  go_wp2_with fail
  refine (w_neg _).mono ?_
  rintro e w9 ⟨rfl, e9⟩
  have b9 := b8.trans (e9.mono b8.size)
  clear e9 b8
  go_wp2_with fail
  go_ret
  exact ⟨rfl, b9⟩

end Go.Proofs.Ytocleikdabclkaa
