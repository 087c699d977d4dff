/-
  The walk of the statements' 'wakes': it answers true, and nothing that was there turns. Conditions: none.
-/
import Derived.Test.YtmgibphhlppfhaaNumRow
namespace Go.Proofs.Ytmgibphhlppfhaa
open Go.RowKit Go.Shelf

/-- A literal slice reads as it is written. -/
theorem rd_lit (W : World) (cs : List Value) (t : TypeId) (n : Nat) (hn : cs.length = n) : Rd (W.alloc (.cells cs.toArray t)) (W.heap.size + 1) (some ⟨W.heap.size, 0, none⟩) n cs := by
  refine ⟨hn, fun _ => ⟨W.heap.size, 0, rfl, by omega, fun j hj => ?_⟩⟩
  rw [Nat.zero_add, cell_new]
  simp

theorem rd_lit_at (W : World) (cs : List Value) (t : TypeId) (n b : Nat) (hn : cs.length = n) (hb : W.heap.size = b) : Rd (W.alloc (.cells cs.toArray t)) (b + 1) (some ⟨b, 0, none⟩) n cs := by
  subst hb; exact rd_lit W cs t n hn

/-- It reads so behind whatever leaves what was there. -/
theorem Rd.on {W W' : World} {B n : Nat} {A : Option Addr} {xs : List Value} (h : Rd W B A n xs) (hB : B ≤ W.heap.size) (hb : Below W.heap.size W W') : Rd W' B A n xs := h.below (hb.mono hB)
theorem AddInv.rd {base j : Nat} {ys : List Value} {w w' : World} {A : Option Addr} {c : Nat} (h : AddInv base j ys w (.slice A j c) w') : Rd w' w'.heap.size A j ys := Rd.of_own h.1

def TakeIs (N : Nat) (rest : List Nat) (E : Nat) (w : World) (e : Ending) (w' : World) : Prop :=
  ∃ A c, e = .returned (.tuple #[.int .i64 (N : Int), .slice A rest.length c, .int .i64 (E : Int)]) ∧ AddInv w.heap.size rest.length (bv rest) w (.slice A rest.length c) w'

theorem take_is (A : Option Addr) (n c : Nat) (bs : List Nat) (B : Nat) (w : World) (hr : Rd w B A n (bv bs)) (hB : B ≤ w.heap.size) (hb : ∀ x ∈ bs, x < 256) (hn : n ≤ 140737488355328) (hc : n ≤ c) {N E : Nat} {rest : List Nat}
    (h1 : (first bs).1 = N) (h2 : (first bs).2.2 = E) (h3 : behind bs = rest) : Calls Try.prog 10 #[.slice A n c] w (TakeIs N rest E w) := by
  subst h1; subst h2; subst h3
  by_cases h : (first bs).2.2 = 0
  · exact take_ok A n c bs B w hr hB hb hn hc h
  · exact take_err A n c bs B w hr hB hb (by unfold maxLen; omega) h

def WakePost (w : World) (e : Ending) (w' : World) : Prop := e = .returned (.bool true) ∧ Below w.heap.size w w'

theorem same_yes (A A' : Option Addr) (n c n' c' : Nat) (a : List Nat) (B B' : Nat) (w : World) (hr : Rd w B A n (bv a)) (hr' : Rd w B' A' n' (bv a)) (ha : ∀ x ∈ a, x < 256) :
    Calls Try.prog 11 #[.slice A n c, .slice A' n' c'] w fun e w' => e = .returned (.bool true) ∧ w = w' :=
  (same_any A A' n c n' c' a a (max B B') w (hr.more (Nat.le_max_left _ _)) (hr'.more (Nat.le_max_right _ _)) ha ha).mono fun _ _ h => by simpa using h

theorem put_300 : put 300 = [172, 2] := by rw [put_big (by omega), put_small (by omega)]
theorem put_128 : put 128 = [128, 1] := by rw [put_big (by omega), put_small (by omega)]
theorem row_01 : row (nats [0, 1]) = [2, 0, 1] := by
  have e0 : put 0 = [0] := put_small (by omega)
  have e1 : put 1 = [1] := put_small (by omega)
  have e2 : put 2 = [2] := put_small (by omega)
  simp [row, nats, puts, e0, e1, e2]

theorem put_call (w : World) : Calls Try.prog 8 #[.int .i64 300] w (TwoPost w.heap.size 2 (bv [172, 2]) w) := by
  have h := put_yes 300 (by omega) w.heap.size w (Nat.le_refl _)
  rw [put_300] at h
  exact h
theorem long_call (w : World) : Calls Try.prog 9 #[.int .i64 128] w (LongPost 2 w) := by
  have h := long_yes 128 (by omega) w
  rw [put_128] at h
  exact h
theorem row_call (A : Option Addr) (c : Nat) (B : Nat) (w : World) (hr : Rd w B A 2 (iv [0, 1])) (hB : B ≤ w.heap.size) : Calls Try.prog 12 #[.slice A 2 c] w (TwoPost w.heap.size 3 (bv [2, 0, 1]) w) := by
  refine (row_short A 2 c [0, 1] w (hr.more hB) (by omega)).mono ?_
  rintro e w' (⟨_, A', c', he, hI⟩ | ⟨h, _⟩)
  · rw [row_01] at he hI
    exact ⟨A', c', he, hI⟩
  · exact absurd h (by decide)

set_option maxRecDepth 100000 in
set_option maxHeartbeats 1000000 in
theorem wakes_any (w : World) : Calls Try.prog 7 #[] w (WakePost w) := by
  go_enter Try.func7, Try.ntmps7
  go_wp2_with fail
  refine (put_call _).mono ?_
  rintro e w1 ⟨A1, c1, rfl, hI1⟩
  have R1 := hI1.rd
  have b1 : Below w.heap.size w w1 := hI1.2.1
  clear hI1
  go_wp2_with fail
  refine (row_call _ _ (w1.heap.size + 1) _ (rd_lit w1 (iv [0, 1]) 3 2 rfl) (by simp)).mono ?_
  rintro e w2 ⟨A2, c2, rfl, hI2⟩
  have R2 := hI2.rd
  have d2 : Below w1.heap.size w1 w2 := ((Below.refl _ w1).alloc (Nat.le_refl _) _).trans (hI2.2.1.mono (by simp))
  have b2 : Below w.heap.size w w2 := b1.trans (d2.mono b1.size)
  have R1 := (R1.below d2).more d2.size
  clear hI2 b1 d2
  go_wp2_with fail
  refine (take_is _ 3 _ [172, 2, 7] (w2.heap.size + 1) _ (rd_lit w2 (bv [172, 2, 7]) 5 3 rfl) (by simp) (by decide) (by omega) (by omega) (N := 300) (E := 0) (rest := [7]) (by decide) (by decide) (by decide)).mono ?_
  rintro e w3 ⟨A3, c3, rfl, hI3⟩
  have R3 := hI3.rd
  have d3 : Below w2.heap.size w2 w3 := ((Below.refl _ w2).alloc (Nat.le_refl _) _).trans (hI3.2.1.mono (by simp))
  have b3 : Below w.heap.size w w3 := b2.trans (d3.mono b2.size)
  have R1 := (R1.below d3).more d3.size
  have R2 := (R2.below d3).more d3.size
  clear hI3 b2 d3
  go_wp2_with fail
  refine (take_is _ 2 _ [128, 0] (w3.heap.size + 1) _ (rd_lit w3 (bv [128, 0]) 5 2 rfl) (by simp) (by decide) (by omega) (by omega) (N := 0) (E := 11) (rest := []) (by decide) (by decide) (by decide)).mono ?_
  rintro e w4 ⟨A4, c4, rfl, hI4⟩
  have d4 : Below w3.heap.size w3 w4 := ((Below.refl _ w3).alloc (Nat.le_refl _) _).trans (hI4.2.1.mono (by simp))
  have b4 : Below w.heap.size w w4 := b3.trans (d4.mono b3.size)
  have R1 := (R1.below d4).more d4.size
  have R2 := (R2.below d4).more d4.size
  have R3 := (R3.below d4).more d4.size
  clear hI4 b3 d4
  go_wp2_with fail
  refine (take_is _ 1 _ [128] (w4.heap.size + 1) _ (rd_lit w4 (bv [128]) 5 1 rfl) (by simp) (by decide) (by omega) (by omega) (N := 0) (E := 10) (rest := []) (by decide) (by decide) (by decide)).mono ?_
  rintro e w5 ⟨A5, c5, rfl, hI5⟩
  have d5 : Below w4.heap.size w4 w5 := ((Below.refl _ w4).alloc (Nat.le_refl _) _).trans (hI5.2.1.mono (by simp))
  have b5 : Below w.heap.size w w5 := b4.trans (d5.mono b4.size)
  have R1 := (R1.below d5).more d5.size
  have R2 := (R2.below d5).more d5.size
  have R3 := (R3.below d5).more d5.size
  clear hI5 b4 d5
  go_wp2_with fail
  refine (put_no _ (by decide) _).mono ?_
  rintro e w6 ⟨rfl, rfl⟩
  go_wp2_with fail
  have R1 := R1.alloc (Nat.le_refl _) (.cells #[.int .u8 172, .int .u8 2] 5)
  have R2 := R2.alloc (Nat.le_refl _) (.cells #[.int .u8 172, .int .u8 2] 5)
  have R3 := R3.alloc (Nat.le_refl _) (.cells #[.int .u8 172, .int .u8 2] 5)
  refine (same_yes _ _ 2 _ 2 _ [172, 2] _ _ _ R1 (rd_lit w5 (bv [172, 2]) 5 2 rfl) (by decide)).mono ?_
  rintro e w6 ⟨rfl, rfl⟩
  clear R1
  go_wp2_with fail
  have R2 := R2.alloc (by simp <;> omega) (.cells #[.int .u8 2, .int .u8 0, .int .u8 1] 5)
  have R3 := R3.alloc (by simp <;> omega) (.cells #[.int .u8 2, .int .u8 0, .int .u8 1] 5)
  refine (same_yes _ _ 3 _ 3 _ [2, 0, 1] _ _ _ R2 (rd_lit_at _ (bv [2, 0, 1]) 5 3 (w5.heap.size + 1) rfl (by simp)) (by decide)).mono ?_
  rintro e w6 ⟨rfl, rfl⟩
  clear R2
  go_wp2_with fail
  have R3 := R3.alloc (by simp <;> omega) (.cells #[.int .u8 7] 5)
  refine (same_yes _ _ 1 _ 1 _ [7] _ _ _ R3 (rd_lit_at _ (bv [7]) 5 1 (w5.heap.size + 1 + 1) rfl (by simp)) (by decide)).mono ?_
  rintro e w6 ⟨rfl, rfl⟩
  clear R3
  go_wp2_with fail
  refine (long_call _).mono ?_
  rintro e w7 ⟨rfl, hb7, _⟩
  go_wp2_with fail
  go_ret
  have hs := b5.size
  exact ⟨rfl, (((b5.alloc hs _).alloc (by simp; omega) _).alloc (by simp; omega) _).trans (hb7.mono (by simp; omega))⟩

end Go.Proofs.Ytmgibphhlppfhaa
