/-
  The walks of the document's own 'fine', 'Put' and 'Take' of numbers. Conditions: those that each theorem names.
-/
import Derived.Test.YtocleikdabclkaaNumTake
namespace Go.Proofs.Ytocleikdabclkaa
open Go.RowKit Go.Shelf

set_option maxHeartbeats 400000 in
theorem fine_any (n : Int) (w : World) : Calls Try.prog 34 #[.int .i64 n] w fun e w' => e = .returned (.bool (isNum n)) ∧ w = w' := by
  by_cases h0 : 0 ≤ n
  · by_cases h1 : n ≤ 1099511627776
    · rw [isNum_yes h0 h1]
      go_enter Try.func34, Try.ntmps34
      go_wp2
      go_ret
      exact ⟨rfl, rfl⟩
    · have e : isNum n = false := by simp [isNum, h1]
      rw [e]
      go_enter Try.func34, Try.ntmps34
      go_wp2
      go_ret
      exact ⟨rfl, rfl⟩
  · have e : isNum n = false := by simp [isNum, h0]
    rw [e]
    go_enter Try.func34, Try.ntmps34
    go_wp2
    go_ret
    exact ⟨rfl, rfl⟩

set_option maxHeartbeats 400000 in
theorem refPut_no (n : Int) (hn : isNum n = false) (w : World) :
    Calls Try.prog 24 #[.int .i64 n] w fun e w' => e = .returned (.tuple #[.slice none 0 0, .int .i64 2]) ∧ w = w' := by
  go_enter Try.func24, Try.ntmps24
  go_wp2_with (first | (go_at_call 34; refine (fine_any _ _).mono ?_; rintro e w' ⟨rfl, rfl⟩))
  go_ret2
  exact ⟨rfl, rfl⟩

set_option maxRecDepth 1000000 in
set_option maxHeartbeats 1000000 in
theorem refPut_yes (N : Nat) (hN : N ≤ 1099511627776) (w : World) :
    Calls Try.prog 24 #[.int .i64 (N : Int)] w (TwoPost w.heap.size (put N).length (bv (put N)) w) := by
  obtain ⟨i0, hi, hz0, hz1, hz2⟩ := info_parts info_u8
  have hnum : isNum (N : Int) = true := isNum_yes (by omega) (by omega)
  have hl6 := put_six hN
  go_enter Try.func24, Try.ntmps24
  go_wp2_with (first | (go_at_call 34; refine (fine_any _ _).mono ?_; rintro e w' ⟨rfl, rfl⟩))
  go_loopw [0, 4] (fun x v wr => ∃ (m j : Nat) (ys : List Value), x = .int .i64 (m : Int) ∧ AddInv w.heap.size j ys w v wr ∧ j + (put m).length = (put N).length ∧ ys ++ bv (put m) = bv (put N) ∧ m ≤ N) (fun x _ _ => (intOf x).toNat)
  case atStart => exact ⟨N, 0, [], rfl, ⟨World.ownsRow_nil _ _ _ _, Below.refl _ _, KeepsOthers.refl _, Nat.le_refl _⟩, by omega, rfl, Nat.le_refl _⟩
  case round =>
    obtain ⟨m, j, ys, rfl, hP, hlen, hcat, hm⟩ := hrel
    obtain ⟨hr, hb, hko, hs⟩ := id hP
    have HP := Lib.hid hP
    have Hlen := Lib.hid hlen
    have Hcat := Lib.hid hcat
    have hp := put_pos m
    have hj : j ≤ 10 := by omega
    clear hP hlen hcat hb hko
    by_cases hlt : m < 128
    · go_wp2_with (at_builtin; refine wpList_append_own_at _ rfl _ _ 22 rfl w.heap.size 5 i0 (.int .u8 0) 1 1 Try.underlying22 hi hz0 hz1 hz2 rfl (by decide) _ _ _ rfl (hr.alloc _) ⟨wr.heap.size, 0, none⟩ 1 1 [.int .u8 (m : Int)] rfl rfl (cell_one_new _ _ _) (by simp [Value.oneCell']) (by unfold maxLen; omega) (by omega) (by simp; omega) ?_; intro v1 w1 hown1 hgrow1 _ _)
      obtain ⟨g1, cap1, rfl⟩ := ownsRow_succ hown1
      have e1 := Hlen.out
      have e2 := Hcat.out
      rw [put_small hlt] at e1 e2
      go_ret2
      have hI := addInv_step HP.out hown1 hgrow1
      have e3 : j + 1 = (put N).length := by simpa using e1
      have e4 : ys ++ [.int .u8 (m : Int)] = bv (put N) := by rw [← e2]; rfl
      rw [e4] at hI
      rw [e3] at hI ⊢
      exact ⟨_, _, rfl, hI⟩
    · go_wp2_with (at_builtin; refine wpList_append_own_at _ rfl _ _ 22 rfl w.heap.size 5 i0 (.int .u8 0) 1 1 Try.underlying22 hi hz0 hz1 hz2 rfl (by decide) _ _ _ rfl (hr.alloc _) ⟨wr.heap.size, 0, none⟩ 1 1 [.int .u8 ((m % 128 + 128 : Nat) : Int)] rfl rfl (cell_one_new _ _ _) (by simp [Value.oneCell']) (by unfold maxLen; omega) (by omega) (by simp; omega) ?_; intro v1 w1 hown1 hgrow1 _ _)
      have e1 := Hlen.out
      have e2 := Hcat.out
      rw [put_big hlt] at e1 e2
      go_roundw
      case rel => exact ⟨m / 128, j + 1, _, by go_num, addInv_step HP.out hown1 hgrow1, by simp only [List.length_cons] at e1; omega, by rw [← e2]; simp [bv], by omega⟩
      case measure => simp [intOf]; omega

end Go.Proofs.Ytocleikdabclkaa
