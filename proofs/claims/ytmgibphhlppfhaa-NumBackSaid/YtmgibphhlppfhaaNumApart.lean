/-
  The walk of the statement 'NumApart': it answers true, and nothing that was there turns. Conditions: none.
-/
import Derived.Test.YtmgibphhlppfhaaNumWakes
namespace Go.Proofs.Ytmgibphhlppfhaa
open Go.RowKit Go.Shelf

/-- 'x[:k]', as the model cuts it. -/
theorem run_head (A : Option Addr) (n c k : Nat) (hk : k ≤ c) (w : World) : (Instr.slice 23 (.slice A n c) none (some (.int .i64 (k : Int))) none).run Try.prog w = .ok (.slice A k c) w := by
  obtain ⟨i0, hi, hz0, hz1, hz2⟩ := info_parts info_u8
  have hz : (sizeOf (Try.prog.elem 23)).run Try.prog w = .ok 1 w := by
    have he : Try.prog.elem 23 = 5 := by kernel_rfl
    simp [he, Go.sizeOf, typeInfo, hi, hz1]
  have h63 : (k : Int).toNat = k := by omega
  rw [run_slice_h (P := Try.prog) w 23 A n c Try.underlying23 .i64 (k : Int) (by omega) (by omega), hz, h63]
  have e : ∀ o : Option Addr, o.map (fun a => a.add (0 * 1)) = o := fun o => by cases o <;> simp [Addr.add]
  simp only [Result.andThen_ok, sliced, e, Nat.sub_zero, ite_self]

theorem AddInv.cap {base j : Nat} {ys : List Value} {w w' : World} {A : Option Addr} {c : Nat} (h : AddInv base j ys w (.slice A j c) w') : j ≤ c := by
  rcases h.1.2 with ⟨h1, h2⟩ | ⟨g, cap, cur, h1, _, _, h2, _⟩
  · omega
  · injection h1 with _ _ h3
    omega

theorem Rd.take {w : World} {B n k : Nat} {A : Option Addr} {xs : List Value} (h : Rd w B A n xs) (hk : k ≤ n) : Rd w B A k (xs.take k) := by
  refine ⟨by rw [List.length_take, h.1]; omega, fun hp => ?_⟩
  obtain ⟨b, off, e, hb, hc⟩ := h.2 (by omega)
  refine ⟨b, off, e, hb, fun j hj => ?_⟩
  rw [hc j (by omega), List.getElem?_take, if_pos hj]

theorem put_take_iff {N M : Nat} : put N = (put M).take (put N).length ↔ N = M := by
  refine ⟨fun h => ?_, fun h => by subst h; rw [List.take_length]⟩
  have h1 : put N ++ (put M).drop (put N).length = put M ++ [] := by
    conv => lhs; lhs; rw [h]
    rw [List.take_append_drop, List.append_nil]
  exact (put_prefix N M _ _ h1).1

set_option maxHeartbeats 400000 in
theorem apart_out (a0 a1 : Int) (w : World) (h : a0 < 0 ∨ (0 ≤ a0 ∧ a1 < a0) ∨ (0 ≤ a0 ∧ a0 ≤ a1 ∧ 1099511627776 < a1)) :
    Calls Try.prog 5 #[.int .i64 a0, .int .i64 a1] w fun e w' => e = .returned (.bool true) ∧ Below w.heap.size w w' := by
  rcases h with h | ⟨h0, h⟩ | ⟨h0, h1, h⟩
  all_goals
    go_enter Try.func5, Try.ntmps5
    go_wp2_with fail
    refine (wakes_any _).mono ?_
    rintro e w1 ⟨rfl, hb⟩
    go_wp2_with fail
    go_ret
    exact ⟨rfl, hb⟩

set_option maxHeartbeats 1000000 in
theorem apart_in (N M : Nat) (w : World) (h : N ≤ M) (hM : M ≤ 1099511627776) :
    Calls Try.prog 5 #[.int .i64 (N : Int), .int .i64 (M : Int)] w fun e w' => e = .returned (.bool true) ∧ Below w.heap.size w w' := by
  have hl := put_len_mono h
  have hlI : ¬ (put M).length < (put N).length := by omega
  have hlD : decide ((put M).length < (put N).length) = false := by simp; omega
  have hlE : decide ((put N).length ≤ (put M).length) = true := by simp; omega
  have hNM : ((N : Int) == (M : Int)) = decide (N = M) := by
    by_cases e : N = M
    · subst e; simp
    · have e2 : ¬ (N : Int) = (M : Int) := by omega
      simp [e, e2]
  have h3 : ¬ (M : Int) < (N : Int) := by omega
  have HN := Lib.hid (show N ≤ 1099511627776 by omega)
  have HM := Lib.hid hM
  clear h
  go_enter Try.func5, Try.ntmps5
  go_wp2_with fail
  refine (put_yes N HN.out w.heap.size _ (Nat.le_refl _)).mono ?_
  rintro e w1 ⟨A1, c1, rfl, hI1⟩
  have R1 := hI1.rd
  have b1 : Below w.heap.size w w1 := hI1.2.1
  clear hI1
  go_wp2_with fail
  refine (put_yes M HM.out w1.heap.size _ (Nat.le_refl _)).mono ?_
  rintro e w2 ⟨A2, c2, rfl, hI2⟩
  have R2 := (hI2.rd).take hl
  have b2 : Below w.heap.size w w2 := b1.trans (hI2.2.1.mono b1.size)
  have R1 := (R1.below hI2.2.1).more hI2.2.1.size
  have hsl := run_head A2 (put M).length c2 (put N).length (by have := hI2.cap; omega)
  clear hI2 b1
  rw [bv, ← List.map_take] at R2
  go_wp2_with fail
  refine (same_any _ _ _ _ _ _ (put N) ((put M).take (put N).length) w2.heap.size _ R1 R2 (put_bytes N) (fun x hx => put_bytes M x (List.mem_of_mem_take hx))).mono ?_
  rintro e w3 ⟨rfl, rfl⟩
  rw [show (decide (put N = List.take (put N).length (put M))) = decide (N = M) from by rw [decide_eq_decide]; exact put_take_iff]
  clear R1 R2
  go_wp2_with fail
  refine (long_yes N HN.out _).mono ?_
  rintro e w3 ⟨rfl, hb3, _⟩
  have b3 : Below w.heap.size w w3 := b2.trans (hb3.mono b2.size)
  clear b2 hb3
  go_wp2_with fail
  refine (long_yes M HM.out _).mono ?_
  rintro e w4 ⟨rfl, hb4, _⟩
  have b4 : Below w.heap.size w w4 := b3.trans (hb4.mono b3.size)
  clear b3 hb4
  go_wp2_with fail
  refine (wakes_any _).mono ?_
  rintro e w5 ⟨rfl, hb5⟩
  have b5 : Below w.heap.size w w5 := b4.trans (hb5.mono b4.size)
  clear b4 hb5
  go_wp2_with fail
  go_ret
  exact ⟨rfl, b5⟩

theorem apart_walk (a0 a1 : Int) (w : World) : Calls Try.prog 5 #[.int .i64 a0, .int .i64 a1] w fun e w' => e = .returned (.bool true) ∧ Below w.heap.size w w' := by
  by_cases h0 : 0 ≤ a0
  · by_cases h1 : a0 ≤ a1
    · by_cases h2 : a1 ≤ 1099511627776
      · obtain ⟨N, rfl⟩ := Int.eq_ofNat_of_zero_le h0
        obtain ⟨M, rfl⟩ := Int.eq_ofNat_of_zero_le (Int.le_trans h0 h1)
        exact apart_in N M w (by omega) (by omega)
      · exact apart_out a0 a1 w (.inr (.inr ⟨h0, h1, by omega⟩))
    · exact apart_out a0 a1 w (.inr (.inl ⟨h0, by omega⟩))
  · exact apart_out a0 a1 w (.inl (by omega))

end Go.Proofs.Ytmgibphhlppfhaa
