/-
  The walk of the document's own 'Take' of a number. Conditions: those that each theorem names.
-/
import Derived.Test.YtocleikdabclkaaRefNum
namespace Go.Proofs.Ytocleikdabclkaa
open Go.RowKit Go.Shelf

/-- What Take answers: a number, the bytes behind, an error's number. -/
def TakeRef (N : Nat) (rest : List Nat) (E : Nat) (w : World) (e : Ending) (w' : World) : Prop :=
  ∃ A c, e = .returned (.tuple #[.int .i64 (N : Int), .slice A rest.length c, .int .i64 (E : Int)]) ∧ w'.ownsRow w.heap.size 5 1 (.slice A rest.length c) rest.length (bv rest) ∧ Below w.heap.size w w'
theorem takeRef_no {E : Nat} {w w' : World} (hb : Below w.heap.size w w') : TakeRef 0 [] E w (.returned (.tuple #[.int .i64 0, .slice none 0 0, .int .i64 (E : Int)])) w' :=
  ⟨none, 0, rfl, World.ownsRow_nil _ _ _ _, hb⟩

/-- 'append([]byte{}, b[k:]...)': both run. -/
theorem refTake_end {A : Option Addr} {n c : Nat} {bs : List Nat} {w : World} (hr : Rd w w.heap.size A n (bv bs)) (hn : n ≤ 1000000) (hc : n ≤ c) {k : Nat} (hk : k ≤ n) {rest : List Nat} (hrest : rest = bs.drop k) :
    ∃ A' A3 c3 W1, (∀ W : World, (Instr.slice 22 (.slice A n c) (some (.int .i64 (k : Int))) none none).run Try.prog W = .ok (.slice A' rest.length (c - k)) W) ∧
      (Builtin.append_ #[22, 22] 22 #[.slice (some ⟨w.heap.size, 0, none⟩) 0 0, .slice A' rest.length (c - k)]).run Try.prog (w.alloc (.cells #[] 5)) = .ok (.slice A3 rest.length c3) W1 ∧
      W1.ownsRow w.heap.size 5 1 (.slice A3 rest.length c3) rest.length (bv rest) ∧ Below w.heap.size w W1 := by
  obtain ⟨A', hA1, hA2⟩ := run_rest A n c k hk
  have R2 : Rd w w.heap.size A' (n - k) (bv rest) := by
    have h1 := hr.cut (k := k) hk A' (fun h => hA2 ⟨h, hc⟩)
    rw [hrest, bv, List.map_drop]
    exact h1
  have hrl : rest.length = n - k := by have := R2.1; rwa [bv_length] at this
  rw [← hrl] at R2 hA1
  have ho := World.ownsRow_made (base := w.heap.size) (e := 5) (size := 1) w #[] 0 (Nat.le_refl _) (Nat.zero_le _) rfl
  obtain ⟨v1, W1, e2, o1, g1⟩ := run_app (w.alloc (.cells #[] 5)) w.heap.size _ 0 [] ho w.heap.size A' rest.length (c - k) rest (R2.alloc (Nat.le_refl _) _) (by omega) (by simp)
  rw [Nat.zero_add, List.nil_append] at o1
  obtain ⟨A3, c3, rfl⟩ := own_form o1
  exact ⟨A', A3, c3, W1, hA1, e2, o1, ((Below.refl _ w).alloc (Nat.le_refl _) (.cells #[] 5)).trans (below_row ho g1 (by simp))⟩

set_option maxRecDepth 1000000 in
set_option maxHeartbeats 800000 in
theorem refTake_is (A : Option Addr) (n c : Nat) (bs : List Nat) (B : Nat) (w : World) (hr : Rd w B A n (bv bs)) (hB : B ≤ w.heap.size) (hb : ∀ x ∈ bs, x < 256) (hn : n ≤ 1000000) (hc : n ≤ c) {N E : Nat} {rest : List Nat} (hN : (first bs).1 = N) (hE : (first bs).2.2 = E) (hrest : behind bs = rest) :
    Calls Try.prog 27 #[.slice A n c] w (TakeRef N rest E w) := by
  have Hlen : Hid (bs.length = n) := by have := hr.1; rw [bv_length] at this; exact this
  have Hb := Lib.hid hb
  have Hr := Lib.hid (hr.more hB)
  have HN := Lib.hid hN
  have HE := Lib.hid hE
  have HRest := Lib.hid hrest
  clear hb hr hN hE hrest hB
  have HFin : Hid (∀ K e, first bs = (0, K, e) → e ≠ 0 → N = 0 ∧ E = e ∧ rest = []) := fun K e h he => by
    refine ⟨by rw [← HN.out, h], by rw [← HE.out, h], by rw [← HRest.out, behind, h, if_neg he]⟩
  go_enter Try.func27, Try.ntmps27
  go_wp2_with fail
  go_loop [5, 6, 7] (fun x y i => ∃ (M k P : Nat), x = .int .i64 (M : Int) ∧ y = .int .i64 (P : Int) ∧ i = .int .i64 (k : Int) ∧ FirstInv bs n M k P) (fun _ _ i => n - (intOf i).toNat)
  case atStart => exact ⟨0, 0, 1, rfl, rfl, rfl, FirstInv.start bs n⟩
  case round =>
    obtain ⟨M, k, P, rfl, rfl, rfl, hI⟩ := hrel
    have HI := Lib.hid hI
    have hkn := hI.le
    have hk5 := hI.five
    obtain ⟨hP1, hP2⟩ := hI.bound
    have hNP := hI.val
    clear hI
    by_cases hlt : k < n
    · obtain ⟨b, off, rfl, hB, hcl⟩ := Hr.out.2 (by omega)
      have hkl : k < bs.length := by rw [Hlen.out]; exact hlt
      obtain ⟨d, hd⟩ : ∃ d, bs[k]? = some d := ⟨_, List.getElem?_eq_getElem hkl⟩
      have hd6 : d < 256 := Hb.out d (List.mem_of_getElem? hd)
      have hcell := hcl k hlt
      have e1 : (bv bs)[k]? = some (.int .u8 (d : Int)) := by simp [bv, hd]
      rw [e1] at hcell
      have hbd := digit_bound d P hP2
      have hz1 : (0 : Int) ≤ (d : Int) % 128 * (P : Int) := by
        have : ((d % 128 * P : Nat) : Int) = (d : Int) % 128 * (P : Int) := by simp
        omega
      have hz2 : (d : Int) % 128 * (P : Int) ≤ 4363686772736 := by
        have : ((d % 128 * P : Nat) : Int) = (d : Int) % 128 * (P : Int) := by simp
        omega
      have Hd := Lib.hid hd
      have hI2 : (k : Int) < (n : Int) := by omega
      clear hd hcl e1 hkl
      have HkN : Hid (k < n) := hlt
      by_cases h128 : 128 ≤ d
      · have d128 : ¬ (d : Int) < 128 := by omega
        by_cases h6 : k + 1 < 6
        · have hne : ((k : Int) == 5) = false := by rw [beq_eq_false_iff_ne]; omega
          go_wp2_with fail
          go_round
          case rel => exact ⟨M + d % 128 * P, k + 1, P * 128, by simp, by go_num, by go_num, HI.out.next Hlen.out Hd.out h128 h6⟩
          case measure => simp [intOf]; omega
        · have hne : ((k : Int) == 5) = true := by rw [beq_iff_eq]; omega
          have e := HI.out.look Hd.out
          rw [if_neg (by omega), if_pos (.inl h128)] at e
          obtain ⟨rfl, rfl, rfl⟩ := HFin.out 0 11 e (by omega)
          clear e
          go_wp2_with fail
          go_ret3
          exact takeRef_no (Below.refl _ _)
      · have d128 : (d : Int) < 128 := by omega
        by_cases h0 : d = 0 ∧ 1 < k + 1
        · have e := HI.out.look Hd.out
          rw [if_neg (by omega), if_pos (.inr (.inl h0))] at e
          obtain ⟨rfl, rfl, rfl⟩ := HFin.out 0 11 e (by omega)
          clear e
          obtain ⟨h0, h01⟩ := h0
          have hd0 : ((d : Int) == 0) = true := by simp; omega
          have hk0 : (0 : Int) < (k : Int) := by omega
          go_wp2_with fail
          go_ret3
          exact takeRef_no (Below.refl _ _)
        · by_cases hbig : M + d % 128 * P ≤ 1099511627776
          · have e := HI.out.look Hd.out
            rw [if_neg (by omega), if_neg (by omega)] at e
            have hNn : N = M + d % 128 * P := by rw [← HN.out, e]
            have hEn : E = 0 := by rw [← HE.out, e]
            have hRn : rest = bs.drop (k + 1) := by rw [← HRest.out, behind, e, if_pos rfl]
            have hnum : isNum ((M : Int) + (d : Int) % 128 * (P : Int)) = true := isNum_yes (by omega) (big_cast.1 hbig)
            have hNum : ((N : Nat) : Int) = (M : Int) + (d : Int) % 128 * (P : Int) := by rw [hNn]; simp
            subst hEn
            obtain ⟨A', A3, c3, W1, hA1, e2, o1, b1⟩ := refTake_end Hr.out hn hc (show k + 1 ≤ n by omega) hRn
            have B1 := Lib.hid b1
            have O1 := Lib.hid o1
            have E1 := Lib.hid e2
            have HNum := Lib.hid hNum
            clear e hNn hRn o1 e2 hNum b1
            by_cases hd0 : d = 0
            · obtain rfl : k = 0 := by rcases Nat.eq_zero_or_pos k with h | h; exact h; exact absurd ⟨hd0, by omega⟩ h0
              have hd1 : ((d : Int) == 0) = true := by simp; omega
              have e1 : ((0 + 1 : Nat) : Int) = 1 := rfl
              rw [e1] at hA1
              rw [Nat.add_zero] at hcell
              clear h0 hd0 e1
              go_wp2_with (first | (go_at_call 34; refine (fine_any _ _).mono ?_; rintro e w' ⟨rfl, rfl⟩) | (at_builtin; refine wpList_app (by rfl) _ _ _ rfl _ _ _ _ rfl rfl E1.out ?_; clear E1))
              go_ret3
              exact ⟨A3, c3, by rw [HNum.out]; rfl, O1.out, B1.out⟩
            · have hd1 : ((d : Int) == 0) = false := by simp; omega
              have e1 : ((k + 1 : Nat) : Int) = (k : Int) + 1 := by omega
              rw [e1] at hA1
              clear h0 e1
              go_wp2_with (first | (go_at_call 34; refine (fine_any _ _).mono ?_; rintro e w' ⟨rfl, rfl⟩) | (at_builtin; refine wpList_app (by rfl) _ _ _ rfl _ _ _ _ rfl rfl E1.out ?_; clear E1))
              go_ret3
              exact ⟨A3, c3, by rw [HNum.out]; rfl, O1.out, B1.out⟩
          · have e := HI.out.look Hd.out
            rw [if_neg (by omega), if_pos (.inr (.inr (by omega)))] at e
            obtain ⟨rfl, rfl, rfl⟩ := HFin.out 0 11 e (by omega)
            clear e
            have hnum : isNum ((M : Int) + (d : Int) % 128 * (P : Int)) = false := by simp only [isNum, Bool.and_eq_false_iff, decide_eq_false_iff_not]; right; exact fun h => hbig (big_cast.2 h)
            by_cases hd0 : d = 0
            · have hk1 : ¬ 1 < k + 1 := fun h => h0 ⟨hd0, h⟩
              have hd1 : ((d : Int) == 0) = true := by simp; omega
              have hk3 : ¬ (0 : Int) < (k : Int) := by omega
              have hk4 : decide ((0 : Int) < (k : Int)) = false := by simpa using hk3
              clear h0 hd0 hk1
              go_wp2_with (go_at_call 34; refine (fine_any _ _).mono ?_; rintro e w' ⟨rfl, rfl⟩)
              go_ret3
              exact takeRef_no (Below.refl _ _)
            · have hd1 : ((d : Int) == 0) = false := by simp; omega
              clear h0
              go_wp2_with (go_at_call 34; refine (fine_any _ _).mono ?_; rintro e w' ⟨rfl, rfl⟩)
              go_ret3
              exact takeRef_no (Below.refl _ _)
    · have e := HI.out.end_ Hlen.out (by omega)
      obtain ⟨rfl, rfl, rfl⟩ := HFin.out 0 10 e (by omega)
      clear e
      go_wp2_with fail
      go_ret3
      exact takeRef_no (Below.refl _ _)

end Go.Proofs.Ytocleikdabclkaa
