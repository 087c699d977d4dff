/-
  The walk of the statement PhaseKinds. Conditions: those that each theorem names.
-/
import Derived.Test.YtgjipbhhdiacmaaDoorPhWakes
namespace Go.Proofs.YtgjipbhhdiacmaaDoor
open Go.RowKit Go.Shelf

theorem legal_kinds {a b : Nat} (h : legalP a b = true) : isP a = true ∧ 1 ≤ b ∧ b < 11 ∧ ¬ a = b ∧ (goesP a = false ∨ (goesP a = true ∧ standsP b = false) ∨ (goesP a = true ∧ standsP b = true ∧ b = 4)) := by
  rcases Nat.lt_or_ge a 11 with h1 | h1
  · have hb : b ∈ nxs a := by unfold legalP at h; simpa using h
    rcases ph_cases h1 with rfl | rfl | rfl | rfl | rfl | rfl | rfl | rfl | rfl | rfl | rfl
    all_goals
      simp [nxs, nxA, nxB] at hb
    all_goals first
      | (rcases hb with rfl | rfl <;> decide)
      | (subst hb; decide)
  · simp [legalP, nxs, nxA_out h1] at h
theorem legal_is {a b : Nat} (h : isP a = false) : legalP a b = false := by
  cases h1 : legalP a b with
  | false => rfl
  | true => rw [(legal_kinds h1).1] at h; cases h
theorem kinds_one (a : Nat) : (standsP a = true ∧ goesP a = false ∧ ¬ a = 9 ∧ isP a = true) ∨ (standsP a = false ∧ goesP a = true ∧ ¬ a = 9 ∧ isP a = true) ∨ (standsP a = false ∧ goesP a = false ∧ a = 9 ∧ isP a = true) ∨ (standsP a = false ∧ goesP a = false ∧ ¬ a = 9 ∧ isP a = false) := by
  rcases Nat.lt_or_ge a 11 with h1 | h1
  · rcases ph_cases h1 with rfl | rfl | rfl | rfl | rfl | rfl | rfl | rfl | rfl | rfl | rfl <;> decide
  · rw [standsP_out h1, goesP_out h1]
    have : isP a = false := by simp [isP]; omega
    rw [this]
    simp
    omega
theorem names_no {a : Nat} (h : isP a = false) : nmP a = [] := by
  rcases Nat.lt_or_ge a 11 with h1 | h1
  · have : a = 0 := by simp [isP] at h; omega
    subst this; rfl
  · exact nmP_out h1
theorem names_inj {a b : Nat} (h : isP a = true) : ¬ nmP a = [] ∧ (nmP a = nmP b ↔ a = b) := by
  have h1 : a < 11 := by simp [isP] at h; omega
  rcases Nat.lt_or_ge b 11 with h2 | h2
  · rcases ph_cases h1 with rfl | rfl | rfl | rfl | rfl | rfl | rfl | rfl | rfl | rfl | rfl
    all_goals first
      | (exact absurd h (by decide))
      | (rcases ph_cases h2 with rfl | rfl | rfl | rfl | rfl | rfl | rfl | rfl | rfl | rfl | rfl <;> decide)
  · rw [nmP_out h2]
    rcases ph_cases h1 with rfl | rfl | rfl | rfl | rfl | rfl | rfl | rfl | rfl | rfl | rfl
    all_goals first
      | (exact absurd h (by decide))
      | (refine ⟨by decide, ⟨fun e => absurd e (by decide), fun e => by omega⟩⟩)
theorem name_list (k : Nat) (w : World) (hT : TabN w) : Calls Tryd.prog 12 #[.int .u8 (k : Int)] w fun e w' => ∃ s : ByteArray, e = .returned (.string s) ∧ s.toList = nmP k ∧ w' = w :=
  (name_any k w hT).mono (by rintro e w' ⟨rfl, rfl⟩; exact ⟨_, rfl, by rw [ByteArray.toList_eq], rfl⟩)

set_option maxRecDepth 100000 in
set_option maxHeartbeats 2000000 in
theorem phaseKinds_any (a b : Nat) (ha : a < 256) (w : World) (hT : TabN w) :
    Calls Tryd.prog 4 #[.int .u8 (a : Int), .int .u8 (b : Int)] w (TruePost w) := by
  have HT := Lib.hid hT
  clear hT
  rcases kinds_one a with ⟨h1, h2, h3, h4⟩ | ⟨h1, h2, h3, h4⟩ | ⟨h1, h2, h3, h4⟩ | ⟨h1, h2, h3, h4⟩
  · have H1 := Lib.hid h1
    have H2 := Lib.hid h2
    have H4 := Lib.hid h4
    clear h1 h2 h4
    go_enter Tryd.func4, Tryd.ntmps4
    go_wp2_with fail
    refine (stands_any a w).mono ?_
    rintro e w1 ⟨rfl, rfl⟩
    rw [H1.out]
    go_wp2_with fail
    refine (goes_any a w1).mono ?_
    rintro e w2 ⟨rfl, rfl⟩
    rw [H2.out]
    have hlo : (1 : Int) ≤ (a : Int) := by have h := H4.out; simp [isP] at h; omega
    have hhi : (a : Int) < 11 := by have h := H4.out; simp [isP] at h; omega
    go_wp2_with fail
    refine (name_list a w2 HT.out).mono ?_
    rintro e w3 ⟨sA, rfl, hA, rfl⟩
    have nA : sA.toList.isEmpty = false := by rw [hA]; have h := (names_inj (b := b) H4.out).1; simpa using h
    clear hA
    go_wp2_with fail
    refine (name_list a w3 HT.out).mono ?_
    rintro e w4 ⟨sC, rfl, hC, rfl⟩
    go_wp2_with fail
    refine (name_list b w4 HT.out).mono ?_
    rintro e w5 ⟨sB, rfl, hB, rfl⟩
    by_cases hab : a = b
    · have hS : sC.toList = sB.toList := by rw [hC, hB, hab]
      clear hC hB
      subst hab
      go_wp2_with fail
      refine (legal_any a a ha w5).mono ?_
      rintro e w6 ⟨rfl, hb6⟩
      have HB := Lib.hid hb6
      clear hb6
      have hL : legalP a a = false := by
        cases h1 : legalP a a with
        | false => rfl
        | true => exact absurd rfl (legal_kinds h1).2.2.2.1
      rw [hL]
      go_wp2_with fail
      refine (wakes_any w6 (HT.out.under HB.out)).mono ?_
      rintro e w7 ⟨rfl, hb7⟩
      have HB7 := Lib.hid (HB.out.trans (hb7.mono HB.out.size))
      clear hb7
      go_wp2_with fail
      go_ret
      exact ⟨rfl, HB7.out⟩
    · have hS : (sC.toList == sB.toList) = false := by rw [hC, hB]; exact beq_eq_false_iff_ne.2 (fun e => hab ((names_inj H4.out).2.1 e))
      have hAB : ((a : Int) == (b : Int)) = false := by rw [beq_eq_false_iff_ne]; omega
      clear hC hB
      go_wp2_with fail
      refine (legal_any a b ha w5).mono ?_
      rintro e w6 ⟨rfl, hb6⟩
      have HB := Lib.hid hb6
      clear hb6
      cases hL : legalP a b with
      | false =>
        go_wp2_with fail
        refine (wakes_any w6 (HT.out.under HB.out)).mono ?_
        rintro e w7 ⟨rfl, hb7⟩
        have HB7 := Lib.hid (HB.out.trans (hb7.mono HB.out.size))
        clear hb7
        go_wp2_with fail
        go_ret
        exact ⟨rfl, HB7.out⟩
      | true =>
        obtain ⟨_, p1, p2, p3, p4⟩ := legal_kinds hL
        have q1 : (1 : Int) ≤ (b : Int) := by omega
        have q2 : (b : Int) < 11 := by omega
        clear hL p1 p2
        clear p4
        go_wp2_with fail
        refine (goes_any a w6).mono ?_
        rintro e w6_ ⟨rfl, hw⟩
        subst hw
        rw [H2.out]
        go_wp2_with fail
        refine (wakes_any w6_ (HT.out.under HB.out)).mono ?_
        rintro e w7 ⟨rfl, hb7⟩
        have HB7 := Lib.hid (HB.out.trans (hb7.mono HB.out.size))
        clear hb7
        go_wp2_with fail
        go_ret
        exact ⟨rfl, HB7.out⟩
  · have H1 := Lib.hid h1
    have H2 := Lib.hid h2
    have H4 := Lib.hid h4
    clear h1 h2 h4
    go_enter Tryd.func4, Tryd.ntmps4
    go_wp2_with fail
    refine (stands_any a w).mono ?_
    rintro e w1 ⟨rfl, rfl⟩
    rw [H1.out]
    go_wp2_with fail
    refine (goes_any a w1).mono ?_
    rintro e w2 ⟨rfl, rfl⟩
    rw [H2.out]
    have hlo : (1 : Int) ≤ (a : Int) := by have h := H4.out; simp [isP] at h; omega
    have hhi : (a : Int) < 11 := by have h := H4.out; simp [isP] at h; omega
    go_wp2_with fail
    refine (name_list a w2 HT.out).mono ?_
    rintro e w3 ⟨sA, rfl, hA, rfl⟩
    have nA : sA.toList.isEmpty = false := by rw [hA]; have h := (names_inj (b := b) H4.out).1; simpa using h
    clear hA
    go_wp2_with fail
    refine (name_list a w3 HT.out).mono ?_
    rintro e w4 ⟨sC, rfl, hC, rfl⟩
    go_wp2_with fail
    refine (name_list b w4 HT.out).mono ?_
    rintro e w5 ⟨sB, rfl, hB, rfl⟩
    by_cases hab : a = b
    · have hS : sC.toList = sB.toList := by rw [hC, hB, hab]
      clear hC hB
      subst hab
      go_wp2_with fail
      refine (legal_any a a ha w5).mono ?_
      rintro e w6 ⟨rfl, hb6⟩
      have HB := Lib.hid hb6
      clear hb6
      have hL : legalP a a = false := by
        cases h1 : legalP a a with
        | false => rfl
        | true => exact absurd rfl (legal_kinds h1).2.2.2.1
      rw [hL]
      go_wp2_with fail
      refine (wakes_any w6 (HT.out.under HB.out)).mono ?_
      rintro e w7 ⟨rfl, hb7⟩
      have HB7 := Lib.hid (HB.out.trans (hb7.mono HB.out.size))
      clear hb7
      go_wp2_with fail
      go_ret
      exact ⟨rfl, HB7.out⟩
    · have hS : (sC.toList == sB.toList) = false := by rw [hC, hB]; exact beq_eq_false_iff_ne.2 (fun e => hab ((names_inj H4.out).2.1 e))
      have hAB : ((a : Int) == (b : Int)) = false := by rw [beq_eq_false_iff_ne]; omega
      clear hC hB
      go_wp2_with fail
      refine (legal_any a b ha w5).mono ?_
      rintro e w6 ⟨rfl, hb6⟩
      have HB := Lib.hid hb6
      clear hb6
      cases hL : legalP a b with
      | false =>
        go_wp2_with fail
        refine (wakes_any w6 (HT.out.under HB.out)).mono ?_
        rintro e w7 ⟨rfl, hb7⟩
        have HB7 := Lib.hid (HB.out.trans (hb7.mono HB.out.size))
        clear hb7
        go_wp2_with fail
        go_ret
        exact ⟨rfl, HB7.out⟩
      | true =>
        obtain ⟨_, p1, p2, p3, p4⟩ := legal_kinds hL
        have q1 : (1 : Int) ≤ (b : Int) := by omega
        have q2 : (b : Int) < 11 := by omega
        clear hL p1 p2
        rcases p4 with p4 | ⟨_, p4⟩ | ⟨_, p4, p5⟩
        · rw [H2.out] at p4; cases p4
        · have H5 := Lib.hid p4
          clear p4
          go_wp2_with fail
          refine (goes_any a w6).mono ?_
          rintro e w6_ ⟨rfl, hw⟩
          subst hw
          rw [H2.out]
          go_wp2_with fail
          refine (stands_any b w6_).mono ?_
          rintro e w6 ⟨rfl, hw⟩
          subst hw
          rw [H5.out]
          go_wp2_with fail
          refine (wakes_any w6 (HT.out.under HB.out)).mono ?_
          rintro e w7 ⟨rfl, hb7⟩
          have HB7 := Lib.hid (HB.out.trans (hb7.mono HB.out.size))
          clear hb7
          go_wp2_with fail
          go_ret
          exact ⟨rfl, HB7.out⟩
        · have H5 := Lib.hid p4
          clear p4
          subst p5
          go_wp2_with fail
          refine (goes_any a w6).mono ?_
          rintro e w6_ ⟨rfl, hw⟩
          subst hw
          rw [H2.out]
          go_wp2_with fail
          refine (stands_any 4 w6_).mono ?_
          rintro e w6 ⟨rfl, hw⟩
          subst hw
          rw [H5.out]
          go_wp2_with fail
          refine (wakes_any w6 (HT.out.under HB.out)).mono ?_
          rintro e w7 ⟨rfl, hb7⟩
          have HB7 := Lib.hid (HB.out.trans (hb7.mono HB.out.size))
          clear hb7
          go_wp2_with fail
          go_ret
          exact ⟨rfl, HB7.out⟩
  · subst h3
    have H1 := Lib.hid h1
    have H2 := Lib.hid h2
    have H4 := Lib.hid h4
    clear h1 h2 h4
    go_enter Tryd.func4, Tryd.ntmps4
    go_wp2_with fail
    refine (stands_any 9 w).mono ?_
    rintro e w1 ⟨rfl, rfl⟩
    rw [H1.out]
    go_wp2_with fail
    refine (goes_any 9 w1).mono ?_
    rintro e w2 ⟨rfl, rfl⟩
    rw [H2.out]
    go_wp2_with fail
    refine (name_list 9 w2 HT.out).mono ?_
    rintro e w3 ⟨sA, rfl, hA, rfl⟩
    have nA : sA.toList.isEmpty = false := by rw [hA]; have h := (names_inj (b := b) H4.out).1; simpa using h
    clear hA
    go_wp2_with fail
    refine (name_list 9 w3 HT.out).mono ?_
    rintro e w4 ⟨sC, rfl, hC, rfl⟩
    go_wp2_with fail
    refine (name_list b w4 HT.out).mono ?_
    rintro e w5 ⟨sB, rfl, hB, rfl⟩
    by_cases hab : 9 = b
    · have hS : sC.toList = sB.toList := by rw [hC, hB, hab]
      clear hC hB
      subst hab
      go_wp2_with fail
      refine (legal_any 9 9 ha w5).mono ?_
      rintro e w6 ⟨rfl, hb6⟩
      have HB := Lib.hid hb6
      clear hb6
      have hL : legalP 9 9 = false := by
        cases h1 : legalP 9 9 with
        | false => rfl
        | true => exact absurd rfl (legal_kinds h1).2.2.2.1
      rw [hL]
      go_wp2_with fail
      refine (wakes_any w6 (HT.out.under HB.out)).mono ?_
      rintro e w7 ⟨rfl, hb7⟩
      have HB7 := Lib.hid (HB.out.trans (hb7.mono HB.out.size))
      clear hb7
      go_wp2_with fail
      go_ret
      exact ⟨rfl, HB7.out⟩
    · have hS : (sC.toList == sB.toList) = false := by rw [hC, hB]; exact beq_eq_false_iff_ne.2 (fun e => hab ((names_inj H4.out).2.1 e))
      have hAB : (9 == (b : Int)) = false := by rw [beq_eq_false_iff_ne]; omega
      clear hC hB
      go_wp2_with fail
      refine (legal_any 9 b ha w5).mono ?_
      rintro e w6 ⟨rfl, hb6⟩
      have HB := Lib.hid hb6
      clear hb6
      cases hL : legalP 9 b with
      | false =>
        go_wp2_with fail
        refine (wakes_any w6 (HT.out.under HB.out)).mono ?_
        rintro e w7 ⟨rfl, hb7⟩
        have HB7 := Lib.hid (HB.out.trans (hb7.mono HB.out.size))
        clear hb7
        go_wp2_with fail
        go_ret
        exact ⟨rfl, HB7.out⟩
      | true =>
        obtain ⟨_, p1, p2, p3, p4⟩ := legal_kinds hL
        have q1 : (1 : Int) ≤ (b : Int) := by omega
        have q2 : (b : Int) < 11 := by omega
        clear hL p1 p2
        clear p4
        go_wp2_with fail
        refine (goes_any 9 w6).mono ?_
        rintro e w6_ ⟨rfl, hw⟩
        subst hw
        rw [H2.out]
        go_wp2_with fail
        refine (wakes_any w6_ (HT.out.under HB.out)).mono ?_
        rintro e w7 ⟨rfl, hb7⟩
        have HB7 := Lib.hid (HB.out.trans (hb7.mono HB.out.size))
        clear hb7
        go_wp2_with fail
        go_ret
        exact ⟨rfl, HB7.out⟩
  · have H3 := Lib.hid (names_no h4)
    have HLg := Lib.hid (legal_is (b := b) h4)
    have hd : a = 0 ∨ ¬ a < 11 := by simp [isP] at h4; omega
    have H1 := Lib.hid h1
    have H2 := Lib.hid h2
    clear h1 h2 h4
    rcases hd with rfl | hd
    · go_enter Tryd.func4, Tryd.ntmps4
      go_wp2_with fail
      refine (stands_any 0 w).mono ?_
      rintro e w1 ⟨rfl, rfl⟩
      rw [H1.out]
      go_wp2_with fail
      refine (goes_any 0 w1).mono ?_
      rintro e w2 ⟨rfl, rfl⟩
      rw [H2.out]
      go_wp2_with fail
      refine (name_list 0 w2 HT.out).mono ?_
      rintro e w3 ⟨sA, rfl, hA, rfl⟩
      have nA : sA.toList.isEmpty = true := by rw [hA, H3.out]; rfl
      clear hA
      go_wp2_with fail
      refine (legal_any 0 b ha w3).mono ?_
      rintro e w6 ⟨rfl, hb6⟩
      have HB := Lib.hid hb6
      clear hb6
      rw [HLg.out]
      go_wp2_with fail
      refine (wakes_any w6 (HT.out.under HB.out)).mono ?_
      rintro e w7 ⟨rfl, hb7⟩
      have HB7 := Lib.hid (HB.out.trans (hb7.mono HB.out.size))
      clear hb7
      go_wp2_with fail
      go_ret
      exact ⟨rfl, HB7.out⟩
    · have hhi : (11 : Int) ≤ (a : Int) := by omega
      have hlo : (1 : Int) ≤ (a : Int) := by omega
      clear hd
      go_enter Tryd.func4, Tryd.ntmps4
      go_wp2_with fail
      refine (stands_any a w).mono ?_
      rintro e w1 ⟨rfl, rfl⟩
      rw [H1.out]
      go_wp2_with fail
      refine (goes_any a w1).mono ?_
      rintro e w2 ⟨rfl, rfl⟩
      rw [H2.out]
      go_wp2_with fail
      refine (name_list a w2 HT.out).mono ?_
      rintro e w3 ⟨sA, rfl, hA, rfl⟩
      have nA : sA.toList.isEmpty = true := by rw [hA, H3.out]; rfl
      clear hA
      go_wp2_with fail
      refine (legal_any a b ha w3).mono ?_
      rintro e w6 ⟨rfl, hb6⟩
      have HB := Lib.hid hb6
      clear hb6
      rw [HLg.out]
      go_wp2_with fail
      refine (wakes_any w6 (HT.out.under HB.out)).mono ?_
      rintro e w7 ⟨rfl, hb7⟩
      have HB7 := Lib.hid (HB.out.trans (hb7.mono HB.out.size))
      clear hb7
      go_wp2_with fail
      go_ret
      exact ⟨rfl, HB7.out⟩

end Go.Proofs.YtgjipbhhdiacmaaDoor
