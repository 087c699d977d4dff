/-
  The walk of the statement PhasePath. Conditions: those that each theorem names.
-/
import Derived.Test.YtgjipbhhdiacmaaDoorPhWakes
namespace Go.Proofs.YtgjipbhhdiacmaaDoor
open Go.RowKit Go.Shelf

def ptP (k j : Nat) : Nat := (pathP k).getD j 0
theorem isP_cases {k : Nat} (h : isP k = true) : k = 1 ∨ k = 2 ∨ k = 3 ∨ k = 4 ∨ k = 5 ∨ k = 6 ∨ k = 7 ∨ k = 8 ∨ k = 9 ∨ k = 10 := by simp [isP] at h; omega
theorem path_first {k : Nat} (h : isP k = true) : 1 ≤ (pathP k).length ∧ ptP k 0 = k ∧ ptP k ((pathP k).length - 1) = 8 := by
  rcases isP_cases h with rfl | rfl | rfl | rfl | rfl | rfl | rfl | rfl | rfl | rfl <;> decide
theorem path_lt {k j : Nat} (h : isP k = true) (hj : j < (pathP k).length) : ptP k j < 256 := by
  have : ∀ j, j < 10 → ptP k j < 256 := by
    rcases isP_cases h with rfl | rfl | rfl | rfl | rfl | rfl | rfl | rfl | rfl | rfl <;> decide
  have h2 := pathP_len k
  exact this j (by omega)
theorem path_step {k p : Nat} (h : isP k = true) (hp : p + 1 < (pathP k).length) : legalP (ptP k p) (ptP k (p + 1)) = true := by
  have : ∀ p, p < 10 → p + 1 < (pathP k).length → legalP (ptP k p) (ptP k (p + 1)) = true := by
    rcases isP_cases h with rfl | rfl | rfl | rfl | rfl | rfl | rfl | rfl | rfl | rfl <;> decide
  have h2 := pathP_len k
  exact this p (by omega) hp
theorem path_apart {k m i : Nat} (h : isP k = true) (hm : m < i) (hi : i < (pathP k).length) : ¬ ptP k m = ptP k i := by
  have : ∀ i, i < 10 → ∀ m, m < i → i < (pathP k).length → ¬ ptP k m = ptP k i := by
    rcases isP_cases h with rfl | rfl | rfl | rfl | rfl | rfl | rfl | rfl | rfl | rfl <;> decide
  have h2 := pathP_len k
  exact this i (by omega) m hm hi
theorem path_cell {k : Nat} {W : World} {B : Nat} {A : Option Addr} (h1 : 1 ≤ (pathP k).length) (h : Rd W B A (pathP k).length (bv (pathP k))) : ∃ b o, A = some ⟨b, o, none⟩ ∧ b < B ∧ ∀ j, j < (pathP k).length → W.cell? ⟨b, o + j, none⟩ = some (.int .u8 (ptP k j : Int)) := by
  obtain ⟨b, o, rfl, hb, hc⟩ := h.2 h1
  refine ⟨b, o, rfl, hb, fun j hj => ?_⟩
  rw [hc j hj, bv, List.getElem?_map, List.getElem?_eq_getElem hj]
  simp [ptP, List.getD, List.getElem?_eq_getElem hj]

theorem wrapP {p : Nat} (h : p ≤ 1000) : IntKind.i64.wrap (p : Int) = (p : Int) := by
  simp only [IntKind.wrap, IntKind.bits, IntKind.signed]
  simp
  split <;> omega

set_option maxRecDepth 100000 in
set_option maxHeartbeats 4000000 in
theorem phasePath_any (k : Nat) (hk : k < 256) (w : World) (hT : TabN w) : Calls Tryd.prog 5 #[.int .u8 (k : Int)] w (TruePost w) := by
  have HT := Lib.hid hT
  clear hT
  cases hi : isP k with
  | false =>
    have hP := pathP_no hi
    have hd : k = 0 ∨ (1 ≤ k ∧ ¬ k < 11) := by simp [isP] at hi; omega
    go_enter Tryd.func5, Tryd.ntmps5
    go_wp2_with fail
    refine (path_any k hk w).mono ?_
    rintro e w1 ⟨A, c, rfl, hr, hb⟩
    rw [hP]
    have HB := Lib.hid hb
    clear hr hb hP hi
    rcases hd with rfl | ⟨h1, h2⟩
    · go_wp2_with fail
      refine (wakes_any w1 (HT.out.under HB.out)).mono ?_
      rintro e w7 ⟨rfl, hb7⟩
      have HB7 := Lib.hid (HB.out.trans (hb7.mono HB.out.size))
      clear hb7
      go_wp2_with fail
      go_ret
      exact ⟨rfl, HB7.out⟩
    · go_wp2_with fail
      refine (wakes_any w1 (HT.out.under HB.out)).mono ?_
      rintro e w7 ⟨rfl, hb7⟩
      have HB7 := Lib.hid (HB.out.trans (hb7.mono HB.out.size))
      clear hb7
      go_wp2_with fail
      go_ret
      exact ⟨rfl, HB7.out⟩
  | true =>
    have h1 : 1 ≤ k := by simp [isP] at hi; omega
    have h2 : k < 11 := by simp [isP] at hi; omega
    have HI := Lib.hid hi
    clear hi
    go_enter Tryd.func5, Tryd.ntmps5
    go_wp2_with fail
    refine (path_any k hk w).mono ?_
    rintro e w1 ⟨A, c, rfl, hr, hb⟩
    obtain ⟨b, o, rfl, hlt, hc⟩ := path_cell (path_first HI.out).1 hr
    have HB := Lib.hid hb
    have HC := Lib.hid hc
    have HL := Lib.hid hlt
    have c0 : w1.cell? ⟨b, o, none⟩ = some (.int .u8 (k : Int)) := by have h := hc 0 (path_first HI.out).1; rwa [(path_first HI.out).2.1] at h
    have c9 : w1.cell? ⟨b, o + ((pathP k).length - 1), none⟩ = some (.int .u8 8) := by have h := hc ((pathP k).length - 1) (by have := (path_first HI.out).1; omega); rwa [(path_first HI.out).2.2] at h
    obtain ⟨n, hn⟩ : ∃ n, (pathP k).length = n + 1 := ⟨(pathP k).length - 1, by have := (path_first HI.out).1; omega⟩
    have hn2 : n ≤ 9 := by have := pathP_len k; omega
    rw [hn] at c9 HC ⊢
    have HN := Lib.hid hn
    clear hr hb hc hlt hn
    rw [Nat.add_sub_cancel] at c9
    go_upto_region 4 with fail
    go_wp2_with fail
    have hz : ((n : Int) + 1 == 0) = false := by rw [beq_eq_false_iff_ne]; omega
    simp only [hz]
    clear c0 c9
    go_loopw [4] (fun i wr => ∃ p : Nat, i = .int .i64 ((p : Int) + 1) ∧ p ≤ n ∧ Below w1.heap.size w1 wr) (fun i _ => n + 1 - (intOf i).toNat)
    case atStart => exact ⟨0, rfl, Nat.zero_le _, Below.refl _ _⟩
    case round =>
      obtain ⟨p, rfl, hp, hbp⟩ := hrel
      have HBp := Lib.hid hbp
      clear hbp
      by_cases hlt : p < n
      · have hI : (p : Int) < (n : Int) := by omega
        have Hsub := Lib.hid (show IntKind.i64.wrap (p : Int) = (p : Int) from wrapP (by omega))
        have HLC := Lib.hid (show ∀ V, Below w1.heap.size w1 V → V.cell? ⟨b, o + p, none⟩ = some (.int .u8 (ptP k p : Int)) ∧ V.cell? ⟨b, o + (p + 1), none⟩ = some (.int .u8 (ptP k (p + 1) : Int)) from fun V hV => ⟨(hV.cell (p := ⟨b, o + p, none⟩) HL.out).trans (HC.out p (by omega)), (hV.cell (p := ⟨b, o + (p + 1), none⟩) HL.out).trans (HC.out (p + 1) (by omega))⟩)
        go_upto_region 9 with fail
        refine wp_region_T (ls := []) (T := (fun V => Below w1.heap.size w1 V)) (by kernel_rfl) ?_
        obtain ⟨U, hU⟩ : ∃ U, wr.drew = U := ⟨_, rfl⟩
        have HT0 : Hid ((fun V => Below w1.heap.size w1 V) U) := Lib.hid (by rw [← hU]; exact below_drewB HBp.out 1)
        rw [hU]
        clear hU
        refine takeP (i := 0) (v := ?_) rfl (by kernel_rfl) (by kernel_rfl) (by kernel_rfl) (by kernel_rfl) (fun _ _ _ h => h) (by rfl) ?_ (fun _ => HT0.out) ?_
        rotate_left
        · intro V'; go_simp <;> with_reducible rfl
        simp only [Act.put, List.setIfInBounds_toArray, List.set_cons_zero, List.set_cons_succ]
        refine takeP (i := 1) (v := ?_) rfl (by kernel_rfl) (by kernel_rfl) (by kernel_rfl) (by kernel_rfl) (fun _ _ _ h => h) (by rfl) ?_ (fun _ => HT0.out) ?_
        rotate_left
        · intro V'; go_simp <;> with_reducible rfl
        simp only [Act.put, List.setIfInBounds_toArray, List.set_cons_zero, List.set_cons_succ]
        refine takeP (i := 2) (v := .int .i64 (p : Int)) rfl (by kernel_rfl) (by kernel_rfl) (by kernel_rfl) (by kernel_rfl) (fun _ _ _ h => h) (by rfl) ?_ (fun _ => HT0.out) ?_
        · intro V'; have h9 := Hsub.out; go_simp <;> with_reducible rfl
        simp only [Act.put, List.setIfInBounds_toArray, List.set_cons_zero, List.set_cons_succ]
        refine takeP (i := 3) (v := ?_) rfl (by kernel_rfl) (by kernel_rfl) (by kernel_rfl) (by kernel_rfl) (fun _ _ _ h => h) (by rfl) ?_ (fun _ => HT0.out) ?_
        rotate_left
        · intro V'; have h9 : (p : Int) < (n : Int) + 1 := by omega
          go_simp <;> with_reducible rfl
        simp only [Act.put, List.setIfInBounds_toArray, List.set_cons_zero, List.set_cons_succ]
        refine takeT (i := 4) (v := ?_) rfl (by kernel_rfl) (by kernel_rfl) (by kernel_rfl) (by kernel_rfl) (fun _ _ _ h => h) (by rfl) ?_ HT0.out ?_
        rotate_left
        · intro V' hV; obtain ⟨y0, y1⟩ := HLC.out V' hV; go_simp <;> with_reducible rfl
        simp only [Act.put, List.setIfInBounds_toArray, List.set_cons_zero, List.set_cons_succ]
        refine takeP (i := 5) (v := ?_) rfl (by kernel_rfl) (by kernel_rfl) (by kernel_rfl) (by kernel_rfl) (fun _ _ _ h => h) (by rfl) ?_ (fun _ => HT0.out) ?_
        rotate_left
        · intro V'; go_simp <;> with_reducible rfl
        simp only [Act.put, List.setIfInBounds_toArray, List.set_cons_zero, List.set_cons_succ]
        refine takeP (i := 6) (v := ?_) rfl (by kernel_rfl) (by kernel_rfl) (by kernel_rfl) (by kernel_rfl) (fun _ _ _ h => h) (by rfl) ?_ (fun _ => HT0.out) ?_
        rotate_left
        · intro V'; go_simp <;> with_reducible rfl
        simp only [Act.put, List.setIfInBounds_toArray, List.set_cons_zero, List.set_cons_succ]
        refine takeP (i := 7) (v := ?_) rfl (by kernel_rfl) (by kernel_rfl) (by kernel_rfl) (by kernel_rfl) (fun _ _ _ h => h) (by rfl) ?_ (fun _ => HT0.out) ?_
        rotate_left
        · intro V'; have h9 : (0 : Int) ≤ (p : Int) + 1 := by omega
          go_simp <;> with_reducible rfl
        simp only [Act.put, List.setIfInBounds_toArray, List.set_cons_zero, List.set_cons_succ]
        refine takeT (i := 8) (v := ?_) rfl (by kernel_rfl) (by kernel_rfl) (by kernel_rfl) (by kernel_rfl) (fun _ _ _ h => h) (by rfl) ?_ HT0.out ?_
        rotate_left
        · intro V' hV; obtain ⟨y0, y1⟩ := HLC.out V' hV; go_simp <;> with_reducible rfl
        simp only [Act.put, List.setIfInBounds_toArray, List.set_cons_zero, List.set_cons_succ]
        refine oneT (i := 9) rfl (by kernel_rfl) (by rfl) (fun K hK => ?_)
        go_simp
        refine (legal_any (ptP k p) (ptP k (p + 1)) (path_lt HI.out (by rw [HN.out]; omega)) U).mono ?_
        rintro e W2 ⟨rfl, hb2⟩
        rw [path_step HI.out (by rw [HN.out]; omega)]
        have HB2 := Lib.hid (HT0.out.trans (hb2.mono HT0.out.size))
        clear hb2
        refine hK.out _ _ (fun _ => HB2.out) ?_
        clear hK K
        refine oneT (i := 10) rfl (by kernel_rfl) (by rfl) (fun K hK => ?_)
        go_simp
        refine hK.out _ _ (fun _ => HB2.out) ?_
        clear hK K
        refine doneT (by kernel_rfl) ?_ _
        have HC2 := Lib.hid (show ∀ m, m < n + 1 → W2.cell? ⟨b, o + m, none⟩ = some (.int .u8 (ptP k m : Int)) from fun m hm => (HB2.out.cell (p := ⟨b, o + m, none⟩) HL.out).trans (HC.out m hm))
        clear HT0 HLC Hsub
        go_wp2_with fail
        go_loopw [5] (fun i wr => ∃ m : Nat, i = .int .i64 (m : Int) ∧ m ≤ p + 1 ∧ ∃ q, wr = W2.drewN q) (fun i _ => p + 1 - (intOf i).toNat)
        case atStart => exact ⟨0, rfl, Nat.zero_le _, 0, rfl⟩
        case round =>
          obtain ⟨m, rfl, hm, q, rfl⟩ := hrel
          by_cases hmp : m < p + 1
          · have hI2 : (m : Int) < (p : Int) + 1 := by omega
            have y0 := HC2.out m (by omega)
            have y1 := HC2.out (p + 1) (by omega)
            have hne : ((ptP k m : Int) == (ptP k (p + 1) : Int)) = false := by
              rw [beq_eq_false_iff_ne]
              have := path_apart HI.out hmp (by rw [HN.out]; omega)
              omega
            obtain ⟨x, hx⟩ : ∃ x : Int, (ptP k m : Int) = x := ⟨_, rfl⟩
            obtain ⟨y, hy⟩ : ∃ y : Int, (ptP k (p + 1) : Int) = y := ⟨_, rfl⟩
            rw [hx] at y0 hne
            rw [hy] at y1 hne
            clear hx hy
            have h9 : (m : Int) < (n : Int) + 1 := by omega
            have h8 : (p : Int) + 1 < (n : Int) + 1 := by omega
            go_wp2_with fail
            go_quiet (fail)
            go_wp2_with fail
            exact ⟨⟨m + 1, by go_num, by omega, _, rfl⟩, by simp [intOf]; omega⟩
          · go_wp2_with fail
            go_roundw
            case rel => exact ⟨p + 1, by go_num, by omega, below_drewB HB2.out _⟩
            case measure => simp [intOf]; omega
      · have hpe : p = n := by omega
        subst hpe
        go_wp2_with fail
        refine (wakes_any wr (HT.out.under (HB.out.trans (HBp.out.mono HB.out.size)))).mono ?_
        rintro e w7 ⟨rfl, hb7⟩
        have HB7 := Lib.hid ((HB.out.trans (HBp.out.mono HB.out.size)).trans (hb7.mono (Nat.le_trans HB.out.size HBp.out.size)))
        clear hb7
        go_wp2_with fail
        go_ret
        exact ⟨rfl, HB7.out⟩

end Go.Proofs.YtgjipbhhdiacmaaDoor
