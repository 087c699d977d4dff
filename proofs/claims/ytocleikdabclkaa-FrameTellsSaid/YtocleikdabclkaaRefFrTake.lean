/-
  The walk of the document's own 'Take' of a frame. Conditions: those that each theorem names.
-/
import Derived.Test.YtocleikdabclkaaRefFrPut
import Derived.Test.YtocleikdabclkaaFrTake
import Derived.Test.YtocleikdabclkaaRefFrReg
namespace Go.Proofs.Ytocleikdabclkaa
open Go.RowKit Go.Shelf

/-- What Take of a number answers of bytes that begin with one, or do not. -/
theorem refTakeNum {A : Option Addr} {n c : Nat} {bs : List Nat} {B : Nat} {w : World} (hr : Rd w B A n (bv bs)) (hB : B ≤ w.heap.size) (hb : ∀ x ∈ bs, x < 256) (hn : n ≤ 1000000) (hc : n ≤ c) {N K E : Nat} (hF : first bs = (N, K, E)) :
    Calls Try.prog 27 #[.slice A n c] w (TakeRef N (behind bs) E w) :=
  refTake_is A n c bs B w hr hB hb hn hc (by rw [hF]) (by rw [hF]) rfl

theorem first_num {bs : List Nat} {N K E : Nat} (h : first bs = (N, K, E)) : N ≤ 1099511627776 := by
  rcases scan_cases bs 0 0 with hc | hc | ⟨N', K', hc, h1, _, h2⟩
  all_goals
    unfold first at h
    rw [hc] at h
    simp only [Prod.mk.injEq] at h
    omega

section
variable (A : Option Addr) (n c : Nat) (bs : List Nat) (B : Nat) (w : World) (hr : Rd w B A n (bv bs)) (hB : B ≤ w.heap.size) (hb : ∀ x ∈ bs, x < 256) (hn : n ≤ 1000000) (hc : n ≤ c)
include hr hB hb hn hc

set_option maxRecDepth 100000 in
set_option maxHeartbeats 1000000 in
theorem refFrTake_err {N K E : Nat} (hF : first bs = (N, K, E)) (h : E ≠ 0 ∨ 4000 < N ∨ (behind bs).length < N + 4) :
    Calls Try.prog 12 #[.slice A n c] w (TakeNo w) := by
  have HT := Lib.hid (refTakeNum hr hB hb hn hc hF)
  have hN := first_num hF
  unfold TakeRef at HT
  obtain ⟨R, hR⟩ : ∃ R, (behind bs).length = R := ⟨_, rfl⟩
  rw [hR] at HT h
  have hRn : R ≤ 1000000 := by
    rw [← hR, behind]
    have hl : bs.length = n := by have := hr.1; rwa [bv_length] at this
    split
    · rw [List.length_drop]; omega
    · simp
  clear hr hB hb hF hR
  by_cases hE : E = 0
  · subst hE
    by_cases h4 : (4000 : Int) < (N : Int)
    · go_enter Try.func12, Try.ntmps12
      go_wp2_with fail
      refine (HT.out).mono ?_
      rintro e w1 ⟨A1, c1, rfl, _, b1⟩
      go_wp2_with fail
      go_ret3
      exact ⟨rfl, b1⟩
    · have h5 : (R : Int) < (N : Int) + 4 := by omega
      go_enter Try.func12, Try.ntmps12
      go_wp2_with fail
      refine (HT.out).mono ?_
      rintro e w1 ⟨A1, c1, rfl, _, b1⟩
      go_wp2_with fail
      go_ret3
      exact ⟨rfl, b1⟩
  · have hEb : ((E : Int) != 0) = true := by simp; exact hE
    go_enter Try.func12, Try.ntmps12
    go_wp2_with fail
    refine (HT.out).mono ?_
    rintro e w1 ⟨A1, c1, rfl, _, b1⟩
    go_wp2_with fail
    go_ret3
    exact ⟨rfl, b1⟩

set_option maxRecDepth 100000 in
set_option maxHeartbeats 1000000 in
theorem refFrTake_main {N K : Nat} (hF : first bs = (N, K, 0)) (h4 : N ≤ 4000) (hlen : N + 4 ≤ (behind bs).length) :
    Calls Try.prog 12 #[.slice A n c] w (fun e w' => (IsFr bs ((bs.drop K).take N) ∧ TakeYes ((bs.drop K).take N) (bs.drop (frLen N)) w e w') ∨ ((∀ p, ¬ IsFr bs p) ∧ TakeNo w e w')) := by
  have HT := Lib.hid (refTakeNum hr hB hb hn hc hF)
  unfold TakeRef at HT
  have hbe : behind bs = bs.drop K := by rw [behind, hF, if_pos rfl]
  have hl : bs.length = n := by have := hr.1; rwa [bv_length] at this
  rw [hbe] at HT hlen
  obtain ⟨R, hR⟩ : ∃ R, (bs.drop K).length = R := ⟨_, rfl⟩
  rw [hR] at HT hlen
  have hK := first_ok hb (show (first bs).2.2 = 0 by rw [hF])
  rw [hF] at hK
  simp only at hK
  obtain ⟨hK1, hK2, _⟩ := hK
  have hP2 := put_two h4
  have hKn : K ≤ n := by rw [List.length_drop] at hR; omega
  have hRn : R = n - K := by rw [← hR, List.length_drop, hl]
  obtain ⟨p, hp⟩ : ∃ p, (bs.drop K).take N = p := ⟨_, rfl⟩
  have hpl : p.length = N := by rw [← hp, List.length_take, hR]; omega
  obtain ⟨F, hFr⟩ : ∃ F, frLen N = F := ⟨_, rfl⟩
  have hF0 : F = K + N + 4 := by rw [← hFr, hK2]; rfl
  rw [hp, hFr]
  have HYes : Hid (fr p = bs.take F → IsFr bs p) := fun e => ⟨by rw [hpl]; exact h4, by rw [e]; exact List.take_prefix _ _⟩
  have HNot : Hid (fr p ≠ bs.take F → ∀ q, ¬ IsFr bs q) := fun e q hq => by
    have h1 := isFr_first_all hq
    rw [hF] at h1
    simp only [Prod.mk.injEq] at h1
    obtain ⟨h2, _, _⟩ := hq.lies
    rw [← h1.1, ← hK2, hp] at h2
    subst h2
    refine e ?_
    obtain ⟨r, hr'⟩ := hq.2
    rw [← hr', ← hFr, ← hpl, ← fr_length, List.take_left]
  have i0 : ¬ (4000 : Int) < (N : Int) := by omega
  have i1 : ¬ (R : Int) < (N : Int) + 4 := by omega
  have i2 : (n : Int) - (R : Int) + (N : Int) + 4 = (F : Int) := by omega
  have i3 : (F : Int) ≤ (n : Int) := by omega
  have HR := Lib.hid (hr.more hB)
  have HBy := Lib.hid hb
  have HPB : Hid (∀ x ∈ p, x < 256) := fun x hx => HBy.out x (List.mem_of_mem_drop (List.mem_of_mem_take (hp ▸ hx)))
  have HPL := Lib.hid hpl
  have HL := Lib.hid hl
  have HFr := Lib.hid hFr
  have HP := Lib.hid hp
  have HRl := Lib.hid hR
  have HRn := Lib.hid hRn
  have HF0 := Lib.hid hF0
  have hRle : (R : Int) ≤ (n : Int) := by omega
  have HK2 := Lib.hid hK2
  clear hr hb hB hbe hK1 hF hR hp hpl hFr hl hF0 hRn hK2 hP2 hKn
  go_enter Try.func12, Try.ntmps12
  go_wp2_with fail
  refine (HT.out).mono ?_
  rintro e w1 ⟨A1, c1, rfl, o1, b1⟩
  have HO1 := Lib.hid o1
  have HB1 := Lib.hid b1
  have hcap := own_cap o1
  have hH := run_head A1 R c1 N (by omega)
  have hPut := refFrPut_any A1 N c1 p w1.heap.size w1 (by have h := (Rd.of_own o1).take (k := N) (by omega); rwa [bv, ← List.map_take, HP.out] at h) (Nat.le_refl _) HPB.out (by omega)
  unfold FrOk at hPut
  rw [HPL.out, HFr.out] at hPut
  have HPut := Lib.hid hPut
  clear o1 b1 hPut HT
  go_wp2_with fail
  refine (HPut.out).mono ?_
  rintro e w2 ⟨A2, c2, rfl, o2, d2⟩
  have HB2 := Lib.hid (HB1.out.trans (d2.mono HB1.out.size))
  have HO12 := Lib.hid (own_under HO1.out d2)
  have HO2 := Lib.hid o2
  clear o2 d2 HPut hH
  go_wp2_with fail
  have r1 := run_string w2.drew A2 F c2 (fr p) w2.heap.size (Rd.of_own HO2.out)
  have hRF : Rd w2 w.heap.size A F (bv (bs.take F)) := by
    have h := (HR.out.below HB2.out).take (k := F) (by omega)
    rwa [bv, ← List.map_take] at h
  have r2 := run_string w2.drew A F c (bs.take F) w.heap.size hRF
  have hH := run_head A n c F (by omega)
  have H3 := strB_inj (fr_bytes HPB.out) (fun x hx => HBy.out x (List.mem_of_mem_take hx) : ∀ x ∈ bs.take F, x < 256)
  obtain ⟨s, hs⟩ : ∃ s, strB (fr p) = s := ⟨_, rfl⟩
  obtain ⟨t, ht⟩ : ∃ t, strB (bs.take F) = t := ⟨_, rfl⟩
  rw [hs] at r1 H3
  rw [ht] at r2 H3
  clear hs ht hRF
  by_cases heq : fr p = bs.take F
  · rw [decide_eq_true heq] at H3
    have HY := Lib.hid (HYes.out heq)
    clear heq
    go_region_held3 (fun W => (convert 22 9 (.slice A2 F c2)).run Try.prog W = .ok (.string s) W ∧ (convert 22 9 (.slice A F c)).run Try.prog W = .ok (.string t) W) (go_keep) (fail)
    rename_i hHeld
    clear hHeld r1 r2 H3
    obtain ⟨A', hs2, hA2⟩ := run_rest A n c F (by omega)
    have hs1 := run_head A1 R c1 N (by omega)
    obtain ⟨r, hrr⟩ : ∃ r, bs.drop F = r := ⟨_, rfl⟩
    have hrl : r.length = n - F := by rw [← hrr, List.length_drop, HL.out]
    have hR2 : Rd w2.drew w2.drew.heap.size A' (n - F) (bv r) := by
      have h := ((HR.out.below HB2.out.drew).more HB2.out.size).cut (k := F) (by omega) A' (fun h => hA2 ⟨h, hc⟩)
      rw [← hrr, bv, List.map_drop]; exact h
    have hR1 : Rd w2.drew w2.drew.heap.size A1 N (bv p) := by
      have h := (Rd.of_own HO12.out).take (k := N) (by omega)
      rw [bv, ← List.map_take, HP.out] at h; exact h
    have HRR := Lib.hid hrr
    clear hrr
    go_wp2_with fail
    refine lay_region rfl (by kernel_rfl) ⟨_, rfl, rfl, rfl, rfl, rfl, by kernel_rfl⟩ ⟨_, rfl, rfl, rfl, rfl, rfl, by kernel_rfl⟩ ⟨_, rfl, rfl, rfl, rfl, rfl, by kernel_rfl⟩ ⟨_, rfl, rfl, rfl, rfl, rfl, by kernel_rfl⟩ ⟨_, rfl, rfl, rfl, rfl, rfl, by kernel_rfl⟩ ⟨_, rfl, rfl, rfl, rfl, rfl, by kernel_rfl⟩ ⟨_, rfl, rfl, rfl, rfl, rfl, by kernel_rfl⟩ ⟨_, rfl, rfl, rfl, rfl, rfl, by kernel_rfl⟩ ⟨_, rfl, rfl, rfl, rfl, rfl, by kernel_rfl⟩ ⟨_, rfl, rfl, rfl, rfl, rfl, by kernel_rfl⟩ ⟨_, rfl, rfl, rfl, rfl, rfl, by kernel_rfl⟩ ⟨_, rfl, rfl, rfl, rfl, rfl, by kernel_rfl⟩ ⟨_, rfl, rfl, rfl, rfl, rfl, by kernel_rfl⟩ _ ?_ w.heap.size w2.drew A1 R c1 N p A n c F A' (n - F) (c - F) r rfl rfl rfl rfl HB2.out.size hs1 hs2 hR1 hR2 (by omega) (by omega) ?_
    · intro d hd
      simp only [List.mem_cons, List.not_mem_nil, or_false] at hd
      rcases hd with rfl | rfl | rfl | rfl | rfl | rfl | rfl | rfl | rfl | rfl | rfl | rfl | rfl <;> simp
    intro σ w3 A3 c3 A4 c4 s2 s3 s4 d3 o3 o4
    have HB3 := Lib.hid (HB2.out.drew.trans (d3.mono HB2.out.drew.size))
    have HO3 := Lib.hid o3
    have HO4 := Lib.hid o4
    clear hs1 hs2 hA2 hR1 hR2 d3 o3 o4
    simp only [lay, List.foldl_cons, List.foldl_nil, Act.put, List.setIfInBounds_toArray, List.set_cons_zero, List.set_cons_succ, s2, s3, s4]
    go_wp2_with fail
    go_ret3
    refine .inl ⟨HY.out, A3, c3, A4, c4, by rw [HPL.out, HRR.out, hrl]; rfl, ?_, ?_, HB3.out⟩
    · rw [HPL.out]; exact HO3.out
    · rw [HRR.out, hrl]; exact HO4.out
  · rw [decide_eq_false heq] at H3
    have HN := Lib.hid (HNot.out heq)
    clear heq
    go_region_held3 (fun W => (convert 22 9 (.slice A2 F c2)).run Try.prog W = .ok (.string s) W ∧ (convert 22 9 (.slice A F c)).run Try.prog W = .ok (.string t) W) (go_keep) (fail)
    go_wp2_with fail
    go_ret3
    exact .inr ⟨HN.out, rfl, HB2.out.drew⟩
/-- Take of a frame, whatever the bytes. -/
theorem refFrTake_any : Calls Try.prog 12 #[.slice A n c] w (fun e w' => (∃ p, IsFr bs p ∧ TakeYes p (bs.drop (frLen p.length)) w e w') ∨ ((∀ p, ¬ IsFr bs p) ∧ TakeNo w e w')) := by
  obtain ⟨N, K, E, hF⟩ : ∃ N K E, first bs = (N, K, E) := ⟨_, _, _, rfl⟩
  by_cases h : E ≠ 0 ∨ 4000 < N ∨ (behind bs).length < N + 4
  · refine (refFrTake_err A n c bs B w hr hB hb hn hc hF h).mono fun e w' h1 => .inr ⟨fun p hp => ?_, h1⟩
    have h2 := isFr_first_all hp
    rw [hF] at h2
    simp only [Prod.mk.injEq] at h2
    obtain ⟨rfl, hK, rfl⟩ := h2
    have h3 := hp.1
    have h4 := hp.le
    have h5 : (behind bs).length = bs.length - K := by rw [behind, hF, if_pos rfl, List.length_drop]
    unfold frLen at h4
    omega
  · obtain rfl : E = 0 := by omega
    have hl : bs.length = n := by have := hr.1; rwa [bv_length] at this
    refine (refFrTake_main A n c bs B w hr hB hb hn hc hF (by omega) (by omega)).mono fun e w' h1 => ?_
    rcases h1 with ⟨h2, h3⟩ | h2
    · refine .inl ⟨_, h2, ?_⟩
      have h4 : ((bs.drop K).take N).length = N := by
        have h5 : (behind bs).length = bs.length - K := by rw [behind, hF, if_pos rfl, List.length_drop]
        rw [List.length_take, List.length_drop]; omega
      rw [h4]; exact h3
    · exact .inr h2
end

end Go.Proofs.Ytocleikdabclkaa
