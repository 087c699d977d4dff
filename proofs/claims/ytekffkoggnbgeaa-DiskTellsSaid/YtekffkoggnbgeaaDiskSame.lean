/-
  The walk of 'Same' of package disk. Conditions: those that each theorem names.
-/
import Derived.Test.YtekffkoggnbgeaaDiskLess
import Derived.Deep.RegionWith
namespace Go.Proofs.Ytekffkoggnbgeaa
open Go.RowKit Go.Shelf

theorem cnt_rd {A : Option Addr} {n : Nat} {s r : Int} {bs : List Nat} {B : Nat} {w : World} (hr : Rd w B A n (bv bs)) : Rd w B A (cnt bs s r).bs.length (bv (cnt bs s r).bs) := by
  have hl : bs.length = n := by have := hr.1; rwa [bv_length] at this
  have h := hr.take (k := min (clampN r 65536) n) (by omega)
  have e : (cnt bs s r).bs = bs.take (min (clampN r 65536) n) := by
    simp only [cnt]; rw [List.take_eq_take_iff]; omega
  rw [e, List.length_take, hl]
  simp only [bv, ← List.map_take] at h
  rwa [show min (min (clampN r 65536) n) n = min (clampN r 65536) n by omega]

set_option maxRecDepth 100000 in
set_option maxHeartbeats 4000000 in
theorem same_any (A : Option Addr) (n c : Nat) (s r : Int) (bs : List Nat) (A' : Option Addr) (n' c' : Nat) (s' r' : Int) (bs' : List Nat) (B : Nat) (w : World) (hr : Rd w B A n (bv bs)) (hB : B ≤ w.heap.size) (hc : n ≤ c) (hby : ∀ x ∈ bs, x < 256) (hr' : Rd w B A' n' (bv bs')) (hc' : n' ≤ c') (hby' : ∀ x ∈ bs', x < 256) {D D' : Dk} (hD : cnt bs s r = D) (hD' : cnt bs' s' r' = D') :
    Calls Try.prog 25 #[diskV A n c s r, diskV A' n' c' s' r'] w fun e w' => e = .returned (.bool (decide (D = D'))) ∧ Below w.heap.size w w' := by
  have HC := Lib.hid (fun W => counted_len A n c s r bs W (by have := hr.1; rwa [bv_length] at this) hc)
  have HC' := Lib.hid (fun W => counted_len A' n' c' s' r' bs' W (by have := hr'.1; rwa [bv_length] at this) hc')
  have hrd := cnt_rd (s := s) (r := r) hr
  have hrd' := cnt_rd (s := s') (r := r') hr'
  have hok := cnt_ok s r hby
  have hok' := cnt_ok s' r' hby'
  rw [hD] at HC hrd hok
  rw [hD'] at HC' hrd' hok'
  have HE := Lib.hid (fun (W : World) (hW : Below w.heap.size w W) => equal_bytes A A' D.bs.length c D'.bs.length c' D.bs D'.bs B B W (hrd.below (hW.mono hB)) (hrd'.below (hW.mono hB)) hok.byte hok'.byte)
  clear hr hr' hrd hrd' hok hok' hby hby' hD hD'
  have hbw : Below w.heap.size w (((((((w.alloc (diskB A D.bs.length c D.syn D.room)).alloc (diskB A' D'.bs.length c' D'.syn D'.room)).alloc (diskB A D.bs.length c D.syn D.room)).alloc (diskB A D.bs.length c D.syn D.room)).alloc (diskB A' D'.bs.length c' D'.syn D'.room)).alloc (diskB A' D'.bs.length c' D'.syn D'.room)).drew) :=
    (((((((Below.refl _ w).alloc (Nat.le_refl _) _).alloc (by simp) _).alloc (by simp; omega) _).alloc (by simp; omega) _).alloc (by simp; omega) _).alloc (by simp; omega) _).drew
  have HBW := Lib.hid hbw
  clear hbw
  have go : ∀ (v : Bool), decide (D = D') = v →
      ((D.room ≠ D'.room ∧ v = false) ∨ (D.room = D'.room ∧ D.syn ≠ D'.syn ∧ v = false) ∨ (D.room = D'.room ∧ D.syn = D'.syn ∧ v = decide (D.bs = D'.bs))) := by
    intro v hv
    subst hv
    by_cases h1 : D.room = D'.room
    · by_cases h2 : D.syn = D'.syn
      · refine .inr (.inr ⟨h1, h2, ?_⟩)
        cases D; cases D'; simp only at h1 h2; simp [h1, h2]
      · exact .inr (.inl ⟨h1, h2, by rw [decide_eq_false_iff_not]; rintro rfl; exact h2 rfl⟩)
    · exact .inl ⟨h1, by rw [decide_eq_false_iff_not]; rintro rfl; exact h1 rfl⟩
  obtain ⟨v, hv⟩ : ∃ v, decide (D = D') = v := ⟨_, rfl⟩
  rw [hv]
  rcases go v hv with ⟨h1, h3⟩ | ⟨h1, h2, h3⟩ | ⟨h1, h2, h3⟩
  · have b1 : ((D.room : Int) == (D'.room : Int)) = false := by rw [beq_eq_false_iff_ne]; omega
    have HV := Lib.hid h3
    clear go hv h1 h3 HE
    go_enter Try.func25, Try.ntmps25
    go_wp2_with fail
    go_region_with (first | (go_at_call 31; ((with_reducible refine (HC.out _).mono ?_); rintro e w2 ⟨rfl, rfl⟩)) | (go_at_call 31; ((with_reducible refine (HC'.out _).mono ?_); rintro e w2 ⟨rfl, rfl⟩)))
    all_goals
      go_wp2_with fail
      go_ret
      exact ⟨by rw [HV.out]; rfl, HBW.out⟩
  · have b1 : ((D.room : Int) == (D'.room : Int)) = true := by simp [h1]
    have b2 : ((D.syn : Int) == (D'.syn : Int)) = false := by rw [beq_eq_false_iff_ne]; omega
    have HV := Lib.hid h3
    clear go hv h1 h2 h3 HE
    go_enter Try.func25, Try.ntmps25
    go_wp2_with fail
    go_region_with (first | (go_at_call 31; ((with_reducible refine (HC.out _).mono ?_); rintro e w2 ⟨rfl, rfl⟩)) | (go_at_call 31; ((with_reducible refine (HC'.out _).mono ?_); rintro e w2 ⟨rfl, rfl⟩)))
    all_goals
      go_wp2_with fail
      go_ret
      exact ⟨by rw [HV.out]; rfl, HBW.out⟩
  · have b1 : ((D.room : Int) == (D'.room : Int)) = true := by simp [h1]
    have b2 : ((D.syn : Int) == (D'.syn : Int)) = true := by simp [h2]
    have HE2 := Lib.hid (HE.out _ HBW.out)
    have HV := Lib.hid h3
    clear go hv h1 h2 h3 HE
    go_enter Try.func25, Try.ntmps25
    go_wp2_with fail
    go_region_with (first | (go_at_call 31; ((with_reducible refine (HC.out _).mono ?_); rintro e w2 ⟨rfl, rfl⟩)) | (go_at_call 31; ((with_reducible refine (HC'.out _).mono ?_); rintro e w2 ⟨rfl, rfl⟩)))
    all_goals
      go_wp2_with fail
      refine (HE2.out).mono ?_
      rintro e w3 ⟨rfl, rfl⟩
      go_wp2_with fail
      go_ret
      exact ⟨by rw [HV.out]; rfl, HBW.out⟩

end Go.Proofs.Ytekffkoggnbgeaa
