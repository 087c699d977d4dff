/-
  The walk of 'first' of package num: what comes of taking a number from bytes. Conditions: those that each theorem names.
-/
import Derived.Test.YtocleikdabclkaaNumAdd
namespace Go.Proofs.Ytocleikdabclkaa
open Go.RowKit Go.Shelf

def takenV (t : Nat × Nat × Nat) : Value := .agg #[.int .i64 (t.1 : Int), .int .i64 (t.2.1 : Int), .int .i64 (t.2.2 : Int)]

def FirstPost (bs : List Nat) (w : World) (e : Ending) (w' : World) : Prop :=
  e = .returned (takenV (first bs)) ∧ Below w.heap.size w w' ∧ KeepsOthers w w'

/-- What holds of the numbers at each digit. -/
structure FirstInv (bs : List Nat) (n N k P : Nat) : Prop where
  le : k ≤ n
  five : k ≤ 5
  pow : P = 128 ^ k
  val : N < P
  same : first bs = scan N k (bs.drop k)

theorem FirstInv.start (bs : List Nat) (n : Nat) : FirstInv bs n 0 0 1 := ⟨by omega, by omega, rfl, by omega, rfl⟩
theorem FirstInv.bound {bs : List Nat} {n N k P : Nat} (h : FirstInv bs n N k P) : 1 ≤ P ∧ P ≤ 34359738368 := by
  have h1 : 128 ^ k ≤ 128 ^ 5 := Nat.pow_le_pow_right (by omega) h.five
  have h2 : 0 < 128 ^ k := Nat.pow_pos (by omega)
  rw [h.pow]; exact ⟨h2, by omega⟩
theorem digit_bound (d P : Nat) (hP : P ≤ 34359738368) : d % 128 * P ≤ 4363686772736 := by
  have h : d % 128 * P ≤ 127 * 34359738368 := Nat.mul_le_mul (by omega) hP
  omega
theorem big_cast {N d P : Nat} : N + d % 128 * P ≤ 1099511627776 ↔ (N : Int) + (d : Int) % 128 * (P : Int) ≤ 1099511627776 := by
  have hc : ((d % 128 * P : Nat) : Int) = (d : Int) % 128 * (P : Int) := by simp
  omega
theorem FirstInv.end_ {bs : List Nat} {n N k P : Nat} (h : FirstInv bs n N k P) (hl : bs.length = n) (hk : k = n) : first bs = (0, 0, 10) := by
  rw [h.same, List.drop_of_length_le (by omega)]; rfl
theorem FirstInv.look {bs : List Nat} {n N k P d : Nat} (h : FirstInv bs n N k P) (hd : bs[k]? = some d) :
    first bs = if 128 ≤ d ∧ k + 1 < 6 then scan (N + d % 128 * P) (k + 1) (bs.drop (k + 1)) else if 128 ≤ d ∨ (d = 0 ∧ 1 < k + 1) ∨ 1099511627776 < N + d % 128 * P then (0, 0, 11) else (N + d % 128 * P, k + 1, 0) := by
  rw [h.same, h.pow]
  have hk : k < bs.length := (List.getElem?_eq_some_iff.1 hd).1
  rw [List.drop_eq_getElem_cons hk]
  have e : bs[k] = d := by rw [List.getElem?_eq_getElem hk] at hd; exact Option.some.inj hd
  rw [e]; rfl
theorem FirstInv.next {bs : List Nat} {n N k P d : Nat} (h : FirstInv bs n N k P) (hl : bs.length = n) (hd : bs[k]? = some d) (h1 : 128 ≤ d) (h2 : k + 1 < 6) :
    FirstInv bs n (N + d % 128 * P) (k + 1) (P * 128) := by
  have hk : k < bs.length := (List.getElem?_eq_some_iff.1 hd).1
  refine ⟨by omega, by omega, by rw [h.pow, Nat.pow_succ], ?_, ?_⟩
  · have h3 := h.val
    have h4 : d % 128 * P ≤ 127 * P := Nat.mul_le_mul (by omega) (Nat.le_refl _)
    omega
  · rw [h.look hd, if_pos ⟨h1, h2⟩]

set_option maxRecDepth 1000000 in
set_option maxHeartbeats 1000000 in
theorem first_any (A : Option Addr) (n c : Nat) (bs : List Nat) (w : World) (hr : Rd w w.heap.size A n (bv bs)) (hb : ∀ x ∈ bs, x < 256) (hn : n ≤ maxLen) :
    Calls Try.prog 38 #[.slice A n c] w (FirstPost bs w) := by
  unfold maxLen at hn
  have Hlen : Hid (bs.length = n) := by have := hr.1; rw [bv_length] at this; exact this
  have Hb := Lib.hid hb
  clear hb
  have Hr := Lib.hid hr
  clear hr
  go_enter Try.func38, Try.ntmps38
  go_wp2_with fail
  refine wp_scope_back_behind 0 (fun a' w' => w' = w.alloc (.cells #[.int .i64 0, .int .i64 0, .int .i64 0] 60) ∧ ∃ (N k P : Nat) (u6 u7 u8 u9 u10 u11 u12 u13 u14 u15 u16 u17 u18 u19 u20 u21 u22 u23 u24 u25 u26 u27 u28 u29 u30 u31 u32 u33 u34 u35 u36 u37 u38 u39 u40 u41 u42 u43 u44 u45 u46 u47 u48 u49 u50 u51 : Value), a' = { tmps := #[.slice A n c, undef, .pointer (some ⟨w.heap.size, 0, none⟩), .int .i64 (N : Int), .int .i64 (k : Int), .int .i64 (P : Int), u6, u7, u8, u9, u10, u11, u12, u13, u14, u15, u16, u17, u18, u19, u20, u21, u22, u23, u24, u25, u26, u27, u28, u29, u30, u31, u32, u33, u34, u35, u36, u37, u38, u39, u40, u41, u42, u43, u44, u45, u46, u47, u48, u49, u50, u51], defers := [] } ∧ FirstInv bs n N k P)
    (fun a' _ => n - (intOf (a'.tmps.getD 4 undef)).toNat) rfl ?ahead ?pass
  case ahead =>
    go_wp2_with fail
    exact ⟨0, 0, 1, ⟨rfl, rfl, rfl⟩, FirstInv.start bs n⟩
  case pass =>
    rintro a' w' ⟨rfl, N, k, P, u6, u7, u8, u9, u10, u11, u12, u13, u14, u15, u16, u17, u18, u19, u20, u21, u22, u23, u24, u25, u26, u27, u28, u29, u30, u31, u32, u33, u34, u35, u36, u37, u38, u39, u40, u41, u42, u43, u44, u45, u46, u47, u48, u49, u50, u51, rfl, hI⟩
    have HI := Lib.hid hI
    have hkn := hI.le
    have hk5 := hI.five
    obtain ⟨hP1, hP2⟩ := hI.bound
    have hNP := hI.val
    clear hI
    by_cases hlt : k < n
    · obtain ⟨b, off, rfl, hB, hc⟩ := Hr.out.2 (by omega)
      have hkl : k < bs.length := by rw [Hlen.out]; exact hlt
      obtain ⟨d, hd⟩ : ∃ d, bs[k]? = some d := ⟨_, List.getElem?_eq_getElem hkl⟩
      have hd6 : d < 256 := Hb.out d (List.mem_of_getElem? hd)
      have hcell := hc k hlt
      have e1 : (bv bs)[k]? = some (.int .u8 (d : Int)) := by simp [bv, hd]
      rw [e1] at hcell
      have hbd := digit_bound d P hP2
      have hz1 : (0 : Int) ≤ (d : Int) % 128 * (P : Int) := by
        have : ((d % 128 * P : Nat) : Int) = (d : Int) % 128 * (P : Int) := by simp
        omega
      have hz2 : (d : Int) % 128 * (P : Int) ≤ 4363686772736 := by
        have : ((d % 128 * P : Nat) : Int) = (d : Int) % 128 * (P : Int) := by simp
        omega
      have Hd := Lib.hid hd
      clear hd hc e1 hkl
      have HkN : Hid (k < n) := hlt
      have hne : ((k : Int) == (n : Int)) = false := by simp; omega
      by_cases h128 : 128 ≤ d
      · by_cases h6 : k + 1 < 6
        · go_wp2_with fail
          go_step3
          refine ⟨rfl, ⟨rfl, N + d % 128 * P, k + 1, P * 128, _, _, _, _, _, _, _, _, _, _, _, _, _, _, _, _, _, _, _, _, _, _, _, _, _, _, _, _, _, _, _, _, _, _, _, _, _, _, _, _, _, _, _, _, _, _, rfl, HI.out.next Hlen.out Hd.out h128 h6⟩, ?_⟩
          have := HkN.out
          simp [intOf]; omega
        · go_wp2_with fail
          simp only [Exit.jump]
          have e := HI.out.look Hd.out
          rw [if_neg (by omega), if_pos (.inl h128)] at e
          refine bodyPost_ret (v := .agg #[.int .i64 0, .int .i64 0, .int .i64 11]) (by simp [results, Try.results38, go_sem]) rfl ⟨by rw [e]; rfl, (Below.refl _ _).alloc (Nat.le_refl _) _, KeepsOthers.alloc _ _⟩
      · by_cases h0 : d = 0 ∧ 1 < k + 1
        · have e := HI.out.look Hd.out
          rw [if_neg (by omega), if_pos (.inr (.inl h0))] at e
          have He := Lib.hid e
          clear e
          obtain ⟨h0, h01⟩ := h0
          have hd0 : ((d : Int) == 0) = true := by simp; omega
          go_wp2_with fail
          simp only [Exit.jump]
          have e := He.out
          refine bodyPost_ret (v := .agg #[.int .i64 0, .int .i64 0, .int .i64 11]) (by simp [results, Try.results38, go_sem]) rfl ⟨by rw [e]; rfl, (Below.refl _ _).alloc (Nat.le_refl _) _, KeepsOthers.alloc _ _⟩
        · by_cases hbig : N + d % 128 * P ≤ 1099511627776
          · have e := HI.out.look Hd.out
            rw [if_neg (by omega), if_neg (by omega)] at e
            have He := Lib.hid e
            clear e
            have hnum : isNum ((N : Int) + (d : Int) % 128 * (P : Int)) = true := isNum_yes (by omega) (big_cast.1 hbig)
            by_cases hd0 : d = 0
            · have hk1 : ¬ 1 < k + 1 := fun h => h0 ⟨hd0, h⟩
              have hd1 : ((d : Int) == 0) = true := by simp; omega
              have hk2 : decide ((1 : Int) < (k : Int) + 1) = false := by simp; omega
              have hk3 : ¬ (1 : Int) < (k : Int) + 1 := by omega
              clear h0 hd0 hk1
              go_wp2_with (go_at_call 31; refine (right_any _ _).mono ?_; rintro e w' ⟨rfl, rfl⟩)
              simp only [Exit.jump]
              have e := He.out
              refine bodyPost_ret (v := .agg #[.int .i64 ((N : Int) + (d : Int) % 128 * (P : Int)), .int .i64 ((k : Int) + 1), .int .i64 0]) (by simp [results, Try.results38, go_sem]) rfl ⟨by rw [e]; rfl, (Below.refl _ _).alloc (Nat.le_refl _) _, KeepsOthers.alloc _ _⟩
            · have hd1 : ((d : Int) == 0) = false := by simp; omega
              clear h0
              go_wp2_with (go_at_call 31; refine (right_any _ _).mono ?_; rintro e w' ⟨rfl, rfl⟩)
              simp only [Exit.jump]
              have e := He.out
              refine bodyPost_ret (v := .agg #[.int .i64 ((N : Int) + (d : Int) % 128 * (P : Int)), .int .i64 ((k : Int) + 1), .int .i64 0]) (by simp [results, Try.results38, go_sem]) rfl ⟨by rw [e]; rfl, (Below.refl _ _).alloc (Nat.le_refl _) _, KeepsOthers.alloc _ _⟩
          · have e := HI.out.look Hd.out
            rw [if_neg (by omega), if_pos (.inr (.inr (by omega)))] at e
            have He := Lib.hid e
            clear e
            have hnum : isNum ((N : Int) + (d : Int) % 128 * (P : Int)) = false := by simp only [isNum, Bool.and_eq_false_iff, decide_eq_false_iff_not]; right; exact fun h => hbig (big_cast.2 h)
            by_cases hd0 : d = 0
            · have hk1 : ¬ 1 < k + 1 := fun h => h0 ⟨hd0, h⟩
              have hd1 : ((d : Int) == 0) = true := by simp; omega
              have hk2 : decide ((1 : Int) < (k : Int) + 1) = false := by simp; omega
              have hk3 : ¬ (1 : Int) < (k : Int) + 1 := by omega
              clear h0 hd0 hk1
              go_wp2_with (go_at_call 31; refine (right_any _ _).mono ?_; rintro e w' ⟨rfl, rfl⟩)
              simp only [Exit.jump]
              have e := He.out
              refine bodyPost_ret (v := .agg #[.int .i64 0, .int .i64 0, .int .i64 11]) (by simp [results, Try.results38, go_sem]) rfl ⟨by rw [e]; rfl, (Below.refl _ _).alloc (Nat.le_refl _) _, KeepsOthers.alloc _ _⟩
            · have hd1 : ((d : Int) == 0) = false := by simp; omega
              clear h0
              go_wp2_with (go_at_call 31; refine (right_any _ _).mono ?_; rintro e w' ⟨rfl, rfl⟩)
              simp only [Exit.jump]
              have e := He.out
              refine bodyPost_ret (v := .agg #[.int .i64 0, .int .i64 0, .int .i64 11]) (by simp [results, Try.results38, go_sem]) rfl ⟨by rw [e]; rfl, (Below.refl _ _).alloc (Nat.le_refl _) _, KeepsOthers.alloc _ _⟩
    · have hkn' : k = n := by omega
      have e := HI.out.end_ Hlen.out hkn'
      have He := Lib.hid e
      clear e
      obtain rfl : n = k := by omega
      go_wp2_with fail
      simp only [Exit.jump]
      have e := He.out
      refine bodyPost_ret (v := .agg #[.int .i64 0, .int .i64 0, .int .i64 10]) (by simp [results, Try.results38, go_sem]) rfl ⟨by rw [e]; rfl, (Below.refl _ _).alloc (Nat.le_refl _) _, KeepsOthers.alloc _ _⟩

end Go.Proofs.Ytocleikdabclkaa
