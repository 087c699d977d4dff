/-
  The walk of the statement 'NumBack': it answers true, and nothing that was there turns. Conditions: none.
-/
import Derived.Test.YtmgibphhlppfhaaNumOnly
namespace Go.Proofs.Ytmgibphhlppfhaa
open Go.RowKit Go.Shelf

set_option maxHeartbeats 400000 in
theorem ints_yes (A A' : Option Addr) (n c c' : Nat) (zs : List Int) (B B' : Nat) (w : World) (hr : Rd w B A n (iv zs)) (hr' : Rd w B' A' n (iv zs)) (hn : n ≤ 1000000) :
    Calls Try.prog 14 #[.slice A n c, .slice A' n c'] w fun e w' => e = .returned (.bool true) ∧ ∃ k, w' = w.drewN k := by
  have HR := Lib.hid hr
  have HR' := Lib.hid hr'
  clear hr hr'
  go_enter Try.func14, Try.ntmps14
  go_wp2_with fail
  go_loopw [5] (fun i wr => ∃ j : Nat, i = .int .i64 (j : Int) ∧ j ≤ n ∧ ∃ k, wr = w.drewN k) (fun i _ => n - (intOf i).toNat)
  case atStart => exact ⟨0, rfl, Nat.zero_le _, 0, rfl⟩
  case round =>
    obtain ⟨j, rfl, hj, k, rfl⟩ := hrel
    by_cases hlt : j < n
    · obtain ⟨b, off, rfl, _, hc⟩ := HR.out.2 (by omega)
      obtain ⟨b', off', rfl, _, hc'⟩ := HR'.out.2 (by omega)
      have hjl : j < zs.length := by have := HR.out.1; rw [iv_length] at this; omega
      obtain ⟨z, hz⟩ : ∃ z, zs[j]? = some z := ⟨_, List.getElem?_eq_getElem hjl⟩
      have e1 : (iv zs)[j]? = some (.int .i64 z) := by simp [iv, hz]
      have h1 := hc j hlt
      have h2 := hc' j hlt
      rw [e1] at h1 h2
      have hI : (j : Int) < (n : Int) := by omega
      clear hc hc' hz e1 hjl
      go_wp2_with fail
      go_quiet (fail)
      go_wp2_with fail
      go_roundw
      case rel => exact ⟨j + 1, by go_num, by omega, _, rfl⟩
      case measure => simp [intOf]; omega
    · go_wp2_with fail
      go_ret
      exact ⟨rfl, _, rfl⟩

theorem row_any (A : Option Addr) (n c : Nat) (zs : List Int) (w : World) (hr : Rd w w.heap.size A n (iv zs)) : Calls Try.prog 12 #[.slice A n c] w (RowPost zs w) := by
  have hl : zs.length = n := by have := hr.1; rwa [iv_length] at this
  by_cases h : n ≤ 40
  · exact row_short A n c zs w hr h
  · exact row_long A n c zs w hl (by omega)

/-- Whether the numbers gone over so far, of n, are fine. -/
def fineB (n : Nat) (pre : List Int) : Bool := decide (n ≤ 40) && pre.all isNum
theorem fineB_nil (n : Nat) (zs : List Int) : Value.bool (decide ((n : Int) ≤ 40)) = Value.bool (fineB n (zs.take 0)) := by
  have h : decide ((n : Int) ≤ 40) = decide (n ≤ 40) := by rw [decide_eq_decide]; omega
  rw [h]; simp [fineB]
theorem fineB_snoc (n : Nat) (pre : List Int) (z : Int) : fineB n (pre ++ [z]) = (fineB n pre && isNum z) := by
  simp [fineB, Bool.and_assoc]
theorem fineB_take {n j : Nat} {zs : List Int} {z : Int} (hz : zs[j]? = some z) : fineB n (zs.take (j + 1)) = (fineB n (zs.take j) && isNum z) := by
  have hjl : j < zs.length := (List.getElem?_eq_some_iff.1 hz).1
  rw [List.take_succ_eq_append_getElem hjl, fineB_snoc]
  rw [List.getElem?_eq_getElem hjl] at hz
  rw [Option.some.inj hz]

set_option maxRecDepth 100000 in
set_option maxHeartbeats 400000 in
theorem back_out (a0 : Int) (A : Option Addr) (n c : Nat) (A' : Option Addr) (m c' : Nat) (w : World) (h : 60 < n ∨ (n ≤ 60 ∧ 100 < m)) :
    Calls Try.prog 3 #[.int .i64 a0, .slice A n c, .slice A' m c'] w fun e w' => e = .returned (.bool true) ∧ Below w.heap.size w w' := by
  rcases h with h | ⟨h1, h⟩
  · have h' : (60 : Int) < (n : Int) := by omega
    go_enter Try.func3, Try.ntmps3
    go_wp2_with fail
    refine (wakes_any _).mono ?_
    rintro e w1 ⟨rfl, hb⟩
    go_wp2_with fail
    go_ret
    exact ⟨rfl, hb⟩
  · have h' : (100 : Int) < (m : Int) := by omega
    have h2 : ¬ (60 : Int) < (n : Int) := by omega
    go_enter Try.func3, Try.ntmps3
    go_wp2_with fail
    refine (wakes_any _).mono ?_
    rintro e w1 ⟨rfl, hb⟩
    go_wp2_with fail
    go_ret
    exact ⟨rfl, hb⟩

set_option maxRecDepth 100000 in
set_option maxHeartbeats 1000000 in
theorem back_AA (a0 : Int) (A : Option Addr) (n c : Nat) (A' : Option Addr) (m c' : Nat) (zs : List Int) (bs : List Nat) (w : World) (hr : Rd w w.heap.size A n (iv zs)) (hr' : Rd w w.heap.size A' m (bv bs)) (hb : ∀ x ∈ bs, x < 256) (hn : n ≤ 60) (hm : m ≤ 100) (hx : isNum a0 = true) (hy : isRow zs = true) :
    Calls Try.prog 3 #[.int .i64 a0, .slice A n c, .slice A' m c'] w fun e w' => e = .returned (.bool true) ∧ Below w.heap.size w w' := by
  have hl : zs.length = n := by have := hr.1; rwa [iv_length] at this
  have hlb : bs.length = m := by have := hr'.1; rwa [bv_length] at this
  have d60 : decide ((60 : Int) < (n : Int)) = false := by simp; omega
  have d100 : decide ((100 : Int) < (m : Int)) = false := by simp; omega
  have HR := Lib.hid hr
  have HR' := Lib.hid hr'
  have Hb := Lib.hid hb
  have Hl := Lib.hid hl
  have Hlb := Lib.hid hlb
  clear hr hr' hb hl hlb
  have Hy := Lib.hid hy
  clear hy
  obtain ⟨N, rfl⟩ := Int.eq_ofNat_of_zero_le (isNum_iff.1 hx).1
  have hN : N ≤ 1099511627776 := by have := (isNum_iff.1 hx).2; omega
  have hp := put_pos N
  have h6 := put_six hN
  have k0 : decide ((N : Int) < 0) = false := by simp
  have k1 : decide ((1099511627776 : Int) < (N : Int)) = false := by simp; omega
  have HN := Lib.hid hN
  clear hN hx
  go_enter Try.func3, Try.ntmps3
  go_wp2_with fail
  refine (put_yes N HN.out w.heap.size _ (Nat.le_refl _)).mono ?_
  rintro e w1 ⟨A1, c1, rfl, hI1⟩
  have R1 := hI1.rd
  have b1 : Below w.heap.size w w1 := hI1.2.1
  obtain ⟨v1, W1, A3, c3, W2, e1, e2, R3, b3, hc3⟩ := run_two w1 w1.heap.size A1 A' (put N).length c1 m c' (put N) bs R1 ((HR'.out.below b1).more b1.size) (Nat.le_refl _) (by omega)
  clear hI1 R1
  have E1 := Lib.hid e1
  have E2 := Lib.hid e2
  have Hc3 := Lib.hid hc3
  clear e1 e2 hc3
  go_wp2_with (first | (at_builtin; refine wpList_app (by rfl) _ _ _ rfl _ _ _ _ rfl rfl E1.out ?_; clear E1) | (at_builtin; refine wpList_app (by rfl) _ _ _ rfl _ _ _ _ rfl rfl E2.out ?_; clear E2))
  have b3' : Below w.heap.size w W2 := b1.trans (b3.mono b1.size)
  have hF := first_put HN.out bs
  refine (take_is _ _ _ (put N ++ bs) _ W2 R3 (Nat.le_refl _) (by intro x hx; simp only [List.mem_append] at hx; rcases hx with hx | hx; exact put_bytes N x hx; exact Hb.out x hx) (by omega) Hc3.out (N := N) (E := 0) (rest := bs) (by rw [hF]) (by rw [hF]) (by rw [behind, hF, if_pos rfl]; exact List.drop_left)).mono ?_
  rintro e w4 ⟨A4, c4, rfl, hI4⟩
  have R4 := hI4.rd
  have b4 : Below w.heap.size w w4 := b3'.trans (hI4.2.1.mono b3'.size)
  clear hI4 R3 b3 b3' b1 hF
  go_wp2_with fail
  refine (same_yes _ _ _ _ _ _ bs _ _ w4 R4 (HR'.out.below b4) Hb.out).mono ?_
  rintro e w5 ⟨rfl, rfl⟩
  clear R4
  go_wp2_with fail
  refine (long_yes N HN.out _).mono ?_
  rintro e w5 ⟨rfl, hb5, _⟩
  have b5 : Below w.heap.size w w5 := b4.trans (hb5.mono b4.size)
  clear hb5 b4
  go_wp2_with fail
  go_loop [12, 13] (fun f i => ∃ j : Nat, i = .int .i64 (j : Int) ∧ f = .bool (fineB n (zs.take j)) ∧ j ≤ n) (fun _ i => n - (intOf i).toNat)
  case atStart => exact ⟨0, rfl, by first | exact fineB_nil n zs | (simp [fineB]; omega), Nat.zero_le _⟩
  case round =>
    obtain ⟨j, rfl, rfl, hj⟩ := hrel
    by_cases hlt : j < n
    · obtain ⟨b, off, rfl, _, hc⟩ := (HR.out.below b5).2 (by omega)
      have hjl : j < zs.length := by rw [Hl.out]; exact hlt
      obtain ⟨z, hz⟩ : ∃ z, zs[j]? = some z := ⟨_, List.getElem?_eq_getElem hjl⟩
      have e1 : (iv zs)[j]? = some (.int .i64 z) := by simp [iv, hz]
      have h1 := hc j hlt
      rw [e1] at h1
      have HT := Lib.hid (fineB_take (n := n) hz)
      clear hc hz e1 hjl
      obtain ⟨f, hf⟩ : ∃ f, fineB n (zs.take j) = f := ⟨_, rfl⟩
      rw [hf]
      have HF := Lib.hid hf
      clear hf
      cases f
      · go_wp2_with fail
        go_round
        case rel => exact ⟨j + 1, by go_num, by rw [HT.out, HF.out]; rfl, by omega⟩
        case measure => simp [intOf]; omega
      · by_cases hz0 : 0 ≤ z
        · by_cases hz1 : z ≤ 1099511627776
          · have hnum := isNum_yes hz0 hz1
            have HNum := Lib.hid hnum
            clear hnum
            go_wp2_with fail
            go_round
            case rel => exact ⟨j + 1, by go_num, by rw [HT.out, HF.out, HNum.out]; rfl, by omega⟩
            case measure => simp [intOf]; omega
          · have hnum : isNum z = false := by simp [isNum, hz1]
            have HNum := Lib.hid hnum
            clear hnum
            go_wp2_with fail
            go_round
            case rel => exact ⟨j + 1, by go_num, by rw [HT.out, HF.out, HNum.out]; rfl, by omega⟩
            case measure => simp [intOf]; omega
        · have hnum : isNum z = false := by simp [isNum, hz0]
          have HNum := Lib.hid hnum
          clear hnum
          go_wp2_with fail
          go_round
          case rel => exact ⟨j + 1, by go_num, by rw [HT.out, HF.out, HNum.out]; rfl, by omega⟩
          case measure => simp [intOf]; omega
    · obtain rfl : n = j := by omega
      have hcut : fineB n (zs.take n) = true := by rw [List.take_of_length_le (by have := Hl.out; omega), fineB, ← Hl.out]; exact Hy.out
      rw [hcut]
      clear hcut
      have hrow := Hy.out
      go_wp2_with fail
      refine (row_any A n c zs _ ((HR.out.below b5).more b5.size)).mono ?_
      rintro e w6 (⟨_, A6, c6, rfl, hI6⟩ | ⟨h0, _⟩)
      rotate_left
      · rw [hrow] at h0; cases h0
      have hy2 : zs.length ≤ 40 ∧ zs.all isNum = true := by simpa [isRow] using hrow
      have hL6 : (nats zs).length ≤ 40 := by simpa [nats] using hy2.1
      have hn6 : ∀ x ∈ nats zs, x ≤ 1099511627776 := by
        intro x hx
        simp only [nats, List.mem_map] at hx
        obtain ⟨y, hy, rfl⟩ := hx
        have := isNum_iff.1 (List.all_eq_true.1 hy2.2 y hy)
        omega
      have hints : ints (nats zs) = zs := by
        rw [nats, ints, List.map_map]
        conv => rhs; rw [← List.map_id zs]
        refine List.map_congr_left fun y hy => ?_
        have := isNum_iff.1 (List.all_eq_true.1 hy2.2 y hy)
        simp; omega
      have hrl : (row (nats zs)).length ≤ 300 := by
        have h1 := put_six (n := (nats zs).length) (by omega)
        have h2 := puts_len (nats zs) hn6
        rw [row, List.length_append]; omega
      have hT := takeRow_row hL6 hn6 bs
      have R6 := hI6.rd
      have b6 : Below w.heap.size w w6 := b5.trans (hI6.2.1.mono b5.size)
      obtain ⟨v1, W1, A7, c7, W7, e1, e2, R7, b7, hc7⟩ := run_two w6 w6.heap.size A6 A' (row (nats zs)).length c6 m c' (row (nats zs)) bs R6 ((HR'.out.below b6).more b6.size) (Nat.le_refl _) (by omega)
      have HT := Lib.hid hT
      have HI := Lib.hid hints
      have E1 := Lib.hid e1
      have E2 := Lib.hid e2
      have Hc7 := Lib.hid hc7
      have HL6 := Lib.hid (show (nats zs).length = n by simp [nats, Hl.out])
      clear hI6 R6 e1 e2 hT hints hy2 hL6 hn6 hrow hc7
      have b7' : Below w.heap.size w W7 := b6.trans (b7.mono b6.size)
      go_wp2_with (first | (at_builtin; refine wpList_app (by rfl) _ _ _ rfl _ _ _ _ rfl rfl E1.out ?_; clear E1) | (at_builtin; refine wpList_app (by rfl) _ _ _ rfl _ _ _ _ rfl rfl E2.out ?_; clear E2))
      refine (takes_is _ _ _ (row (nats zs) ++ bs) _ W7 R7 (Nat.le_refl _) (by intro x hx; simp only [List.mem_append] at hx; rcases hx with hx | hx; exact row_bytes _ x hx; exact Hb.out x hx) (by omega) Hc7.out (E := 0) (l := nats zs) (rest := bs) (by rw [HT.out]) (by rw [HT.out]) (by rw [behindRow, HT.out, if_pos rfl]; exact List.drop_left)).mono ?_
      rintro e w8 ⟨A8, c8, A9, c9, rfl, o8, o9, b8⟩
      have b8' : Below w.heap.size w w8 := b7'.trans (b8.mono b7'.size)
      have R8 := Rd.of_own o8
      have R9 := Rd.of_own o9
      rw [HI.out] at R8
      rw [HL6.out] at R8 ⊢
      clear b7' b7 b8 o8 o9 R7 b6
      go_wp2_with fail
      refine (ints_yes _ _ n _ _ zs _ _ w8 R8 (HR.out.below b8') (by omega)).mono ?_
      rintro e w9 ⟨rfl, k, rfl⟩
      have b9 : Below w.heap.size w (w8.drewN k) := below_drewN b8' k
      have R9 : Rd (w8.drewN k) w8.heap.size A9 bs.length (bv bs) := R9
      clear R8 b8'
      go_wp2_with fail
      refine (same_yes _ _ _ _ _ _ bs _ _ _ R9 (HR'.out.below b9) Hb.out).mono ?_
      rintro e w10 ⟨rfl, rfl⟩
      clear R9
      go_wp2_with fail
      refine (wakes_any _).mono ?_
      rintro e w11 ⟨rfl, b11⟩
      go_wp2_with fail
      go_ret
      exact ⟨rfl, b9.trans (b11.mono b9.size)⟩

set_option maxRecDepth 100000 in
set_option maxHeartbeats 1000000 in
theorem back_AB (a0 : Int) (A : Option Addr) (n c : Nat) (A' : Option Addr) (m c' : Nat) (zs : List Int) (bs : List Nat) (w : World) (hr : Rd w w.heap.size A n (iv zs)) (hr' : Rd w w.heap.size A' m (bv bs)) (hb : ∀ x ∈ bs, x < 256) (hn : n ≤ 60) (hm : m ≤ 100) (hx : isNum a0 = true) (hy : isRow zs = false) :
    Calls Try.prog 3 #[.int .i64 a0, .slice A n c, .slice A' m c'] w fun e w' => e = .returned (.bool true) ∧ Below w.heap.size w w' := by
  have hl : zs.length = n := by have := hr.1; rwa [iv_length] at this
  have hlb : bs.length = m := by have := hr'.1; rwa [bv_length] at this
  have d60 : decide ((60 : Int) < (n : Int)) = false := by simp; omega
  have d100 : decide ((100 : Int) < (m : Int)) = false := by simp; omega
  have HR := Lib.hid hr
  have HR' := Lib.hid hr'
  have Hb := Lib.hid hb
  have Hl := Lib.hid hl
  have Hlb := Lib.hid hlb
  clear hr hr' hb hl hlb
  have Hy := Lib.hid hy
  clear hy
  obtain ⟨N, rfl⟩ := Int.eq_ofNat_of_zero_le (isNum_iff.1 hx).1
  have hN : N ≤ 1099511627776 := by have := (isNum_iff.1 hx).2; omega
  have hp := put_pos N
  have h6 := put_six hN
  have k0 : decide ((N : Int) < 0) = false := by simp
  have k1 : decide ((1099511627776 : Int) < (N : Int)) = false := by simp; omega
  have HN := Lib.hid hN
  clear hN hx
  go_enter Try.func3, Try.ntmps3
  go_wp2_with fail
  refine (put_yes N HN.out w.heap.size _ (Nat.le_refl _)).mono ?_
  rintro e w1 ⟨A1, c1, rfl, hI1⟩
  have R1 := hI1.rd
  have b1 : Below w.heap.size w w1 := hI1.2.1
  obtain ⟨v1, W1, A3, c3, W2, e1, e2, R3, b3, hc3⟩ := run_two w1 w1.heap.size A1 A' (put N).length c1 m c' (put N) bs R1 ((HR'.out.below b1).more b1.size) (Nat.le_refl _) (by omega)
  clear hI1 R1
  have E1 := Lib.hid e1
  have E2 := Lib.hid e2
  have Hc3 := Lib.hid hc3
  clear e1 e2 hc3
  go_wp2_with (first | (at_builtin; refine wpList_app (by rfl) _ _ _ rfl _ _ _ _ rfl rfl E1.out ?_; clear E1) | (at_builtin; refine wpList_app (by rfl) _ _ _ rfl _ _ _ _ rfl rfl E2.out ?_; clear E2))
  have b3' : Below w.heap.size w W2 := b1.trans (b3.mono b1.size)
  have hF := first_put HN.out bs
  refine (take_is _ _ _ (put N ++ bs) _ W2 R3 (Nat.le_refl _) (by intro x hx; simp only [List.mem_append] at hx; rcases hx with hx | hx; exact put_bytes N x hx; exact Hb.out x hx) (by omega) Hc3.out (N := N) (E := 0) (rest := bs) (by rw [hF]) (by rw [hF]) (by rw [behind, hF, if_pos rfl]; exact List.drop_left)).mono ?_
  rintro e w4 ⟨A4, c4, rfl, hI4⟩
  have R4 := hI4.rd
  have b4 : Below w.heap.size w w4 := b3'.trans (hI4.2.1.mono b3'.size)
  clear hI4 R3 b3 b3' b1 hF
  go_wp2_with fail
  refine (same_yes _ _ _ _ _ _ bs _ _ w4 R4 (HR'.out.below b4) Hb.out).mono ?_
  rintro e w5 ⟨rfl, rfl⟩
  clear R4
  go_wp2_with fail
  refine (long_yes N HN.out _).mono ?_
  rintro e w5 ⟨rfl, hb5, _⟩
  have b5 : Below w.heap.size w w5 := b4.trans (hb5.mono b4.size)
  clear hb5 b4
  go_wp2_with fail
  go_loop [12, 13] (fun f i => ∃ j : Nat, i = .int .i64 (j : Int) ∧ f = .bool (fineB n (zs.take j)) ∧ j ≤ n) (fun _ i => n - (intOf i).toNat)
  case atStart => exact ⟨0, rfl, by first | exact fineB_nil n zs | (simp [fineB]; omega), Nat.zero_le _⟩
  case round =>
    obtain ⟨j, rfl, rfl, hj⟩ := hrel
    by_cases hlt : j < n
    · obtain ⟨b, off, rfl, _, hc⟩ := (HR.out.below b5).2 (by omega)
      have hjl : j < zs.length := by rw [Hl.out]; exact hlt
      obtain ⟨z, hz⟩ : ∃ z, zs[j]? = some z := ⟨_, List.getElem?_eq_getElem hjl⟩
      have e1 : (iv zs)[j]? = some (.int .i64 z) := by simp [iv, hz]
      have h1 := hc j hlt
      rw [e1] at h1
      have HT := Lib.hid (fineB_take (n := n) hz)
      clear hc hz e1 hjl
      obtain ⟨f, hf⟩ : ∃ f, fineB n (zs.take j) = f := ⟨_, rfl⟩
      rw [hf]
      have HF := Lib.hid hf
      clear hf
      cases f
      · go_wp2_with fail
        go_round
        case rel => exact ⟨j + 1, by go_num, by rw [HT.out, HF.out]; rfl, by omega⟩
        case measure => simp [intOf]; omega
      · by_cases hz0 : 0 ≤ z
        · by_cases hz1 : z ≤ 1099511627776
          · have hnum := isNum_yes hz0 hz1
            have HNum := Lib.hid hnum
            clear hnum
            go_wp2_with fail
            go_round
            case rel => exact ⟨j + 1, by go_num, by rw [HT.out, HF.out, HNum.out]; rfl, by omega⟩
            case measure => simp [intOf]; omega
          · have hnum : isNum z = false := by simp [isNum, hz1]
            have HNum := Lib.hid hnum
            clear hnum
            go_wp2_with fail
            go_round
            case rel => exact ⟨j + 1, by go_num, by rw [HT.out, HF.out, HNum.out]; rfl, by omega⟩
            case measure => simp [intOf]; omega
        · have hnum : isNum z = false := by simp [isNum, hz0]
          have HNum := Lib.hid hnum
          clear hnum
          go_wp2_with fail
          go_round
          case rel => exact ⟨j + 1, by go_num, by rw [HT.out, HF.out, HNum.out]; rfl, by omega⟩
          case measure => simp [intOf]; omega
    · obtain rfl : n = j := by omega
      have hcut : fineB n (zs.take n) = false := by rw [List.take_of_length_le (by have := Hl.out; omega), fineB, ← Hl.out]; exact Hy.out
      rw [hcut]
      clear hcut
      have hrow := Hy.out
      go_wp2_with fail
      refine (row_any A n c zs _ ((HR.out.below b5).more b5.size)).mono ?_
      rintro e w6 (⟨h0, _⟩ | ⟨_, rfl, b6⟩)
      · rw [hrow] at h0; cases h0
      have b6' : Below w.heap.size w w6 := b5.trans (b6.mono b5.size)
      clear hrow b6
      go_wp2_with fail
      refine (wakes_any _).mono ?_
      rintro e w11 ⟨rfl, b11⟩
      go_wp2_with fail
      go_ret
      exact ⟨rfl, b6'.trans (b11.mono b6'.size)⟩

set_option maxRecDepth 100000 in
set_option maxHeartbeats 1000000 in
theorem back_BA (a0 : Int) (A : Option Addr) (n c : Nat) (A' : Option Addr) (m c' : Nat) (zs : List Int) (bs : List Nat) (w : World) (hr : Rd w w.heap.size A n (iv zs)) (hr' : Rd w w.heap.size A' m (bv bs)) (hb : ∀ x ∈ bs, x < 256) (hn : n ≤ 60) (hm : m ≤ 100) (hx : isNum a0 = false) (hy : isRow zs = true) :
    Calls Try.prog 3 #[.int .i64 a0, .slice A n c, .slice A' m c'] w fun e w' => e = .returned (.bool true) ∧ Below w.heap.size w w' := by
  have hl : zs.length = n := by have := hr.1; rwa [iv_length] at this
  have hlb : bs.length = m := by have := hr'.1; rwa [bv_length] at this
  have d60 : decide ((60 : Int) < (n : Int)) = false := by simp; omega
  have d100 : decide ((100 : Int) < (m : Int)) = false := by simp; omega
  have HR := Lib.hid hr
  have HR' := Lib.hid hr'
  have Hb := Lib.hid hb
  have Hl := Lib.hid hl
  have Hlb := Lib.hid hlb
  clear hr hr' hb hl hlb
  have Hy := Lib.hid hy
  clear hy
  have hx2 : a0 < 0 ∨ (0 ≤ a0 ∧ 1099511627776 < a0) := by
    simp only [isNum, Bool.and_eq_false_iff, decide_eq_false_iff_not] at hx
    omega
  have HX := Lib.hid hx
  clear hx
  rcases hx2 with hx2 | ⟨hx2, hx3⟩
  all_goals
    go_enter Try.func3, Try.ntmps3
    go_wp2_with fail
    refine (put_no a0 HX.out _).mono ?_
    rintro e w1 ⟨rfl, rfl⟩
    go_wp2_with fail
    refine (long_no a0 HX.out _).mono ?_
    rintro e w5 ⟨rfl, rfl⟩
    have b5 : Below w.heap.size w w := Below.refl _ _
    go_wp2_with fail
    go_loop [12, 13] (fun f i => ∃ j : Nat, i = .int .i64 (j : Int) ∧ f = .bool (fineB n (zs.take j)) ∧ j ≤ n) (fun _ i => n - (intOf i).toNat)
    case atStart => exact ⟨0, rfl, by first | exact fineB_nil n zs | (simp [fineB]; omega), Nat.zero_le _⟩
    case round =>
      obtain ⟨j, rfl, rfl, hj⟩ := hrel
      by_cases hlt : j < n
      · obtain ⟨b, off, rfl, _, hc⟩ := (HR.out.below b5).2 (by omega)
        have hjl : j < zs.length := by rw [Hl.out]; exact hlt
        obtain ⟨z, hz⟩ : ∃ z, zs[j]? = some z := ⟨_, List.getElem?_eq_getElem hjl⟩
        have e1 : (iv zs)[j]? = some (.int .i64 z) := by simp [iv, hz]
        have h1 := hc j hlt
        rw [e1] at h1
        have HT := Lib.hid (fineB_take (n := n) hz)
        clear hc hz e1 hjl
        obtain ⟨f, hf⟩ : ∃ f, fineB n (zs.take j) = f := ⟨_, rfl⟩
        rw [hf]
        have HF := Lib.hid hf
        clear hf
        cases f
        · go_wp2_with fail
          go_round
          case rel => exact ⟨j + 1, by go_num, by rw [HT.out, HF.out]; rfl, by omega⟩
          case measure => simp [intOf]; omega
        · by_cases hz0 : 0 ≤ z
          · by_cases hz1 : z ≤ 1099511627776
            · have hnum := isNum_yes hz0 hz1
              have HNum := Lib.hid hnum
              clear hnum
              go_wp2_with fail
              go_round
              case rel => exact ⟨j + 1, by go_num, by rw [HT.out, HF.out, HNum.out]; rfl, by omega⟩
              case measure => simp [intOf]; omega
            · have hnum : isNum z = false := by simp [isNum, hz1]
              have HNum := Lib.hid hnum
              clear hnum
              go_wp2_with fail
              go_round
              case rel => exact ⟨j + 1, by go_num, by rw [HT.out, HF.out, HNum.out]; rfl, by omega⟩
              case measure => simp [intOf]; omega
          · have hnum : isNum z = false := by simp [isNum, hz0]
            have HNum := Lib.hid hnum
            clear hnum
            go_wp2_with fail
            go_round
            case rel => exact ⟨j + 1, by go_num, by rw [HT.out, HF.out, HNum.out]; rfl, by omega⟩
            case measure => simp [intOf]; omega
      · obtain rfl : n = j := by omega
        have hcut : fineB n (zs.take n) = true := by rw [List.take_of_length_le (by have := Hl.out; omega), fineB, ← Hl.out]; exact Hy.out
        rw [hcut]
        clear hcut
        have hrow := Hy.out
        go_wp2_with fail
        refine (row_any A n c zs _ ((HR.out.below b5).more b5.size)).mono ?_
        rintro e w6 (⟨_, A6, c6, rfl, hI6⟩ | ⟨h0, _⟩)
        rotate_left
        · rw [hrow] at h0; cases h0
        have hy2 : zs.length ≤ 40 ∧ zs.all isNum = true := by simpa [isRow] using hrow
        have hL6 : (nats zs).length ≤ 40 := by simpa [nats] using hy2.1
        have hn6 : ∀ x ∈ nats zs, x ≤ 1099511627776 := by
          intro x hx
          simp only [nats, List.mem_map] at hx
          obtain ⟨y, hy, rfl⟩ := hx
          have := isNum_iff.1 (List.all_eq_true.1 hy2.2 y hy)
          omega
        have hints : ints (nats zs) = zs := by
          rw [nats, ints, List.map_map]
          conv => rhs; rw [← List.map_id zs]
          refine List.map_congr_left fun y hy => ?_
          have := isNum_iff.1 (List.all_eq_true.1 hy2.2 y hy)
          simp; omega
        have hrl : (row (nats zs)).length ≤ 300 := by
          have h1 := put_six (n := (nats zs).length) (by omega)
          have h2 := puts_len (nats zs) hn6
          rw [row, List.length_append]; omega
        have hT := takeRow_row hL6 hn6 bs
        have R6 := hI6.rd
        have b6 : Below w.heap.size w w6 := b5.trans (hI6.2.1.mono b5.size)
        obtain ⟨v1, W1, A7, c7, W7, e1, e2, R7, b7, hc7⟩ := run_two w6 w6.heap.size A6 A' (row (nats zs)).length c6 m c' (row (nats zs)) bs R6 ((HR'.out.below b6).more b6.size) (Nat.le_refl _) (by omega)
        have HT := Lib.hid hT
        have HI := Lib.hid hints
        have E1 := Lib.hid e1
        have E2 := Lib.hid e2
        have Hc7 := Lib.hid hc7
        have HL6 := Lib.hid (show (nats zs).length = n by simp [nats, Hl.out])
        clear hI6 R6 e1 e2 hT hints hy2 hL6 hn6 hrow hc7
        have b7' : Below w.heap.size w W7 := b6.trans (b7.mono b6.size)
        go_wp2_with (first | (at_builtin; refine wpList_app (by rfl) _ _ _ rfl _ _ _ _ rfl rfl E1.out ?_; clear E1) | (at_builtin; refine wpList_app (by rfl) _ _ _ rfl _ _ _ _ rfl rfl E2.out ?_; clear E2))
        refine (takes_is _ _ _ (row (nats zs) ++ bs) _ W7 R7 (Nat.le_refl _) (by intro x hx; simp only [List.mem_append] at hx; rcases hx with hx | hx; exact row_bytes _ x hx; exact Hb.out x hx) (by omega) Hc7.out (E := 0) (l := nats zs) (rest := bs) (by rw [HT.out]) (by rw [HT.out]) (by rw [behindRow, HT.out, if_pos rfl]; exact List.drop_left)).mono ?_
        rintro e w8 ⟨A8, c8, A9, c9, rfl, o8, o9, b8⟩
        have b8' : Below w.heap.size w w8 := b7'.trans (b8.mono b7'.size)
        have R8 := Rd.of_own o8
        have R9 := Rd.of_own o9
        rw [HI.out] at R8
        rw [HL6.out] at R8 ⊢
        clear b7' b7 b8 o8 o9 R7 b6
        go_wp2_with fail
        refine (ints_yes _ _ n _ _ zs _ _ w8 R8 (HR.out.below b8') (by omega)).mono ?_
        rintro e w9 ⟨rfl, k, rfl⟩
        have b9 : Below w.heap.size w (w8.drewN k) := below_drewN b8' k
        have R9 : Rd (w8.drewN k) w8.heap.size A9 bs.length (bv bs) := R9
        clear R8 b8'
        go_wp2_with fail
        refine (same_yes _ _ _ _ _ _ bs _ _ _ R9 (HR'.out.below b9) Hb.out).mono ?_
        rintro e w10 ⟨rfl, rfl⟩
        clear R9
        go_wp2_with fail
        refine (wakes_any _).mono ?_
        rintro e w11 ⟨rfl, b11⟩
        go_wp2_with fail
        go_ret
        exact ⟨rfl, b9.trans (b11.mono b9.size)⟩

set_option maxRecDepth 100000 in
set_option maxHeartbeats 1000000 in
theorem back_BB (a0 : Int) (A : Option Addr) (n c : Nat) (A' : Option Addr) (m c' : Nat) (zs : List Int) (bs : List Nat) (w : World) (hr : Rd w w.heap.size A n (iv zs)) (hr' : Rd w w.heap.size A' m (bv bs)) (hb : ∀ x ∈ bs, x < 256) (hn : n ≤ 60) (hm : m ≤ 100) (hx : isNum a0 = false) (hy : isRow zs = false) :
    Calls Try.prog 3 #[.int .i64 a0, .slice A n c, .slice A' m c'] w fun e w' => e = .returned (.bool true) ∧ Below w.heap.size w w' := by
  have hl : zs.length = n := by have := hr.1; rwa [iv_length] at this
  have hlb : bs.length = m := by have := hr'.1; rwa [bv_length] at this
  have d60 : decide ((60 : Int) < (n : Int)) = false := by simp; omega
  have d100 : decide ((100 : Int) < (m : Int)) = false := by simp; omega
  have HR := Lib.hid hr
  have HR' := Lib.hid hr'
  have Hb := Lib.hid hb
  have Hl := Lib.hid hl
  have Hlb := Lib.hid hlb
  clear hr hr' hb hl hlb
  have Hy := Lib.hid hy
  clear hy
  have hx2 : a0 < 0 ∨ (0 ≤ a0 ∧ 1099511627776 < a0) := by
    simp only [isNum, Bool.and_eq_false_iff, decide_eq_false_iff_not] at hx
    omega
  have HX := Lib.hid hx
  clear hx
  rcases hx2 with hx2 | ⟨hx2, hx3⟩
  all_goals
    go_enter Try.func3, Try.ntmps3
    go_wp2_with fail
    refine (put_no a0 HX.out _).mono ?_
    rintro e w1 ⟨rfl, rfl⟩
    go_wp2_with fail
    refine (long_no a0 HX.out _).mono ?_
    rintro e w5 ⟨rfl, rfl⟩
    have b5 : Below w.heap.size w w := Below.refl _ _
    go_wp2_with fail
    go_loop [12, 13] (fun f i => ∃ j : Nat, i = .int .i64 (j : Int) ∧ f = .bool (fineB n (zs.take j)) ∧ j ≤ n) (fun _ i => n - (intOf i).toNat)
    case atStart => exact ⟨0, rfl, by first | exact fineB_nil n zs | (simp [fineB]; omega), Nat.zero_le _⟩
    case round =>
      obtain ⟨j, rfl, rfl, hj⟩ := hrel
      by_cases hlt : j < n
      · obtain ⟨b, off, rfl, _, hc⟩ := (HR.out.below b5).2 (by omega)
        have hjl : j < zs.length := by rw [Hl.out]; exact hlt
        obtain ⟨z, hz⟩ : ∃ z, zs[j]? = some z := ⟨_, List.getElem?_eq_getElem hjl⟩
        have e1 : (iv zs)[j]? = some (.int .i64 z) := by simp [iv, hz]
        have h1 := hc j hlt
        rw [e1] at h1
        have HT := Lib.hid (fineB_take (n := n) hz)
        clear hc hz e1 hjl
        obtain ⟨f, hf⟩ : ∃ f, fineB n (zs.take j) = f := ⟨_, rfl⟩
        rw [hf]
        have HF := Lib.hid hf
        clear hf
        cases f
        · go_wp2_with fail
          go_round
          case rel => exact ⟨j + 1, by go_num, by rw [HT.out, HF.out]; rfl, by omega⟩
          case measure => simp [intOf]; omega
        · by_cases hz0 : 0 ≤ z
          · by_cases hz1 : z ≤ 1099511627776
            · have hnum := isNum_yes hz0 hz1
              have HNum := Lib.hid hnum
              clear hnum
              go_wp2_with fail
              go_round
              case rel => exact ⟨j + 1, by go_num, by rw [HT.out, HF.out, HNum.out]; rfl, by omega⟩
              case measure => simp [intOf]; omega
            · have hnum : isNum z = false := by simp [isNum, hz1]
              have HNum := Lib.hid hnum
              clear hnum
              go_wp2_with fail
              go_round
              case rel => exact ⟨j + 1, by go_num, by rw [HT.out, HF.out, HNum.out]; rfl, by omega⟩
              case measure => simp [intOf]; omega
          · have hnum : isNum z = false := by simp [isNum, hz0]
            have HNum := Lib.hid hnum
            clear hnum
            go_wp2_with fail
            go_round
            case rel => exact ⟨j + 1, by go_num, by rw [HT.out, HF.out, HNum.out]; rfl, by omega⟩
            case measure => simp [intOf]; omega
      · obtain rfl : n = j := by omega
        have hcut : fineB n (zs.take n) = false := by rw [List.take_of_length_le (by have := Hl.out; omega), fineB, ← Hl.out]; exact Hy.out
        rw [hcut]
        clear hcut
        have hrow := Hy.out
        go_wp2_with fail
        refine (row_any A n c zs _ ((HR.out.below b5).more b5.size)).mono ?_
        rintro e w6 (⟨h0, _⟩ | ⟨_, rfl, b6⟩)
        · rw [hrow] at h0; cases h0
        have b6' : Below w.heap.size w w6 := b5.trans (b6.mono b5.size)
        clear hrow b6
        go_wp2_with fail
        refine (wakes_any _).mono ?_
        rintro e w11 ⟨rfl, b11⟩
        go_wp2_with fail
        go_ret
        exact ⟨rfl, b6'.trans (b11.mono b6'.size)⟩

theorem back_walk (a0 : Int) (A : Option Addr) (n c : Nat) (A' : Option Addr) (m c' : Nat) (zs : List Int) (bs : List Nat) (w : World) (hr : Rd w w.heap.size A n (iv zs)) (hr' : Rd w w.heap.size A' m (bv bs)) (hb : ∀ x ∈ bs, x < 256) :
    Calls Try.prog 3 #[.int .i64 a0, .slice A n c, .slice A' m c'] w fun e w' => e = .returned (.bool true) ∧ Below w.heap.size w w' := by
  by_cases hn : n ≤ 60
  · by_cases hm : m ≤ 100
    · cases hx : isNum a0 <;> cases hy : isRow zs
      · exact back_BB a0 A n c A' m c' zs bs w hr hr' hb hn hm hx hy
      · exact back_BA a0 A n c A' m c' zs bs w hr hr' hb hn hm hx hy
      · exact back_AB a0 A n c A' m c' zs bs w hr hr' hb hn hm hx hy
      · exact back_AA a0 A n c A' m c' zs bs w hr hr' hb hn hm hx hy
    · exact back_out a0 A n c A' m c' w (.inr ⟨hn, by omega⟩)
  · exact back_out a0 A n c A' m c' w (.inl (by omega))

end Go.Proofs.Ytmgibphhlppfhaa
