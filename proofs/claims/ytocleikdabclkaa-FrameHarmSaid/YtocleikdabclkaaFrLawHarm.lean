/-
  The walk of the statement 'FrameHarm': it answers true, and nothing that was there turns. Conditions: none.
-/
import Derived.Test.YtocleikdabclkaaFrWakes
import Derived.Laws.BitsAllLaws
namespace Go.Proofs.Ytocleikdabclkaa
open Go.RowKit Go.Shelf

/-- A store into a row of the call's own. -/
theorem own_store {w : World} {base : Nat} {e : TypeId} {n c g i : Nat} {xs : List Value} (h : w.ownsRow base e 1 (.slice (some ⟨g, 0, none⟩) n c) n xs) (hi : i < n) (u : Value) :
    (w.setCell ⟨g, i, none⟩ u).ownsRow base e 1 (.slice (some ⟨g, 0, none⟩) n c) n (xs.set i u) ∧ w.frozen? ⟨g, i, none⟩ = false := by
  rcases h.2 with ⟨h1, h2⟩ | ⟨g', cap, cur, h1, h2, h3, h4, h5, h6, h7⟩
  · omega
  · injection h1 with hA _ hc
    injection hA with hA
    injection hA with hA
    subst hA; subst hc
    refine ⟨⟨by rw [List.length_set]; exact h.1, .inr ⟨g, c, cur.setIfInBounds i u, rfl, h2, ?_, h4, h5, by simp [h6], ?_⟩⟩, by simp [World.frozen?, h3]⟩
    · simp [World.setCell, Array.getElem?_modify, h3]
    · rw [Array.toList_setIfInBounds, List.take_set, h7]

theorem xor_ne {d k : Nat} (hk : k ≠ 0) : d ^^^ k ≠ d := fun h => hk (by
  have h1 : d ^^^ (d ^^^ k) = d ^^^ d := by rw [h]
  rw [← Nat.xor_assoc, Nat.xor_self, Nat.zero_xor] at h1
  exact h1)

set_option maxHeartbeats 400000 in
theorem frameHarm_out (A : Option Addr) (n c : Nat) (z : Int) (k : Nat) (w : World) (h : ¬ (n ≤ 200 ∧ k ≠ 0)) :
    Calls Try.prog 6 #[.slice A n c, .int .i64 z, .int .u8 (k : Int)] w fun e w' => e = .returned (.bool true) ∧ Below w.heap.size w w' := by
  by_cases h0 : (200 : Int) < (n : Int)
  · go_enter Try.func6, Try.ntmps6
    go_wp2_with fail
    refine (wakes_any _).mono ?_
    rintro e w1 ⟨rfl, hb⟩
    go_wp2_with fail
    go_ret
    exact ⟨rfl, hb⟩
  · obtain rfl : k = 0 := by omega
    go_enter Try.func6, Try.ntmps6
    go_wp2_with fail
    refine (wakes_any _).mono ?_
    rintro e w1 ⟨rfl, hb⟩
    go_wp2_with fail
    go_ret
    exact ⟨rfl, hb⟩

set_option maxRecDepth 100000 in
set_option maxHeartbeats 1000000 in
theorem frameHarm_in (A : Option Addr) (n c : Nat) (bs : List Nat) (z : Int) (k : Nat) (w : World) (hr : Rd w w.heap.size A n (bv bs)) (hb : ∀ x ∈ bs, x < 256) (hc : n ≤ c) (hm : c ≤ maxLen) (hz : (Lit.int .i64 z).wf = true) (hk : k < 256) (h0 : n ≤ 200) (hk0 : k ≠ 0) :
    Calls Try.prog 6 #[.slice A n c, .int .i64 z, .int .u8 (k : Int)] w fun e w' => e = .returned (.bool true) ∧ Below w.heap.size w w' := by
  have hl : bs.length = n := by have := hr.1; rwa [bv_length] at this
  have HP := Lib.hid (frPut_any A n c bs w.heap.size w hr (Nat.le_refl _) hb (by omega) hc hm)
  unfold FrOk at HP
  rw [hl] at HP
  have i0 : ¬ (200 : Int) < (n : Int) := by omega
  have i1 : ((k : Int) == 0) = false := by rw [beq_eq_false_iff_ne]; omega
  have hF : frLen n = (put n).length + n + 4 := rfl
  obtain ⟨P, hP⟩ : ∃ P, (put n).length = P := ⟨_, rfl⟩
  obtain ⟨F, hFe⟩ : ∃ F, frLen n = F := ⟨_, rfl⟩
  have hP1 := put_pos n
  have hP2 := put_two (n := n) (by omega)
  rw [hP] at hF hP1 hP2
  rw [hFe] at hF HP
  obtain ⟨T, hT⟩ : ∃ T, Int.tmod z ((n : Int) + 4) = T := ⟨_, rfl⟩
  have hT1 : T < (n : Int) + 4 := by rw [← hT]; exact Int.tmod_lt_of_pos z (by omega)
  have hT2 : -((n : Int) + 4) < T := by rw [← hT]; exact Int.lt_tmod_of_pos z (by omega)
  obtain ⟨J, hJ1, hJ2⟩ : ∃ J : Nat, Int.tmod (T + ((n : Int) + 4)) ((n : Int) + 4) = (J : Int) ∧ J < n + 4 := by
    have h1 : (0 : Int) ≤ T + ((n : Int) + 4) := by omega
    rw [Int.tmod_eq_emod_of_nonneg h1]
    have h2 := Int.emod_nonneg (T + ((n : Int) + 4)) (show (n : Int) + 4 ≠ 0 by omega)
    have h3 := Int.emod_lt_of_pos (T + ((n : Int) + 4)) (show (0 : Int) < (n : Int) + 4 by omega)
    exact ⟨((T + ((n : Int) + 4)) % ((n : Int) + 4)).toNat, by omega, by omega⟩
  have hb64 := bounds_i64 hz
  have HL := Lib.hid hl
  have HPe := Lib.hid hP
  have HFe := Lib.hid hFe
  have HBy := Lib.hid hb
  have HF := Lib.hid hF
  have hFb : (F : Int) ≤ 206 := by omega
  have hJi : (P : Int) + (J : Int) < (F : Int) := by omega
  have g1 : ((F : Int) == 0) = false := by rw [beq_eq_false_iff_ne]; omega
  have g2 : (F : Int) - (n : Int) - 4 = (P : Int) := by omega
  have g3 : ¬ (P : Int) < 1 := by omega
  clear hr hb hl hz hP hFe hF
  go_enter Try.func6, Try.ntmps6
  go_wp2_with fail
  refine (HP.out).mono ?_
  rintro e w1 ⟨A1, c1, rfl, o1, b1⟩
  have hF := HF.out
  obtain ⟨g, cap, hv, hg1, hg2⟩ := o1.form (by omega)
  injection hv with hA1 _ hcap
  subst hA1; subst hcap
  have hil : P + J < (fr bs).length := by
    rw [fr_length, HL.out, HFe.out]; omega
  obtain ⟨d, hd⟩ : ∃ d, (fr bs)[P + J]? = some d := ⟨_, List.getElem?_eq_getElem hil⟩
  have hd6 : d < 256 := fr_bytes HBy.out d (List.mem_of_getElem? hd)
  have hcell := o1.cellAt (P + J) (by omega)
  rw [bv, List.getElem?_map, hd, Option.map_some] at hcell
  obtain ⟨o2, hfz⟩ := own_store o1 (i := P + J) (by omega) (.int .u8 ((d ^^^ k : Nat) : Int))
  clear hF
  have hxor : bits .xor .u8 (d : Int) (k : Int) = ((d ^^^ k : Nat) : Int) := u8_xor_nat d k hd6 hk
  obtain ⟨x, hx⟩ : ∃ x, d ^^^ k = x := ⟨_, rfl⟩
  have hx6 : x < 256 := by rw [← hx]; exact Nat.xor_lt_two_pow (n := 8) (by omega) (by omega)
  have hxd : x ≠ d := by rw [← hx]; exact xor_ne hk0
  rw [hx] at hxor o2
  obtain ⟨r, hr⟩ : ∃ r, (fr bs).set (P + J) x = r := ⟨_, rfl⟩
  have hno : ∀ q, ¬ IsFr r q := fun q => not_isFr_harm HBy.out hx6 (by rw [HL.out, HPe.out]; omega) hil (by rw [hd]; intro e; exact hxd (Option.some.inj e).symm) hr
  have hbr : ∀ y ∈ r, y < 256 := fun y hy => by
    rw [← hr] at hy
    rcases List.mem_or_eq_of_mem_set hy with h | h
    · exact fr_bytes HBy.out y h
    · omega
  have hset : (bv (fr bs)).set (P + J) (.int .u8 (x : Int)) = bv r := by rw [← hr, bv, bv, List.map_set]
  rw [hset] at o2
  have hall : AllIs r [] 0 := ⟨by simp, rfl, by simp, by simpa using hno⟩
  obtain ⟨W2, hW2⟩ : ∃ W2, w1.setCell ⟨g, P + J, none⟩ (.int .u8 (x : Int)) = W2 := ⟨_, rfl⟩
  have b2 : Below w.heap.size w W2 := by rw [← hW2]; exact b1.setCell (p := ⟨g, P + J, none⟩) hg1 _
  rw [hW2] at o2
  have HNo := Lib.hid hno
  have HBr := Lib.hid hbr
  have HAll := Lib.hid hall
  have HO2 := Lib.hid o2
  have HB2 := Lib.hid b2
  have HCap := Lib.hid (own_cap o2)
  clear hno hbr hall o2 b2 hset hr hx hx6 hxd hd hil o1 b1 hd6
  go_wp2_with fail
  refine (frTake_no _ F c1 r W2.heap.size W2 HNo.out (Rd.of_own HO2.out) (Nat.le_refl _) HBr.out (by omega) HCap.out).mono ?_
  rintro e w3 ⟨rfl, d3⟩
  have HO3 := Lib.hid (own_under HO2.out d3)
  have HB3 := Lib.hid (HB2.out.trans (d3.mono HB2.out.size))
  clear d3 HO2 HB2 hW2 hfz hcell hxor
  go_wp2_with fail
  refine (frAll_any _ F c1 r [] 0 w3.heap.size w3 HAll.out (Rd.of_own HO3.out) (Nat.le_refl _) HBr.out (by omega) HCap.out).mono ?_
  rintro e w4 ⟨A4, c4, rfl, _, d4⟩
  have HB4 := Lib.hid (HB3.out.trans (d4.mono HB3.out.size))
  clear d4 HO3 HB3
  go_wp2_with fail
  refine (wakes_any _).mono ?_
  rintro e w5 ⟨rfl, d5⟩
  go_wp2_with fail
  go_ret
  exact ⟨rfl, HB4.out.trans (d5.mono HB4.out.size)⟩

theorem frameHarm_walk (A : Option Addr) (n c : Nat) (bs : List Nat) (z : Int) (k : Nat) (w : World) (hr : Rd w w.heap.size A n (bv bs)) (hb : ∀ x ∈ bs, x < 256) (hc : n ≤ c) (hm : c ≤ maxLen) (hz : (Lit.int .i64 z).wf = true) (hk : k < 256) :
    Calls Try.prog 6 #[.slice A n c, .int .i64 z, .int .u8 (k : Int)] w fun e w' => e = .returned (.bool true) ∧ Below w.heap.size w w' := by
  by_cases h : n ≤ 200 ∧ k ≠ 0
  · exact frameHarm_in A n c bs z k w hr hb hc hm hz hk h.1 h.2
  · exact frameHarm_out A n c z k w h

end Go.Proofs.Ytocleikdabclkaa
