/-
  The walks of the document's own 'many', 'Right' and 'Same' of records. Conditions: those that each theorem names.
-/
import Derived.Test.YtcgfakpolfopnaaRecSame
namespace Go.Proofs.Ytcgfakpolfopnaa
open Go.RowKit Go.Shelf

def rlo (k : Nat) : Int := if 0 < k ∧ k < 17 then (lo k : Int) else -1
def rhi (k : Nat) : Int := if 0 < k ∧ k < 17 then (hi k : Int) else -1

set_option maxHeartbeats 4000000 in
theorem refMany_any (k : Nat) (w : World) :
    Calls Try.prog 32 #[.int .u8 (k : Int)] w fun e w' => e = .returned (.tuple #[.int .i64 (rlo k), .int .i64 (rhi k)]) ∧ w = w' := by
  rcases Nat.lt_or_ge k 17 with h | h
  · rcases kind_cases h with rfl | rfl | rfl | rfl | rfl | rfl | rfl | rfl | rfl | rfl | rfl | rfl | rfl | rfl | rfl | rfl | rfl
    all_goals
      clear h
      go_enter Try.func32, Try.ntmps32
      go_wp2
      go_ret2
      exact ⟨rfl, rfl⟩
  · rw [show rlo k = -1 from if_neg (by omega), show rhi k = -1 from if_neg (by omega)]
    obtain ⟨z, hz⟩ : ∃ z : Int, (k : Int) = z := ⟨_, rfl⟩
    have h17 : 17 ≤ z := by omega
    rw [hz]
    clear hz h
    have e1 := kind_ne h17 1 (by omega)
    have e2 := kind_ne h17 2 (by omega)
    have e3 := kind_ne h17 3 (by omega)
    have e4 := kind_ne h17 4 (by omega)
    have e5 := kind_ne h17 5 (by omega)
    have e6 := kind_ne h17 6 (by omega)
    have e7 := kind_ne h17 7 (by omega)
    have e8 := kind_ne h17 8 (by omega)
    have e9 := kind_ne h17 9 (by omega)
    have e10 := kind_ne h17 10 (by omega)
    have e11 := kind_ne h17 11 (by omega)
    have e12 := kind_ne h17 12 (by omega)
    have e13 := kind_ne h17 13 (by omega)
    have e14 := kind_ne h17 14 (by omega)
    have e15 := kind_ne h17 15 (by omega)
    have e16 := kind_ne h17 16 (by omega)
    clear h17
    go_enter Try.func32, Try.ntmps32
    go_wp2
    go_ret2
    exact ⟨rfl, rfl⟩

theorem mayB_none {k : Nat} {zs : List Int} (h : ¬ (0 < k ∧ k < 17)) : mayB k zs = false := by
  cases h1 : mayB k zs
  · rfl
  · exact absurd (mayB_kind h1) h

set_option maxHeartbeats 1000000 in
theorem refRight_out (k : Nat) (A : Option Addr) (n c : Nat) (w : World) (h : ¬ (0 < k ∧ k < 17) ∨ ((0 < k ∧ k < 17) ∧ n < lo k) ∨ ((0 < k ∧ k < 17) ∧ lo k ≤ n ∧ hi k < n)) :
    Calls Try.prog 17 #[.agg #[.int .u8 (k : Int), .slice A n c]] w (BoolPost false w) := by
  have HM := Lib.hid (fun W => refMany_any k W)
  rcases h with h | ⟨h0, h⟩ | ⟨h0, h1, h⟩
  · rw [show rlo k = -1 from if_neg h, show rhi k = -1 from if_neg h] at HM
    clear h
    go_enter Try.func17, Try.ntmps17
    go_wp2_with fail
    refine (HM.out _).mono ?_
    rintro e w1 ⟨rfl, rfl⟩
    go_wp2_with fail
    go_ret
    exact ⟨rfl, (Below.refl _ w).alloc (Nat.le_refl _) _⟩
  all_goals
    rw [show rlo k = (lo k : Int) from if_pos h0, show rhi k = (hi k : Int) from if_pos h0] at HM
    clear h0
    obtain ⟨L, hL⟩ : ∃ L, lo k = L := ⟨_, rfl⟩
    obtain ⟨H, hH⟩ : ∃ H, hi k = H := ⟨_, rfl⟩
    simp only [hL, hH] at HM h
    try rw [hL] at h1
    clear hL hH
    have d0 : decide ((L : Int) < 0) = false := by simp
    try have d1 : decide (n < L) = false := by simp; omega
    go_enter Try.func17, Try.ntmps17
    go_wp2_with fail
    refine (HM.out _).mono ?_
    rintro e w1 ⟨rfl, rfl⟩
    go_wp2_with fail
    go_ret
    exact ⟨rfl, (Below.refl _ w).alloc (Nat.le_refl _) _⟩

set_option maxRecDepth 100000 in
set_option maxHeartbeats 1000000 in
theorem refRight_in (k : Nat) (hk : 0 < k ∧ k < 17) (A : Option Addr) (n c : Nat) (zs : List Int) (w : World) (hr : Rd w w.heap.size A n (iv zs)) (h1 : lo k ≤ n) (h2 : n ≤ hi k) :
    Calls Try.prog 17 #[.agg #[.int .u8 (k : Int), .slice A n c]] w (BoolPost (zs.all isNum) w) := by
  have HM := Lib.hid (fun W => refMany_any k W)
  have hn : n ≤ 18 := by have := hi_le k; omega
  rw [show rlo k = (lo k : Int) from if_pos hk, show rhi k = (hi k : Int) from if_pos hk] at HM
  obtain ⟨L, hL⟩ : ∃ L, lo k = L := ⟨_, rfl⟩
  obtain ⟨H, hH⟩ : ∃ H, hi k = H := ⟨_, rfl⟩
  simp only [hL, hH] at HM h1 h2
  clear hL hH hk
  have hl : zs.length = n := by have := hr.1; rwa [iv_length] at this
  have Hl := Lib.hid hl
  have Hr := Lib.hid ((hr.below ((Below.refl _ w).alloc (Nat.le_refl _) (.cells #[.int .u8 (k : Int), .slice A n c] 24))))
  clear hr hl
  have d0 : decide ((L : Int) < 0) = false := by simp
  have d1 : decide (n < L) = false := by simp; omega
  have d2 : decide (H < n) = false := by simp; omega
  have hb : Below w.heap.size w (w.alloc (.cells #[.int .u8 (k : Int), .slice A n c] 24)) := (Below.refl _ w).alloc (Nat.le_refl _) _
  have HB := Lib.hid hb
  clear h1 h2 hb
  go_enter Try.func17, Try.ntmps17
  go_wp2_with fail
  refine (HM.out _).mono ?_
  rintro e w1 ⟨rfl, rfl⟩
  go_wp2_with fail
  go_loop [5] (fun i => ∃ j : Nat, i = .int .i64 (j : Int) ∧ j ≤ n ∧ (zs.take j).all isNum = true) (fun i => n - (intOf i).toNat)
  case atStart => exact ⟨0, rfl, Nat.zero_le _, rfl⟩
  case round =>
    obtain ⟨j, rfl, hj, hT⟩ := hrel
    have HT := Lib.hid hT
    clear hT
    by_cases hlt : j < n
    · obtain ⟨b, off, rfl, _, hc⟩ := Hr.out.2 (by omega)
      have hjl : j < zs.length := by rw [Hl.out]; exact hlt
      obtain ⟨x, hx⟩ : ∃ x, zs[j]? = some x := ⟨_, List.getElem?_eq_getElem hjl⟩
      have h1 := hc j hlt
      rw [show (iv zs)[j]? = some (.int .i64 x) by simp [iv, hx]] at h1
      have hI : (j : Int) < (n : Int) := by omega
      have HX := Lib.hid hx
      have HS : Hid ((zs.take (j + 1)).all isNum = ((zs.take j).all isNum && isNum x)) := by
        have e1 : zs.take (j + 1) = zs.take j ++ [x] := by
          rw [List.take_succ_eq_append_getElem hjl]
          rw [List.getElem?_eq_getElem hjl] at hx
          rw [Option.some.inj hx]
        show (zs.take (j + 1)).all isNum = ((zs.take j).all isNum && isNum x)
        rw [e1, List.all_append]; simp
      have HF : Hid (isNum x = false → zs.all isNum = false) := fun h => by
        rw [← List.take_append_drop (j + 1) zs, List.all_append, HS.out, h]; simp
      clear hc hx hjl
      by_cases hx0 : 0 ≤ x
      · by_cases hx1 : x ≤ 1099511627776
        · have HN := Lib.hid (isNum_yes hx0 hx1)
          go_wp2_with fail
          go_round
          case rel => exact ⟨j + 1, by go_num, by omega, by rw [HS.out, HT.out, HN.out]; rfl⟩
          case measure => simp [intOf]; omega
        · have HN := Lib.hid (show isNum x = false by simp [isNum, hx1])
          go_wp2_with fail
          go_ret
          exact ⟨by rw [HF.out HN.out]; rfl, HB.out⟩
      · have HN := Lib.hid (show isNum x = false by simp [isNum, hx0])
        go_wp2_with fail
        go_ret
        exact ⟨by rw [HF.out HN.out]; rfl, HB.out⟩
    · have HA := Lib.hid (show zs.all isNum = true by have h1 := HT.out; rwa [List.take_of_length_le (by have := Hl.out; omega)] at h1)
      go_wp2_with fail
      go_ret
      exact ⟨by rw [HA.out]; rfl, HB.out⟩

theorem refRight_any (k : Nat) (A : Option Addr) (n c : Nat) (zs : List Int) (B : Nat) (w : World) (hr : Rd w B A n (iv zs)) (hB : B ≤ w.heap.size) :
    Calls Try.prog 17 #[.agg #[.int .u8 (k : Int), .slice A n c]] w (BoolPost (mayB k zs) w) := by
  have hl : zs.length = n := by have := hr.1; rwa [iv_length] at this
  by_cases h0 : 0 < k ∧ k < 17
  · by_cases h1 : lo k ≤ n
    · by_cases h2 : n ≤ hi k
      · have e : mayB k zs = zs.all isNum := by simp [mayB, hl, h1, h2]
        rw [e]
        exact refRight_in k h0 A n c zs w (hr.more hB) h1 h2
      · rw [mayB_long (by omega)]
        exact refRight_out k A n c w (.inr (.inr ⟨h0, h1, by omega⟩))
    · rw [mayB_short (by omega)]
      exact refRight_out k A n c w (.inr (.inl ⟨h0, by omega⟩))
  · rw [mayB_none h0]
    exact refRight_out k A n c w (.inl h0)

set_option maxRecDepth 100000 in
set_option maxHeartbeats 1000000 in
theorem refSame_any (k k' : Nat) (A A' : Option Addr) (n c n' c' : Nat) (zs zs' : List Int) (B B' : Nat) (w : World) (hr : Rd w B A n (iv zs)) (hr' : Rd w B' A' n' (iv zs')) (hB : B ≤ w.heap.size) (hB' : B' ≤ w.heap.size) (hn : n ≤ 1000000) :
    Calls Try.prog 15 #[.agg #[.int .u8 (k : Int), .slice A n c], .agg #[.int .u8 (k' : Int), .slice A' n' c']] w (BoolPost (sameB k zs k' zs') w) := by
  have hl : zs.length = n := by have := hr.1; rwa [iv_length] at this
  have hl' : zs'.length = n' := by have := hr'.1; rwa [iv_length] at this
  have hb : Below w.heap.size w ((w.alloc (.cells #[.int .u8 (k : Int), .slice A n c] 24)).alloc (.cells #[.int .u8 (k' : Int), .slice A' n' c'] 24)) := ((Below.refl _ w).alloc (Nat.le_refl _) _).alloc (by simp) _
  have HB := Lib.hid hb
  by_cases hk : k = k'
  · subst hk
    by_cases hne : n = n'
    · subst hne
      obtain ⟨W0, hW0⟩ : ∃ W0, (w.alloc (.cells #[.int .u8 (k : Int), .slice A n c] 24)).alloc (.cells #[.int .u8 (k : Int), .slice A' n c'] 24) = W0 := ⟨_, rfl⟩
      have x1 : Whole W0 w.heap.size 24 #[.int .u8 (k : Int), .slice A n c] := by rw [← hW0]; exact (Whole.new w _ _).alloc _
      have x2 : Whole W0 (w.heap.size + 1) 24 #[.int .u8 (k : Int), .slice A' n c'] := by rw [← hW0]; have := Whole.new (w.alloc (.cells #[.int .u8 (k : Int), .slice A n c] 24)) 24 #[.int .u8 (k : Int), .slice A' n c']; rwa [World.size_alloc] at this
      have p0 := x1.cell 0
      have p1 := x1.cell 1
      have q0 := x2.cell 0
      have q1 := x2.cell 1
      simp only [List.getElem?_toArray, List.getElem?_cons_zero, List.getElem?_cons_succ] at p0 p1 q0 q1
      rw [hW0] at HB hb
      have HR := Lib.hid (hr.below (hb.mono hB))
      have HR' := Lib.hid (hr'.below (hb.mono hB'))
      have HL := Lib.hid hl
      have HL' := Lib.hid hl'
      have HS := Lib.hid (show sameB k zs k zs' = decide (zs = zs') by simp [sameB])
      clear hr hr' hl hl' hb x1 x2
      go_enter Try.func15, Try.ntmps15
      go_wp2_with fail
      go_loopw [5] (fun i wr => ∃ j : Nat, i = .int .i64 (j : Int) ∧ j ≤ n ∧ zs.take j = zs'.take j ∧ ∃ m, wr = W0.drewN m) (fun i _ => n - (intOf i).toNat)
      case atStart => exact ⟨0, rfl, Nat.zero_le _, rfl, 0, rfl⟩
      case round =>
        obtain ⟨j, rfl, hj, hT, m, rfl⟩ := hrel
        have HT := Lib.hid hT
        clear hT
        by_cases hlt : j < n
        · obtain ⟨b, off, rfl, _, hc⟩ := HR.out.2 (by omega)
          obtain ⟨b', off', rfl, _, hc'⟩ := HR'.out.2 (by omega)
          have hjl : j < zs.length := by rw [HL.out]; exact hlt
          have hjl' : j < zs'.length := by rw [HL'.out]; exact hlt
          obtain ⟨x, hx⟩ : ∃ x, zs[j]? = some x := ⟨_, List.getElem?_eq_getElem hjl⟩
          obtain ⟨y, hy⟩ : ∃ y, zs'[j]? = some y := ⟨_, List.getElem?_eq_getElem hjl'⟩
          have h1 := hc j hlt
          have h2 := hc' j hlt
          rw [show (iv zs)[j]? = some (.int .i64 x) by simp [iv, hx]] at h1
          rw [show (iv zs')[j]? = some (.int .i64 y) by simp [iv, hy]] at h2
          have hI : (j : Int) < (n : Int) := by omega
          have HX := Lib.hid hx
          have HY := Lib.hid hy
          have HW0 := Lib.hid hW0
          clear hc hc' hx hy hjl hjl' hW0
          by_cases hxy : x = y
          · subst hxy
            go_wp2_with fail
            go_quiet (fail)
            go_wp2_with fail
            go_roundw
            case rel => exact ⟨j + 1, by go_num, by omega, take_grow HT.out HX.out HY.out, _, rfl⟩
            case measure => simp [intOf]; omega
          · have hb1 : (x == y) = false := by rw [beq_eq_false_iff_ne]; exact hxy
            have hb2 : (x != y) = true := by simp [bne, hb1]
            have HF := Lib.hid (show decide (zs = zs') = false by rw [decide_eq_false_iff_not]; rintro rfl; have h3 := HX.out; rw [HY.out] at h3; exact hxy (Option.some.inj h3).symm)
            clear hxy
            go_wp2_with fail
            go_quiet (fail)
            go_wp2_with fail
            go_ret
            exact ⟨by rw [HS.out, HF.out]; rfl, below_drewN (below_drewN HB.out _) _⟩
        · have HF := Lib.hid (show decide (zs = zs') = true by
            rw [decide_eq_true_eq]
            have h1 := HT.out
            rwa [List.take_of_length_le (by have := HL.out; omega), List.take_of_length_le (by have := HL'.out; omega)] at h1)
          have HW0 := Lib.hid hW0
          clear hW0
          go_wp2_with fail
          go_ret
          exact ⟨by rw [HS.out, HF.out]; rfl, below_drewN HB.out _⟩
    · have HF := Lib.hid (show sameB k zs k zs' = false by
        have h1 : ¬ zs = zs' := by rintro rfl; omega
        simp [sameB, h1])
      have hb1 : ((n : Int) == (n' : Int)) = false := by rw [beq_eq_false_iff_ne]; omega
      have hb2 : ((n : Int) != (n' : Int)) = true := by simp [bne, hb1]
      clear hr hr' hl hl' hne hb
      go_enter Try.func15, Try.ntmps15
      go_wp2_with fail
      go_ret
      exact ⟨by rw [HF.out]; rfl, HB.out⟩
  · have HF := Lib.hid (show sameB k zs k' zs' = false by simp [sameB, hk])
    have hb1 : ((k : Int) == (k' : Int)) = false := by rw [beq_eq_false_iff_ne]; omega
    have hb2 : ((k : Int) != (k' : Int)) = true := by simp [bne, hb1]
    clear hr hr' hl hl' hk hb
    go_enter Try.func15, Try.ntmps15
    go_wp2_with fail
    go_ret
    exact ⟨by rw [HF.out]; rfl, HB.out⟩

end Go.Proofs.Ytcgfakpolfopnaa
