/-
  The walks of 'slices.Equal' at calls, of 'Same' of package call and of the document's own 'Same'. Conditions: those that each theorem names.
-/
import Derived.Test.YtgajnmjifhemgaaClRow
import Derived.Deep.DeepCutAuto
namespace Go.Proofs.Ytgajnmjifhemgaa
open Go.RowKit Go.Shelf

theorem take_growF {α : Type} {l l' : List α} {j : Nat} {x : α} (h : l.take j = l'.take j) (h1 : l[j]? = some x) (h2 : l'[j]? = some x) : l.take (j + 1) = l'.take (j + 1) := by
  have l1 : j < l.length := (List.getElem?_eq_some_iff.1 h1).1
  have l2 : j < l'.length := (List.getElem?_eq_some_iff.1 h2).1
  rw [List.take_succ_eq_append_getElem l1, List.take_succ_eq_append_getElem l2, h]
  rw [List.getElem?_eq_getElem l1] at h1
  rw [List.getElem?_eq_getElem l2] at h2
  rw [Option.some.inj h1, Option.some.inj h2]
def QYes (v : Bool) (w : World) (e : Ending) (w' : World) : Prop := e = .returned (.bool v) ∧ ∃ k, w' = w.drewN k
theorem drewN_below {B : Nat} {w w' : World} (h : Below B w w') (k : Nat) : Below B w (w'.drewN k) := ⟨h.os, h.tape, h.output, h.size, h.block⟩

set_option maxRecDepth 100000 in
set_option maxHeartbeats 2000000 in
theorem equalC_any (A A' : Option Addr) (n c n' c' : Nat) (l l' : List Cl) (B B' : Nat) (w : World) (hr : RdC w B A n l) (hr' : RdC w B' A' n' l') (hn : n ≤ 1000) :
    Calls Try.prog 43 #[.slice A n c, .slice A' n' c'] w (QYes (decide (l = l')) w) := by
  have hl := hr.len
  have hl' := hr'.len
  by_cases hne : n = n'
  · subst hne
    have HR := Lib.hid hr
    have HR' := Lib.hid hr'
    have HL := Lib.hid hl
    have HL' := Lib.hid hl'
    clear hr hr' hl hl'
    go_enter Try.func43, Try.ntmps43
    go_wp2_with fail
    go_loopw [5, 13] (fun _ i wr => ∃ j : Nat, i = .int .i64 (j : Int) ∧ j ≤ n ∧ l.take j = l'.take j ∧ ∃ k, wr = w.drewN k) (fun _ i _ => n - (intOf i).toNat)
    case atStart => exact ⟨0, rfl, Nat.zero_le _, rfl, 0, rfl⟩
    case round =>
      obtain ⟨j, rfl, hj, hT, k, rfl⟩ := hrel
      have HT := Lib.hid hT
      clear hT
      by_cases hlt : j < n
      · obtain ⟨b, off, rfl, _, hc⟩ := RdC.at_ HR.out (by omega)
        obtain ⟨b', off', rfl, _, hc'⟩ := RdC.at_ HR'.out (by omega)
        obtain ⟨x, hx⟩ : ∃ x, l[j]? = some x := ⟨_, List.getElem?_eq_getElem (by rw [HL.out]; exact hlt)⟩
        obtain ⟨y, hy⟩ : ∃ y, l'[j]? = some y := ⟨_, List.getElem?_eq_getElem (by rw [HL'.out]; exact hlt)⟩
        obtain ⟨c0, c1, c2, c3⟩ := hc j x hx
        obtain ⟨d0, d1, d2, d3⟩ := hc' j y hy
        have hI : (j : Int) < (n : Int) := by omega
        have HX := Lib.hid hx
        have HY := Lib.hid hy
        clear hc hc' hx hy
        by_cases hxy : x = y
        · subst hxy
          go_wp2_with fail
          go_quiet (fail)
          go_wp2_with fail
          go_roundw
          case rel => exact ⟨j + 1, by go_num, by omega, take_growF HT.out HX.out HY.out, _, rfl⟩
          case measure => simp [intOf]; omega
        · have hq := fun W => (run_neqCl W x y).trans (by rw [decide_eq_false hxy, Bool.not_false])
          have HF := Lib.hid (show decide (l = l') = false by rw [decide_eq_false_iff_not]; rintro rfl; have h3 := HX.out; rw [HY.out] at h3; exact hxy (Option.some.inj h3).symm)
          clear hxy
          go_wp2_with fail
          go_quiet (fail)
          go_wp2_with fail
          go_ret
          exact ⟨by rw [HF.out]; rfl, _, World.drewN_drewN _ _ _⟩
      · have HF := Lib.hid (show decide (l = l') = true by
          rw [decide_eq_true_eq]
          have h1 := HT.out
          rwa [List.take_of_length_le (by have := HL.out; omega), List.take_of_length_le (by have := HL'.out; omega)] at h1)
        go_wp2_with fail
        go_ret
        exact ⟨by rw [HF.out]; rfl, _, rfl⟩
  · have HF := Lib.hid (show decide (l = l') = false by rw [decide_eq_false_iff_not]; rintro rfl; omega)
    rw [HF.out]
    have hb : ((n : Int) == (n' : Int)) = false := by rw [beq_eq_false_iff_ne]; omega
    have hb2 : ((n : Int) != (n' : Int)) = true := by simp [bne, hb]
    clear hr hr' hl hl' hne HF
    go_enter Try.func43, Try.ntmps43
    go_wp2_with fail
    go_ret
    exact ⟨rfl, 0, rfl⟩

theorem cs_eq (c d : Cs) : decide (c = d) = (decide (c.ep = d.ep) && (decide (c.nx = d.nx) && decide (c.l = d.l))) := by
  obtain ⟨a, b, l⟩ := c
  obtain ⟨a', b', l'⟩ := d
  rw [Bool.eq_iff_iff]
  simp only [decide_eq_true_eq, Bool.and_eq_true, Cs.mk.injEq]

set_option maxRecDepth 100000 in
set_option maxHeartbeats 1000000 in
theorem same_any (c d : Cs) (A : Option Addr) (n k : Nat) (A' : Option Addr) (n' k' : Nat) (B B' : Nat) (w : World) (hr : RdC w B A n c.l) (hr' : RdC w B' A' n' d.l) (hB : B ≤ w.heap.size) (hB' : B' ≤ w.heap.size) (hn : n ≤ 1000) :
    Calls Try.prog 25 #[.agg #[.int .i64 c.ep, .int .i64 c.nx, .slice A n k], .agg #[.int .i64 d.ep, .int .i64 d.nx, .slice A' n' k']] w (BoolPost (decide (c = d)) w) := by
  rw [cs_eq]
  obtain ⟨hb, w0, w1⟩ := two_new w 24 24 #[.int .i64 c.ep, .int .i64 c.nx, .slice A n k] #[.int .i64 d.ep, .int .i64 d.nx, .slice A' n' k']
  obtain ⟨V, hV⟩ : ∃ V, (w.alloc (.cells #[.int .i64 c.ep, .int .i64 c.nx, .slice A n k] 24)).alloc (.cells #[.int .i64 d.ep, .int .i64 d.nx, .slice A' n' k'] 24) = V := ⟨_, rfl⟩
  rw [hV] at hb w0 w1
  have HC := Lib.hid (equalC_any A A' n k n' k' c.l d.l B B' V (hr.below (hb.mono hB)) (hr'.below (hb.mono hB')) hn)
  obtain ⟨c0, c1, c2⟩ := cells3 w0
  obtain ⟨d0, d1, d2⟩ := cells3 w1
  have HB := Lib.hid hb
  have HV := Lib.hid hV
  clear hb w0 w1 hV hr hr' hB hB' hn
  cases h1 : decide (c.ep = d.ep) with
  | false =>
    have b0 : (c.ep == d.ep) = false := h1
    clear h1
    go_enter Try.func25, Try.ntmps25
    go_upto_region 1 with fail
    rw [HV.out]
    clear HV
    go_wp2_with fail
    go_ret
    exact ⟨by simp, HB.out⟩
  | true =>
  cases h2 : decide (c.nx = d.nx) with
  | false =>
    have b0 : (c.ep == d.ep) = true := h1
    have b1 : (c.nx == d.nx) = false := h2
    clear h1 h2
    go_enter Try.func25, Try.ntmps25
    go_upto_region 1 with fail
    rw [HV.out]
    clear HV
    go_wp2_with fail
    go_ret
    exact ⟨by simp, HB.out⟩
  | true =>
    have b0 : (c.ep == d.ep) = true := h1
    have b1 : (c.nx == d.nx) = true := h2
    clear h1 h2
    go_enter Try.func25, Try.ntmps25
    go_upto_region 1 with fail
    rw [HV.out]
    clear HV
    go_wp2_with fail
    refine HC.out.mono ?_
    rintro e w2 ⟨rfl, kk, rfl⟩
    go_wp2_with fail
    go_ret
    exact ⟨by simp, drewN_below HB.out kk⟩

set_option maxRecDepth 100000 in
set_option maxHeartbeats 4000000 in
theorem refSame_any (c d : Cs) (A : Option Addr) (n k : Nat) (A' : Option Addr) (n' k' : Nat) (B B' : Nat) (w : World) (hr : RdC w B A n c.l) (hr' : RdC w B' A' n' d.l) (hB : B ≤ w.heap.size) (hB' : B' ≤ w.heap.size) (hn : n ≤ 1000) :
    Calls Try.prog 16 #[.agg #[.int .i64 c.ep, .int .i64 c.nx, .slice A n k], .agg #[.int .i64 d.ep, .int .i64 d.nx, .slice A' n' k']] w (BoolPost (decide (c = d)) w) := by
  rw [cs_eq]
  obtain ⟨r, hres⟩ : ∃ r, (decide (c.ep = d.ep) && (decide (c.nx = d.nx) && decide (c.l = d.l))) = r := ⟨_, rfl⟩
  rw [hres]
  obtain ⟨hb, w0, w1⟩ := two_new w 24 24 #[.int .i64 c.ep, .int .i64 c.nx, .slice A n k] #[.int .i64 d.ep, .int .i64 d.nx, .slice A' n' k']
  obtain ⟨V, hV⟩ : ∃ V, (w.alloc (.cells #[.int .i64 c.ep, .int .i64 c.nx, .slice A n k] 24)).alloc (.cells #[.int .i64 d.ep, .int .i64 d.nx, .slice A' n' k'] 24) = V := ⟨_, rfl⟩
  rw [hV] at hb w0 w1
  have HR := Lib.hid (hr.below (hb.mono hB))
  have HR' := Lib.hid (hr'.below (hb.mono hB'))
  have HL := Lib.hid hr.len
  have HL' := Lib.hid hr'.len
  obtain ⟨c0, c1, c2⟩ := cells3 w0
  obtain ⟨d0, d1, d2⟩ := cells3 w1
  have HB := Lib.hid hb
  have HV := Lib.hid hV
  have HRes := Lib.hid hres
  clear hb w0 w1 hV hr hr' hB hB' hres
  by_cases h1 : c.ep = d.ep
  rotate_left
  · have b0 : (c.ep != d.ep) = true := by simp [h1]
    have HF := Lib.hid (show r = false by rw [← HRes.out]; simp [h1])
    clear h1
    go_enter Try.func16, Try.ntmps16
    go_upto_region 1 with fail
    rw [HV.out]
    clear HV
    go_wp2_with fail
    go_ret
    exact ⟨by rw [HF.out]; rfl, HB.out⟩
  by_cases h2 : c.nx = d.nx
  rotate_left
  · have b0 : (c.ep != d.ep) = false := by simp [h1]
    have b1 : (c.nx != d.nx) = true := by simp [h2]
    have HF := Lib.hid (show r = false by rw [← HRes.out]; simp [h2])
    clear h1 h2
    go_enter Try.func16, Try.ntmps16
    go_upto_region 1 with fail
    rw [HV.out]
    clear HV
    go_wp2_with fail
    go_ret
    exact ⟨by rw [HF.out]; rfl, HB.out⟩
  by_cases h3 : n = n'
  rotate_left
  · have b0 : (c.ep != d.ep) = false := by simp [h1]
    have b1 : (c.nx != d.nx) = false := by simp [h2]
    have b2 : ((n : Int) != (n' : Int)) = true := by simp; omega
    have HF := Lib.hid (show r = false by
      rw [← HRes.out]
      have : c.l ≠ d.l := by intro e; have := congrArg List.length e; rw [HL.out, HL'.out] at this; exact h3 this
      simp [this])
    clear h1 h2 h3
    go_enter Try.func16, Try.ntmps16
    go_upto_region 1 with fail
    rw [HV.out]
    clear HV
    go_wp2_with fail
    go_ret
    exact ⟨by rw [HF.out]; rfl, HB.out⟩
  have b0 : (c.ep != d.ep) = false := by simp [h1]
  have b1 : (c.nx != d.nx) = false := by simp [h2]
  have HRl := Lib.hid (show decide (c.l = d.l) = r by rw [← HRes.out]; simp [h1, h2])
  clear h1 h2 HRes
  subst h3
  have b2 : ((n : Int) != (n : Int)) = false := by simp
  go_enter Try.func16, Try.ntmps16
  go_upto_region 1 with fail
  rw [HV.out]
  clear HV
  go_wp2_with fail
  go_loopw [5] (fun i wr => ∃ j : Nat, i = .int .i64 (j : Int) ∧ j ≤ n ∧ c.l.take j = d.l.take j ∧ ∃ k, wr = V.drewN k) (fun i _ => n - (intOf i).toNat)
  case atStart => exact ⟨0, rfl, Nat.zero_le _, rfl, 0, rfl⟩
  case round =>
    obtain ⟨j, rfl, hj, hT, kk, rfl⟩ := hrel
    have HT := Lib.hid hT
    clear hT
    by_cases hlt : j < n
    · obtain ⟨b, off, rfl, _, hc⟩ := RdC.at_ HR.out (by omega)
      obtain ⟨b', off', rfl, _, hc'⟩ := RdC.at_ HR'.out (by omega)
      obtain ⟨x, hx⟩ : ∃ x, c.l[j]? = some x := ⟨_, List.getElem?_eq_getElem (by rw [HL.out]; exact hlt)⟩
      obtain ⟨y, hy⟩ : ∃ y, d.l[j]? = some y := ⟨_, List.getElem?_eq_getElem (by rw [HL'.out]; exact hlt)⟩
      obtain ⟨g0, g1, g2, g3⟩ := hc j x hx
      obtain ⟨q0, q1, q2, q3⟩ := hc' j y hy
      have hI : (j : Int) < (n : Int) := by omega
      have HX := Lib.hid hx
      have HY := Lib.hid hy
      clear hc hc' hx hy
      by_cases hxy : x = y
      · subst hxy
        go_wp2_with fail
        go_quiet (fail)
        go_wp2_with fail
        go_roundw
        case rel => exact ⟨j + 1, by go_num, by omega, take_growF HT.out HX.out HY.out, _, rfl⟩
        case measure => simp [intOf]; omega
      · have hq := fun W => (run_neqCl W x y).trans (by rw [decide_eq_false hxy, Bool.not_false])
        have HF := Lib.hid (show r = false by rw [← HRl.out, decide_eq_false_iff_not]; intro e; have h3 := HX.out; rw [e, HY.out] at h3; exact hxy (Option.some.inj h3).symm)
        clear hxy
        go_wp2_with fail
        go_quiet (fail)
        go_wp2_with fail
        go_ret
        exact ⟨by rw [HF.out]; rfl, drewN_below (drewN_below HB.out _) _⟩
    · have HF := Lib.hid (show r = true by
        rw [← HRl.out, decide_eq_true_eq]
        have h1 := HT.out
        rwa [List.take_of_length_le (by have := HL.out; omega), List.take_of_length_le (by have := HL'.out; omega)] at h1)
      go_wp2_with fail
      go_ret
      exact ⟨by rw [HF.out]; rfl, drewN_below HB.out _⟩

end Go.Proofs.Ytgajnmjifhemgaa
