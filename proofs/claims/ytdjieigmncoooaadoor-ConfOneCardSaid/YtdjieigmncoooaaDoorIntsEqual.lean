/-
  The walk of 'slices.Equal' at integers. Conditions: those that each theorem names.
-/
import Derived.Test.YtdjieigmncoooaaDoorMem
namespace Go.Proofs.YtdjieigmncoooaaDoor
open Go.RowKit Go.Shelf

/-- A bool, and no block that was there turns but by draws. -/
def QuietBool (v : Bool) (w : World) (e : Ending) (w' : World) : Prop := e = .returned (.bool v) ∧ ∃ k, w' = w.drewN k

set_option maxRecDepth 100000 in
theorem take_grow {zs zs' : List Int} {j : Nat} {x : Int} (h : zs.take j = zs'.take j) (h1 : zs[j]? = some x) (h2 : zs'[j]? = some x) : zs.take (j + 1) = zs'.take (j + 1) := by
  have l1 : j < zs.length := (List.getElem?_eq_some_iff.1 h1).1
  have l2 : j < zs'.length := (List.getElem?_eq_some_iff.1 h2).1
  rw [List.take_succ_eq_append_getElem l1, List.take_succ_eq_append_getElem l2, h]
  rw [List.getElem?_eq_getElem l1] at h1
  rw [List.getElem?_eq_getElem l2] at h2
  rw [Option.some.inj h1, Option.some.inj h2]

set_option maxRecDepth 100000 in
set_option maxHeartbeats 1000000 in
theorem equal_any (A A' : Option Addr) (n c n' c' : Nat) (zs zs' : List Int) (B B' : Nat) (w : World) (hr : Rd w B A n (iv zs)) (hr' : Rd w B' A' n' (iv zs')) (hn : n ≤ 1000000) :
    Calls Tryd.prog 29 #[.slice A n c, .slice A' n' c'] w (QuietBool (decide (zs = zs')) w) := by
  have hl : zs.length = n := by have := hr.1; rwa [iv_length] at this
  have hl' : zs'.length = n' := by have := hr'.1; rwa [iv_length] at this
  by_cases hne : n = n'
  · subst hne
    have HR := Lib.hid hr
    have HR' := Lib.hid hr'
    have HL := Lib.hid hl
    have HL' := Lib.hid hl'
    clear hr hr' hl hl'
    go_enter Tryd.func29, Tryd.ntmps29
    go_wp2_with fail
    go_loopw [5, 13] (fun _ i wr => ∃ j : Nat, i = .int .i64 (j : Int) ∧ j ≤ n ∧ zs.take j = zs'.take j ∧ ∃ k, wr = w.drewN k) (fun _ i _ => n - (intOf i).toNat)
    case atStart => exact ⟨0, rfl, Nat.zero_le _, rfl, 0, rfl⟩
    case round =>
      obtain ⟨j, rfl, hj, hT, k, rfl⟩ := hrel
      have HT := Lib.hid hT
      clear hT
      by_cases hlt : j < n
      · obtain ⟨b, off, rfl, _, hc⟩ := HR.out.2 (by omega)
        obtain ⟨b', off', rfl, _, hc'⟩ := HR'.out.2 (by omega)
        have hjl : j < zs.length := by rw [HL.out]; exact hlt
        have hjl' : j < zs'.length := by rw [HL'.out]; exact hlt
        obtain ⟨x, hx⟩ : ∃ x, zs[j]? = some x := ⟨_, List.getElem?_eq_getElem hjl⟩
        obtain ⟨y, hy⟩ : ∃ y, zs'[j]? = some y := ⟨_, List.getElem?_eq_getElem hjl'⟩
        have h1 := hc j hlt
        have h2 := hc' j hlt
        rw [show (iv zs)[j]? = some (.int .i64 x) by simp [iv, hx]] at h1
        rw [show (iv zs')[j]? = some (.int .i64 y) by simp [iv, hy]] at h2
        have hI : (j : Int) < (n : Int) := by omega
        have HX := Lib.hid hx
        have HY := Lib.hid hy
        clear hc hc' hx hy hjl hjl'
        by_cases hxy : x = y
        · subst hxy
          go_wp2_with fail
          go_quiet (fail)
          go_wp2_with fail
          go_roundw
          case rel => exact ⟨j + 1, by go_num, by omega, take_grow HT.out HX.out HY.out, _, rfl⟩
          case measure => simp [intOf]; omega
        · have hb : (x == y) = false := by rw [beq_eq_false_iff_ne]; exact hxy
          have hb2 : (x != y) = true := by simp [bne, hb]
          have HF := Lib.hid (show decide (zs = zs') = false by rw [decide_eq_false_iff_not]; rintro rfl; have h3 := HX.out; rw [HY.out] at h3; exact hxy (Option.some.inj h3).symm)
          clear hxy
          go_wp2_with fail
          go_quiet (fail)
          go_wp2_with fail
          go_ret
          exact ⟨by rw [HF.out]; rfl, _, World.drewN_drewN _ _ _⟩
      · have HF := Lib.hid (show decide (zs = zs') = true by
          rw [decide_eq_true_eq]
          have h1 := HT.out
          rwa [List.take_of_length_le (by have := HL.out; omega), List.take_of_length_le (by have := HL'.out; omega)] at h1)
        go_wp2_with fail
        go_ret
        exact ⟨by rw [HF.out]; rfl, _, rfl⟩
  · have HF := Lib.hid (show decide (zs = zs') = false by rw [decide_eq_false_iff_not]; rintro rfl; omega)
    rw [HF.out]
    have hb : ((n : Int) == (n' : Int)) = false := by rw [beq_eq_false_iff_ne]; omega
    have hb2 : ((n : Int) != (n' : Int)) = true := by simp [bne, hb]
    clear hr hr' hl hl' hne HF
    go_enter Tryd.func29, Tryd.ntmps29
    go_wp2_with fail
    go_ret
    exact ⟨rfl, 0, rfl⟩

end Go.Proofs.YtdjieigmncoooaaDoor
