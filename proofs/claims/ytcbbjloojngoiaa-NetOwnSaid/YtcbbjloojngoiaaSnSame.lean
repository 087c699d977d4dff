/-
  The walk of the document's own Same at what is shown, whatever stands there. Conditions: those that each theorem names.
-/
import Derived.Test.YtcbbjloojngoiaaPgRow
import Derived.Laws.StructEq
namespace Go.Proofs.Ytcbbjloojngoiaa
open Go.RowKit Go.Shelf

set_option maxRecDepth 100000 in
theorem run_neqSn (w : World) (x y : Sn) : (binOp .neq 51 (.agg #[.int .i64 x.id, .int .i64 x.tok, .int .i64 x.ver, .int .i64 x.zone, .bool x.on, .bool x.well, .bool x.inn]) (.agg #[.int .i64 y.id, .int .i64 y.tok, .int .i64 y.ver, .int .i64 y.zone, .bool y.on, .bool y.well, .bool y.inn])).run Try.prog w = .ok (.bool (!decide (x = y))) w := by
  go_simp
  by_cases h : x = y
  · subst h; simp
  · rw [decide_eq_false h]
    repeat' (first | rfl | split)
    exfalso
    apply h
    cases x
    cases y
    simp_all

set_option maxRecDepth 100000 in
theorem take_growF {α : Type} {l l' : List α} {j : Nat} {x : α} (h : l.take j = l'.take j) (h1 : l[j]? = some x) (h2 : l'[j]? = some x) : l.take (j + 1) = l'.take (j + 1) := by
  have l1 : j < l.length := (List.getElem?_eq_some_iff.1 h1).1
  have l2 : j < l'.length := (List.getElem?_eq_some_iff.1 h2).1
  rw [List.take_succ_eq_append_getElem l1, List.take_succ_eq_append_getElem l2, h]
  rw [List.getElem?_eq_getElem l1] at h1
  rw [List.getElem?_eq_getElem l2] at h2
  rw [Option.some.inj h1, Option.some.inj h2]

def QYes (v : Bool) (w : World) (e : Ending) (w' : World) : Prop := e = .returned (.bool v) ∧ ∃ k, w' = w.drewN k

set_option maxRecDepth 100000 in
set_option maxHeartbeats 2000000 in
theorem sameSn_any (A A' : Option Addr) (n c n' c' : Nat) (l l' : List Sn) (B B' : Nat) (w : World) (hr : RdSn w B A n l) (hr' : RdSn w B' A' n' l') (hn : n ≤ 1000) :
    Calls Try.prog 25 #[.slice A n c, .slice A' n' c'] w (QYes (decide (l = l')) w) := by
  have hl := hr.len
  have hl' := hr'.len
  by_cases hne : n = n'
  · subst hne
    have HR := Lib.hid hr
    have HR' := Lib.hid hr'
    have HL := Lib.hid hl
    have HL' := Lib.hid hl'
    clear hr hr' hl hl'
    go_enter Try.func25, Try.ntmps25
    go_wp2_with fail
    go_loopw [5] (fun i wr => ∃ j : Nat, i = .int .i64 (j : Int) ∧ j ≤ n ∧ l.take j = l'.take j ∧ ∃ k, wr = w.drewN k) (fun i _ => n - (intOf i).toNat)
    case atStart => exact ⟨0, rfl, Nat.zero_le _, rfl, 0, rfl⟩
    case round =>
      obtain ⟨j, rfl, hj, hT, k, rfl⟩ := hrel
      have HT := Lib.hid hT
      clear hT
      by_cases hlt : j < n
      · obtain ⟨b, off, rfl, _, hc⟩ := HR.out.2 (by omega)
        obtain ⟨b', off', rfl, _, hc'⟩ := HR'.out.2 (by omega)
        obtain ⟨x, hx⟩ : ∃ x, l[j]? = some x := ⟨_, List.getElem?_eq_getElem (by rw [HL.out]; exact hlt)⟩
        obtain ⟨y, hy⟩ : ∃ y, l'[j]? = some y := ⟨_, List.getElem?_eq_getElem (by rw [HL'.out]; exact hlt)⟩
        obtain ⟨c0, c1, c2, c3, c4, c5, c6⟩ := hc j x hx
        obtain ⟨d0, d1, d2, d3, d4, d5, d6⟩ := hc' j y hy
        have hI : (j : Int) < (n : Int) := by omega
        have HX := Lib.hid hx
        have HY := Lib.hid hy
        clear hc hc' hx hy
        by_cases hxy : x = y
        · subst hxy
          go_wp2_with fail
          go_quiet (fail)
          go_wp2_with fail
          go_roundw
          case rel => exact ⟨j + 1, by go_num, by omega, take_growF HT.out HX.out HY.out, _, rfl⟩
          case measure => simp [intOf]; omega
        · have hq := fun W => (run_neqSn W x y).trans (by rw [decide_eq_false hxy, Bool.not_false])
          have HF := Lib.hid (show decide (l = l') = false by rw [decide_eq_false_iff_not]; rintro rfl; have h3 := HX.out; rw [HY.out] at h3; exact hxy (Option.some.inj h3).symm)
          clear hxy
          go_wp2_with fail
          go_quiet (fail)
          go_wp2_with fail
          go_ret
          exact ⟨by rw [HF.out]; rfl, _, World.drewN_drewN _ _ _⟩
      · have HF := Lib.hid (show decide (l = l') = true by
          rw [decide_eq_true_eq]
          have h1 := HT.out
          rwa [List.take_of_length_le (by have := HL.out; omega), List.take_of_length_le (by have := HL'.out; omega)] at h1)
        go_wp2_with fail
        go_ret
        exact ⟨by rw [HF.out]; rfl, _, rfl⟩
  · have HF := Lib.hid (show decide (l = l') = false by rw [decide_eq_false_iff_not]; rintro rfl; omega)
    rw [HF.out]
    have hb : ((n : Int) == (n' : Int)) = false := by rw [beq_eq_false_iff_ne]; omega
    have hb2 : ((n : Int) != (n' : Int)) = true := by simp [bne, hb]
    clear hr hr' hl hl' hne HF
    go_enter Try.func25, Try.ntmps25
    go_wp2_with fail
    go_ret
    exact ⟨rfl, 0, rfl⟩

end Go.Proofs.Ytcbbjloojngoiaa
