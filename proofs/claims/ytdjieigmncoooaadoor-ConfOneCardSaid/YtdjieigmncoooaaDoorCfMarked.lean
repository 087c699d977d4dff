/-
  The walk of 'marked' of package conf. Conditions: those that each theorem names.
-/
import Derived.Test.YtdjieigmncoooaaDoorCfMath
namespace Go.Proofs.YtdjieigmncoooaaDoor
open Go.RowKit Go.Shelf

set_option maxRecDepth 100000 in
theorem upB_last {m last : Int} {r : List Int} (h : m ≤ last) : upB last (m :: r) = false := by simp [upB, show ¬ last < m by omega]
set_option maxRecDepth 100000 in
theorem upB_big {m last : Int} {r : List Int} (h : 100 < m) : upB last (m :: r) = false := by simp [upB, show ¬ m ≤ 100 by omega]
set_option maxRecDepth 100000 in
theorem upB_next {m last : Int} {r : List Int} (h : last < m) (h1 : m ≤ 100) : upB last (m :: r) = upB m r := by simp [upB, h, h1]

/-- Where the run stands at the label. -/
def BadMarks (w : World) (A : Option Addr) (n c : Nat) (l : List Int) (a' : Act) (W : World) : Prop :=
  ∃ (u1 u2 u3 u4 u5 u6 u7 u8 u9 u10 u11 u12 u13 u14 u15 u16 u17 u18 u19 u20 u21 u22 u23 : Value), a' = { tmps := #[.slice A n c, u1, u2, u3, u4, u5, u6, u7, u8, u9, u10, u11, u12, u13, u14, u15, u16, u17, u18, u19, u20, u21, u22, u23], defers := [] } ∧ marksB l = false ∧ W = w

set_option maxRecDepth 100000 in
set_option maxHeartbeats 1000000 in
theorem marked_any (A : Option Addr) (n c : Nat) (l : List Int) (B : Nat) (w : World) (hr : Rd w B A n (iv l)) : Calls Tryd.prog 30 #[.slice A n c] w fun e w' => e = .returned (.bool (marksB l)) ∧ w' = w := by
  have hl : l.length = n := by have := hr.1; rwa [iv_length] at this
  have HR := Lib.hid hr
  have HL := Lib.hid hl
  clear hr hl
  go_enter Tryd.func30, Tryd.ntmps30
  go_wp2_with fail
  refine wp_scope_fwd 0 (BadMarks w A n c l) rfl ?first ?tail
  case tail =>
    rintro a' w' ⟨u1, u2, u3, u4, u5, u6, u7, u8, u9, u10, u11, u12, u13, u14, u15, u16, u17, u18, u19, u20, u21, u22, u23, rfl, hb, rfl⟩
    have HB := Lib.hid hb
    clear hb
    go_wp2_with fail
    simp only [Exit.jump]
    refine bodyPost_ret (v := .bool false) (by simp [results, Tryd.results30]) rfl ⟨by rw [HB.out], rfl⟩
  case first =>
    by_cases h4 : n ≤ 4
    · have h4i : ¬ (4 : Int) < (n : Int) := by omega
      go_wp2_with fail
      go_loopw [3, 5, 11] (fun la _ i wr => ∃ (j : Nat) (last : Int) (rest : List Int), i = .int .i64 (j : Int) ∧ la = .int .i64 last ∧ j ≤ n ∧ rest = l.drop j ∧ upB 0 l = upB last rest ∧ wr = w) (fun _ _ i _ => n - (intOf i).toNat)
      case atStart => exact ⟨0, 0, l, rfl, rfl, Nat.zero_le _, rfl, rfl, rfl⟩
      case round =>
        obtain ⟨j, last, rest, rfl, rfl, hj, hrest, hup, rfl⟩ := hrel
        have HU := Lib.hid hup
        have HRs := Lib.hid hrest
        have h4m : Hid (marksB l = upB 0 l) := by unfold marksB; rw [decide_eq_true (by rw [HL.out]; exact h4)]; rfl
        clear hup hrest
        by_cases hlt : j < n
        · have hji : (j : Int) < (n : Int) := by omega
          obtain ⟨b, off, rfl, _, hc⟩ := HR.out.2 (by omega)
          have hjl : j < l.length := by rw [HL.out]; exact hlt
          obtain ⟨x, hx⟩ : ∃ x, l[j]? = some x := ⟨_, List.getElem?_eq_getElem hjl⟩
          have hcell := hc j hlt
          rw [show (iv l)[j]? = some (.int .i64 x) by simp [iv, hx]] at hcell
          have hd : l.drop j = x :: l.drop (j + 1) := by
            rw [List.drop_eq_getElem_cons hjl]
            rw [List.getElem?_eq_getElem hjl] at hx
            rw [Option.some.inj hx]
          have HD := Lib.hid (HRs.out.trans hd)
          clear hc hx hd
          by_cases h1 : x ≤ last
          · have HM : Hid (marksB l = false) := Lib.hid (by rw [h4m.out, HU.out, HD.out, upB_last h1])
            go_wp2_with fail
            refine wp_goto ⟨rfl, _, _, _, _, _, _, _, _, _, _, _, _, _, _, _, _, _, _, _, _, _, _, _, rfl, HM.out, rfl⟩
          · by_cases h2 : 100 < x
            · have HM : Hid (marksB l = false) := Lib.hid (by rw [h4m.out, HU.out, HD.out, upB_big h2])
              go_wp2_with fail
              refine wp_goto ⟨rfl, _, _, _, _, _, _, _, _, _, _, _, _, _, _, _, _, _, _, _, _, _, _, _, rfl, HM.out, rfl⟩
            · have HN := Lib.hid (HU.out.trans ((congrArg (upB last) HD.out).trans (upB_next (r := l.drop (j + 1)) (show last < x by omega) (show x ≤ 100 by omega))))
              go_wp2_with fail
              go_roundw
              case rel => exact ⟨j + 1, x, _, by go_num, rfl, by omega, rfl, HN.out, by simp⟩
              case measure => simp [intOf]; omega
        · have hji : ¬ (j : Int) < (n : Int) := by omega
          have HM : Hid (marksB l = true) := by
            rw [h4m.out, HU.out, HRs.out, List.drop_of_length_le (by rw [HL.out]; omega)]; rfl
          go_wp2_with fail
          simp only [Exit.jump]
          refine bodyPost_ret (v := .bool true) (by simp [results, Tryd.results30]) rfl ⟨by rw [HM.out], rfl⟩
    · have h4i : (4 : Int) < (n : Int) := by omega
      have HM : Hid (marksB l = false) := by unfold marksB; rw [decide_eq_false (by rw [HL.out]; exact h4)]; rfl
      go_wp2_with fail
      refine wp_goto ⟨rfl, _, _, _, _, _, _, _, _, _, _, _, _, _, _, _, _, _, _, _, _, _, _, _, rfl, HM.out, rfl⟩

end Go.Proofs.YtdjieigmncoooaaDoor
