/-
  The walk of the document's own 'box' (layer 8). Conditions: those that each theorem names.
-/
import Derived.Test.YtoiegffnmjlkdaaCdRef
namespace Go.Proofs.Ytoiegffnmjlkdaa
open Go.RowKit Go.Shelf

def rboxB (x : Bx) (k : Nat) : Bool := (x.id == (k : Int) + 1) && sound x

set_option maxRecDepth 100000 in
set_option maxHeartbeats 4000000 in
theorem rbox_any (x : Bx) (k : Nat) (hk : k < 1000) (w : World) : Calls Try.prog 27 #[.agg #[.int .i64 x.id, .int .i64 x.tok, .int .i64 x.ver, .int .i64 x.zone, .bool x.tag, .bool x.on, .bool x.gone, .bool x.well, .int .u8 x.lb, .int .i64 x.unt, .int .i64 x.fen], .int .i64 (k : Int)] w (BoolPost (rboxB x k) w) := by
  obtain ⟨id, tok, ver, zone, tag, on, gone, well, lb, unt, fen⟩ := x
  have hki : (k : Int) < 1000 := by omega
  have HB := Lib.hid ((Below.refl _ w).alloc (Nat.le_refl _) (.cells #[.int .i64 id, .int .i64 tok, .int .i64 ver, .int .i64 zone, .bool tag, .bool on, .bool gone, .bool well, .int .u8 lb, .int .i64 unt, .int .i64 fen] 36))
  have HS : Hid (rboxB ⟨id, tok, ver, zone, tag, on, gone, well, lb, unt, fen⟩ k = ((id == (k : Int) + 1) && (isNum tok && (isNum ver && (isNum zone && (decide (lb ≤ 2) && ((on || (lb == 0)) && !(on && gone)))))))) := Lib.hid (by simp only [rboxB, sound, Bool.and_assoc])
  have H1 := Lib.hid (fun W => rnumber_any tok W)
  have H2 := Lib.hid (fun W => rnumber_any ver W)
  have H3 := Lib.hid (fun W => rnumber_any zone W)
  rw [HS.out]
  simp only
  clear HS
  by_cases h0 : id = (k : Int) + 1
  rotate_left
  ·
    have b0 : (id == (k : Int) + 1) = false := by rw [beq_eq_false_iff_ne]; exact h0
    have b1 : (id != (k : Int) + 1) = true := by simp [bne, b0]
    rw [b0]
    clear h0
    go_enter Try.func27, Try.ntmps27
    go_wp2_with fail
    go_ret
    exact ⟨rfl, HB.out⟩
  have b0 : (id == (k : Int) + 1) = true := by rw [beq_iff_eq]; exact h0
  have b1 : (id != (k : Int) + 1) = false := by simp [bne, b0]
  rw [b0]
  clear h0
  cases hn1 : isNum tok with
  | false =>
    rw [hn1] at H1
    go_enter Try.func27, Try.ntmps27
    go_wp2_with fail
    refine (H1.out _).mono ?_
    rintro e w1 ⟨rfl, rfl⟩
    go_wp2_with fail
    go_ret
    exact ⟨rfl, HB.out⟩
  | true =>
    rw [hn1] at H1
    clear hn1
    cases hn2 : isNum ver with
    | false =>
      rw [hn2] at H2
      go_enter Try.func27, Try.ntmps27
      go_wp2_with fail
      refine (H1.out _).mono ?_
      rintro e w1 ⟨rfl, rfl⟩
      go_wp2_with fail
      refine (H2.out _).mono ?_
      rintro e w1 ⟨rfl, rfl⟩
      go_wp2_with fail
      go_ret
      exact ⟨rfl, HB.out⟩
    | true =>
      rw [hn2] at H2
      clear hn2
      cases hn3 : isNum zone with
      | false =>
        rw [hn3] at H3
        go_enter Try.func27, Try.ntmps27
        go_wp2_with fail
        refine (H1.out _).mono ?_
        rintro e w1 ⟨rfl, rfl⟩
        go_wp2_with fail
        refine (H2.out _).mono ?_
        rintro e w1 ⟨rfl, rfl⟩
        go_wp2_with fail
        refine (H3.out _).mono ?_
        rintro e w1 ⟨rfl, rfl⟩
        go_wp2_with fail
        go_ret
        exact ⟨rfl, HB.out⟩
      | true =>
        rw [hn3] at H3
        clear hn3
        by_cases hl : lb ≤ 2
        rotate_left
        ·
          have b2 : decide (lb ≤ 2) = false := decide_eq_false hl
          have b3 : decide (2 < lb) = true := decide_eq_true (by omega)
          rw [b2]
          go_enter Try.func27, Try.ntmps27
          go_wp2_with fail
          refine (H1.out _).mono ?_
          rintro e w1 ⟨rfl, rfl⟩
          go_wp2_with fail
          refine (H2.out _).mono ?_
          rintro e w1 ⟨rfl, rfl⟩
          go_wp2_with fail
          refine (H3.out _).mono ?_
          rintro e w1 ⟨rfl, rfl⟩
          go_wp2_with fail
          go_ret
          exact ⟨rfl, HB.out⟩
        have b2 : decide (lb ≤ 2) = true := decide_eq_true hl
        have b3 : decide (2 < lb) = false := decide_eq_false (by omega)
        rw [b2]
        clear hl
        cases on with
        | true =>
          cases gone
          all_goals
            go_enter Try.func27, Try.ntmps27
            go_wp2_with fail
            refine (H1.out _).mono ?_
            rintro e w1 ⟨rfl, rfl⟩
            go_wp2_with fail
            refine (H2.out _).mono ?_
            rintro e w1 ⟨rfl, rfl⟩
            go_wp2_with fail
            refine (H3.out _).mono ?_
            rintro e w1 ⟨rfl, rfl⟩
            go_wp2_with fail
            go_ret
            exact ⟨rfl, HB.out⟩
        | false =>
          by_cases hz : lb = 0
          ·
            have b4 : (lb == 0) = true := by simp [hz]
            have b5 : (lb != 0) = false := by simp [bne, b4]
            rw [b4]
            clear hz
            cases gone
            all_goals
              go_enter Try.func27, Try.ntmps27
              go_wp2_with fail
              refine (H1.out _).mono ?_
              rintro e w1 ⟨rfl, rfl⟩
              go_wp2_with fail
              refine (H2.out _).mono ?_
              rintro e w1 ⟨rfl, rfl⟩
              go_wp2_with fail
              refine (H3.out _).mono ?_
              rintro e w1 ⟨rfl, rfl⟩
              go_wp2_with fail
              go_ret
              exact ⟨rfl, HB.out⟩
          ·
            have b4 : (lb == 0) = false := by simp [hz]
            have b5 : (lb != 0) = true := by simp [bne, b4]
            rw [b4]
            clear hz
            cases gone
            all_goals
              go_enter Try.func27, Try.ntmps27
              go_wp2_with fail
              refine (H1.out _).mono ?_
              rintro e w1 ⟨rfl, rfl⟩
              go_wp2_with fail
              refine (H2.out _).mono ?_
              rintro e w1 ⟨rfl, rfl⟩
              go_wp2_with fail
              refine (H3.out _).mono ?_
              rintro e w1 ⟨rfl, rfl⟩
              go_wp2_with fail
              go_ret
              exact ⟨rfl, HB.out⟩

end Go.Proofs.Ytoiegffnmjlkdaa
