/-
  The walk of 'Due' of package phase. Conditions: those that each theorem names.
-/
import Derived.Test.YtgjipbhhdiacmaaDoorPhSmall
import Derived.Test.YtgjipbhhdiacmaaDoorWalkAt
import Derived.Deep.DeepCutAuto
namespace Go.Proofs.YtgjipbhhdiacmaaDoor
open Go.RowKit Go.Shelf

def DuePost (x : Kp) (c : Cf) (k : Nat) (now : Int) (w : World) (e : Ending) (w' : World) : Prop :=
  e = .returned (.tuple #[.int .u8 (dueK x c k now : Int), .bool (dueB x c k now)]) ∧ Below w.heap.size w w'

theorem due_post {x : Kp} {c : Cf} {k : Nat} {now : Int} {w W : World} (b : Bool) (K : Nat) (hb : dueB x c k now = b) (hK : dueK x c k now = K) (hB : Below w.heap.size w W) : DuePost x c k now w (.returned (.tuple #[.int .u8 (K : Int), .bool b])) W := ⟨by rw [hb, hK], hB⟩

set_option maxRecDepth 100000 in
set_option maxHeartbeats 2000000 in
theorem due_any (x : Kp) (c : Cf) (k : Nat) (hk : x.phase = (k : Int)) (now : Int) (w : World) : Calls Tryd.prog 8 #[x.v, c.v, .int .i64 now] w (DuePost x c k now w) := by
  obtain ⟨id, tok, ver, zone, phase, since, guard, done⟩ := x
  simp only at hk
  subst hk
  obtain ⟨hb, w0, w1⟩ := two_new w 23 26 (Kp.cells ⟨id, tok, ver, zone, (k : Int), since, guard, done⟩) c.cells
  obtain ⟨V, hV⟩ : ∃ V, (w.alloc (.cells (Kp.cells ⟨id, tok, ver, zone, (k : Int), since, guard, done⟩) 23)).alloc (.cells c.cells 26) = V := ⟨_, rfl⟩
  rw [hV] at hb w0 w1
  have p4 : V.cell? ⟨w.heap.size, 4, none⟩ = some (.int .u8 (k : Int)) := w0.cell 4
  have p5 : V.cell? ⟨w.heap.size, 5, none⟩ = some (.int .i64 since) := w0.cell 5
  have p7 : V.cell? ⟨w.heap.size, 7, none⟩ = some (.bool done) := w0.cell 7
  have q4 : V.cell? ⟨w.heap.size + 1, 4, none⟩ = some (.int .i64 c.f4) := w1.cell 4
  have q5 : V.cell? ⟨w.heap.size + 1, 5, none⟩ = some (.int .i64 c.f5) := w1.cell 5
  have q6 : V.cell? ⟨w.heap.size + 1, 6, none⟩ = some (.int .i64 c.f6) := w1.cell 6
  have q7 : V.cell? ⟨w.heap.size + 1, 7, none⟩ = some (.int .i64 c.f7) := w1.cell 7
  have HB := Lib.hid hb
  have HV := Lib.hid hV
  clear hb w0 w1 hV
  rcases (by omega : k = 1 ∨ k = 2 ∨ k = 6 ∨ k = 7 ∨ (¬ k = 1 ∧ ¬ k = 2 ∧ ¬ k = 6 ∧ ¬ k = 7)) with rfl | rfl | rfl | rfl | ⟨h1, h2, h3, h4⟩
  · go_enter Tryd.func8, Tryd.ntmps8
    go_upto_region 1 with fail
    refine wpV (fun V2 hV2 => ?_)
    obtain rfl : V = V2 := HV.out.symm.trans hV2
    clear HV hV2
    go_wp2_with fail
    go_quiet (fail)
    cases done with
    | true =>
      go_wp2_with fail
      exact bodyPost_ret (v := .tuple #[.int .u8 2, .bool true]) (by simp [results, Tryd.results8, go_sem]) rfl (due_post true 2 (by simp [dueB, waitsP, dueWait, dueDone]) (by simp [dueK, dueB, waitsP, dueWait, dueDone, dueTo]) (below_drewB HB.out _))
    | false =>
      go_wp2_with fail
      refine (past_any since c.f4 now _).mono ?_
      rintro e w2 ⟨rfl, rfl⟩
      cases hd : decide (c.f4 ≤ wrap64 (now - since)) with
      | true =>
        have HD := Lib.hid hd
        clear hd
        go_wp2_with fail
        exact bodyPost_ret (v := .tuple #[.int .u8 2, .bool true]) (by simp [results, Tryd.results8, go_sem]) rfl (due_post true 2 (by simp [dueB, waitsP, dueWait, dueDone, of_decide_eq_true HD.out]) (by simp [dueK, dueB, waitsP, dueWait, dueDone, dueTo, of_decide_eq_true HD.out]) (below_drewB HB.out _))
      | false =>
        have HD := Lib.hid hd
        clear hd
        go_wp2_with fail
        exact bodyPost_ret (v := .tuple #[.int .u8 0, .bool false]) (by simp [results, Tryd.results8, go_sem]) rfl (due_post false 0 (by simp [dueB, waitsP, dueWait, dueDone, of_decide_eq_false HD.out]) (by simp [dueK, dueB, waitsP, dueWait, dueDone, of_decide_eq_false HD.out]) (below_drewB HB.out _))
  · go_enter Tryd.func8, Tryd.ntmps8
    go_upto_region 1 with fail
    refine wpV (fun V2 hV2 => ?_)
    obtain rfl : V = V2 := HV.out.symm.trans hV2
    clear HV hV2
    go_wp2_with fail
    go_quiet (fail)
    go_wp2_with fail
    refine (past_any since c.f6 now _).mono ?_
    rintro e w2 ⟨rfl, rfl⟩
    cases hd : decide (c.f6 ≤ wrap64 (now - since)) with
    | true =>
      have HD := Lib.hid hd
      clear hd
      go_wp2_with fail
      exact bodyPost_ret (v := .tuple #[.int .u8 3, .bool true]) (by simp [results, Tryd.results8, go_sem]) rfl (due_post true 3 (by simp [dueB, waitsP, dueWait, dueDone, of_decide_eq_true HD.out]) (by simp [dueK, dueB, waitsP, dueWait, dueDone, dueTo, of_decide_eq_true HD.out]) (below_drewB HB.out _))
    | false =>
      have HD := Lib.hid hd
      clear hd
      go_wp2_with fail
      exact bodyPost_ret (v := .tuple #[.int .u8 0, .bool false]) (by simp [results, Tryd.results8, go_sem]) rfl (due_post false 0 (by simp [dueB, waitsP, dueWait, dueDone, of_decide_eq_false HD.out]) (by simp [dueK, dueB, waitsP, dueWait, dueDone, of_decide_eq_false HD.out]) (below_drewB HB.out _))
  · go_enter Tryd.func8, Tryd.ntmps8
    go_upto_region 1 with fail
    refine wpV (fun V2 hV2 => ?_)
    obtain rfl : V = V2 := HV.out.symm.trans hV2
    clear HV hV2
    go_wp2_with fail
    go_quiet (fail)
    go_wp2_with fail
    refine (past_any since c.f7 now _).mono ?_
    rintro e w2 ⟨rfl, rfl⟩
    cases hd : decide (c.f7 ≤ wrap64 (now - since)) with
    | true =>
      have HD := Lib.hid hd
      clear hd
      go_wp2_with fail
      exact bodyPost_ret (v := .tuple #[.int .u8 7, .bool true]) (by simp [results, Tryd.results8, go_sem]) rfl (due_post true 7 (by simp [dueB, waitsP, dueWait, dueDone, of_decide_eq_true HD.out]) (by simp [dueK, dueB, waitsP, dueWait, dueDone, dueTo, of_decide_eq_true HD.out]) (below_drewB HB.out _))
    | false =>
      have HD := Lib.hid hd
      clear hd
      go_wp2_with fail
      exact bodyPost_ret (v := .tuple #[.int .u8 0, .bool false]) (by simp [results, Tryd.results8, go_sem]) rfl (due_post false 0 (by simp [dueB, waitsP, dueWait, dueDone, of_decide_eq_false HD.out]) (by simp [dueK, dueB, waitsP, dueWait, dueDone, of_decide_eq_false HD.out]) (below_drewB HB.out _))
  · go_enter Tryd.func8, Tryd.ntmps8
    go_upto_region 1 with fail
    refine wpV (fun V2 hV2 => ?_)
    obtain rfl : V = V2 := HV.out.symm.trans hV2
    clear HV hV2
    go_wp2_with fail
    go_quiet (fail)
    cases done with
    | true =>
      go_wp2_with fail
      exact bodyPost_ret (v := .tuple #[.int .u8 8, .bool true]) (by simp [results, Tryd.results8, go_sem]) rfl (due_post true 8 (by simp [dueB, waitsP, dueWait, dueDone]) (by simp [dueK, dueB, waitsP, dueWait, dueDone, dueTo]) (below_drewB HB.out _))
    | false =>
      go_wp2_with fail
      refine (past_any since c.f5 now _).mono ?_
      rintro e w2 ⟨rfl, rfl⟩
      cases hd : decide (c.f5 ≤ wrap64 (now - since)) with
      | true =>
        have HD := Lib.hid hd
        clear hd
        go_wp2_with fail
        exact bodyPost_ret (v := .tuple #[.int .u8 8, .bool true]) (by simp [results, Tryd.results8, go_sem]) rfl (due_post true 8 (by simp [dueB, waitsP, dueWait, dueDone, of_decide_eq_true HD.out]) (by simp [dueK, dueB, waitsP, dueWait, dueDone, dueTo, of_decide_eq_true HD.out]) (below_drewB HB.out _))
      | false =>
        have HD := Lib.hid hd
        clear hd
        go_wp2_with fail
        exact bodyPost_ret (v := .tuple #[.int .u8 0, .bool false]) (by simp [results, Tryd.results8, go_sem]) rfl (due_post false 0 (by simp [dueB, waitsP, dueWait, dueDone, of_decide_eq_false HD.out]) (by simp [dueK, dueB, waitsP, dueWait, dueDone, of_decide_eq_false HD.out]) (below_drewB HB.out _))
  · go_enter Tryd.func8, Tryd.ntmps8
    go_upto_region 1 with fail
    refine wpV (fun V2 hV2 => ?_)
    obtain rfl : V = V2 := HV.out.symm.trans hV2
    clear HV hV2
    go_wp2_with fail
    exact bodyPost_ret (v := .tuple #[.int .u8 0, .bool false]) (by simp [results, Tryd.results8, go_sem]) rfl (due_post false 0 (by simp [dueB, waitsP, h1, h2, h3, h4]) (by simp [dueK, dueB, waitsP, h1, h2, h3, h4]) HB.out)

end Go.Proofs.YtgjipbhhdiacmaaDoor
