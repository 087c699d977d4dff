/-
  The walk of the statement PhaseFind. Conditions: those that each theorem names.
-/
import Derived.Test.YtgjipbhhdiacmaaDoorPhWakes
namespace Go.Proofs.YtgjipbhhdiacmaaDoor
open Go.RowKit Go.Shelf

/-- What is asked of one place: its id, and where the answer stands. -/
theorem find_round {l : List Kp} {id : Int} {at_ : Int} {i : Nat} {y : Kp} (hat : findP l id = at_) (hy : l[i]? = some y) :
    (¬ y.id = id ∧ ¬ (i : Int) = at_) ∨ (y.id = id ∧ (i : Int) = at_ ∧ ¬ at_ < 0) ∨ (y.id = id ∧ ¬ at_ < 0 ∧ at_ < (i : Int)) := by
  rcases findP_is l id with ⟨h1, h2⟩ | ⟨j, x, h1, h2, h3, h4⟩
  · left
    have := h2 y (List.mem_of_getElem? hy)
    exact ⟨this, by omega⟩
  · rw [hat] at h4
    subst h4
    rcases Nat.lt_trichotomy i j with h | h | h
    · left
      refine ⟨h3 y ?_, by omega⟩
      exact List.mem_of_getElem? (i := i) (by rw [List.getElem?_take, if_pos h]; exact hy)
    · subst h
      right; left
      rw [hy] at h1
      cases h1
      exact ⟨h2, rfl, by omega⟩
    · by_cases e : y.id = id
      · right; right
        exact ⟨e, by omega, by omega⟩
      · left
        exact ⟨e, by omega⟩

set_option maxRecDepth 100000 in
set_option maxHeartbeats 2000000 in
theorem phaseFind_any (A : Option Addr) (n c : Nat) (l : List Kp) (id : Int) (w : World) (hr : RdK w w.heap.size A n l) (hT : TabN w) :
    Calls Tryd.prog 6 #[.slice A n c, .int .i64 id] w (TruePost w) := by
  have HT := Lib.hid hT
  have HR := Lib.hid hr
  have HLn := Lib.hid hr.1
  clear hr hT
  by_cases hn : n ≤ 60
  rotate_left
  · have hgt : (60 : Int) < (n : Int) := by omega
    go_enter Tryd.func6, Tryd.ntmps6
    go_wp2_with fail
    refine (wakes_any w HT.out).mono ?_
    rintro e w1 ⟨rfl, hb⟩
    go_wp2_with fail
    go_ret
    exact ⟨rfl, hb⟩
  · have hgt : ¬ (60 : Int) < (n : Int) := by omega
    go_enter Tryd.func6, Tryd.ntmps6
    go_wp2_with fail
    refine (find_any A n c l id w.heap.size w HR.out (Nat.le_refl _) (by omega)).mono ?_
    rintro e w1 ⟨rfl, hb1⟩
    obtain ⟨at_, hat⟩ : ∃ z, findP l id = z := ⟨_, rfl⟩
    rw [hat]
    have HA := Lib.hid hat
    have hlo : ¬ at_ < -1 := by
      rcases findP_is l id with ⟨h1, _⟩ | ⟨j, x, _, _, _, h4⟩ <;> omega
    have hhi : at_ < (n : Int) := by
      rcases findP_is l id with ⟨h1, _⟩ | ⟨j, x, h1, _, _, h4⟩
      · omega
      · have := (List.getElem?_eq_some_iff.1 h1).1
        have := HLn.out
        omega
    have HB1 := Lib.hid hb1
    clear hb1 hat
    go_wp2_with fail
    clear hlo hhi
    go_loopw [6] (fun i wr => ∃ j : Nat, i = .int .i64 (j : Int) ∧ j ≤ n ∧ wr = w1) (fun i _ => n - (intOf i).toNat)
    case atStart => exact ⟨0, rfl, Nat.zero_le _, rfl⟩
    case round =>
      obtain ⟨j, rfl, hj, rfl⟩ := hrel
      by_cases hlt : j < n
      · obtain ⟨b1, off1, rfl, _, hc⟩ := RdK.at_ (HR.out.below HB1.out) (by omega)
        obtain ⟨y, hy⟩ : ∃ y, l[j]? = some y := ⟨_, List.getElem?_eq_getElem (by have := HLn.out; omega)⟩
        obtain ⟨g0, g1, g2, g3, g4, g5, g6, g7⟩ := hc j y hy
        have hI : (j : Int) < (n : Int) := by omega
        have hfr := find_round HA.out hy
        clear hc hy g1 g2 g3 g4 g5 g6 g7
        rcases hfr with ⟨h1, h2⟩ | ⟨h1, h2, h3⟩ | ⟨h1, h2, h3⟩
        · go_wp2_with fail
          exact ⟨⟨j + 1, by go_num, by omega, trivial⟩, by simp [intOf]; omega⟩
        · subst h2
          go_wp2_with fail
          exact ⟨⟨j + 1, by go_num, by omega, trivial⟩, by simp [intOf]; omega⟩
        · go_wp2_with fail
          exact ⟨⟨j + 1, by go_num, by omega, trivial⟩, by simp [intOf]; omega⟩
      · go_wp2_with fail
        refine (wakes_any wr (HT.out.under HB1.out)).mono ?_
        rintro e w2 ⟨rfl, hb2⟩
        have HB2 := Lib.hid (HB1.out.trans (hb2.mono HB1.out.size))
        clear hb2
        go_wp2_with fail
        go_ret
        exact ⟨rfl, HB2.out⟩

end Go.Proofs.YtgjipbhhdiacmaaDoor
