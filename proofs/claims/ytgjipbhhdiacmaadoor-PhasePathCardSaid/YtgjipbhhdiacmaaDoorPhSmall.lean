/-
  The walks of 'past', 'Stands', 'Goes' and 'Name' of package phase. Conditions: those that each theorem names.
-/
import Derived.Test.YtgjipbhhdiacmaaDoorPhMath
import Derived.Test.YtgjipbhhdiacmaaDoorKpRow
namespace Go.Proofs.YtgjipbhhdiacmaaDoor
open Go.RowKit Go.Shelf

set_option maxRecDepth 100000 in
theorem past_any (since wait now : Int) (w : World) : Calls Tryd.prog 15 #[.int .i64 since, .int .i64 wait, .int .i64 now] w fun e w' => e = .returned (.bool (decide (wait ≤ wrap64 (now - since)))) ∧ w' = w := by
  go_enter Tryd.func15, Tryd.ntmps15
  go_wp2_with fail
  go_ret
  exact ⟨rfl, rfl⟩

section
variable {k : Nat}
theorem standsP_out (h : 11 ≤ k) : standsP k = false := by simp [standsP]; omega
theorem goesP_out (h : 11 ≤ k) : goesP k = false := by simp [goesP]; omega
end

set_option maxRecDepth 100000 in
theorem stands_any (k : Nat) (w : World) : Calls Tryd.prog 10 #[.int .u8 (k : Int)] w fun e w' => e = .returned (.bool (standsP k)) ∧ w' = w := by
  rcases Nat.lt_or_ge k 11 with h | h
  · rcases ph_cases h with rfl | rfl | rfl | rfl | rfl | rfl | rfl | rfl | rfl | rfl | rfl
    all_goals
      go_enter Tryd.func10, Tryd.ntmps10
      go_wp2_with fail
      go_ret
      exact ⟨rfl, rfl⟩
  · rw [standsP_out h]
    have h1 : ¬ k = 1 := by omega
    have h2 : ¬ k = 2 := by omega
    have h3 : ¬ k = 3 := by omega
    have h4 : ¬ k = 4 := by omega
    have h5 : ¬ k = 10 := by omega
    clear h
    go_enter Tryd.func10, Tryd.ntmps10
    go_wp2_with fail
    go_ret
    exact ⟨rfl, rfl⟩
set_option maxRecDepth 100000 in
theorem goes_any (k : Nat) (w : World) : Calls Tryd.prog 11 #[.int .u8 (k : Int)] w fun e w' => e = .returned (.bool (goesP k)) ∧ w' = w := by
  rcases Nat.lt_or_ge k 11 with h | h
  · rcases ph_cases h with rfl | rfl | rfl | rfl | rfl | rfl | rfl | rfl | rfl | rfl | rfl
    all_goals
      go_enter Tryd.func11, Tryd.ntmps11
      go_wp2_with fail
      go_ret
      exact ⟨rfl, rfl⟩
  · rw [goesP_out h]
    have h1 : ¬ k = 5 := by omega
    have h2 : ¬ k = 6 := by omega
    have h3 : ¬ k = 7 := by omega
    have h4 : ¬ k = 8 := by omega
    clear h
    go_enter Tryd.func11, Tryd.ntmps11
    go_wp2_with fail
    go_ret
    exact ⟨rfl, rfl⟩

/-- The table of names, as it lies. -/
structure TabN (w : World) : Prop where
  lt : 0 < w.heap.size
  at_ : ∀ k, k < 11 → w.cell? ⟨0, k, none⟩ = some (.string ⟨(nmP k).toArray⟩)
theorem TabN.under {w w' : World} (h : TabN w) (hb : Below w.heap.size w w') : TabN w' :=
  ⟨Nat.lt_of_lt_of_le h.lt hb.size, fun k hk => (hb.cell (p := ⟨0, k, none⟩) h.lt).trans (h.at_ k hk)⟩

set_option maxRecDepth 100000 in
theorem name_any (k : Nat) (w : World) (hT : TabN w) : Calls Tryd.prog 12 #[.int .u8 (k : Int)] w fun e w' => e = .returned (.string ⟨(nmP k).toArray⟩) ∧ w' = w := by
  rcases Nat.lt_or_ge k 11 with h | h
  · have hc := hT.at_ k h
    obtain ⟨s, hs⟩ : ∃ s : ByteArray, ⟨(nmP k).toArray⟩ = s := ⟨_, rfl⟩
    rw [hs] at hc ⊢
    clear hs hT
    go_enter Tryd.func12, Tryd.ntmps12
    go_wp2_with fail
    go_ret
    exact ⟨rfl, rfl⟩
  · rw [nmP_out h]
    go_enter Tryd.func12, Tryd.ntmps12
    go_wp2_with fail
    go_ret
    exact ⟨rfl, rfl⟩

end Go.Proofs.YtgjipbhhdiacmaaDoor
