/-
  The walk of the document's own Same at what is shown, where both are the same. Conditions: those that each theorem names.
-/
import Derived.Test.YtdoaakohgmohkaaPgRow
import Derived.Test.YtdoaakohgmohkaaCdH
namespace Go.Proofs.Ytdoaakohgmohkaa
open Go.RowKit Go.Shelf

set_option maxRecDepth 100000 in
set_option maxHeartbeats 2000000 in
theorem same_yes (A A' : Option Addr) (n c c' : Nat) (l : List Sn) (w : World) (hr : RdSn w w.heap.size A n l) (hr' : RdSn w w.heap.size A' n l) (hn : n ≤ 1000) :
    Calls Try.prog 13 #[.slice A n c, .slice A' n c'] w (BoolPost true w) := by
  have HX := Lib.hid hr
  have HY := Lib.hid hr'
  have HB := Lib.hid (Below.refl w.heap.size w)
  clear hr hr'
  go_enter Try.func13, Try.ntmps13
  go_wp2_with fail
  go_loopw [5] (fun i wr => ∃ j : Nat, i = .int .i64 (j : Int) ∧ j ≤ n ∧ ∃ k, wr = w.drewN k) (fun i _ => n - (intOf i).toNat)
  case atStart => exact ⟨0, rfl, Nat.zero_le _, 0, rfl⟩
  case round =>
    obtain ⟨j, rfl, hj, k, rfl⟩ := hrel
    by_cases hlt : j < n
    · obtain ⟨b, off, rfl, _, hc⟩ := HX.out.2 (by omega)
      obtain ⟨b', off', rfl, _, hc'⟩ := HY.out.2 (by omega)
      obtain ⟨u, hu⟩ : ∃ u, l[j]? = some u := ⟨_, List.getElem?_eq_getElem (by rw [HX.out.1]; exact hlt)⟩
      obtain ⟨c0, c1, c2, c3, c4, c5, c6⟩ := hc j u hu
      obtain ⟨d0, d1, d2, d3, d4, d5, d6⟩ := hc' j u hu
      have hI : (j : Int) < (n : Int) := by omega
      clear hc hc' hu
      go_wp2_with fail
      go_quiet (fail)
      go_wp2_with fail
      go_roundw
      case rel => exact ⟨j + 1, by go_num, by omega, _, rfl⟩
      case measure => simp [intOf]; omega
    · go_wp2_with fail
      go_ret
      exact ⟨rfl, below_drewN HB.out _⟩

end Go.Proofs.Ytdoaakohgmohkaa
