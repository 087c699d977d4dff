/-
  The walk of 'Find' of package phase. Conditions: those that each theorem names.
-/
import Derived.Test.YtgjipbhhdiacmaaDoorPhMath
import Derived.Test.YtgjipbhhdiacmaaDoorKpRow
import Derived.Test.YtgjipbhhdiacmaaDoorWalkAt
namespace Go.Proofs.YtgjipbhhdiacmaaDoor
open Go.RowKit Go.Shelf

def FindPost (v : Int) (w : World) (e : Ending) (w' : World) : Prop := e = .returned (.int .i64 v) ∧ Below w.heap.size w w'

set_option maxRecDepth 100000 in
set_option maxHeartbeats 1000000 in
theorem find_any (A : Option Addr) (n c : Nat) (l : List Kp) (id : Int) (B : Nat) (w : World) (hr : RdK w B A n l) (hB : B ≤ w.heap.size) (hn : n ≤ 1000000) :
    Calls Tryd.prog 14 #[.slice A n c, .int .i64 id] w (FindPost (findP l id) w) := by
  have HR := Lib.hid hr
  have HB := Lib.hid hB
  have HLn := Lib.hid hr.1
  clear hr hB
  go_enter Tryd.func14, Tryd.ntmps14
  go_wp2_with fail
  go_loopw [9] (fun i wr => ∃ j : Nat, i = .int .i64 (j : Int) ∧ j ≤ n ∧ (∀ y ∈ l.take j, ¬ y.id = id) ∧ Below w.heap.size w wr) (fun i _ => n - (intOf i).toNat)
  case atStart => exact ⟨0, rfl, Nat.zero_le _, by simp, Below.refl _ _⟩
  case round =>
    obtain ⟨j, rfl, hj, hT, hb⟩ := hrel
    have HT := Lib.hid hT
    have Hb := Lib.hid hb
    clear hT hb
    by_cases hlt : j < n
    · obtain ⟨b1, off1, rfl, _, hc⟩ := RdK.at_ (HR.out.below (Hb.out.mono HB.out)) (by omega)
      obtain ⟨y, hy⟩ : ∃ y, l[j]? = some y := ⟨_, List.getElem?_eq_getElem (by have := HLn.out; omega)⟩
      obtain ⟨g0, g1, g2, g3, g4, g5, g6, g7⟩ := hc j y hy
      have hI : (j : Int) < (n : Int) := by omega
      have HY := Lib.hid hy
      clear hc hy
      by_cases hyx : y.id = id
      · have HQ := Lib.hid (findP_at HY.out hyx HT.out)
        go_wp2_with fail
        exact bodyPost_ret (v := .int .i64 (j : Int)) (by simp [results, Tryd.results14, go_sem]) rfl ⟨by rw [HQ.out], Hb.out.alloc Hb.out.size _⟩
      · have HN : Hid (∀ z ∈ l.take (j + 1), ¬ z.id = id) := Lib.hid (fun z hz => by
          rw [List.take_succ_eq_append_getElem (List.getElem?_eq_some_iff.1 HY.out).1, (List.getElem?_eq_some_iff.1 HY.out).2, List.mem_append, List.mem_singleton] at hz
          rcases hz with hz | rfl
          · exact HT.out z hz
          · exact hyx)
        go_wp2_with fail
        refine ⟨⟨j + 1, by go_num, by omega, HN.out, Hb.out.alloc Hb.out.size _⟩, ?_⟩
        simp [intOf]; omega
    · have HQ := Lib.hid (findP_none (l := l) (id := id) (by have h1 := HT.out; rwa [List.take_of_length_le (by have := HLn.out; omega)] at h1))
      go_wp2_with fail
      exact bodyPost_ret (v := .int .i64 (-1)) (by simp [results, Tryd.results14, go_sem]) rfl ⟨by rw [HQ.out], Hb.out⟩

end Go.Proofs.YtgjipbhhdiacmaaDoor
