/-
  The walks of the document's own 'gone' and of what it does to one box (layer 8): whether a gone box is there. Conditions: those that each theorem names.
-/
import Derived.Test.YtphkleecodoplaaCdLawKit
import Derived.BigQuiet
namespace Go.Proofs.Ytphkleecodoplaa
open Go.RowKit Go.Shelf

/-- Whether there is a gone box at the place that an id tells. -/
def goneP (l : List Bx) (id : Int) : Bool := decide (1 ≤ id) && (decide (id ≤ (l.length : Int)) && (match l[(id - 1).toNat]? with | some y => y.gone | none => false))

set_option maxRecDepth 100000 in
set_option maxHeartbeats 2000000 in
theorem rgone_any (A : Option Addr) (n c : Nat) (x : Cw) (id : Int) (w : World) (hr : RdX w w.heap.size A n x.l) (hn : n ≤ 1000) :
    Calls Try.prog 43 #[.agg #[.slice A n c, .int .i64 x.fl, .int .i64 x.dr, .int .i64 x.nw, .bool x.tg], .int .i64 id] w (BoolPost (goneP x.l id) w) := by
  have one := whole_one (W := w) (t := 24) (x := #[.slice A n c, .int .i64 x.fl, .int .i64 x.dr, .int .i64 x.nw, .bool x.tg])
  have c0 := one.1.cell 0
  simp only [List.getElem?_toArray, List.getElem?_cons_zero] at c0
  have HB := Lib.hid one.2
  have HR := Lib.hid (hr.up one.2)
  have hl := hr.len
  clear one hr
  by_cases h1 : 1 ≤ id
  · have d1 : decide ((1 : Int) ≤ id) = true := decide_eq_true h1
    by_cases h2 : id ≤ (n : Int)
    · have d2 : decide (id ≤ (n : Int)) = true := decide_eq_true h2
      obtain ⟨k, hk⟩ : ∃ k : Nat, id = (k : Int) + 1 := ⟨(id - 1).toNat, by omega⟩
      obtain ⟨y, hy⟩ : ∃ y, x.l[k]? = some y := ⟨_, List.getElem?_eq_getElem (by omega)⟩
      have HG := Lib.hid (show goneP x.l id = y.gone by
        unfold goneP
        rw [hl, d1, d2, show (id - 1).toNat = k by omega, hy]
        rfl)
      rw [HG.out]
      obtain ⟨b, off, e, _, hc⟩ := HR.out.2 (by omega)
      subst e
      obtain ⟨_, _, _, _, _, _, c6, _, _, _, _⟩ := hc k y hy
      have ew : IntKind.i64.wrap (id - 1) = (k : Int) := by rw [IntWalk.i64_in _ ⟨by omega, by omega⟩]; omega
      have hkI : (k : Int) < (n : Int) := by omega
      clear hc hy HG hk h1 h2 hl
      go_enter Try.func43, Try.ntmps43
      go_wp2_with fail
      go_ret
      exact ⟨rfl, HB.out⟩
    · have d2 : decide (id ≤ (n : Int)) = false := decide_eq_false h2
      have HG := Lib.hid (show goneP x.l id = false by unfold goneP; rw [hl, d2]; simp)
      rw [HG.out]
      clear HG h1 h2 hl
      go_enter Try.func43, Try.ntmps43
      go_wp2_with fail
      go_ret
      exact ⟨rfl, HB.out⟩
  · have d1 : decide ((1 : Int) ≤ id) = false := decide_eq_false h1
    have HG := Lib.hid (show goneP x.l id = false by unfold goneP; rw [d1]; rfl)
    rw [HG.out]
    clear HG h1 hl
    go_enter Try.func43, Try.ntmps43
    go_wp2_with fail
    go_ret
    exact ⟨rfl, HB.out⟩

end Go.Proofs.Ytphkleecodoplaa
