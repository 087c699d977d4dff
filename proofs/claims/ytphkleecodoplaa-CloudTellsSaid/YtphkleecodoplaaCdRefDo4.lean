/-
  The walk of the document's own 'Do' (layer 8). Conditions: those that each theorem names.
-/
import Derived.Test.YtphkleecodoplaaCdRefOne8
import Derived.Deep.DeepCutAuto
namespace Go.Proofs.Ytphkleecodoplaa
open Go.RowKit Go.Shelf

/-- What is told is laid into the results' boxes. -/
theorem rdo_fin {base g h n c : Nat} {A : Option Addr} {l : List Bx} {fl dr nw a0 a1 a2 a3 : Int} {tg : Bool} {w W : World} (hgh : g ≠ h) (hZ : Whole W g 24 #[.slice none 0 0, .int .i64 0, .int .i64 0, .int .i64 0, .bool false]) (hT : Whole W h 30 #[.int .i64 0, .int .u8 0, .int .u8 0, .int .i64 0, .slice none 0 0, .bool false]) (ho : W.ownsRow base 40 11 (.slice A n c) n (flat l)) (hg1 : ∀ k, (Value.slice A n c).ownBlock = some k → k ≠ g) (hg2 : ∀ k, (Value.slice A n c).ownBlock = some k → k ≠ h) (hb : Below w.heap.size w W) (h1 : w.heap.size ≤ g) (h2 : w.heap.size ≤ h) :
    ∃ W', (((((((((((W.setCell ⟨g, 0, none⟩ (.slice A n c)).setCell ⟨g, 1, none⟩ (.int .i64 fl)).setCell ⟨g, 2, none⟩ (.int .i64 dr)).setCell ⟨g, 3, none⟩ (.int .i64 nw)).setCell ⟨g, 4, none⟩ (.bool tg)).setCell ⟨h, 0, none⟩ (.int .i64 a0)).setCell ⟨h, 1, none⟩ (.int .u8 a1)).setCell ⟨h, 2, none⟩ (.int .u8 a2)).setCell ⟨h, 3, none⟩ (.int .i64 a3)).setCell ⟨h, 4, none⟩ (.slice none 0 0)).setCell ⟨h, 5, none⟩ (.bool false)) = W' ∧ Whole W' g 24 #[.slice A n c, .int .i64 fl, .int .i64 dr, .int .i64 nw, .bool tg] ∧ Whole W' h 30 #[.int .i64 a0, .int .u8 a1, .int .u8 a2, .int .i64 a3, .slice none 0 0, .bool false] ∧ RdX W' W'.heap.size A n l ∧ Below w.heap.size w W' := by
  have k1 := kept5 hZ (.slice A n c) (.int .i64 fl) (.int .i64 dr) (.int .i64 nw) (.bool tg)
  have k2 := kept6 (k1.2.far _ _ _ (Ne.symm hgh) hT) (.int .i64 a0) (.int .u8 a1) (.int .u8 a2) (.int .i64 a3) (.slice none 0 0) (.bool false)
  have o1 := own_off (own_off (own_off (own_off (own_off ho hg1 0 (.slice A n c)) hg1 1 (.int .i64 fl)) hg1 2 (.int .i64 dr)) hg1 3 (.int .i64 nw)) hg1 4 (.bool tg)
  have o2 := own_off (own_off (own_off (own_off (own_off (own_off o1 hg2 0 (.int .i64 a0)) hg2 1 (.int .u8 a1)) hg2 2 (.int .u8 a2)) hg2 3 (.int .i64 a3)) hg2 4 (.slice none 0 0)) hg2 5 (.bool false)
  exact ⟨_, rfl, k2.2.far _ _ _ hgh k1.1, k2.1, RdX.of_own o2, k2.2.bel _ _ h2 (k1.2.bel _ _ h1 hb)⟩

section
variable {l : List Bx} {fl dr nw : Int} {tg : Bool} {n : Nat}
theorem ownO (hn : n ≤ 1000) (W : World) (A : Option Addr) (c : Nat) (hr : RdX W W.heap.size A n l) :
    Calls Try.prog 23 #[.agg #[.slice A n c, .int .i64 fl, .int .i64 dr, .int .i64 nw, .bool tg]] W fun e w' =>
      ∃ A' c', e = .returned (.agg #[.slice A' n c', .int .i64 fl, .int .i64 dr, .int .i64 nw, .bool tg]) ∧ w'.ownsRow W.heap.size 40 11 (.slice A' n c') n (flat l) ∧ Below W.heap.size W w' := by
  refine (refOwn_any A n c ⟨l, fl, dr, nw, tg⟩ W.heap.size W hr (Nat.le_refl _) hn).mono ?_
  rintro e w' ⟨A', c', rfl, h2, h3⟩
  exact ⟨A', c', rfl, h2, h3⟩
end


end Go.Proofs.Ytphkleecodoplaa
