/-
  What the later walks of the statements over brains share: the document's own Find, Token and Same over brains of one's own; a box that is laid. Conditions: those that each theorem names.
-/
import Derived.Test.YtdaimejlcfhfiaaGreatDoorJ23
import Derived.Test.YtdaimejlcfhfiaaGreatDoorJ24
namespace Go.Proofs.YtdaimejlcfhfiaaGreatDoor
open Go.RowKit Go.Shelf

theorem tokO {q : Br} {a : Ad} {id v : Int} {W : World} (h : OwB 0 W q a) (hn : q.its.length ≤ 1000) (e : tokenB q id = v) :
    Calls Tryz.prog 20 #[brV q a, .int .i64 id] W fun e w' => e = .returned (.int .i64 v) ∧ Below W.heap.size W w' := by
  subst e
  exact rtokenB_any q a id W.heap.size W h.reads (Nat.le_refl _) hn
theorem findO {q : Br} {a : Ad} {id v : Int} {W : World} (h : OwB 0 W q a) (hn : q.kps.length ≤ 1000) (e : findB q id = v) :
    Calls Tryz.prog 18 #[brV q a, .int .i64 id] W fun e w' => e = .returned (.int .i64 v) ∧ Below W.heap.size W w' := by
  subst e
  exact rfindB_any q a id W.heap.size W h.reads (Nat.le_refl _) hn
/-- One record taken. -/
theorem apO {p : Br} {a : Ad} {W : World} {z : RE} {q : Br} (hrd : RdB_ W W.heap.size p a) (hz : ReOk W z) (hm : p.cf.ms.length ≤ 1000) (hg : Good 400 p) (hT : Tab W) (hH : TabH W) (e : applyB p (z.k : Int) z.zs = q) :
    Calls Tryz.prog 12 #[brV p a, .agg #[.int .u8 (z.k : Int), .slice z.A z.n z.c]] W (ApPost q W) := by
  subst e
  exact apply_any p a z W.heap.size W hrd (Nat.le_refl _) hz.1 hz.2.1 hz.2.2 hm hg hT hH
/-- Brains held against each other. -/
theorem smO {p q : Br} {a b : Ad} {W : World} {r : Bool} (hp : RdB_ W W.heap.size p a) (hq : RdB_ W W.heap.size q b) (hm : p.cf.ms.length ≤ 1000) (hi : p.its.length ≤ 1000) (hk : p.kps.length ≤ 1000) (e : sameB p q = r) :
    Calls Tryz.prog 11 #[brV p a, brV q b] W (BoolPost r W) := by
  subst e
  exact rsameB_any p q a b W.heap.size W.heap.size W hp hq (Nat.le_refl _) (Nat.le_refl _) hm hi hk
theorem tok_yes {b : Br} {x : It} (h : x ∈ b.its) : 0 ≤ tokenB b x.tok := by
  unfold tokenB
  cases hf : b.its.findIdx? (fun y => decide (y.tok = x.tok)) with
  | some i => exact Int.natCast_nonneg i
  | none =>
    rw [List.findIdx?_eq_none_iff] at hf
    have := hf x h
    simp at this
theorem tok_no {b : Br} {t : Int} (h : ∀ y ∈ b.its, t ≠ y.tok) : tokenB b t = -1 := by
  unfold tokenB
  have hf : b.its.findIdx? (fun y => decide (y.tok = t)) = none := by
    rw [List.findIdx?_eq_none_iff]
    intro y hy
    exact decide_eq_false (fun e => h y hy e.symm)
  rw [hf]
theorem find_yes {b : Br} (h : RightB b) {x : Kp} (hx : x ∈ b.kps) : ∃ i : Nat, findB b x.id = (i : Int) ∧ b.kps[i]? = some x := by
  obtain ⟨i, h1, h2⟩ := find_at h hx
  exact ⟨i, by unfold findB; rw [h1], h2⟩
theorem pw_at {α : Type} {R : α → α → Prop} {l : List α} (h : l.Pairwise R) {i j : Nat} {x y : α} (hij : i < j) (hx : l[i]? = some x) (hy : l[j]? = some y) : R x y := by
  obtain ⟨hi, rfl⟩ := List.getElem?_eq_some_iff.1 hx
  obtain ⟨hj, rfl⟩ := List.getElem?_eq_some_iff.1 hy
  exact List.pairwise_iff_getElem.1 h i j hi hj hij
/-- A brain laid in a new box. -/
theorem newbox {W V : World} {q : Br} {a : Ad} {base : Nat} (hW : W = (V.alloc (.cells (brC br0 ad0) 30)).setRow V.heap.size (brC q a)) (ho : OwB base V q a) :
    Whole W V.heap.size 30 (brC q a) ∧ OwB base W q a ∧ Below V.heap.size V W := by
  have h := Whole.new V 30 (brC br0 ad0)
  have hb := (Below.refl V.heap.size V).alloc (Nat.le_refl _) (.cells (brC br0 ad0) 30)
  rw [hW]
  exact ⟨setRow_heap _ _ _ _ _ _ h, (ho.under hb).rowset h (by decide) (by decide) (by decide) _, below_rowsetB hb (Nat.le_refl _) _⟩
theorem wr1 {j : Nat} (h : j ≤ 1000000) : wrap64 ((j : Int) + 1) = ((j + 1 : Nat) : Int) := by
  unfold wrap64
  omega

end Go.Proofs.YtdaimejlcfhfiaaGreatDoor
