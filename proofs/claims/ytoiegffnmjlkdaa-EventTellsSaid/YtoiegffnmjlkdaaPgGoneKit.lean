/-
  A cloud in its box, its boxes in a row of its own that came ahead of it: a box of it laid anew. Conditions: those that each theorem names.
-/
import Derived.Test.YtoiegffnmjlkdaaCdKit
import Derived.Test.YtoiegffnmjlkdaaPgGone
import Derived.Test.YtoiegffnmjlkdaaHand
namespace Go.Proofs.Ytoiegffnmjlkdaa
open Go.RowKit Go.Shelf

/-- A cloud in box Db, its boxes in a row of its own. -/
structure DIn (W : World) (base Db g n c : Nat) (x : Cw) : Prop where
  box : Whole W Db 24 #[.slice (some ⟨g, 0, none⟩) n c, .int .i64 x.fl, .int .i64 x.dr, .int .i64 x.nw, .bool x.tg]
  row : W.ownsRow base 36 11 (.slice (some ⟨g, 0, none⟩) n c) n (flat x.l)
  ne : Db ≠ g
  lb : base ≤ g
  pos : 0 < n
section
variable {W W' : World} {base Db g n c : Nat} {x : Cw}
theorem DIn.under (h : DIn W base Db g n c x) (hb : Below W.heap.size W W') : DIn W' base Db g n c x := ⟨h.box.under hb, own_under h.row hb, h.ne, h.lb, h.pos⟩
theorem DIn.rd (h : DIn W base Db g n c x) : RdX W W.heap.size (some ⟨g, 0, none⟩) n x.l := RdX.of_own h.row
theorem DIn.set (h : DIn W base Db g n c x) {j : Nat} {y : Bx} (hx : x.l[j]? = some y) {i : Nat} (hi : i < 11) {u : Value} {y' : Bx} (hy : y'.vs = y.vs.set i u) :
    DIn (W.setCell ⟨g, j * 11 + i, none⟩ u) base Db g n c { x with l := x.l.set j y' } := by
  have hs := h.row.stored (j * 11 + i) u
  rw [flat_set hx hi hy] at hs
  exact ⟨h.box.far (p := ⟨g, j * 11 + i, none⟩) h.ne u, hs.1, h.ne, h.lb, h.pos⟩
theorem DIn.at_ (h : DIn W base Db g n c x) {j : Nat} {y : Bx} (hx : x.l[j]? = some y) : BxAt W g (j * 11) y := by
  have hj : j < x.l.length := (List.getElem?_eq_some_iff.1 hx).1
  have hl := h.rd.len
  exact bxAt_of fun i hi => by rw [h.row.cellAt (j * 11 + i) (by omega)]; exact flat_at hx hi
theorem DIn.frz (h : DIn W base Db g n c x) (k : Nat) : W.frozen? ⟨g, k, none⟩ = false := h.row.frozenAt k
/-- Its floor, its time, whether it is tight, laid anew. -/
theorem DIn.put (h : DIn W base Db g n c x) (F N : Int) (t : Bool) : DIn (((W.setCell ⟨Db, 1, none⟩ (.int .i64 F)).setCell ⟨Db, 3, none⟩ (.int .i64 N)).setCell ⟨Db, 4, none⟩ (.bool t)) base Db g n c { x with fl := F, nw := N, tg := t } := by
  have hne : ∀ (W : World), W.ownsRow base 36 11 (.slice (some ⟨g, 0, none⟩) n c) n (flat x.l) → ∀ (i : Nat) (v : Value), (W.setCell ⟨Db, i, none⟩ v).ownsRow base 36 11 (.slice (some ⟨g, 0, none⟩) n c) n (flat x.l) := fun W hW i v =>
    ownsRow_setCell_other (a := ⟨Db, i, none⟩) hW (by simp only [Value.ownBlock, ne_eq, Option.some.injEq]; exact fun e => h.ne e.symm) v
  exact ⟨((h.box.set 1 _).set 3 _).set 4 _, hne _ (hne _ (hne _ h.row 1 _) 3 _) 4 _, h.ne, h.lb, h.pos⟩
theorem DIn.cell0 (h : DIn W base Db g n c x) : W.cell? ⟨Db, 0, none⟩ = some (.slice (some ⟨g, 0, none⟩) n c) := h.box.cell 0
end
/-- A row of one's own that is not empty lies in a block. -/
theorem own_block {w : World} {base : Nat} {A : Option Addr} {n c : Nat} {xs : List Value} {e : TypeId} {s : Nat} (h : w.ownsRow base e s (.slice A n c) n xs) (hn : 0 < n) : ∃ g, A = some ⟨g, 0, none⟩ ∧ base ≤ g ∧ g < w.heap.size := by
  obtain ⟨g, cap, hv, hb, hlt⟩ := h.form hn
  injection hv with hA _ hc
  rcases h.2 with ⟨h1, h2⟩ | ⟨g', cap', cur, h1, h3, _, h4, _⟩
  · omega
  · injection h1 with e1 _ e2
    rw [hA] at e1
    injection e1 with e1
    injection e1 with e1 _ _
    subst e1
    exact ⟨_, hA, h3, hlt⟩
/-- The document's own Own, its boxes in a row of its own. -/
theorem rownL {x : Cw} {n : Nat} (hn : n ≤ 1000) (h0 : 0 < n) (W : World) (A : Option Addr) (c : Nat) (hr : RdX W W.heap.size A n x.l) :
    Calls Try.prog 18 #[.agg #[.slice A n c, .int .i64 x.fl, .int .i64 x.dr, .int .i64 x.nw, .bool x.tg]] W fun e w' =>
      ∃ g c', e = .returned (.agg #[.slice (some ⟨g, 0, none⟩) n c', .int .i64 x.fl, .int .i64 x.dr, .int .i64 x.nw, .bool x.tg]) ∧ W.heap.size ≤ g ∧ g < w'.heap.size ∧ w'.ownsRow W.heap.size 36 11 (.slice (some ⟨g, 0, none⟩) n c') n (flat x.l) ∧ Below W.heap.size W w' := by
  refine (refOwn_any A n c x W.heap.size W hr (Nat.le_refl _) hn).mono ?_
  rintro e w' ⟨A', c', rfl, h2, h3⟩
  obtain ⟨g, rfl, h4, h5⟩ := own_block h2 h0
  exact ⟨g, c', rfl, h4, h5, h2, h3⟩

end Go.Proofs.Ytoiegffnmjlkdaa
