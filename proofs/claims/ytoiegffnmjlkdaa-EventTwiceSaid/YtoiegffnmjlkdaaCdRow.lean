/-
  Rows of boxes in memory: how they read, rows of one's own, appends, equality. Conditions: those that each theorem names.
-/
import Derived.Test.YtoiegffnmjlkdaaCdMath
namespace Go.Proofs.Ytoiegffnmjlkdaa
open Go.RowKit Go.Shelf

/-- The boxes' values, one behind the other. -/
def flat (l : List Bx) : List Value := l.flatMap Bx.vs
set_option maxRecDepth 100000 in
theorem flat_nil : flat [] = [] := rfl
set_option maxRecDepth 100000 in
theorem flat_cons (x : Bx) (l : List Bx) : flat (x :: l) = x.vs ++ flat l := rfl
set_option maxRecDepth 100000 in
theorem flat_append (l m : List Bx) : flat (l ++ m) = flat l ++ flat m := by simp [flat]
set_option maxRecDepth 100000 in
theorem flat_length (l : List Bx) : (flat l).length = l.length * 11 := by
  induction l with
  | nil => rfl
  | cons x l ih => rw [flat_cons, List.length_append, ih, Bx.vs_length, List.length_cons]; omega
set_option maxRecDepth 100000 in
theorem flat_at {l : List Bx} {j : Nat} {x : Bx} (hx : l[j]? = some x) {i : Nat} (hi : i < 11) : (flat l)[j * 11 + i]? = x.vs[i]? := by
  induction l generalizing j with
  | nil => simp at hx
  | cons y l ih =>
    rw [flat_cons]
    cases j with
    | zero =>
      simp at hx
      subst hx
      rw [Nat.zero_mul, Nat.zero_add, List.getElem?_append_left (by rw [Bx.vs_length]; exact hi)]
    | succ j =>
      rw [List.getElem?_append_right (by rw [Bx.vs_length]; omega), Bx.vs_length, show (j + 1) * 11 + i - 11 = j * 11 + i by omega]
      exact ih (by simpa using hx)
set_option maxRecDepth 100000 in
theorem flat_set {l : List Bx} {j : Nat} {x y : Bx} (hx : l[j]? = some x) {i : Nat} (hi : i < 11) {u : Value} (hy : y.vs = x.vs.set i u) : (flat l).set (j * 11 + i) u = flat (l.set j y) := by
  induction l generalizing j with
  | nil => simp at hx
  | cons z l ih =>
    cases j with
    | zero =>
      simp at hx
      subst hx
      rw [Nat.zero_mul, Nat.zero_add, flat_cons, List.set_cons_zero, flat_cons, hy, List.set_append_left _ _ (by rw [Bx.vs_length]; exact hi)]
    | succ j =>
      rw [List.set_cons_succ, flat_cons, flat_cons, List.set_append_right _ _ (by rw [Bx.vs_length]; omega), Bx.vs_length, show (j + 1) * 11 + i - 11 = j * 11 + i by omega, ih (by simpa using hx)]
set_option maxRecDepth 100000 in
theorem vs_one (x : Bx) : ∀ u ∈ x.vs, u.oneCell' = true := by
  intro u hu
  simp only [Bx.vs, List.mem_cons, List.not_mem_nil, or_false] at hu
  rcases hu with rfl | rfl | rfl | rfl | rfl | rfl | rfl | rfl | rfl | rfl | rfl <;> rfl
set_option maxRecDepth 100000 in
theorem flat_one (l : List Bx) : ∀ u ∈ flat l, u.oneCell' = true := by
  intro u hu
  simp only [flat, List.mem_flatMap] at hu
  obtain ⟨x, _, hx⟩ := hu
  exact vs_one x u hx

/-- A box's cells from o on. -/
structure BxAt (w : World) (b o : Nat) (x : Bx) : Prop where
  c0 : w.cell? ⟨b, o, none⟩ = some (.int .i64 x.id)
  c1 : w.cell? ⟨b, o + 1, none⟩ = some (.int .i64 x.tok)
  c2 : w.cell? ⟨b, o + 2, none⟩ = some (.int .i64 x.ver)
  c3 : w.cell? ⟨b, o + 3, none⟩ = some (.int .i64 x.zone)
  c4 : w.cell? ⟨b, o + 4, none⟩ = some (.bool x.tag)
  c5 : w.cell? ⟨b, o + 5, none⟩ = some (.bool x.on)
  c6 : w.cell? ⟨b, o + 6, none⟩ = some (.bool x.gone)
  c7 : w.cell? ⟨b, o + 7, none⟩ = some (.bool x.well)
  c8 : w.cell? ⟨b, o + 8, none⟩ = some (.int .u8 x.lb)
  c9 : w.cell? ⟨b, o + 9, none⟩ = some (.int .i64 x.unt)
  c10 : w.cell? ⟨b, o + 10, none⟩ = some (.int .i64 x.fen)
set_option maxRecDepth 100000 in
theorem bxAt_of {w : World} {b o : Nat} {x : Bx} (h : ∀ i, i < 11 → w.cell? ⟨b, o + i, none⟩ = x.vs[i]?) : BxAt w b o x :=
  ⟨h 0 (by omega), h 1 (by omega), h 2 (by omega), h 3 (by omega), h 4 (by omega), h 5 (by omega), h 6 (by omega), h 7 (by omega), h 8 (by omega), h 9 (by omega), h 10 (by omega)⟩
set_option maxRecDepth 100000 in
theorem BxAt.all {w : World} {b o : Nat} {x : Bx} (h : BxAt w b o x) : ∀ i, i < 11 → w.cell? ⟨b, o + i, none⟩ = x.vs[i]? := by
  intro i hi
  rcases (by omega : i = 0 ∨ i = 1 ∨ i = 2 ∨ i = 3 ∨ i = 4 ∨ i = 5 ∨ i = 6 ∨ i = 7 ∨ i = 8 ∨ i = 9 ∨ i = 10) with rfl | rfl | rfl | rfl | rfl | rfl | rfl | rfl | rfl | rfl | rfl
  all_goals first | exact h.c0 | exact h.c1 | exact h.c2 | exact h.c3 | exact h.c4 | exact h.c5 | exact h.c6 | exact h.c7 | exact h.c8 | exact h.c9 | exact h.c10

/-- A slice of boxes that reads as the list l, in a block below B. -/
def RdX (w : World) (B : Nat) (A : Option Addr) (n : Nat) (l : List Bx) : Prop :=
  l.length = n ∧ (0 < n → ∃ b off, A = some ⟨b, off, none⟩ ∧ b < B ∧ ∀ j x, l[j]? = some x → BxAt w b (off + j * 11) x)
section
variable {w w' : World} {B B' n : Nat} {A : Option Addr} {l : List Bx}
set_option maxRecDepth 100000 in
theorem RdX.len (h : RdX w B A n l) : l.length = n := h.1
set_option maxRecDepth 100000 in
theorem RdX.nil_ (w : World) (B : Nat) (A : Option Addr) : RdX w B A 0 [] := ⟨rfl, fun h => absurd h (by omega)⟩
set_option maxRecDepth 100000 in
theorem RdX.below (h : RdX w B A n l) (hb : Below B w w') : RdX w' B A n l :=
  ⟨h.1, fun hn => by
    obtain ⟨b, off, e, hlt, hc⟩ := h.2 hn
    exact ⟨b, off, e, hlt, fun j x hx => bxAt_of fun i hi => (hb.cell (p := ⟨b, off + j * 11 + i, none⟩) hlt).trans ((hc j x hx).all i hi)⟩⟩
set_option maxRecDepth 100000 in
theorem RdX.more (h : RdX w B A n l) (hB : B ≤ B') : RdX w B' A n l :=
  ⟨h.1, fun hn => by
    obtain ⟨b, off, e, hlt, hc⟩ := h.2 hn
    exact ⟨b, off, e, by omega, hc⟩⟩
set_option maxRecDepth 100000 in
theorem RdX.alloc (h : RdX w B A n l) (hB : B ≤ w.heap.size) (o : Obj) : RdX (w.alloc o) B A n l := h.below ((Below.refl B w).alloc hB o)
set_option maxRecDepth 100000 in
theorem RdX.on (h : RdX w B A n l) (hB : B ≤ w.heap.size) (hb : Below w.heap.size w w') : RdX w' B A n l := h.below (hb.mono hB)
set_option maxRecDepth 100000 in
theorem RdX.of_own {base c : Nat} (h : w.ownsRow base 36 11 (.slice A n c) n (flat l)) : RdX w w.heap.size A n l := by
  have hl : l.length = n := by have := h.1; rw [flat_length] at this; omega
  refine ⟨hl, fun hn => ?_⟩
  obtain ⟨g, cap, hv, _, hlt⟩ := h.form hn
  injection hv with hA _ hc
  subst hA; subst hc
  refine ⟨g, 0, rfl, hlt, fun j x hx => bxAt_of fun i hi => ?_⟩
  have hj : j < l.length := (List.getElem?_eq_some_iff.1 hx).1
  rw [Nat.zero_add, h.cellAt (j * 11 + i) (by omega)]
  exact flat_at hx hi
set_option maxRecDepth 100000 in
theorem RdX.cells {a : Addr} (h : RdX w B (some a) n l) : ∀ j u, (flat l)[j]? = some u → w.cell? (a.add j) = some u := by
  intro j u hu
  have hj : j < l.length * 11 := by rw [← flat_length]; exact (List.getElem?_eq_some_iff.1 hu).1
  obtain ⟨b, off, e, _, hc⟩ := h.2 (by have := h.1; omega)
  injection e with e
  subst e
  have hjl : j / 11 < l.length := by omega
  have hx : l[j / 11]? = some l[j / 11] := List.getElem?_eq_getElem hjl
  have h1 := (hc _ _ hx).all (j % 11) (by omega)
  rw [Addr.add_lit, show off + j = off + j / 11 * 11 + j % 11 by omega, h1, ← flat_at hx (by omega), show j / 11 * 11 + j % 11 = j by omega, hu]
end

set_option maxRecDepth 100000 in
theorem info_bx : (Try.prog.info? 36).map (fun i => (i.zero, i.size, i.bytes)) = some (some (.agg (Bx.vs ⟨0, 0, 0, 0, false, false, false, false, 0, 0, 0⟩).toArray), 11, 56) := by kernel_rfl

set_option maxRecDepth 100000 in
theorem own_formX {w : World} {base : Nat} {e : TypeId} {size n : Nat} {v : Value} {xs : List Value} (h : w.ownsRow base e size v n xs) : ∃ A c, v = .slice A n c := by
  rcases h.2 with ⟨rfl, rfl⟩ | ⟨g, cap, cur, rfl, _⟩
  · exact ⟨_, _, rfl⟩
  · exact ⟨_, _, rfl⟩
set_option maxRecDepth 100000 in
theorem own_underX {w w' : World} {base : Nat} {e : TypeId} {size n : Nat} {v : Value} {xs : List Value} (h : w.ownsRow base e size v n xs) (hb : Below w.heap.size w w') : w'.ownsRow base e size v n xs := own_under h hb

set_option maxRecDepth 100000 in
/-- 'append(v, x...)' at boxes: v of the call's own, x whatever reads. -/
theorem run_appX (w : World) (base : Nat) (v : Value) (n : Nat) (xs : List Value) (hown : w.ownsRow base 36 11 v n xs) (B : Nat) (A : Option Addr) (m c : Nat) (l : List Bx) (hr : RdX w B A m l) (hm : n + m ≤ 140737488351232) (hbt : (n + m) * 56 ≤ 140737488355328) (hbase : base ≤ w.heap.size) :
    ∃ v' w', (Builtin.append_ #[22, 22] 22 #[v, .slice A m c]).run Try.prog w = .ok v' w' ∧ w'.ownsRow base 36 11 v' (n + m) (xs ++ flat l) ∧ w.grownBy w' v.ownBlock := by
  obtain ⟨i0, hi, hz0, hz1, hz2⟩ := info_parts info_bx
  rcases A with _ | ad
  · have hm0 : m = 0 := by
      rcases Nat.eq_zero_or_pos m with h | h
      · exact h
      · obtain ⟨b, off, e, _⟩ := hr.2 h
        cases e
    subst hm0
    have hb : l = [] := List.eq_nil_of_length_eq_zero hr.1
    subst hb
    have ht := Try.underlying22
    refine ⟨v, w, ?_, by simpa [flat] using hown, World.grownBy.refl w _⟩
    rcases hown.2 with ⟨rfl, _⟩ | ⟨g, cap, cur, rfl, _, _, hnc, _⟩
    · simp [Builtin.append_, run_underlying ht, sizeOf, typeInfo, hi, Builtin.lenOf, Builtin.firstCells]
    · simp [Builtin.append_, run_underlying ht, sizeOf, typeInfo, hi, Builtin.lenOf, Builtin.firstCells, hnc, storeCells]
  · obtain ⟨v', w', h1, h2, h3, _⟩ := run_append_own (P := Try.prog) w base 22 22 36 i0 _ 11 56 Try.underlying22 hi hz0 hz1 hz2 rfl (by decide) v n xs hown ad m c (flat l) (by rw [flat_length, hr.1]) hr.cells (flat_one l) (by unfold maxLen; omega) hbt hbase
    exact ⟨v', w', h1, h2, h3⟩

set_option maxRecDepth 100000 in
/-- A literal of one box. -/
theorem rdX_one (W : World) (x : Bx) (b : Nat) (hb : W.heap.size = b) : RdX (W.alloc (.cells #[.int .i64 x.id, .int .i64 x.tok, .int .i64 x.ver, .int .i64 x.zone, .bool x.tag, .bool x.on, .bool x.gone, .bool x.well, .int .u8 x.lb, .int .i64 x.unt, .int .i64 x.fen] 36)) (b + 1) (some ⟨b, 0, none⟩) 1 [x] := by
  subst hb
  refine ⟨rfl, fun _ => ⟨W.heap.size, 0, rfl, by omega, ?_⟩⟩
  rintro (_ | j) y hy
  · simp only [List.getElem?_cons_zero, Option.some.injEq] at hy
    subst hy
    exact bxAt_of fun i hi => by rw [Nat.zero_mul, Nat.add_zero, Nat.zero_add, cell_new]; simp [Bx.vs]
  · simp at hy

end Go.Proofs.Ytoiegffnmjlkdaa
