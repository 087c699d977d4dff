/-
  Rows of what is shown, in memory: how they read, rows of one's own, appends. Conditions: those that each theorem names.
-/
import Derived.Test.YtcbbjloojngoiaaSnMath
namespace Go.Proofs.Ytcbbjloojngoiaa
open Go.RowKit Go.Shelf

set_option maxRecDepth 100000 in
theorem Sn.vs_length (x : Sn) : x.vs.length = 7 := rfl
/-- The values, one behind the other. -/
def flatN (l : List Sn) : List Value := l.flatMap Sn.vs
set_option maxRecDepth 100000 in
theorem flatN_nil : flatN [] = [] := rfl
set_option maxRecDepth 100000 in
theorem flatN_cons (x : Sn) (l : List Sn) : flatN (x :: l) = x.vs ++ flatN l := rfl
set_option maxRecDepth 100000 in
theorem flatN_append (l m : List Sn) : flatN (l ++ m) = flatN l ++ flatN m := by simp [flatN]
set_option maxRecDepth 100000 in
theorem flatN_length (l : List Sn) : (flatN l).length = l.length * 7 := by
  induction l with
  | nil => rfl
  | cons x l ih => rw [flatN_cons, List.length_append, ih, Sn.vs_length, List.length_cons]; omega
set_option maxRecDepth 100000 in
theorem flatN_at {l : List Sn} {j : Nat} {x : Sn} (hx : l[j]? = some x) {i : Nat} (hi : i < 7) : (flatN l)[j * 7 + i]? = x.vs[i]? := by
  induction l generalizing j with
  | nil => simp at hx
  | cons y l ih =>
    rw [flatN_cons]
    cases j with
    | zero =>
      simp at hx
      subst hx
      rw [Nat.zero_mul, Nat.zero_add, List.getElem?_append_left (by rw [Sn.vs_length]; exact hi)]
    | succ j =>
      rw [List.getElem?_append_right (by rw [Sn.vs_length]; omega), Sn.vs_length, show (j + 1) * 7 + i - 7 = j * 7 + i by omega]
      exact ih (by simpa using hx)
set_option maxRecDepth 100000 in
theorem flatN_set {l : List Sn} {j : Nat} {x y : Sn} (hx : l[j]? = some x) {i : Nat} (hi : i < 7) {u : Value} (hy : y.vs = x.vs.set i u) : (flatN l).set (j * 7 + i) u = flatN (l.set j y) := by
  induction l generalizing j with
  | nil => simp at hx
  | cons z l ih =>
    cases j with
    | zero =>
      simp at hx
      subst hx
      rw [Nat.zero_mul, Nat.zero_add, flatN_cons, List.set_cons_zero, flatN_cons, hy, List.set_append_left _ _ (by rw [Sn.vs_length]; exact hi)]
    | succ j =>
      rw [List.set_cons_succ, flatN_cons, flatN_cons, List.set_append_right _ _ (by rw [Sn.vs_length]; omega), Sn.vs_length, show (j + 1) * 7 + i - 7 = j * 7 + i by omega, ih (by simpa using hx)]
set_option maxRecDepth 100000 in
theorem vs_oneN (x : Sn) : ∀ u ∈ x.vs, u.oneCell' = true := by
  intro u hu
  simp only [Sn.vs, List.mem_cons, List.not_mem_nil, or_false] at hu
  rcases hu with rfl | rfl | rfl | rfl | rfl | rfl | rfl <;> rfl
set_option maxRecDepth 100000 in
theorem flatN_one (l : List Sn) : ∀ u ∈ flatN l, u.oneCell' = true := by
  intro u hu
  simp only [flatN, List.mem_flatMap] at hu
  obtain ⟨x, _, hx⟩ := hu
  exact vs_oneN x u hx

/-- Its cells from o on. -/
structure SnAt (w : World) (b o : Nat) (x : Sn) : Prop where
  c0 : w.cell? ⟨b, o, none⟩ = some (.int .i64 x.id)
  c1 : w.cell? ⟨b, o + 1, none⟩ = some (.int .i64 x.tok)
  c2 : w.cell? ⟨b, o + 2, none⟩ = some (.int .i64 x.ver)
  c3 : w.cell? ⟨b, o + 3, none⟩ = some (.int .i64 x.zone)
  c4 : w.cell? ⟨b, o + 4, none⟩ = some (.bool x.on)
  c5 : w.cell? ⟨b, o + 5, none⟩ = some (.bool x.well)
  c6 : w.cell? ⟨b, o + 6, none⟩ = some (.bool x.inn)
set_option maxRecDepth 100000 in
theorem snAt_of {w : World} {b o : Nat} {x : Sn} (h : ∀ i, i < 7 → w.cell? ⟨b, o + i, none⟩ = x.vs[i]?) : SnAt w b o x :=
  ⟨h 0 (by omega), h 1 (by omega), h 2 (by omega), h 3 (by omega), h 4 (by omega), h 5 (by omega), h 6 (by omega)⟩
set_option maxRecDepth 100000 in
theorem SnAt.all {w : World} {b o : Nat} {x : Sn} (h : SnAt w b o x) : ∀ i, i < 7 → w.cell? ⟨b, o + i, none⟩ = x.vs[i]? := by
  intro i hi
  rcases (by omega : i = 0 ∨ i = 1 ∨ i = 2 ∨ i = 3 ∨ i = 4 ∨ i = 5 ∨ i = 6) with rfl | rfl | rfl | rfl | rfl | rfl | rfl
  all_goals first | exact h.c0 | exact h.c1 | exact h.c2 | exact h.c3 | exact h.c4 | exact h.c5 | exact h.c6

/-- A slice of what is shown that reads as the list l, in a block below B. -/
def RdSn (w : World) (B : Nat) (A : Option Addr) (n : Nat) (l : List Sn) : Prop :=
  l.length = n ∧ (0 < n → ∃ b off, A = some ⟨b, off, none⟩ ∧ b < B ∧ ∀ j x, l[j]? = some x → SnAt w b (off + j * 7) x)
section
variable {w w' : World} {B B' n : Nat} {A : Option Addr} {l : List Sn}
set_option maxRecDepth 100000 in
theorem RdSn.len (h : RdSn w B A n l) : l.length = n := h.1
set_option maxRecDepth 100000 in
theorem RdSn.nil_ (w : World) (B : Nat) (A : Option Addr) : RdSn w B A 0 [] := ⟨rfl, fun h => absurd h (by omega)⟩
set_option maxRecDepth 100000 in
theorem RdSn.below (h : RdSn w B A n l) (hb : Below B w w') : RdSn w' B A n l :=
  ⟨h.1, fun hn => by
    obtain ⟨b, off, e, hlt, hc⟩ := h.2 hn
    exact ⟨b, off, e, hlt, fun j x hx => snAt_of fun i hi => (hb.cell (p := ⟨b, off + j * 7 + i, none⟩) hlt).trans ((hc j x hx).all i hi)⟩⟩
set_option maxRecDepth 100000 in
theorem RdSn.more (h : RdSn w B A n l) (hB : B ≤ B') : RdSn w B' A n l :=
  ⟨h.1, fun hn => by
    obtain ⟨b, off, e, hlt, hc⟩ := h.2 hn
    exact ⟨b, off, e, by omega, hc⟩⟩
set_option maxRecDepth 100000 in
theorem RdSn.alloc (h : RdSn w B A n l) (hB : B ≤ w.heap.size) (o : Obj) : RdSn (w.alloc o) B A n l := h.below ((Below.refl B w).alloc hB o)
set_option maxRecDepth 100000 in
theorem RdSn.on (h : RdSn w B A n l) (hB : B ≤ w.heap.size) (hb : Below w.heap.size w w') : RdSn w' B A n l := h.below (hb.mono hB)
set_option maxRecDepth 100000 in
theorem RdSn.of_own {base c : Nat} (h : w.ownsRow base 51 7 (.slice A n c) n (flatN l)) : RdSn w w.heap.size A n l := by
  have hl : l.length = n := by have := h.1; rw [flatN_length] at this; omega
  refine ⟨hl, fun hn => ?_⟩
  obtain ⟨g, cap, hv, _, hlt⟩ := h.form hn
  injection hv with hA _ hc
  subst hA; subst hc
  refine ⟨g, 0, rfl, hlt, fun j x hx => snAt_of fun i hi => ?_⟩
  have hj : j < l.length := (List.getElem?_eq_some_iff.1 hx).1
  rw [Nat.zero_add, h.cellAt (j * 7 + i) (by omega)]
  exact flatN_at hx hi
set_option maxRecDepth 100000 in
theorem RdSn.cells {a : Addr} (h : RdSn w B (some a) n l) : ∀ j u, (flatN l)[j]? = some u → w.cell? (a.add j) = some u := by
  intro j u hu
  have hj : j < l.length * 7 := by rw [← flatN_length]; exact (List.getElem?_eq_some_iff.1 hu).1
  obtain ⟨b, off, e, _, hc⟩ := h.2 (by have := h.1; omega)
  injection e with e
  subst e
  have hjl : j / 7 < l.length := by omega
  have hx : l[j / 7]? = some l[j / 7] := List.getElem?_eq_getElem hjl
  have h1 := (hc _ _ hx).all (j % 7) (by omega)
  rw [Addr.add_lit, show off + j = off + j / 7 * 7 + j % 7 by omega, h1, ← flatN_at hx (by omega), show j / 7 * 7 + j % 7 = j by omega, hu]
end

set_option maxRecDepth 100000 in
theorem info_sn : (Try.prog.info? 51).map (fun i => (i.zero, i.size, i.bytes)) = some (some (.agg (Sn.vs ⟨0, 0, 0, 0, false, false, false⟩).toArray), 7, 40) := by kernel_rfl

set_option maxRecDepth 100000 in
theorem own_formN {w : World} {base : Nat} {e : TypeId} {size n : Nat} {v : Value} {xs : List Value} (h : w.ownsRow base e size v n xs) : ∃ A c, v = .slice A n c := by
  rcases h.2 with ⟨rfl, rfl⟩ | ⟨g, cap, cur, rfl, _⟩
  · exact ⟨_, _, rfl⟩
  · exact ⟨_, _, rfl⟩
set_option maxRecDepth 100000 in
theorem own_underN {w w' : World} {base : Nat} {e : TypeId} {size n : Nat} {v : Value} {xs : List Value} (h : w.ownsRow base e size v n xs) (hb : Below w.heap.size w w') : w'.ownsRow base e size v n xs := own_under h hb

set_option maxRecDepth 100000 in
/-- 'append(v, x...)' at what is shown: v of the call's own, x whatever reads. -/
theorem run_appN (w : World) (base : Nat) (v : Value) (n : Nat) (xs : List Value) (hown : w.ownsRow base 51 7 v n xs) (B : Nat) (A : Option Addr) (m c : Nat) (l : List Sn) (hr : RdSn w B A m l) (hm : n + m ≤ 140737488351232) (hbt : (n + m) * 40 ≤ 140737488355328) (hbase : base ≤ w.heap.size) :
    ∃ v' w', (Builtin.append_ #[28, 28] 28 #[v, .slice A m c]).run Try.prog w = .ok v' w' ∧ w'.ownsRow base 51 7 v' (n + m) (xs ++ flatN l) ∧ w.grownBy w' v.ownBlock := by
  obtain ⟨i0, hi, hz0, hz1, hz2⟩ := info_parts info_sn
  rcases A with _ | ad
  · have hm0 : m = 0 := by
      rcases Nat.eq_zero_or_pos m with h | h
      · exact h
      · obtain ⟨b, off, e, _⟩ := hr.2 h
        cases e
    subst hm0
    have hb : l = [] := List.eq_nil_of_length_eq_zero hr.1
    subst hb
    have ht := Try.underlying28
    refine ⟨v, w, ?_, by simpa [flatN] using hown, World.grownBy.refl w _⟩
    rcases hown.2 with ⟨rfl, _⟩ | ⟨g, cap, cur, rfl, _, _, hnc, _⟩
    · simp [Builtin.append_, run_underlying ht, sizeOf, typeInfo, hi, Builtin.lenOf, Builtin.firstCells]
    · simp [Builtin.append_, run_underlying ht, sizeOf, typeInfo, hi, Builtin.lenOf, Builtin.firstCells, hnc, storeCells]
  · obtain ⟨v', w', h1, h2, h3, _⟩ := run_append_own (P := Try.prog) w base 28 28 51 i0 _ 7 40 Try.underlying28 hi hz0 hz1 hz2 rfl (by decide) v n xs hown ad m c (flatN l) (by rw [flatN_length, hr.1]) hr.cells (flatN_one l) (by unfold maxLen; omega) hbt hbase
    exact ⟨v', w', h1, h2, h3⟩

end Go.Proofs.Ytcbbjloojngoiaa
