/-
  Texts that the walks of the statements over logs lean on, joined (RdF, BoxW, CfMath, BrMath, BrPlain). Conditions: those that each theorem names.
-/
import Derived.Test.YtdaimejlcfhfiaaGreatDoorJ0

/-
  Rows of structs of one size in memory, whatever the struct: how they read, slices cut out of them, rows of one's own, appends. Conditions: those that each theorem names.
-/
namespace Go.Proofs.YtdaimejlcfhfiaaGreatDoor
open Go.RowKit Go.Shelf

section
variable {α : Type} {f : α → List Value} {size : Nat}
set_option maxRecDepth 100000 in
theorem flatF_length (hf : ∀ x, (f x).length = size) (l : List α) : (l.flatMap f).length = l.length * size := by
  induction l with
  | nil => simp
  | cons x l ih => rw [List.flatMap_cons, List.length_append, ih, hf, List.length_cons, Nat.succ_mul]; omega
set_option maxRecDepth 100000 in
theorem flatF_at (hf : ∀ x, (f x).length = size) {l : List α} {j : Nat} {x : α} (hx : l[j]? = some x) {i : Nat} (hi : i < size) : (l.flatMap f)[j * size + i]? = (f x)[i]? := by
  induction l generalizing j with
  | nil => simp at hx
  | cons y l ih =>
    rw [List.flatMap_cons]
    cases j with
    | zero =>
      simp at hx
      subst hx
      rw [Nat.zero_mul, Nat.zero_add, List.getElem?_append_left (by rw [hf]; exact hi)]
    | succ j =>
      rw [List.getElem?_append_right (by rw [hf, Nat.succ_mul]; omega), hf, show (j + 1) * size + i - size = j * size + i by rw [Nat.succ_mul]; omega]
      exact ih (by simpa using hx)
set_option maxRecDepth 100000 in
theorem flatF_set (hf : ∀ x, (f x).length = size) {l : List α} {j : Nat} {x y : α} (hx : l[j]? = some x) {i : Nat} (hi : i < size) {u : Value} (hy : f y = (f x).set i u) : (l.flatMap f).set (j * size + i) u = (l.set j y).flatMap f := by
  induction l generalizing j with
  | nil => simp at hx
  | cons z l ih =>
    cases j with
    | zero =>
      simp at hx
      subst hx
      rw [Nat.zero_mul, Nat.zero_add, List.flatMap_cons, List.set_cons_zero, List.flatMap_cons, hy, List.set_append_left _ _ (by rw [hf]; exact hi)]
    | succ j =>
      rw [List.set_cons_succ, List.flatMap_cons, List.flatMap_cons, List.set_append_right _ _ (by rw [hf, Nat.succ_mul]; omega), hf, show (j + 1) * size + i - size = j * size + i by rw [Nat.succ_mul]; omega, ih (by simpa using hx)]
set_option maxRecDepth 100000 in
theorem flatF_one (hf1 : ∀ x, ∀ u ∈ f x, u.oneCell' = true) (l : List α) : ∀ u ∈ l.flatMap f, u.oneCell' = true := by
  intro u hu
  simp only [List.mem_flatMap] at hu
  obtain ⟨x, _, hx⟩ := hu
  exact hf1 x u hx
end

/-- A slice of structs of 'size' cells, whose values f tells, that reads as the list l, in a block below B. -/
def RdF {α : Type} (size : Nat) (f : α → List Value) (w : World) (B : Nat) (A : Option Addr) (n : Nat) (l : List α) : Prop :=
  l.length = n ∧ (0 < n → ∃ b off, A = some ⟨b, off, none⟩ ∧ b < B ∧ ∀ j x, l[j]? = some x → ∀ i, i < size → w.cell? ⟨b, off + j * size + i, none⟩ = (f x)[i]?)
section
variable {α : Type} {f : α → List Value} {size : Nat} {w w' : World} {B B' n : Nat} {A : Option Addr} {l : List α}
set_option maxRecDepth 100000 in
theorem RdF.len (h : RdF size f w B A n l) : l.length = n := h.1
set_option maxRecDepth 100000 in
theorem RdF.nil_ (w : World) (B : Nat) (A : Option Addr) : RdF size f w B A 0 [] := ⟨rfl, fun h => absurd h (by omega)⟩
set_option maxRecDepth 100000 in
theorem RdF.below (h : RdF size f w B A n l) (hb : Below B w w') : RdF size f w' B A n l :=
  ⟨h.1, fun hn => by
    obtain ⟨b, off, e, hlt, hc⟩ := h.2 hn
    exact ⟨b, off, e, hlt, fun j x hx i hi => (hb.cell (p := ⟨b, off + j * size + i, none⟩) hlt).trans (hc j x hx i hi)⟩⟩
set_option maxRecDepth 100000 in
theorem RdF.more (h : RdF size f w B A n l) (hB : B ≤ B') : RdF size f w B' A n l :=
  ⟨h.1, fun hn => by
    obtain ⟨b, off, e, hlt, hc⟩ := h.2 hn
    exact ⟨b, off, e, by omega, hc⟩⟩
set_option maxRecDepth 100000 in
theorem RdF.up {W W' : World} (h : RdF size f W W.heap.size A n l) (hb : Below W.heap.size W W') : RdF size f W' W'.heap.size A n l := (h.below hb).more hb.size
set_option maxRecDepth 100000 in
/-- The first k. -/
theorem RdF.take (h : RdF size f w B A n l) {k : Nat} (hk : k ≤ n) : RdF size f w B A k (l.take k) :=
  ⟨by rw [List.length_take, h.1]; omega, fun hn => by
    obtain ⟨b, off, e, hlt, hc⟩ := h.2 (by omega)
    refine ⟨b, off, e, hlt, fun j x hx => hc j x ?_⟩
    rw [List.getElem?_take] at hx
    split at hx
    · exact hx
    · cases hx⟩
set_option maxRecDepth 100000 in
/-- Those from k on, where A' is where they begin. -/
theorem RdF.drop (h : RdF size f w B A n l) {k : Nat} (hk : k ≤ n) {A' : Option Addr} (hA : k < n → ∀ b off, A = some ⟨b, off, none⟩ → A' = some ⟨b, off + k * size, none⟩) : RdF size f w B A' (n - k) (l.drop k) :=
  ⟨by rw [List.length_drop, h.1], fun hn => by
    obtain ⟨b, off, e, hlt, hc⟩ := h.2 (by omega)
    refine ⟨b, off + k * size, hA (by omega) b off e, hlt, fun j x hx i hi => ?_⟩
    rw [List.getElem?_drop] at hx
    have h1 := hc _ x hx i hi
    rw [Nat.add_mul] at h1
    rw [← h1, show off + k * size + j * size + i = off + (k * size + j * size) + i by omega]⟩
set_option maxRecDepth 100000 in
theorem RdF.of_own {base c : Nat} {e : TypeId} (hf : ∀ x, (f x).length = size) (hs : 0 < size) (h : w.ownsRow base e size (.slice A n c) n (l.flatMap f)) : RdF size f w w.heap.size A n l := by
  have hl : l.length = n := by
    have h1 := h.1
    rw [flatF_length hf] at h1
    exact Nat.eq_of_mul_eq_mul_right hs h1
  refine ⟨hl, fun hn => ?_⟩
  obtain ⟨g, cap, hv, _, hlt⟩ := h.form hn
  injection hv with hA _ hc
  subst hA; subst hc
  refine ⟨g, 0, rfl, hlt, fun j x hx i hi => ?_⟩
  have hj : j < l.length := (List.getElem?_eq_some_iff.1 hx).1
  have hji : j * size + i < n * size := by
    have h1 : (j + 1) * size ≤ n * size := Nat.mul_le_mul_right _ (by omega)
    rw [Nat.succ_mul] at h1
    omega
  rw [Nat.zero_add, h.cellAt (j * size + i) hji]
  exact flatF_at hf hx hi
set_option maxRecDepth 100000 in
theorem RdF.cells {a : Addr} (hf : ∀ x, (f x).length = size) (hs : 0 < size) (h : RdF size f w B (some a) n l) : ∀ j u, (l.flatMap f)[j]? = some u → w.cell? (a.add j) = some u := by
  intro j u hu
  have hj : j < l.length * size := by rw [← flatF_length hf]; exact (List.getElem?_eq_some_iff.1 hu).1
  have hn : 0 < n := by
    rcases Nat.eq_zero_or_pos n with h0 | h0
    · have := h.1; rw [this, h0, Nat.zero_mul] at hj; omega
    · exact h0
  obtain ⟨b, off, e, _, hc⟩ := h.2 hn
  injection e with e
  subst e
  have hjl : j / size < l.length := (Nat.div_lt_iff_lt_mul hs).2 hj
  have hx : l[j / size]? = some l[j / size] := List.getElem?_eq_getElem hjl
  have hm : j % size < size := Nat.mod_lt _ hs
  have hd : j / size * size + j % size = j := by rw [Nat.mul_comm]; exact Nat.div_add_mod j size
  have h1 := hc _ _ hx (j % size) hm
  rw [Addr.add_lit, show off + j = off + j / size * size + j % size by omega, h1, ← flatF_at hf hx hm, hd, hu]
end

set_option maxRecDepth 100000 in
theorem own_formF {w : World} {base : Nat} {e : TypeId} {size n : Nat} {v : Value} {xs : List Value} (h : w.ownsRow base e size v n xs) : ∃ A c, v = .slice A n c := by
  rcases h.2 with ⟨rfl, rfl⟩ | ⟨g, cap, cur, rfl, _⟩
  · exact ⟨_, _, rfl⟩
  · exact ⟨_, _, rfl⟩
set_option maxRecDepth 100000 in
/-- A row of one element type lies in no block of another one, of however many cells. -/
theorem own_apart_F {w : World} {base size n b : Nat} {e t : TypeId} {v : Value} {xs : List Value} {cs : Array Value} (hne : e ≠ t) (ho : w.ownsRow base e size v n xs) (hw : Whole w b t cs) : v.ownBlock ≠ some b := by
  rcases ho.2 with ⟨rfl, _⟩ | ⟨g, cap, cur, rfl, _, hg, _⟩
  · simp [Value.ownBlock]
  · simp only [Value.ownBlock, ne_eq, Option.some.injEq]
    intro e
    subst e
    unfold Whole at hw
    rw [hw] at hg
    injection hg with hg
    injection hg with _ h _
    exact absurd h.symm hne
set_option maxRecDepth 100000 in
/-- Two rows of the call's own of unlike element types: one stays while the other one grows. -/
theorem own_kept_F {w w' : World} {base base' n m size size' : Nat} {e e' : TypeId} {v u : Value} {xs ys : List Value} (hne : e ≠ e') (h1 : w.ownsRow base e size v n xs) (h2 : w.ownsRow base' e' size' u m ys) (hg : w.grownBy w' v.ownBlock) : w'.ownsRow base' e' size' u m ys := by
  refine h2.kept hg ?_
  rcases h2.2 with ⟨rfl, _⟩ | ⟨g, cap, cur, rfl, _, hg1, _⟩
  · exact .inl rfl
  · right
    intro e0
    rcases h1.2 with ⟨rfl, _⟩ | ⟨g', cap', cur', rfl, _, hg', _⟩
    · simp [Value.ownBlock] at e0
    · simp only [Value.ownBlock, Option.some.injEq] at e0
      subst e0
      rw [hg1] at hg'
      injection hg' with hg'
      injection hg' with _ h5 _
      exact absurd h5.symm hne

set_option maxRecDepth 100000 in
/-- 'append(v, x...)' at structs: v of the call's own, x whatever reads. -/
theorem run_appF {α : Type} {f : α → List Value} {size bytes : Nat} {z : Value} {ty e : TypeId} (ht : Tryz.prog.underlying ty = some (.slice e)) (hi0 : (Tryz.prog.info? e).map (fun i => (i.zero, i.size, i.bytes)) = some (some z, size, bytes)) (hz : z.cells.size = size) (hs : 0 < size) (hf : ∀ x, (f x).length = size) (hf1 : ∀ x, ∀ u ∈ f x, u.oneCell' = true) (w : World) (base : Nat) (v : Value) (n : Nat) (xs : List Value) (hown : w.ownsRow base e size v n xs) (B : Nat) (A : Option Addr) (m c : Nat) (l : List α) (hr : RdF size f w B A m l) (hm : n + m ≤ maxLen) (hbt : (n + m) * bytes ≤ 140737488355328) (hbase : base ≤ w.heap.size) :
    ∃ v' w', (Builtin.append_ #[ty, ty] ty #[v, .slice A m c]).run Tryz.prog w = .ok v' w' ∧ w'.ownsRow base e size v' (n + m) (xs ++ l.flatMap f) ∧ w.grownBy w' v.ownBlock := by
  obtain ⟨i0, hi, hz0, hz1, hz2⟩ := info_parts hi0
  rcases A with _ | ad
  · have hm0 : m = 0 := by
      rcases Nat.eq_zero_or_pos m with h | h
      · exact h
      · obtain ⟨b, off, e, _⟩ := hr.2 h
        cases e
    subst hm0
    have hb : l = [] := List.eq_nil_of_length_eq_zero hr.1
    subst hb
    refine ⟨v, w, ?_, by simpa using hown, World.grownBy.refl w _⟩
    rcases hown.2 with ⟨rfl, _⟩ | ⟨g, cap, cur, rfl, _, _, hnc, _⟩
    · simp [Builtin.append_, run_underlying ht, sizeOf, typeInfo, hi, Builtin.lenOf, Builtin.firstCells]
    · simp [Builtin.append_, run_underlying ht, sizeOf, typeInfo, hi, Builtin.lenOf, Builtin.firstCells, hnc, storeCells]
  · obtain ⟨v', w', h1, h2, h3, _⟩ := run_append_own (P := Tryz.prog) w base ty ty e i0 z size bytes ht hi hz0 hz1 hz2 hz hs v n xs hown ad m c (l.flatMap f) (by rw [flatF_length hf, hr.1]) (hr.cells hf hs) (flatF_one hf1 l) (by unfold maxLen at *; omega) hbt hbase
    exact ⟨v', w', h1, h2, h3⟩

set_option maxRecDepth 100000 in
/-- 'x[k:]', 'x[:k]' of structs. -/
theorem run_restF {size bytes : Nat} {z : Value} {ty e : TypeId} (ht : Tryz.prog.underlying ty = some (.slice e)) (he : Tryz.prog.elem ty = e) (hi0 : (Tryz.prog.info? e).map (fun i => (i.zero, i.size, i.bytes)) = some (some z, size, bytes)) (A : Option Addr) (n c k : Nat) (hk : k ≤ n) : ∃ A', (∀ w : World, (Instr.slice ty (.slice A n c) (some (.int .i64 (k : Int))) none none).run Tryz.prog w = .ok (.slice A' (n - k) (c - k)) w) ∧
    ((k < n ∧ n ≤ c) → ∀ b off, A = some ⟨b, off, none⟩ → A' = some ⟨b, off + k * size, none⟩) := by
  obtain ⟨i0, hi, hz0, hz1, hz2⟩ := info_parts hi0
  refine ⟨if c = k then A else A.map (·.add (k * size)), fun w => ?_, ?_⟩
  · have hz : (sizeOf (Tryz.prog.elem ty)).run Tryz.prog w = .ok size w := by
      simp [he, Go.sizeOf, typeInfo, hi, hz1]
    have h63 : (k : Int).toNat = k := by omega
    rw [run_slice_l (P := Tryz.prog) w ty A n c (by rw [he]; exact ht) .i64 (k : Int) (by omega) (by omega), hz, h63]
    rfl
  · rintro ⟨h1, h2⟩ b off rfl
    rw [if_neg (by omega), Option.map_some, Addr.add_lit]
set_option maxRecDepth 100000 in
theorem run_headF {size bytes : Nat} {z : Value} {ty e : TypeId} (ht : Tryz.prog.underlying ty = some (.slice e)) (he : Tryz.prog.elem ty = e) (hi0 : (Tryz.prog.info? e).map (fun i => (i.zero, i.size, i.bytes)) = some (some z, size, bytes)) (A : Option Addr) (n c k : Nat) (hk : k ≤ c) (w : World) : (Instr.slice ty (.slice A n c) none (some (.int .i64 (k : Int))) none).run Tryz.prog w = .ok (.slice A k c) w := by
  obtain ⟨i0, hi, hz0, hz1, hz2⟩ := info_parts hi0
  have hz : (sizeOf (Tryz.prog.elem ty)).run Tryz.prog w = .ok size w := by
    simp [he, Go.sizeOf, typeInfo, hi, hz1]
  have h63 : (k : Int).toNat = k := by omega
  rw [run_slice_h (P := Tryz.prog) w ty A n c (by rw [he]; exact ht) .i64 (k : Int) (by omega) (by omega), hz, h63]
  have e : ∀ o : Option Addr, o.map (fun a => a.add (0 * size)) = o := fun o => by cases o <;> simp [Addr.add]
  simp only [Result.andThen_ok, sliced, e, Nat.sub_zero, ite_self]

end Go.Proofs.YtdaimejlcfhfiaaGreatDoor

/-
  Stores into one block that is known whole: what stays. Conditions: those that each theorem names.
-/
namespace Go.Proofs.YtdaimejlcfhfiaaGreatDoor
open Go.RowKit Go.Shelf

/-- Nothing but block g has turned. -/
structure Only (g : Nat) (w w' : World) : Prop where
  grown : w.grownBy w' (some g)
  size : w'.heap.size = w.heap.size
  keeps : KeepsOthers w w'
section
variable {g : Nat} {w w' w'' : World} {t : TypeId}
set_option maxRecDepth 100000 in
theorem Only.set (w : World) (g i : Nat) (v : Value) : Only g w (w.setCell ⟨g, i, none⟩ v) := by
  have h := Below.refl 0 w
  refine ⟨⟨rfl, rfl, rfl, by simp, fun j _ hj => Below.heap_setCell w ⟨g, i, none⟩ v j (fun e => hj (by simp only at e; rw [e]))⟩, by simp, KeepsOthers.setCell _ _ _⟩
set_option maxRecDepth 100000 in
theorem Only.trans (h : Only g w w') (k : Only g w' w'') : Only g w w'' :=
  ⟨⟨k.grown.os.trans h.grown.os, k.grown.tape.trans h.grown.tape, k.grown.output.trans h.grown.output, by rw [k.size, h.size]; exact Nat.le_refl _, fun i hi hg => (k.grown.block i (by rw [h.size]; exact hi) hg).trans (h.grown.block i hi hg)⟩, by rw [k.size, h.size], h.keeps.trans k.keeps⟩
set_option maxRecDepth 100000 in
theorem Only.far (h : Only g w w') {b : Nat} {cs : Array Value} (hw : Whole w b t cs) (hne : b ≠ g) : Whole w' b t cs := hw.grown h.grown (by simpa using hne)
set_option maxRecDepth 100000 in
theorem Only.own {base size n : Nat} {e : TypeId} {v : Value} {xs : List Value} {cs : Array Value} (h : Only g w w') (ho : w.ownsRow base e size v n xs) (hw : Whole w g t cs) (hne : e ≠ t) : w'.ownsRow base e size v n xs :=
  ho.kept h.grown (by
    rcases ho.2 with ⟨rfl, _⟩ | ⟨g', cap, cur, rfl, _, hg, _⟩
    · exact .inl rfl
    · right
      simp only [Value.ownBlock, ne_eq, Option.some.injEq]
      intro e0
      have := own_apart_F hne ho hw
      simp [Value.ownBlock] at this
      omega)
set_option maxRecDepth 100000 in
theorem Only.ownB {base size n : Nat} {e : TypeId} {v : Value} {xs : List Value} (h : Only g w w') (ho : w.ownsRow base e size v n xs) (hg : g < base) : w'.ownsRow base e size v n xs :=
  ho.kept h.grown (by
    rcases ho.2 with ⟨rfl, _⟩ | ⟨g', cap, cur, rfl, hb, _⟩
    · exact .inl rfl
    · right
      simp only [Value.ownBlock, ne_eq, Option.some.injEq]
      omega)
set_option maxRecDepth 100000 in
theorem Only.bel {B : Nat} {w0 : World} (h : Only g w w') (hb : Below B w0 w) (hg : B ≤ g) : Below B w0 w' :=
  ⟨h.grown.os.trans hb.os, h.grown.tape.trans hb.tape, h.grown.output.trans hb.output, by rw [h.size]; exact hb.size, fun k hk => by
    rcases Nat.lt_or_ge k w.heap.size with hlt | hge
    · exact (h.grown.block k hlt (by simp; omega)).trans (hb.block k hk)
    · rw [← hb.block k hk, Array.getElem?_eq_none hge, Array.getElem?_eq_none (by rw [h.size]; exact hge)]⟩
set_option maxRecDepth 100000 in
theorem put2 {x0 x1 : Value} (hA : Whole w g t #[x0, x1]) (v0 v1 : Value) : Whole ((w.setCell ⟨g, 0, none⟩ v0).setCell ⟨g, 1, none⟩ v1) g t #[v0, v1] ∧ Only g w ((w.setCell ⟨g, 0, none⟩ v0).setCell ⟨g, 1, none⟩ v1) := by
  have h0 := hA.set 0 v0
  simp only [List.setIfInBounds_toArray, List.set_cons_zero] at h0
  have h1 := h0.set 1 v1
  simp only [List.setIfInBounds_toArray, List.set_cons_zero, List.set_cons_succ] at h1
  exact ⟨h1, (Only.set _ _ _ _).trans (Only.set _ _ _ _)⟩
set_option maxRecDepth 100000 in
theorem put6 {x0 x1 x2 x3 x4 x5 : Value} (hA : Whole w g t #[x0, x1, x2, x3, x4, x5]) (v0 v1 v2 v3 v4 v5 : Value) : Whole ((((((w.setCell ⟨g, 0, none⟩ v0).setCell ⟨g, 1, none⟩ v1).setCell ⟨g, 2, none⟩ v2).setCell ⟨g, 3, none⟩ v3).setCell ⟨g, 4, none⟩ v4).setCell ⟨g, 5, none⟩ v5) g t #[v0, v1, v2, v3, v4, v5] ∧ Only g w ((((((w.setCell ⟨g, 0, none⟩ v0).setCell ⟨g, 1, none⟩ v1).setCell ⟨g, 2, none⟩ v2).setCell ⟨g, 3, none⟩ v3).setCell ⟨g, 4, none⟩ v4).setCell ⟨g, 5, none⟩ v5) := by
  have h0 := hA.set 0 v0
  simp only [List.setIfInBounds_toArray, List.set_cons_zero] at h0
  have h1 := h0.set 1 v1
  simp only [List.setIfInBounds_toArray, List.set_cons_zero, List.set_cons_succ] at h1
  have h2 := h1.set 2 v2
  simp only [List.setIfInBounds_toArray, List.set_cons_zero, List.set_cons_succ] at h2
  have h3 := h2.set 3 v3
  simp only [List.setIfInBounds_toArray, List.set_cons_zero, List.set_cons_succ] at h3
  have h4 := h3.set 4 v4
  simp only [List.setIfInBounds_toArray, List.set_cons_zero, List.set_cons_succ] at h4
  have h5 := h4.set 5 v5
  simp only [List.setIfInBounds_toArray, List.set_cons_zero, List.set_cons_succ] at h5
  exact ⟨h5, (((((Only.set _ _ _ _).trans (Only.set _ _ _ _)).trans (Only.set _ _ _ _)).trans (Only.set _ _ _ _)).trans (Only.set _ _ _ _)).trans (Only.set _ _ _ _)⟩
set_option maxRecDepth 100000 in
theorem cells2 {v0 v1 : Value} (h : Whole w g t #[v0, v1]) : w.cell? ⟨g, 0, none⟩ = some v0 ∧ w.cell? ⟨g, 1, none⟩ = some v1 := ⟨h.cell 0, h.cell 1⟩
set_option maxRecDepth 100000 in
theorem cellsW6 {v0 v1 v2 v3 v4 v5 : Value} (h : Whole w g t #[v0, v1, v2, v3, v4, v5]) : w.cell? ⟨g, 0, none⟩ = some v0 ∧ w.cell? ⟨g, 1, none⟩ = some v1 ∧ w.cell? ⟨g, 2, none⟩ = some v2 ∧ w.cell? ⟨g, 3, none⟩ = some v3 ∧ w.cell? ⟨g, 4, none⟩ = some v4 ∧ w.cell? ⟨g, 5, none⟩ = some v5 := ⟨h.cell 0, h.cell 1, h.cell 2, h.cell 3, h.cell 4, h.cell 5⟩
end
set_option maxRecDepth 100000 in
/-- A store of what is there. -/
theorem Whole.same_set {w : World} {b : Nat} {t : TypeId} {cs : Array Value} (h : Whole w b t cs) (i : Nat) (v : Value) (hv : cs[i]? = some v) : w.setCell ⟨b, i, none⟩ v = w := by
  unfold Whole at h
  have e : (w.setCell ⟨b, i, none⟩ v).heap = w.heap := by
    refine Array.ext_getElem? fun j => ?_
    by_cases hj : j = b
    · subst hj
      have h1 : (w.setCell ⟨j, i, none⟩ v).heap[j]? = some (.cells (cs.setIfInBounds i v) t (0, 0)) := by simp [World.setCell, Array.getElem?_modify, h]
      rw [h1, h]
      congr 2
      refine Array.ext_getElem? fun k => ?_
      by_cases hk : i = k
      · subst hk
        have hlt : i < cs.size := (Array.getElem?_eq_some_iff.1 hv).1
        rw [Array.getElem?_setIfInBounds_self_of_lt hlt, hv]
      · rw [Array.getElem?_setIfInBounds_ne hk]
    · exact Below.heap_setCell w ⟨b, i, none⟩ v j hj
  cases w
  simp only [World.setCell] at e ⊢
  rw [e]
set_option maxRecDepth 100000 in
theorem same6 {w : World} {g : Nat} {t : TypeId} {x0 x1 x2 x3 x4 x5 : Value} (h : Whole w g t #[x0, x1, x2, x3, x4, x5]) : (((((w.setCell ⟨g, 0, none⟩ x0).setCell ⟨g, 1, none⟩ x1).setCell ⟨g, 2, none⟩ x2).setCell ⟨g, 3, none⟩ x3).setCell ⟨g, 4, none⟩ x4).setCell ⟨g, 5, none⟩ x5 = w := by
  rw [h.same_set 0 x0 rfl, h.same_set 1 x1 rfl, h.same_set 2 x2 rfl, h.same_set 3 x3 rfl, h.same_set 4 x4 rfl, h.same_set 5 x5 rfl]
set_option maxRecDepth 100000 in
theorem same2 {w : World} {g : Nat} {t : TypeId} {x0 x1 : Value} (h : Whole w g t #[x0, x1]) : (w.setCell ⟨g, 0, none⟩ x0).setCell ⟨g, 1, none⟩ x1 = w := by
  rw [h.same_set 0 x0 rfl, h.same_set 1 x1 rfl]
set_option maxRecDepth 100000 in
theorem same1 {w : World} {g : Nat} {t : TypeId} {x0 : Value} (h : Whole w g t #[x0]) : w.setCell ⟨g, 0, none⟩ x0 = w := h.same_set 0 x0 rfl
set_option maxRecDepth 100000 in
/-- Two allocs behind each other: both blocks, whole. -/
theorem two_new (w : World) (t u : TypeId) (xs ys : Array Value) : Below w.heap.size w ((w.alloc (.cells xs t)).alloc (.cells ys u)) ∧ Whole ((w.alloc (.cells xs t)).alloc (.cells ys u)) w.heap.size t xs ∧ Whole ((w.alloc (.cells xs t)).alloc (.cells ys u)) (w.heap.size + 1) u ys := by
  refine ⟨((Below.refl _ w).alloc (Nat.le_refl _) _).alloc (by simp) _, (Whole.new w _ _).alloc _, ?_⟩
  have := Whole.new (w.alloc (.cells xs t)) u ys
  rwa [World.size_alloc] at this
set_option maxRecDepth 100000 in
theorem three_new (w : World) (t u v : TypeId) (xs ys zs : Array Value) : Below w.heap.size w (((w.alloc (.cells xs t)).alloc (.cells ys u)).alloc (.cells zs v)) ∧ Whole (((w.alloc (.cells xs t)).alloc (.cells ys u)).alloc (.cells zs v)) w.heap.size t xs ∧ Whole (((w.alloc (.cells xs t)).alloc (.cells ys u)).alloc (.cells zs v)) (w.heap.size + 1) u ys ∧ Whole (((w.alloc (.cells xs t)).alloc (.cells ys u)).alloc (.cells zs v)) (w.heap.size + 1 + 1) v zs := by
  obtain ⟨h1, h2, h3⟩ := two_new w t u xs ys
  refine ⟨h1.alloc (by simp; omega) _, h2.alloc _, h3.alloc _, ?_⟩
  have := Whole.new ((w.alloc (.cells xs t)).alloc (.cells ys u)) v zs
  simpa using this

end Go.Proofs.YtdaimejlcfhfiaaGreatDoor

/-
  Groups as they count: their thirteen numbers, whether one skips, their marks; which may be, floors, bounds, rows. Plain: no walk. Conditions: those that each theorem names.
-/
namespace Go.Proofs.YtdaimejlcfhfiaaGreatDoor
open Go.RowKit Go.Shelf

/-- A group, as it lies: its numbers, Skip, and the slice of its marks with what is read there. -/
structure Cf where
  f0 : Int
  f1 : Int
  f2 : Int
  f3 : Int
  f4 : Int
  f5 : Int
  f6 : Int
  f7 : Int
  f8 : Int
  f9 : Int
  f10 : Int
  f11 : Int
  f12 : Int
  sk : Bool
  A : Option Addr
  n : Nat
  c : Nat
  ms : List Int

abbrev Cf.cells (x : Cf) : Array Value := #[.int .i64 x.f0, .int .i64 x.f1, .int .i64 x.f2, .int .i64 x.f3, .int .i64 x.f4, .int .i64 x.f5, .int .i64 x.f6, .int .i64 x.f7, .int .i64 x.f8, .int .i64 x.f9, .int .i64 x.f10, .int .i64 x.f11, .int .i64 x.f12, .bool x.sk, .slice x.A x.n x.c]
abbrev Cf.v (x : Cf) : Value := .agg #[.int .i64 x.f0, .int .i64 x.f1, .int .i64 x.f2, .int .i64 x.f3, .int .i64 x.f4, .int .i64 x.f5, .int .i64 x.f6, .int .i64 x.f7, .int .i64 x.f8, .int .i64 x.f9, .int .i64 x.f10, .int .i64 x.f11, .int .i64 x.f12, .bool x.sk, .slice x.A x.n x.c]
/-- Its numbers, in the row's order. -/
def Cf.fs (x : Cf) : List Int := [x.f0, x.f1, x.f2, x.f3, x.f4, x.f5, x.f6, x.f7, x.f8, x.f9, x.f10, x.f11, x.f12]
def Cf.at (x : Cf) (k : Nat) : Int := x.fs.getD k 0
/-- From where to where. -/
def loB (k : Nat) : Int := [0, 0, 0, 0, 0, 0, 0, 0, 1, 1, 1, 0, 1].getD k 0
def hiB (k : Nat) : Int := [6, 100, 3, 3, 20, 20, 20, 20, 20, 20, 20, 20, 1099511627776].getD k 0
def fitK (x : Cf) (k : Nat) : Bool := decide (loB k ≤ x.at k) && decide (x.at k ≤ hiB k)
def inB (x : Cf) : Bool := (List.range 13).all (fitK x)
def upB : Int → List Int → Bool
  | _, [] => true
  | last, m :: r => decide (last < m) && decide (m ≤ 100) && upB m r
def fl (x : Cf) : Int := (x.f0 * x.f1 + 99) / 100
def roomB (x : Cf) : Bool := decide (x.f0 = 0) || decide (1 ≤ x.f2 + x.f0 - fl x)
def marksB (l : List Int) : Bool := decide (l.length ≤ 4) && upB 0 l
/-- A group may be. -/
def may (x : Cf) : Bool := inB x && (marksB x.ms && roomB x)
def er (b : Bool) : Int := if b = true then 0 else 70
def floorOf (x : Cf) : Int := if may x = true then fl x else 0
def boundOf (x : Cf) : Int := if may x = true then x.f0 + x.f2 + x.f3 else 0
def skI (b : Bool) : Int := if b = true then 1 else 0
def rowOf (x : Cf) : List Int := x.fs ++ skI x.sk :: x.ms
def sameC (x y : Cf) : Bool := decide (x.fs = y.fs) && (decide (x.sk = y.sk) && decide (x.ms = y.ms))

set_option maxRecDepth 100000 in
theorem Cf.fs_len (x : Cf) : x.fs.length = 13 := rfl
set_option maxRecDepth 100000 in
theorem rowOf_len (x : Cf) : (rowOf x).length = 14 + x.ms.length := by simp [rowOf, Cf.fs]; omega

set_option maxRecDepth 100000 in
theorem inB_iff {x : Cf} : inB x = true ↔ ((0 ≤ x.f0 ∧ x.f0 ≤ 6) ∧ (0 ≤ x.f1 ∧ x.f1 ≤ 100) ∧ (0 ≤ x.f2 ∧ x.f2 ≤ 3) ∧ (0 ≤ x.f3 ∧ x.f3 ≤ 3)) ∧ ((0 ≤ x.f4 ∧ x.f4 ≤ 20) ∧ (0 ≤ x.f5 ∧ x.f5 ≤ 20) ∧ (0 ≤ x.f6 ∧ x.f6 ≤ 20) ∧ (0 ≤ x.f7 ∧ x.f7 ≤ 20)) ∧ ((1 ≤ x.f8 ∧ x.f8 ≤ 20) ∧ (1 ≤ x.f9 ∧ x.f9 ≤ 20) ∧ (1 ≤ x.f10 ∧ x.f10 ≤ 20) ∧ (0 ≤ x.f11 ∧ x.f11 ≤ 20) ∧ (1 ≤ x.f12 ∧ x.f12 ≤ 1099511627776)) := by
  have e : List.range 13 = [0, 1, 2, 3, 4, 5, 6, 7, 8, 9, 10, 11, 12] := rfl
  simp only [inB, e, List.all_cons, List.all_nil, Bool.and_true, Bool.and_eq_true, fitK, decide_eq_true_eq, Cf.at, Cf.fs, loB, hiB, List.getD_cons_zero, List.getD_cons_succ]
  constructor
  · rintro ⟨h0, h1, h2, h3, h4, h5, h6, h7, h8, h9, h10, h11, h12⟩
    exact ⟨⟨h0, h1, h2, h3⟩, ⟨h4, h5, h6, h7⟩, h8, h9, h10, h11, h12⟩
  · rintro ⟨⟨h0, h1, h2, h3⟩, ⟨h4, h5, h6, h7⟩, h8, h9, h10, h11, h12⟩
    exact ⟨h0, h1, h2, h3, h4, h5, h6, h7, h8, h9, h10, h11, h12⟩

set_option maxRecDepth 100000 in
theorem not_inB {x : Cf} {k : Nat} (hk : k < 13) (h : x.at k < loB k ∨ hiB k < x.at k) : may x = false := by
  have h1 : fitK x k = false := by
    rcases h with h | h
    · simp [fitK, show ¬ loB k ≤ x.at k by omega]
    · simp [fitK, show ¬ x.at k ≤ hiB k by omega]
  have h2 : inB x = false := by
    cases hv : inB x with
    | false => rfl
    | true =>
      have := List.all_eq_true.1 hv k (List.mem_range.2 hk)
      rw [h1] at this; cases this
  simp [may, h2]

set_option maxRecDepth 100000 in
/-- What all rounds have found. -/
theorem inB_all {x : Cf} (h : ∀ k, k < 13 → fitK x k = true) : inB x = true := List.all_eq_true.2 fun k hk => h k (List.mem_range.1 hk)

set_option maxRecDepth 100000 in
theorem fl_bd {x : Cf} (h : inB x = true) : 0 ≤ x.f0 * x.f1 ∧ x.f0 * x.f1 ≤ 600 ∧ 0 ≤ fl x ∧ fl x ≤ x.f0 := by
  obtain ⟨⟨⟨a0, a1⟩, ⟨b0, b1⟩, _⟩, _⟩ := inB_iff.1 h
  have h1 : 0 ≤ x.f0 * x.f1 := Int.mul_nonneg a0 b0
  have h2 : x.f0 * x.f1 ≤ x.f0 * 100 := Int.mul_le_mul_of_nonneg_left b1 a0
  unfold fl
  exact ⟨h1, by omega, by omega, by omega⟩

/-- A group told by a row. -/
def ofRow (l : List Int) (A : Option Addr) (n c : Nat) : Cf := ⟨l.getD 0 0, l.getD 1 0, l.getD 2 0, l.getD 3 0, l.getD 4 0, l.getD 5 0, l.getD 6 0, l.getD 7 0, l.getD 8 0, l.getD 9 0, l.getD 10 0, l.getD 11 0, l.getD 12 0, decide (l.getD 13 0 = 1), A, n, c, l.drop 14⟩
def cf0 : Cf := ⟨0, 0, 0, 0, 0, 0, 0, 0, 0, 0, 0, 0, 0, false, none, 0, 0, []⟩
set_option maxRecDepth 100000 in
theorem may_cf0 : may cf0 = false := rfl
/-- A row that may be a group's, by its shape. -/
def shapeB (l : List Int) : Bool := decide (14 ≤ l.length) && (decide (l.getD 13 0 = 0) || decide (l.getD 13 0 = 1))
/-- Of this row a group is told. -/
def isRow (l : List Int) : Bool := shapeB l && may (ofRow l none 0 0)

set_option maxRecDepth 100000 in
theorem may_row (l : List Int) (A A' : Option Addr) (n n' c c' : Nat) : may (ofRow l A n c) = may (ofRow l A' n' c') := rfl

set_option maxRecDepth 100000 in
theorem row_of {l : List Int} {A : Option Addr} {n c : Nat} (h : shapeB l = true) : rowOf (ofRow l A n c) = l := by
  simp only [shapeB, Bool.and_eq_true, decide_eq_true_eq, Bool.or_eq_true] at h
  obtain ⟨h1, h2⟩ := h
  match l, h1 with
  | a0 :: a1 :: a2 :: a3 :: a4 :: a5 :: a6 :: a7 :: a8 :: a9 :: a10 :: a11 :: a12 :: a13 :: r, _ =>
    simp only [List.getD_cons_zero, List.getD_cons_succ] at h2
    have e : skI (decide (a13 = 1)) = a13 := by rcases h2 with rfl | rfl <;> rfl
    simp [rowOf, ofRow, Cf.fs, e]

set_option maxRecDepth 100000 in
theorem of_row (x : Cf) (A : Option Addr) (n c : Nat) : ofRow (rowOf x) A n c = { x with A := A, n := n, c := c } ∧ shapeB (rowOf x) = true := by
  have e : decide (skI x.sk = 1) = x.sk := by cases x.sk <;> rfl
  constructor
  · simp [rowOf, ofRow, Cf.fs, e]
  · simp only [shapeB, Bool.and_eq_true, decide_eq_true_eq, rowOf_len, Bool.or_eq_true]
    refine ⟨by omega, ?_⟩
    simp only [rowOf, Cf.fs, List.cons_append, List.nil_append, List.getD_cons_zero, List.getD_cons_succ]
    cases x.sk <;> simp [skI]

set_option maxRecDepth 100000 in
theorem sameC_iff {x y : Cf} : sameC x y = true ↔ x.fs = y.fs ∧ x.sk = y.sk ∧ x.ms = y.ms := by simp [sameC]
set_option maxRecDepth 100000 in
theorem sameC_row {x y : Cf} : sameC x y = decide (rowOf x = rowOf y) := by
  have h : sameC x y = true ↔ rowOf x = rowOf y := by
    rw [sameC_iff]
    constructor
    · rintro ⟨h1, h2, h3⟩; rw [rowOf, rowOf, h1, h2, h3]
    · intro h
      have h1 := List.append_inj h (by rw [Cf.fs_len, Cf.fs_len])
      injection h1.2 with h2 h3
      refine ⟨h1.1, ?_, h3⟩
      cases hx : x.sk <;> cases hy : y.sk <;> simp [hx, hy, skI] at h2 ⊢
  cases hv : sameC x y with
  | true => simp [h.1 hv]
  | false =>
    have : ¬ rowOf x = rowOf y := fun e => by rw [h.2 e] at hv; cases hv
    simp [this]
set_option maxRecDepth 100000 in
theorem may_same {x y : Cf} (h : sameC x y = true) : may x = may y := by
  obtain ⟨h1, h2, h3⟩ := sameC_iff.1 h
  have ha : ∀ k, x.at k = y.at k := fun k => by unfold Cf.at; rw [h1]
  have e0 : x.f0 = y.f0 := ha 0
  have e1 : x.f1 = y.f1 := ha 1
  have e2 : x.f2 = y.f2 := ha 2
  have hf : fitK x = fitK y := by funext k; unfold fitK; rw [ha k]
  unfold may inB marksB roomB fl
  rw [hf, h3, e0, e1, e2]
set_option maxRecDepth 100000 in
theorem sameC_refl (x : Cf) : sameC x x = true := sameC_iff.2 ⟨rfl, rfl, rfl⟩

/-- Groups as they lie: the slice of marks reads as they are. -/
structure Lies (x : Cf) (w : World) (B : Nat) : Prop where
  rd : Rd w B x.A x.n (iv x.ms)
  cap : x.n ≤ x.c
  max : x.c ≤ maxLen
set_option maxRecDepth 100000 in
theorem Lies.below {x : Cf} {w w' : World} {B : Nat} (h : Lies x w B) (hb : Below B w w') : Lies x w' B := ⟨h.rd.below hb, h.cap, h.max⟩
set_option maxRecDepth 100000 in
theorem Lies.more {x : Cf} {w : World} {B B' : Nat} (h : Lies x w B) (hB : B ≤ B') : Lies x w B' := ⟨h.rd.more hB, h.cap, h.max⟩
set_option maxRecDepth 100000 in
theorem Lies.len {x : Cf} {w : World} {B : Nat} (h : Lies x w B) : x.ms.length = x.n := by have := h.rd.1; rwa [iv_length] at this
set_option maxRecDepth 100000 in
theorem Lies.on {x : Cf} {w w' : World} {B : Nat} (h : Lies x w B) (hB : B ≤ w.heap.size) (hb : Below w.heap.size w w') : Lies x w' B := h.below (hb.mono hB)
set_option maxRecDepth 100000 in
theorem lies_cf0 (w : World) (B : Nat) : Lies cf0 w B := ⟨Rd.nil_ _ _ _, Nat.le_refl _, Nat.zero_le _⟩

/-- The table of bounds lies there, in the first block. -/
def Tab (w : World) : Prop := 1 < w.heap.size ∧ ∀ k, k < 13 → w.cell? ⟨1, k * 2, none⟩ = some (.int .i64 (loB k)) ∧ w.cell? ⟨1, k * 2 + 1, none⟩ = some (.int .i64 (hiB k))
set_option maxRecDepth 100000 in
theorem Tab.under {w w' : World} (h : Tab w) (hb : Below w.heap.size w w') : Tab w' :=
  ⟨Nat.lt_of_lt_of_le h.1 hb.size, fun k hk => ⟨(hb.cell (p := ⟨1, k * 2, none⟩) h.1).trans (h.2 k hk).1, (hb.cell (p := ⟨1, k * 2 + 1, none⟩) h.1).trans (h.2 k hk).2⟩⟩
set_option maxRecDepth 100000 in
theorem Tab.below {w w' : World} {B : Nat} (h : Tab w) (hB : w.heap.size ≤ B) (hb : Below B w w') : Tab w' := h.under (hb.mono hB)

end Go.Proofs.YtdaimejlcfhfiaaGreatDoor

/-
  Brains as plain data: what a record does, which may be. Leans on groups (CfMath). Conditions: those that each theorem names.
-/
namespace Go.Proofs.YtdaimejlcfhfiaaGreatDoor
open Go.RowKit Go.Shelf

structure It where
  tok : Int
  ver : Int
  zone : Int
  warm : Bool
  deriving DecidableEq
structure Kp where
  id : Int
  tok : Int
  ver : Int
  zone : Int
  phase : Int
  since : Int
  guard : Bool
  done : Bool
  deriving DecidableEq
structure Rf where
  st : Int
  fr : Int
  to_ : Int
  step : Int
  paused : Bool
  since : Int
  fails : Int
  deriving DecidableEq
/-- A brain; its group is told with no memory of its own (A none, n and c 0). -/
structure Br where
  ep : Int
  sq : Int
  set : Bool
  cf : Cf
  its : List It
  kps : List Kp
  rf : Rf
/-- A group without its memory. -/
def Cf.pl (x : Cf) : Cf := { x with A := none, n := 0, c := 0 }
set_option maxRecDepth 100000 in
theorem may_pl (x : Cf) : may x.pl = may x := rfl
set_option maxRecDepth 100000 in
theorem sameC_pl (x y : Cf) : sameC x.pl y.pl = sameC x y := rfl
set_option maxRecDepth 100000 in
theorem sameC_plain {x y : Cf} : sameC x y = true ↔ x.pl = y.pl := by
  rw [sameC_iff]
  constructor
  · rintro ⟨h1, h2, h3⟩
    simp only [Cf.fs, List.cons.injEq, and_true] at h1
    obtain ⟨g0, g1, g2, g3, g4, g5, g6, g7, g8, g9, g10, g11, g12⟩ := h1
    simp only [Cf.pl, g0, g1, g2, g3, g4, g5, g6, g7, g8, g9, g10, g11, g12, h2, h3]
  · intro h
    cases x; cases y
    simp only [Cf.pl, Cf.mk.injEq] at h
    obtain ⟨g0, g1, g2, g3, g4, g5, g6, g7, g8, g9, g10, g11, g12, g13, _, _, _, g14⟩ := h
    simp only [Cf.fs, g0, g1, g2, g3, g4, g5, g6, g7, g8, g9, g10, g11, g12, g13, g14, and_self]

def brMax : Int := 1099511627776
def numsB (l : List Int) : Bool := l.all isNum
/-- How many numbers a record of a kind has; -1: it is none, or a group's row. -/
def manyB (k : Int) : Int :=
  if k = 1 ∨ k = 12 ∨ k = 13 ∨ k = 15 ∨ k = 16 then 0 else if k = 5 ∨ k = 7 ∨ k = 10 ∨ k = 14 then 1 else if k = 9 ∨ k = 11 then 2 else if k = 3 ∨ k = 4 ∨ k = 6 then 3 else if k = 8 then 5 else -1
def legalB (a b : Int) : Bool :=
  if a = 1 then decide (b = 2 ∨ b = 8) else if a = 2 then decide (b = 3 ∨ b = 8) else if a = 3 then decide (b = 4) else if a = 4 then decide (b = 5 ∨ b = 3) else if a = 5 then decide (b = 6 ∨ b = 4) else if a = 6 then decide (b = 7) else if a = 7 then decide (b = 8) else if a = 9 then decide (b = 10 ∨ b = 8) else if a = 10 then decide (b = 1) else false
def keptB (b : Br) (id : Int) : Option Kp := b.kps.find? fun x => decide (x.id = id)
def meantB (b : Br) (t : Int) : Option It := b.its.find? fun x => decide (x.tok = t)
/-- The place of the one that counts; -1: there is none. -/
def findB (b : Br) (id : Int) : Int := match b.kps.findIdx? (fun x => decide (x.id = id)) with | some i => i | none => -1
def tokenB (b : Br) (t : Int) : Int := match b.its.findIdx? (fun x => decide (x.tok = t)) with | some i => i | none => -1
def putK (l : List Kp) (x : Kp) : List Kp := l.takeWhile (fun y => decide (y.id ≤ x.id)) ++ x :: l.dropWhile (fun y => decide (y.id ≤ x.id))
/-- The first one of an id, changed. -/
def setK (id : Int) (f : Kp → Kp) : List Kp → List Kp
  | [] => []
  | x :: l => if x.id = id then f x :: l else x :: setK id f l
def dropI (t : Int) (l : List It) : List It := l.eraseP fun x => decide (x.tok = t)
def dropK (id : Int) (l : List Kp) : List Kp := l.eraseP fun x => decide (x.id = id)

def confB (b : Br) (l : List Int) : Br :=
  if isRow l = true then { b with cf := if b.set then { ofRow l none 0 0 with f12 := b.cf.f12 } else ofRow l none 0 0, set := true } else b
def bootB (b : Br) : Br := if b.ep < brMax then { b with ep := b.ep + 1 } else b
def intentB (b : Br) (v z h : Int) : Br :=
  if b.set = true ∧ 1 ≤ v ∧ z < 4 ∧ h < 2 ∧ b.sq < brMax then { b with sq := b.sq + 1, its := b.its ++ [⟨b.sq + 1, v, z, decide (h = 1)⟩] } else b
def madeB (b : Br) (t id now : Int) : Br :=
  match meantB b t with
  | none => b
  | some i => if 1 ≤ id ∧ keptB b id = none then
      { b with its := dropI t b.its, kps := putK b.kps ⟨id, i.tok, i.ver, i.zone, if i.warm then 9 else 1, now, false, false⟩, rf := if b.rf.st = 1 then { b.rf with fails := 0 } else b.rf }
    else b
def takeB (b : Br) (id t v z now : Int) : Br :=
  if 1 ≤ id ∧ keptB b id = none then { b with kps := putK b.kps ⟨id, t, v, z, 8, now, false, false⟩ } else b
def phaseB (b : Br) (id p now : Int) : Br :=
  match keptB b id with
  | none => b
  | some x => if p < 11 ∧ legalB x.phase p = true then { b with kps := setK id (fun y => { y with phase := p, since := now, done := false }) b.kps } else b
def goneB_ (b : Br) (id : Int) : Br := if keptB b id = none then b else { b with kps := dropK id b.kps }
def guardB (b : Br) (id on : Int) : Br := if keptB b id = none then b else if on < 2 then { b with kps := setK id (fun y => { y with guard := decide (on = 1) }) b.kps } else b
def doneB (b : Br) (id : Int) : Br :=
  match keptB b id with
  | none => b
  | some x => if x.phase = 1 ∨ x.phase = 7 then { b with kps := setK id (fun y => { y with done := true }) b.kps } else b
def startB (b : Br) (to_ now : Int) : Br := if b.set = true ∧ ¬ b.rf.st = 1 ∧ 1 ≤ to_ then { b with rf := ⟨1, b.cf.f12, to_, 0, false, now, 0⟩ } else b
def failR (r : Rf) (m : Int) : Rf := if m ≤ wrap64 (r.fails + 1) then { r with to_ := r.fr, fails := 0 } else { r with fails := wrap64 (r.fails + 1) }
def goR (r : Rf) : Rf := if r.paused = true then { r with paused := false, step := wrap64 (r.step + 1) } else r
def pauseR (r : Rf) (now : Int) : Rf := if r.paused = true then r else { r with paused := true, since := now }
/-- What is done of a refresh that is active. -/
def refB (b : Br) (k x : Int) : Br :=
  if k = 5 then { b with rf := failR b.rf b.cf.f10 } else if k = 12 then { b with rf := { b.rf with st := 3, paused := false } } else if k = 13 then { b with rf := { b.rf with to_ := b.rf.fr } } else if k = 14 then { b with rf := pauseR b.rf x } else if k = 15 then { b with rf := goR b.rf } else if k = 16 then { b with rf := { b.rf with st := 2, paused := false }, cf := { b.cf with f12 := b.rf.to_ } } else b
def fitB (b : Br) (k x0 x1 x2 x3 x4 : Int) : Br :=
  if k = 1 then bootB b else if k = 3 then intentB b x0 x1 x2 else if k = 4 then madeB b x0 x1 x2 else if k = 6 then phaseB b x0 x1 x2 else if k = 7 then goneB_ b x0 else if k = 8 then takeB b x0 x1 x2 x3 x4 else if k = 9 then guardB b x0 x1 else if k = 10 then doneB b x0 else if k = 11 then startB b x0 x1 else if b.rf.st = 1 then refB b k x0 else b
/-- A brain behind a record. -/
def applyB (b : Br) (k : Int) (l : List Int) : Br :=
  if numsB l = true then (if k = 2 then confB b l else if manyB k = (l.length : Int) then fitB b k (l.getD 0 0) (l.getD 1 0) (l.getD 2 0) (l.getD 3 0) (l.getD 4 0) else b) else b
def allB (b : Br) (l : List (Int × List Int)) : Br := l.foldl (fun b r => applyB b r.1 r.2) b
def br0 : Br := ⟨0, 0, false, cf0, [], [], ⟨0, 0, 0, 0, false, 0, 0⟩⟩

/-- A brain may be. -/
structure RightB (b : Br) : Prop where
  ep : 0 ≤ b.ep ∧ b.ep ≤ brMax
  sq : 0 ≤ b.sq ∧ b.sq ≤ brMax
  its : ∀ x ∈ b.its, 1 ≤ x.tok ∧ x.tok ≤ b.sq
  itp : b.its.Pairwise fun x y => x.tok < y.tok
  kps : ∀ x ∈ b.kps, (1 ≤ x.id ∧ x.id ≤ brMax) ∧ 1 ≤ x.phase ∧ x.phase ≤ 10
  kpp : b.kps.Pairwise fun x y => x.id < y.id
  rf : b.rf.st = 1 → (1 ≤ b.rf.fr ∧ b.rf.fr ≤ brMax) ∧ 1 ≤ b.rf.to_ ∧ b.rf.to_ ≤ brMax
  no : b.set = false → b.its = [] ∧ b.rf.st = 0
  yes : b.set = true → may b.cf = true

section
variable {b : Br} {k : Int} {l : List Int}
set_option maxRecDepth 100000 in
theorem right_br0 : RightB br0 := ⟨by decide, by decide, by simp [br0], by simp [br0], by simp [br0], by simp [br0], by simp [br0], by simp [br0], by simp [br0]⟩

set_option maxRecDepth 100000 in
/-- A group of another version may be. -/
theorem may_ver {x : Cf} (h : may x = true) {v : Int} (h1 : 1 ≤ v) (h2 : v ≤ brMax) : may { x with f12 := v } = true := by
  simp only [may, Bool.and_eq_true] at h ⊢
  obtain ⟨h3, h4, h5⟩ := h
  refine ⟨?_, h4, h5⟩
  obtain ⟨g1, g2, g3, g4, g5, g6, g7⟩ := inB_iff.1 h3
  exact inB_iff.2 ⟨g1, g2, g3, g4, g5, g6, h1, h2⟩
set_option maxRecDepth 100000 in
theorem may_ver_bd {x : Cf} (h : may x = true) : 1 ≤ x.f12 ∧ x.f12 ≤ brMax := by
  simp only [may, Bool.and_eq_true] at h
  obtain ⟨_, _, _, _, _, _, g7⟩ := inB_iff.1 h.1
  exact g7

set_option maxRecDepth 100000 in
theorem putK_mem {l : List Kp} {x y : Kp} : y ∈ putK l x ↔ y = x ∨ y ∈ l := by
  simp only [putK, List.mem_append, List.mem_cons]
  have : y ∈ l ↔ y ∈ l.takeWhile (fun y => decide (y.id ≤ x.id)) ∨ y ∈ l.dropWhile (fun y => decide (y.id ≤ x.id)) := by
    rw [← List.mem_append, List.takeWhile_append_dropWhile]
  rw [this]
  constructor
  · rintro (h | h | h) <;> simp [h]
  · rintro (h | h | h) <;> simp [h]
set_option maxRecDepth 100000 in
theorem putK_len (l : List Kp) (x : Kp) : (putK l x).length = l.length + 1 := by
  have h : (l.takeWhile (fun y => decide (y.id ≤ x.id)) ++ l.dropWhile (fun y => decide (y.id ≤ x.id))).length = l.length := by rw [List.takeWhile_append_dropWhile]
  simp only [putK, List.length_append, List.length_cons] at h ⊢
  omega
set_option maxRecDepth 100000 in
theorem putK_pw {l : List Kp} {x : Kp} (h : l.Pairwise fun x y => x.id < y.id) (hn : ∀ y ∈ l, y.id ≠ x.id) : (putK l x).Pairwise fun x y => x.id < y.id := by
  induction l with
  | nil => simp [putK]
  | cons a l ih =>
    rw [List.pairwise_cons] at h
    by_cases ha : a.id ≤ x.id
    · have e : putK (a :: l) x = a :: putK l x := by simp [putK, ha]
      rw [e, List.pairwise_cons]
      refine ⟨fun y hy => ?_, ih h.2 fun y hy => hn y (List.mem_cons_of_mem _ hy)⟩
      rcases putK_mem.1 hy with rfl | hy
      · have := hn a (List.mem_cons_self ..); omega
      · exact h.1 y hy
    · have e : putK (a :: l) x = x :: a :: l := by simp [putK, ha]
      rw [e, List.pairwise_cons, List.pairwise_cons]
      refine ⟨fun y hy => ?_, h⟩
      rcases List.mem_cons.1 hy with rfl | hy
      · omega
      · have := h.1 y hy; omega
set_option maxRecDepth 100000 in
theorem setK_len (id : Int) (f : Kp → Kp) : ∀ l : List Kp, (setK id f l).length = l.length
  | [] => rfl
  | x :: l => by unfold setK; split <;> simp [setK_len id f l]
set_option maxRecDepth 100000 in
theorem setK_mem {id : Int} {f : Kp → Kp} {y : Kp} : ∀ {l : List Kp}, y ∈ setK id f l → y ∈ l ∨ ∃ x ∈ l, x.id = id ∧ y = f x
  | [], h => by simp [setK] at h
  | x :: l, h => by
    unfold setK at h
    split at h
    · rename_i e
      rcases List.mem_cons.1 h with rfl | h
      · exact .inr ⟨x, List.mem_cons_self .., e, rfl⟩
      · exact .inl (List.mem_cons_of_mem _ h)
    · rcases List.mem_cons.1 h with rfl | h
      · exact .inl (List.mem_cons_self ..)
      · rcases setK_mem h with h | ⟨z, hz, e⟩
        · exact .inl (List.mem_cons_of_mem _ h)
        · exact .inr ⟨z, List.mem_cons_of_mem _ hz, e⟩
set_option maxRecDepth 100000 in
theorem setK_pw {id : Int} {f : Kp → Kp} (hf : ∀ x, (f x).id = x.id) {l : List Kp} (h : l.Pairwise fun x y => x.id < y.id) : (setK id f l).Pairwise fun x y => x.id < y.id := by
  induction l with
  | nil => simp [setK]
  | cons a l ih =>
    rw [List.pairwise_cons] at h
    unfold setK
    split
    · rw [List.pairwise_cons]
      exact ⟨fun y hy => by rw [hf]; exact h.1 y hy, h.2⟩
    · rw [List.pairwise_cons]
      refine ⟨fun y hy => ?_, ih h.2⟩
      rcases setK_mem hy with hy | ⟨x, hx, _, rfl⟩
      · exact h.1 y hy
      · rw [hf]; exact h.1 x hx
set_option maxRecDepth 100000 in
/-- Where the changed one stands, and where the others do. -/
theorem setK_get {id : Int} {f : Kp → Kp} : ∀ {l : List Kp} {i : Nat}, l.findIdx? (fun x => decide (x.id = id)) = some i → ∀ j, (setK id f l)[j]? = if j = i then l[j]?.map f else l[j]?
  | [], i, h => by simp at h
  | x :: l, i, h => by
    intro j
    unfold setK
    rw [List.findIdx?_cons] at h
    by_cases hx : x.id = id
    · simp only [hx, decide_true, if_true] at h ⊢
      injection h with h
      subst h
      cases j <;> simp
    · simp only [hx, decide_false, Bool.false_eq_true, if_false] at h ⊢
      cases hl : l.findIdx? (fun x => decide (x.id = id)) with
      | none => rw [hl] at h; simp at h
      | some i' =>
        rw [hl] at h
        simp only [Option.map_some, Option.some.injEq] at h
        subst h
        cases j with
        | zero => simp
        | succ j => simp [setK_get hl j]
set_option maxRecDepth 100000 in
theorem kept_none {id : Int} : keptB b id = none ↔ ∀ x ∈ b.kps, x.id ≠ id := by
  simp [keptB, List.find?_eq_none]
set_option maxRecDepth 100000 in
theorem kept_some {id : Int} {x : Kp} (h : keptB b id = some x) : x ∈ b.kps ∧ x.id = id := by
  refine ⟨List.mem_of_find?_eq_some h, ?_⟩
  have := List.find?_some h
  simpa using this
set_option maxRecDepth 100000 in
theorem meant_some {t : Int} {x : It} (h : meantB b t = some x) : x ∈ b.its ∧ x.tok = t := by
  refine ⟨List.mem_of_find?_eq_some h, ?_⟩
  have := List.find?_some h
  simpa using this
set_option maxRecDepth 100000 in
theorem legal_bd {a p : Int} (h : legalB a p = true) : 1 ≤ p ∧ p ≤ 10 := by
  unfold legalB at h
  repeat' split at h
  all_goals first | (simp only [decide_eq_true_eq] at h; omega) | simp at h
end

end Go.Proofs.YtdaimejlcfhfiaaGreatDoor

/-
  What follows of records one behind the other: brains that may be stay so; tokens; what a record leaves as it was. Plain. Conditions: those that each theorem names.
-/
namespace Go.Proofs.YtdaimejlcfhfiaaGreatDoor
open Go.RowKit Go.Shelf

section
variable {b : Br} {k : Int} {l : List Int}

set_option maxRecDepth 100000 in
theorem nums_at (h : numsB l = true) (i : Nat) : 0 ≤ l.getD i 0 ∧ l.getD i 0 ≤ brMax := by
  rw [List.getD_eq_getElem?_getD]
  cases hx : l[i]? with
  | none => simp [brMax]
  | some x =>
    have := List.all_eq_true.1 h x (List.mem_of_getElem? hx)
    simpa [brMax] using isNum_iff.1 this

set_option maxRecDepth 100000 in
/-- A record's effect, kind by kind. -/
theorem fit_cases {P : Br → Prop} {x0 x1 x2 x3 x4 : Int} (h1 : k = 1 → P (bootB b)) (h3 : k = 3 → P (intentB b x0 x1 x2)) (h4 : k = 4 → P (madeB b x0 x1 x2)) (h6 : k = 6 → P (phaseB b x0 x1 x2)) (h7 : k = 7 → P (goneB_ b x0)) (h8 : k = 8 → P (takeB b x0 x1 x2 x3 x4)) (h9 : k = 9 → P (guardB b x0 x1)) (h10 : k = 10 → P (doneB b x0)) (h11 : k = 11 → P (startB b x0 x1)) (hr : b.rf.st = 1 → k ≠ 3 ∧ k ≠ 4 ∧ k ≠ 6 ∧ k ≠ 7 ∧ k ≠ 8 ∧ k ≠ 9 ∧ k ≠ 10 → P (refB b k x0)) (h0 : P b) : P (fitB b k x0 x1 x2 x3 x4) := by
  unfold fitB
  by_cases e1 : k = 1
  · simp only [e1, if_true]; exact h1 e1
  by_cases e3 : k = 3
  · simp only [e3]; exact h3 e3
  by_cases e4 : k = 4
  · simp only [e4]; exact h4 e4
  by_cases e6 : k = 6
  · simp only [e6]; exact h6 e6
  by_cases e7 : k = 7
  · simp only [e7]; exact h7 e7
  by_cases e8 : k = 8
  · simp only [e8]; exact h8 e8
  by_cases e9 : k = 9
  · simp only [e9]; exact h9 e9
  by_cases e10 : k = 10
  · simp only [e10]; exact h10 e10
  by_cases e11 : k = 11
  · simp only [e11]; exact h11 e11
  simp only [if_neg e1, if_neg e3, if_neg e4, if_neg e6, if_neg e7, if_neg e8, if_neg e9, if_neg e10, if_neg e11]
  split
  · rename_i h
    exact hr h ⟨e3, e4, e6, e7, e8, e9, e10⟩
  · exact h0
set_option maxRecDepth 100000 in
theorem apply_cases {P : Br → Prop} (hc : k = 2 → isRow l = true → P (confB b l)) (hf : numsB l = true → k ≠ 2 → manyB k = (l.length : Int) → P (fitB b k (l.getD 0 0) (l.getD 1 0) (l.getD 2 0) (l.getD 3 0) (l.getD 4 0))) (h0 : P b) : P (applyB b k l) := by
  unfold applyB
  split
  · rename_i hn
    split
    · rename_i e
      by_cases hr : isRow l = true
      · exact hc e hr
      · unfold confB; rw [if_neg hr]; exact h0
    · rename_i e
      split
      · rename_i hm
        exact hf hn e hm
      · exact h0
  · exact h0

set_option maxRecDepth 100000 in
/-- A brain that may be may be behind whatever record. -/
theorem right_apply (h : RightB b) : RightB (applyB b k l) := by
  refine apply_cases (P := RightB) (fun _ hr => ?_) (fun hn _ _ => ?_) h
  · have hm : may (ofRow l none 0 0) = true := by
      simp only [isRow, Bool.and_eq_true] at hr
      exact hr.2
    unfold confB
    rw [if_pos hr]
    refine ⟨h.ep, h.sq, h.its, h.itp, h.kps, h.kpp, h.rf, fun e => by simp at e, fun _ => ?_⟩
    show may (if b.set then _ else _) = true
    split
    · rename_i e
      have := may_ver_bd (h.yes e)
      exact may_ver hm this.1 this.2
    · exact hm
  · have a0 := nums_at hn 0
    have a1 := nums_at hn 1
    refine fit_cases (P := RightB) (fun _ => ?_) (fun _ => ?_) (fun _ => ?_) (fun _ => ?_) (fun _ => ?_) (fun _ => ?_) (fun _ => ?_) (fun _ => ?_) (fun _ => ?_) (fun hs _ => ?_) h
    · unfold bootB; split
      · exact ⟨⟨by have := h.ep; show 0 ≤ b.ep + 1; omega, by show b.ep + 1 ≤ brMax; omega⟩, h.sq, h.its, h.itp, h.kps, h.kpp, h.rf, h.no, h.yes⟩
      · exact h
    · unfold intentB; split
      · rename_i e
        obtain ⟨e1, e2, e3, e4, e5⟩ := e
        have hs := h.sq
        refine ⟨h.ep, ⟨by show 0 ≤ b.sq + 1; omega, by show b.sq + 1 ≤ brMax; omega⟩, fun x hx => ?_, ?_, h.kps, h.kpp, h.rf, fun e => (by rw [e1] at e; cases e), h.yes⟩
        · simp only [List.mem_append, List.mem_singleton] at hx
          rcases hx with hx | rfl
          · have := h.its x hx
            exact ⟨this.1, by show x.tok ≤ b.sq + 1; omega⟩
          · exact ⟨by show 1 ≤ b.sq + 1; omega, Int.le_refl _⟩
        · show (b.its ++ _).Pairwise _
          rw [List.pairwise_append]
          refine ⟨h.itp, List.pairwise_singleton _ _, fun x hx y hy => ?_⟩
          simp only [List.mem_singleton] at hy
          subst hy
          have := (h.its x hx).2
          show x.tok < b.sq + 1
          omega
      · exact h
    · unfold madeB
      split
      · exact h
      · rename_i i hi
        split
        · rename_i e
          have hn := kept_none.1 e.2
          refine ⟨h.ep, h.sq, fun x hx => h.its x (List.mem_of_mem_eraseP hx), h.itp.sublist List.eraseP_sublist, fun x hx => ?_, putK_pw h.kpp (fun y hy => hn y hy), ?_, fun e => ?_, h.yes⟩
          · rcases putK_mem.1 hx with rfl | hx
            · refine ⟨⟨e.1, a1.2⟩, ?_⟩
              show 1 ≤ (if i.warm then (9 : Int) else 1) ∧ (if i.warm then (9 : Int) else 1) ≤ 10
              split <;> decide
            · exact h.kps x hx
          · show (if b.rf.st = 1 then _ else _ : Rf).st = 1 → _
            split
            · exact fun e => h.rf e
            · exact fun e => h.rf e
          · have := h.no e
            have hm := (meant_some hi).1
            rw [this.1] at hm
            cases hm
        · exact h
    · unfold phaseB
      split
      · exact h
      · rename_i x hx
        split
        · rename_i e
          have hb := legal_bd e.2
          refine ⟨h.ep, h.sq, h.its, h.itp, fun y hy => ?_, setK_pw (by simp) h.kpp, h.rf, h.no, h.yes⟩
          rcases setK_mem hy with hy | ⟨z, hz, _, rfl⟩
          · exact h.kps y hy
          · exact ⟨(h.kps z hz).1, hb⟩
        · exact h
    · unfold goneB_; split
      · exact h
      · exact ⟨h.ep, h.sq, h.its, h.itp, fun x hx => h.kps x (List.mem_of_mem_eraseP hx), h.kpp.sublist List.eraseP_sublist, h.rf, h.no, h.yes⟩
    · unfold takeB; split
      · rename_i e
        have hn := kept_none.1 e.2
        refine ⟨h.ep, h.sq, h.its, h.itp, fun x hx => ?_, putK_pw h.kpp (fun y hy => hn y hy), h.rf, h.no, h.yes⟩
        rcases putK_mem.1 hx with rfl | hx
        · exact ⟨⟨e.1, a0.2⟩, by show (1 : Int) ≤ 8; decide, by show (8 : Int) ≤ 10; decide⟩
        · exact h.kps x hx
      · exact h
    · unfold guardB; split
      · exact h
      · split
        · refine ⟨h.ep, h.sq, h.its, h.itp, fun y hy => ?_, setK_pw (by simp) h.kpp, h.rf, h.no, h.yes⟩
          rcases setK_mem hy with hy | ⟨z, hz, _, rfl⟩
          · exact h.kps y hy
          · exact h.kps z hz
        · exact h
    · unfold doneB
      split
      · exact h
      · split
        · refine ⟨h.ep, h.sq, h.its, h.itp, fun y hy => ?_, setK_pw (by simp) h.kpp, h.rf, h.no, h.yes⟩
          rcases setK_mem hy with hy | ⟨z, hz, _, rfl⟩
          · exact h.kps y hy
          · exact h.kps z hz
        · exact h
    · unfold startB; split
      · rename_i e
        have hv := may_ver_bd (h.yes e.1)
        exact ⟨h.ep, h.sq, h.its, h.itp, h.kps, h.kpp, fun _ => ⟨hv, e.2.2, a0.2⟩, fun e' => by rw [show b.set = false from e'] at e; simp at e, h.yes⟩
      · exact h
    · have hset : b.set = true := by
        cases hb : b.set with
        | true => rfl
        | false => have := (h.no hb).2; omega
      obtain ⟨r1, r2⟩ := h.rf hs
      have hno : ∀ {X : Prop}, b.set = false → X := fun e => by rw [hset] at e; cases e
      unfold refB failR pauseR goR
      repeat' split
      all_goals first
        | exact h
        | exact ⟨h.ep, h.sq, h.its, h.itp, h.kps, h.kpp, fun _ => ⟨r1, r1⟩, hno, h.yes⟩
        | exact ⟨h.ep, h.sq, h.its, h.itp, h.kps, h.kpp, fun _ => ⟨r1, r2⟩, hno, h.yes⟩
        | exact ⟨h.ep, h.sq, h.its, h.itp, h.kps, h.kpp, fun _ => ⟨r1, r2⟩, hno, fun _ => may_ver (h.yes hset) r2.1 r2.2⟩

/-- What a record may turn: numbers never fall, one more or fewer at most. -/
structure StepB (k : Int) (b o : Br) : Prop where
  sq : b.sq ≤ o.sq
  ep : b.ep ≤ o.ep
  set : o.set = (b.set || o.set)
  cnt : (o.its.length + o.kps.length = b.its.length + b.kps.length) ∨ (o.its.length + o.kps.length = b.its.length + b.kps.length + 1 ∧ (k = 3 ∨ k = 8)) ∨ (o.its.length + o.kps.length + 1 = b.its.length + b.kps.length ∧ k = 7)
set_option maxRecDepth 100000 in
theorem stepB_refl : StepB k b b := ⟨Int.le_refl _, Int.le_refl _, by cases b.set <;> rfl, .inl rfl⟩
set_option maxRecDepth 100000 in
theorem meant_len {t : Int} {i : It} (h : meantB b t = some i) : (dropI t b.its).length + 1 = b.its.length := by
  obtain ⟨h1, h2⟩ := meant_some h
  have := List.length_eraseP_of_mem (p := fun x : It => decide (x.tok = t)) h1 (by simp [h2])
  have h3 : 0 < b.its.length := List.length_pos_of_mem h1
  unfold dropI
  omega
set_option maxRecDepth 100000 in
theorem kept_len {id : Int} (h : ¬ keptB b id = none) : (dropK id b.kps).length + 1 = b.kps.length := by
  cases hx : keptB b id with
  | none => exact absurd hx h
  | some x =>
    obtain ⟨h1, h2⟩ := kept_some hx
    have := List.length_eraseP_of_mem (p := fun x : Kp => decide (x.id = id)) h1 (by simp [h2])
    have h3 : 0 < b.kps.length := List.length_pos_of_mem h1
    unfold dropK
    omega
set_option maxRecDepth 100000 in
theorem step_apply (b : Br) (k : Int) (l : List Int) : StepB k b (applyB b k l) := by
  have hs : ∀ {o : Br}, o.set = b.set → o.set = (b.set || o.set) := fun e => by rw [e]; cases b.set <;> rfl
  refine apply_cases (P := StepB k b) (fun _ hr => ?_) (fun hn _ _ => ?_) stepB_refl
  · unfold confB
    rw [if_pos hr]
    exact ⟨Int.le_refl _, Int.le_refl _, by simp, .inl rfl⟩
  · refine fit_cases (P := StepB k b) (fun _ => ?_) (fun e3 => ?_) (fun _ => ?_) (fun _ => ?_) (fun e7 => ?_) (fun e8 => ?_) (fun _ => ?_) (fun _ => ?_) (fun _ => ?_) (fun _ _ => ?_) stepB_refl
    · unfold bootB; split
      · exact ⟨Int.le_refl _, by show b.ep ≤ b.ep + 1; omega, hs rfl, .inl rfl⟩
      · exact stepB_refl
    · unfold intentB; split
      · exact ⟨by show b.sq ≤ b.sq + 1; omega, Int.le_refl _, hs rfl, .inr (.inl ⟨by simp; omega, .inl e3⟩)⟩
      · exact stepB_refl
    · unfold madeB; split
      · exact stepB_refl
      · rename_i i hi
        split
        · exact ⟨Int.le_refl _, Int.le_refl _, hs rfl, .inl (by have := meant_len hi; simp only [putK_len]; omega)⟩
        · exact stepB_refl
    · unfold phaseB; split
      · exact stepB_refl
      · split
        · exact ⟨Int.le_refl _, Int.le_refl _, hs rfl, .inl (by simp only [setK_len])⟩
        · exact stepB_refl
    · unfold goneB_; split
      · exact stepB_refl
      · rename_i e
        exact ⟨Int.le_refl _, Int.le_refl _, hs rfl, .inr (.inr ⟨by have := kept_len e; simp only; omega, e7⟩)⟩
    · unfold takeB; split
      · exact ⟨Int.le_refl _, Int.le_refl _, hs rfl, .inr (.inl ⟨by simp only [putK_len]; omega, .inr e8⟩)⟩
      · exact stepB_refl
    · unfold guardB; split
      · exact stepB_refl
      · split
        · exact ⟨Int.le_refl _, Int.le_refl _, hs rfl, .inl (by simp only [setK_len])⟩
        · exact stepB_refl
    · unfold doneB; split
      · exact stepB_refl
      · split
        · exact ⟨Int.le_refl _, Int.le_refl _, hs rfl, .inl (by simp only [setK_len])⟩
        · exact stepB_refl
    · unfold startB; split
      · exact ⟨Int.le_refl _, Int.le_refl _, hs rfl, .inl rfl⟩
      · exact stepB_refl
    · unfold refB
      repeat' split
      all_goals first
        | exact stepB_refl
        | exact ⟨Int.le_refl _, Int.le_refl _, hs rfl, .inl rfl⟩
set_option maxRecDepth 100000 in
/-- No longer than so many behind so many records. -/
theorem len_apply (b : Br) (k : Int) (l : List Int) : (applyB b k l).its.length + (applyB b k l).kps.length ≤ b.its.length + b.kps.length + 1 := by
  rcases (step_apply b k l).cnt with h | ⟨h, _⟩ | ⟨h, _⟩ <;> omega

set_option maxRecDepth 100000 in
theorem all_append (b : Br) (l m : List (Int × List Int)) : allB b (l ++ m) = allB (allB b l) m := by simp [allB]
set_option maxRecDepth 100000 in
theorem all_take {l : List (Int × List Int)} {j : Nat} {r : Int × List Int} (h : l[j]? = some r) : allB b (l.take (j + 1)) = applyB (allB b (l.take j)) r.1 r.2 := by
  have hj := List.getElem?_eq_some_iff.1 h
  rw [List.take_succ_eq_append_getElem hj.1, hj.2, all_append]
  rfl
set_option maxRecDepth 100000 in
theorem right_all (h : RightB b) (l : List (Int × List Int)) : RightB (allB b l) := by
  induction l generalizing b with
  | nil => exact h
  | cons r l ih => exact ih (right_apply h)
end

end Go.Proofs.YtdaimejlcfhfiaaGreatDoor
