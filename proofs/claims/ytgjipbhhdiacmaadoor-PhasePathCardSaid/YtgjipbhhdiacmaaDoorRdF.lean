/-
  Rows of structs of one size in memory, whatever the struct: how they read, slices cut out of them, rows of one's own, appends. Conditions: those that each theorem names.
-/
import Derived.Test.YtgjipbhhdiacmaaDoorMem
namespace Go.Proofs.YtgjipbhhdiacmaaDoor
open Go.RowKit Go.Shelf

section
variable {α : Type} {f : α → List Value} {size : Nat}
set_option maxRecDepth 100000 in
theorem flatF_length (hf : ∀ x, (f x).length = size) (l : List α) : (l.flatMap f).length = l.length * size := by
  induction l with
  | nil => simp
  | cons x l ih => rw [List.flatMap_cons, List.length_append, ih, hf, List.length_cons, Nat.succ_mul]; omega
set_option maxRecDepth 100000 in
theorem flatF_at (hf : ∀ x, (f x).length = size) {l : List α} {j : Nat} {x : α} (hx : l[j]? = some x) {i : Nat} (hi : i < size) : (l.flatMap f)[j * size + i]? = (f x)[i]? := by
  induction l generalizing j with
  | nil => simp at hx
  | cons y l ih =>
    rw [List.flatMap_cons]
    cases j with
    | zero =>
      simp at hx
      subst hx
      rw [Nat.zero_mul, Nat.zero_add, List.getElem?_append_left (by rw [hf]; exact hi)]
    | succ j =>
      rw [List.getElem?_append_right (by rw [hf, Nat.succ_mul]; omega), hf, show (j + 1) * size + i - size = j * size + i by rw [Nat.succ_mul]; omega]
      exact ih (by simpa using hx)
set_option maxRecDepth 100000 in
theorem flatF_set (hf : ∀ x, (f x).length = size) {l : List α} {j : Nat} {x y : α} (hx : l[j]? = some x) {i : Nat} (hi : i < size) {u : Value} (hy : f y = (f x).set i u) : (l.flatMap f).set (j * size + i) u = (l.set j y).flatMap f := by
  induction l generalizing j with
  | nil => simp at hx
  | cons z l ih =>
    cases j with
    | zero =>
      simp at hx
      subst hx
      rw [Nat.zero_mul, Nat.zero_add, List.flatMap_cons, List.set_cons_zero, List.flatMap_cons, hy, List.set_append_left _ _ (by rw [hf]; exact hi)]
    | succ j =>
      rw [List.set_cons_succ, List.flatMap_cons, List.flatMap_cons, List.set_append_right _ _ (by rw [hf, Nat.succ_mul]; omega), hf, show (j + 1) * size + i - size = j * size + i by rw [Nat.succ_mul]; omega, ih (by simpa using hx)]
set_option maxRecDepth 100000 in
theorem flatF_one (hf1 : ∀ x, ∀ u ∈ f x, u.oneCell' = true) (l : List α) : ∀ u ∈ l.flatMap f, u.oneCell' = true := by
  intro u hu
  simp only [List.mem_flatMap] at hu
  obtain ⟨x, _, hx⟩ := hu
  exact hf1 x u hx
end

/-- A slice of structs of 'size' cells, whose values f tells, that reads as the list l, in a block below B. -/
def RdF {α : Type} (size : Nat) (f : α → List Value) (w : World) (B : Nat) (A : Option Addr) (n : Nat) (l : List α) : Prop :=
  l.length = n ∧ (0 < n → ∃ b off, A = some ⟨b, off, none⟩ ∧ b < B ∧ ∀ j x, l[j]? = some x → ∀ i, i < size → w.cell? ⟨b, off + j * size + i, none⟩ = (f x)[i]?)
section
variable {α : Type} {f : α → List Value} {size : Nat} {w w' : World} {B B' n : Nat} {A : Option Addr} {l : List α}
set_option maxRecDepth 100000 in
theorem RdF.len (h : RdF size f w B A n l) : l.length = n := h.1
set_option maxRecDepth 100000 in
theorem RdF.nil_ (w : World) (B : Nat) (A : Option Addr) : RdF size f w B A 0 [] := ⟨rfl, fun h => absurd h (by omega)⟩
set_option maxRecDepth 100000 in
theorem RdF.below (h : RdF size f w B A n l) (hb : Below B w w') : RdF size f w' B A n l :=
  ⟨h.1, fun hn => by
    obtain ⟨b, off, e, hlt, hc⟩ := h.2 hn
    exact ⟨b, off, e, hlt, fun j x hx i hi => (hb.cell (p := ⟨b, off + j * size + i, none⟩) hlt).trans (hc j x hx i hi)⟩⟩
set_option maxRecDepth 100000 in
theorem RdF.more (h : RdF size f w B A n l) (hB : B ≤ B') : RdF size f w B' A n l :=
  ⟨h.1, fun hn => by
    obtain ⟨b, off, e, hlt, hc⟩ := h.2 hn
    exact ⟨b, off, e, by omega, hc⟩⟩
set_option maxRecDepth 100000 in
theorem RdF.up {W W' : World} (h : RdF size f W W.heap.size A n l) (hb : Below W.heap.size W W') : RdF size f W' W'.heap.size A n l := (h.below hb).more hb.size
set_option maxRecDepth 100000 in
/-- The first k. -/
theorem RdF.take (h : RdF size f w B A n l) {k : Nat} (hk : k ≤ n) : RdF size f w B A k (l.take k) :=
  ⟨by rw [List.length_take, h.1]; omega, fun hn => by
    obtain ⟨b, off, e, hlt, hc⟩ := h.2 (by omega)
    refine ⟨b, off, e, hlt, fun j x hx => hc j x ?_⟩
    rw [List.getElem?_take] at hx
    split at hx
    · exact hx
    · cases hx⟩
set_option maxRecDepth 100000 in
/-- Those from k on, where A' is where they begin. -/
theorem RdF.drop (h : RdF size f w B A n l) {k : Nat} (hk : k ≤ n) {A' : Option Addr} (hA : k < n → ∀ b off, A = some ⟨b, off, none⟩ → A' = some ⟨b, off + k * size, none⟩) : RdF size f w B A' (n - k) (l.drop k) :=
  ⟨by rw [List.length_drop, h.1], fun hn => by
    obtain ⟨b, off, e, hlt, hc⟩ := h.2 (by omega)
    refine ⟨b, off + k * size, hA (by omega) b off e, hlt, fun j x hx i hi => ?_⟩
    rw [List.getElem?_drop] at hx
    have h1 := hc _ x hx i hi
    rw [Nat.add_mul] at h1
    rw [← h1, show off + k * size + j * size + i = off + (k * size + j * size) + i by omega]⟩
set_option maxRecDepth 100000 in
theorem RdF.of_own {base c : Nat} {e : TypeId} (hf : ∀ x, (f x).length = size) (hs : 0 < size) (h : w.ownsRow base e size (.slice A n c) n (l.flatMap f)) : RdF size f w w.heap.size A n l := by
  have hl : l.length = n := by
    have h1 := h.1
    rw [flatF_length hf] at h1
    exact Nat.eq_of_mul_eq_mul_right hs h1
  refine ⟨hl, fun hn => ?_⟩
  obtain ⟨g, cap, hv, _, hlt⟩ := h.form hn
  injection hv with hA _ hc
  subst hA; subst hc
  refine ⟨g, 0, rfl, hlt, fun j x hx i hi => ?_⟩
  have hj : j < l.length := (List.getElem?_eq_some_iff.1 hx).1
  have hji : j * size + i < n * size := by
    have h1 : (j + 1) * size ≤ n * size := Nat.mul_le_mul_right _ (by omega)
    rw [Nat.succ_mul] at h1
    omega
  rw [Nat.zero_add, h.cellAt (j * size + i) hji]
  exact flatF_at hf hx hi
set_option maxRecDepth 100000 in
theorem RdF.cells {a : Addr} (hf : ∀ x, (f x).length = size) (hs : 0 < size) (h : RdF size f w B (some a) n l) : ∀ j u, (l.flatMap f)[j]? = some u → w.cell? (a.add j) = some u := by
  intro j u hu
  have hj : j < l.length * size := by rw [← flatF_length hf]; exact (List.getElem?_eq_some_iff.1 hu).1
  have hn : 0 < n := by
    rcases Nat.eq_zero_or_pos n with h0 | h0
    · have := h.1; rw [this, h0, Nat.zero_mul] at hj; omega
    · exact h0
  obtain ⟨b, off, e, _, hc⟩ := h.2 hn
  injection e with e
  subst e
  have hjl : j / size < l.length := (Nat.div_lt_iff_lt_mul hs).2 hj
  have hx : l[j / size]? = some l[j / size] := List.getElem?_eq_getElem hjl
  have hm : j % size < size := Nat.mod_lt _ hs
  have hd : j / size * size + j % size = j := by rw [Nat.mul_comm]; exact Nat.div_add_mod j size
  have h1 := hc _ _ hx (j % size) hm
  rw [Addr.add_lit, show off + j = off + j / size * size + j % size by omega, h1, ← flatF_at hf hx hm, hd, hu]
end

set_option maxRecDepth 100000 in
theorem own_formF {w : World} {base : Nat} {e : TypeId} {size n : Nat} {v : Value} {xs : List Value} (h : w.ownsRow base e size v n xs) : ∃ A c, v = .slice A n c := by
  rcases h.2 with ⟨rfl, rfl⟩ | ⟨g, cap, cur, rfl, _⟩
  · exact ⟨_, _, rfl⟩
  · exact ⟨_, _, rfl⟩
set_option maxRecDepth 100000 in
/-- A row of one element type lies in no block of another one, of however many cells. -/
theorem own_apart_F {w : World} {base size n b : Nat} {e t : TypeId} {v : Value} {xs : List Value} {cs : Array Value} (hne : e ≠ t) (ho : w.ownsRow base e size v n xs) (hw : Whole w b t cs) : v.ownBlock ≠ some b := by
  rcases ho.2 with ⟨rfl, _⟩ | ⟨g, cap, cur, rfl, _, hg, _⟩
  · simp [Value.ownBlock]
  · simp only [Value.ownBlock, ne_eq, Option.some.injEq]
    intro e
    subst e
    unfold Whole at hw
    rw [hw] at hg
    injection hg with hg
    injection hg with _ h _
    exact absurd h.symm hne
set_option maxRecDepth 100000 in
/-- Two rows of the call's own of unlike element types: one stays while the other one grows. -/
theorem own_kept_F {w w' : World} {base base' n m size size' : Nat} {e e' : TypeId} {v u : Value} {xs ys : List Value} (hne : e ≠ e') (h1 : w.ownsRow base e size v n xs) (h2 : w.ownsRow base' e' size' u m ys) (hg : w.grownBy w' v.ownBlock) : w'.ownsRow base' e' size' u m ys := by
  refine h2.kept hg ?_
  rcases h2.2 with ⟨rfl, _⟩ | ⟨g, cap, cur, rfl, _, hg1, _⟩
  · exact .inl rfl
  · right
    intro e0
    rcases h1.2 with ⟨rfl, _⟩ | ⟨g', cap', cur', rfl, _, hg', _⟩
    · simp [Value.ownBlock] at e0
    · simp only [Value.ownBlock, Option.some.injEq] at e0
      subst e0
      rw [hg1] at hg'
      injection hg' with hg'
      injection hg' with _ h5 _
      exact absurd h5.symm hne

set_option maxRecDepth 100000 in
/-- 'append(v, x...)' at structs: v of the call's own, x whatever reads. -/
theorem run_appF {α : Type} {f : α → List Value} {size bytes : Nat} {z : Value} {ty e : TypeId} (ht : Tryd.prog.underlying ty = some (.slice e)) (hi0 : (Tryd.prog.info? e).map (fun i => (i.zero, i.size, i.bytes)) = some (some z, size, bytes)) (hz : z.cells.size = size) (hs : 0 < size) (hf : ∀ x, (f x).length = size) (hf1 : ∀ x, ∀ u ∈ f x, u.oneCell' = true) (w : World) (base : Nat) (v : Value) (n : Nat) (xs : List Value) (hown : w.ownsRow base e size v n xs) (B : Nat) (A : Option Addr) (m c : Nat) (l : List α) (hr : RdF size f w B A m l) (hm : n + m ≤ maxLen) (hbt : (n + m) * bytes ≤ 140737488355328) (hbase : base ≤ w.heap.size) :
    ∃ v' w', (Builtin.append_ #[ty, ty] ty #[v, .slice A m c]).run Tryd.prog w = .ok v' w' ∧ w'.ownsRow base e size v' (n + m) (xs ++ l.flatMap f) ∧ w.grownBy w' v.ownBlock := by
  obtain ⟨i0, hi, hz0, hz1, hz2⟩ := info_parts hi0
  rcases A with _ | ad
  · have hm0 : m = 0 := by
      rcases Nat.eq_zero_or_pos m with h | h
      · exact h
      · obtain ⟨b, off, e, _⟩ := hr.2 h
        cases e
    subst hm0
    have hb : l = [] := List.eq_nil_of_length_eq_zero hr.1
    subst hb
    refine ⟨v, w, ?_, by simpa using hown, World.grownBy.refl w _⟩
    rcases hown.2 with ⟨rfl, _⟩ | ⟨g, cap, cur, rfl, _, _, hnc, _⟩
    · simp [Builtin.append_, run_underlying ht, sizeOf, typeInfo, hi, Builtin.lenOf, Builtin.firstCells]
    · simp [Builtin.append_, run_underlying ht, sizeOf, typeInfo, hi, Builtin.lenOf, Builtin.firstCells, hnc, storeCells]
  · obtain ⟨v', w', h1, h2, h3, _⟩ := run_append_own (P := Tryd.prog) w base ty ty e i0 z size bytes ht hi hz0 hz1 hz2 hz hs v n xs hown ad m c (l.flatMap f) (by rw [flatF_length hf, hr.1]) (hr.cells hf hs) (flatF_one hf1 l) (by unfold maxLen at *; omega) hbt hbase
    exact ⟨v', w', h1, h2, h3⟩

set_option maxRecDepth 100000 in
/-- 'x[k:]', 'x[:k]' of structs. -/
theorem run_restF {size bytes : Nat} {z : Value} {ty e : TypeId} (ht : Tryd.prog.underlying ty = some (.slice e)) (he : Tryd.prog.elem ty = e) (hi0 : (Tryd.prog.info? e).map (fun i => (i.zero, i.size, i.bytes)) = some (some z, size, bytes)) (A : Option Addr) (n c k : Nat) (hk : k ≤ n) : ∃ A', (∀ w : World, (Instr.slice ty (.slice A n c) (some (.int .i64 (k : Int))) none none).run Tryd.prog w = .ok (.slice A' (n - k) (c - k)) w) ∧
    ((k < n ∧ n ≤ c) → ∀ b off, A = some ⟨b, off, none⟩ → A' = some ⟨b, off + k * size, none⟩) := by
  obtain ⟨i0, hi, hz0, hz1, hz2⟩ := info_parts hi0
  refine ⟨if c = k then A else A.map (·.add (k * size)), fun w => ?_, ?_⟩
  · have hz : (sizeOf (Tryd.prog.elem ty)).run Tryd.prog w = .ok size w := by
      simp [he, Go.sizeOf, typeInfo, hi, hz1]
    have h63 : (k : Int).toNat = k := by omega
    rw [run_slice_l (P := Tryd.prog) w ty A n c (by rw [he]; exact ht) .i64 (k : Int) (by omega) (by omega), hz, h63]
    rfl
  · rintro ⟨h1, h2⟩ b off rfl
    rw [if_neg (by omega), Option.map_some, Addr.add_lit]
set_option maxRecDepth 100000 in
theorem run_headF {size bytes : Nat} {z : Value} {ty e : TypeId} (ht : Tryd.prog.underlying ty = some (.slice e)) (he : Tryd.prog.elem ty = e) (hi0 : (Tryd.prog.info? e).map (fun i => (i.zero, i.size, i.bytes)) = some (some z, size, bytes)) (A : Option Addr) (n c k : Nat) (hk : k ≤ c) (w : World) : (Instr.slice ty (.slice A n c) none (some (.int .i64 (k : Int))) none).run Tryd.prog w = .ok (.slice A k c) w := by
  obtain ⟨i0, hi, hz0, hz1, hz2⟩ := info_parts hi0
  have hz : (sizeOf (Tryd.prog.elem ty)).run Tryd.prog w = .ok size w := by
    simp [he, Go.sizeOf, typeInfo, hi, hz1]
  have h63 : (k : Int).toNat = k := by omega
  rw [run_slice_h (P := Tryd.prog) w ty A n c (by rw [he]; exact ht) .i64 (k : Int) (by omega) (by omega), hz, h63]
  have e : ∀ o : Option Addr, o.map (fun a => a.add (0 * size)) = o := fun o => by cases o <;> simp [Addr.add]
  simp only [Result.andThen_ok, sliced, e, Nat.sub_zero, ite_self]

end Go.Proofs.YtgjipbhhdiacmaaDoor
