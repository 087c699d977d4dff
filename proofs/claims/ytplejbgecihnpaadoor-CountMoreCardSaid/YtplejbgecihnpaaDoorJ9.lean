/-
  Texts that the walks of the statements over logs lean on, joined (RowEdit, BrStep, BrDel, BrMean, BrChange, BrPtr, BrDrop, BrIns, RegTwo). Conditions: those that each theorem names.
-/
import Derived.Test.YtplejbgecihnpaaDoorJ0
import Derived.Test.YtplejbgecihnpaaDoorJ1
import Derived.Test.YtplejbgecihnpaaDoorJ2
import Derived.Test.YtplejbgecihnpaaDoorJ3
import Derived.Test.YtplejbgecihnpaaDoorJ6
import Derived.Test.YtplejbgecihnpaaDoorJ7
import Derived.Laws.CopyRow
import Derived.Lib.AppendZerosOnto
import Derived.Deep.DeepCutAuto
import Derived.Lib.Overlaps

/-
  Rows of structs of one's own, edited where they lie: appends in place, copies, clears, as edits of the block's cells. Conditions: those that each theorem names.
-/
namespace Go.Proofs.YtplejbgecihnpaaDoor
open Go.RowKit Go.Shelf

/-- A block of cells of a row with room for cap elements. -/
structure RowIn (w : World) (g : Nat) (e : TypeId) (size cap : Nat) (cs : List Value) : Prop where
  hg : w.heap[g]? = some (.cells cs.toArray e (0, 0))
  len : cs.length = cap * size
  capm : cap ≤ maxLen
/-- One row's block has been edited, and nothing else. -/
structure Edit (g : Nat) (w w' : World) : Prop where
  grown : w.grownBy w' (some g)
  size : w'.heap.size = w.heap.size
set_option maxRecDepth 100000 in
theorem Edit.refl (g : Nat) (w : World) : Edit g w w := ⟨World.grownBy.refl w _, rfl⟩
set_option maxRecDepth 100000 in
theorem Edit.trans {g : Nat} {a b c : World} (h : Edit g a b) (k : Edit g b c) : Edit g a c :=
  ⟨⟨k.grown.os.trans h.grown.os, k.grown.tape.trans h.grown.tape, k.grown.output.trans h.grown.output, by rw [k.size, h.size]; exact Nat.le_refl _, fun i hi hg => (k.grown.block i (by rw [h.size]; exact hi) hg).trans (h.grown.block i hi hg)⟩, by rw [k.size, h.size]⟩
set_option maxRecDepth 100000 in
theorem Edit.drewN (g : Nat) (w : World) (k : Nat) : Edit g w (w.drewN k) := ⟨⟨rfl, rfl, rfl, Nat.le_refl _, fun _ _ _ => rfl⟩, rfl⟩
set_option maxRecDepth 100000 in
theorem edit_setRow (w : World) (g : Nat) (cs : Array Value) : Edit g w (w.setRow g cs) :=
  ⟨⟨rfl, rfl, rfl, by simp, fun k _ hk => setRow_other w g k cs (fun e => hk (by rw [e]))⟩, by simp⟩
set_option maxRecDepth 100000 in
theorem RowIn.drewN {w : World} {g : Nat} {e : TypeId} {size cap : Nat} {cs : List Value} (h : RowIn w g e size cap cs) (k : Nat) : RowIn (w.drewN k) g e size cap cs := ⟨h.hg, h.len, h.capm⟩
set_option maxRecDepth 100000 in
theorem RowIn.of_own {w : World} {base n c : Nat} {e : TypeId} {size : Nat} {A : Option Addr} {xs : List Value} (h : w.ownsRow base e size (.slice A n c) n xs) (hn : 0 < n) :
    ∃ g cs, A = some ⟨g, 0, none⟩ ∧ base ≤ g ∧ RowIn w g e size c cs ∧ n ≤ c ∧ cs.take (n * size) = xs := by
  rcases h.2 with ⟨_, rfl⟩ | ⟨g, cap, cur, hv, hb, hg, hnc, hcm, hcs, ht⟩
  · omega
  · injection hv with h1 h2 h3
    subst h1; subst h3
    exact ⟨g, cur.toList, rfl, hb, ⟨by simpa using hg, by simpa using hcs, hcm⟩, hnc, ht⟩
set_option maxRecDepth 100000 in
theorem RowIn.own {w : World} {g cap n base : Nat} {e : TypeId} {size : Nat} {cs xs : List Value} (h : RowIn w g e size cap cs) (hb : base ≤ g) (hn : n ≤ cap) (hl : xs.length = n * size) (ht : cs.take (n * size) = xs) :
    w.ownsRow base e size (.slice (some ⟨g, 0, none⟩) n cap) n xs :=
  ⟨hl, .inr ⟨g, cap, cs.toArray, rfl, hb, h.hg, hn, h.capm, by simpa using h.len, by simpa using ht⟩⟩
set_option maxRecDepth 100000 in
theorem RowIn.put {w : World} {g : Nat} {e : TypeId} {size cap o : Nat} {cs vs : List Value} (h : RowIn w g e size cap cs) (hf : o + vs.length ≤ cs.length) :
    RowIn (w.setRow g (cs.take o ++ vs ++ cs.drop (o + vs.length)).toArray) g e size cap (cs.take o ++ vs ++ cs.drop (o + vs.length)) := by
  refine ⟨setRow_heap w g cs.toArray _ e _ h.hg, ?_, h.capm⟩
  rw [← h.len]
  simp only [List.length_append, List.length_take, List.length_drop]
  omega

section
variable {α : Type} {f : α → List Value} {size : Nat} {P : Program}
set_option maxRecDepth 100000 in
theorem run_append_in {w : World} {t e : TypeId} {i0 : TypeInfo} (ht : P.underlying t = some (.slice e)) (hi : P.info? e = some i0) (hsz : i0.size = size) (hs : 0 < size) (hf : ∀ x, (f x).length = size) (hf1 : ∀ x, ∀ u ∈ f x, u.oneCell' = true)
    {g cap i m c B : Nat} {cs : List Value} {A : Option Addr} {l : List α} (h : RowIn w g e size cap cs) (hr : RdF size f w B A m l) (hroom : i + m ≤ cap) :
    ∃ w', (Builtin.append_ #[t, t] t #[.slice (some ⟨g, 0, none⟩) i cap, .slice A m c]).run P w = .ok (.slice (some ⟨g, 0, none⟩) (i + m) cap) w' ∧ RowIn w' g e size cap (cs.take (i * size) ++ l.flatMap f ++ cs.drop (i * size + (l.flatMap f).length)) ∧ Edit g w w' := by
  rcases A with _ | ad
  · have hm0 : m = 0 := by
      rcases Nat.eq_zero_or_pos m with h | h
      · exact h
      · obtain ⟨b, off, e, _⟩ := hr.2 h
        cases e
    subst hm0
    have hb : l = [] := List.eq_nil_of_length_eq_zero hr.1
    subst hb
    refine ⟨w, ?_, ?_, Edit.refl _ _⟩
    · have : i ≤ cap := by omega
      simp [Builtin.append_, run_underlying ht, sizeOf, typeInfo, hi, Builtin.lenOf, Builtin.firstCells, this, storeCells]
    · simpa using h
  · have hl : (l.flatMap f).length = m * size := by rw [flatF_length hf, hr.1]
    have hfit : i * size + (l.flatMap f).length ≤ cs.length := by rw [hl, h.len, ← Nat.add_mul]; exact Nat.mul_le_mul_right _ hroom
    have h1 := run_append_room (P := P) w t t e i0 ht hi g i cap cs.toArray h.hg ad m c (l.flatMap f) (by rw [hl, hsz]) (hr.cells hf hs) (flatF_one hf1 l) hroom (by rw [hsz]; simpa using hfit)
    rw [hsz] at h1
    exact ⟨_, h1, h.put hfit, edit_setRow _ _ _⟩

set_option maxRecDepth 100000 in
theorem run_copy_in {w : World} {dT sT ty e : TypeId} (hu : P.underlying dT = some (.slice e)) (hsz : (P.info? e).map (·.size) = some size) (hs : 0 < size) (hf : ∀ x, (f x).length = size) (hf1 : ∀ x, ∀ u ∈ f x, u.oneCell' = true)
    {g cap o dLen dCap sLen sCap B m : Nat} {a : Addr} {cs : List Value} {l : List α} (h : RowIn w g e size cap cs) (hr : RdF size f w B (some a) m l) (hm : m = Nat.min sLen dLen) (hroom : o + m ≤ cap) :
    ∃ w', (Builtin.copy_ #[dT, sT] ty #[.slice (some ⟨g, o * size, none⟩) dLen dCap, .slice (some a) sLen sCap]).run P w = .ok (goInt m) w' ∧ RowIn w' g e size cap (cs.take (o * size) ++ l.flatMap f ++ cs.drop (o * size + (l.flatMap f).length)) ∧ Edit g w w' := by
  have hl : (l.flatMap f).length = m * size := by rw [flatF_length hf, hr.1]
  have hfit : o * size + (l.flatMap f).length ≤ cs.length := by rw [hl, h.len, ← Nat.add_mul]; exact Nat.mul_le_mul_right _ hroom
  have hld := run_loadCells_list (P := P) w a (l.flatMap f) (hr.cells hf hs)
  have hst := run_storeCells_at P g (o * size) e (l.flatMap f) 0 cs.toArray w h.hg (by simpa using hfit) (flatF_one hf1 l)
  simp only [Nat.add_zero] at hst
  have hput := h.put hfit
  rw [hl] at hld
  revert hl hfit hld hst hput
  generalize l.flatMap f = xs
  intro hl hfit hld hst hput
  refine ⟨_, ?_, hput, edit_setRow _ _ _⟩
  cases hq : P.info? e with
  | none => simp [hq] at hsz
  | some i =>
    have hi : i.size = size := by simpa [hq] using hsz
    simp [Builtin.copy_, run_underlying hu, Builtin.lenOf, Builtin.firstCells, sizeOf, typeInfo, hq, hi, ← hm, hld, hst]

set_option maxRecDepth 100000 in
theorem run_clear_in {w : World} {t e ty : TypeId} {z : Value} (ht : P.underlying t = some (.slice e)) (hv : ∀ w, (zeroValue e).run P w = .ok z w) (hz : z.cells.size = size) (hz1 : ∀ u ∈ z.cells.toList, u.oneCell' = true)
    {g cap o k c : Nat} {cs : List Value} (h : RowIn w g e size cap cs) (hk : 0 < k) (hroom : o + k ≤ cap) :
    ∃ w' zs, (Builtin.clear_ #[t] ty #[.slice (some ⟨g, o * size, none⟩) k c]).run P w = .ok (.tuple #[]) w' ∧ zs.length = k * size ∧ RowIn w' g e size cap (cs.take (o * size) ++ zs ++ cs.drop (o * size + zs.length)) ∧ Edit g w w' := by
  have hzl : (Builtin.zeroCells z.cells k).toList.length = k * size := by rw [Array.length_toList, size_zeroCells, hz]
  have h1 : ∀ v ∈ (Builtin.zeroCells z.cells k).toList, v.oneCell' = true := by
    intro v hv'
    simp only [Builtin.zeroCells, Array.toList_map, List.mem_map, Array.toList_range, List.mem_range] at hv'
    obtain ⟨j, hj, rfl⟩ := hv'
    have h0 : 0 < z.cells.size := by
      rcases Nat.eq_zero_or_pos z.cells.size with h0 | h0
      · rw [h0, Nat.mul_zero] at hj; omega
      · exact h0
    have hlt : j % z.cells.size < z.cells.size := Nat.mod_lt _ h0
    rw [getElem!_pos z.cells _ hlt]
    exact hz1 _ (by simp)
  have hfit : o * size + (Builtin.zeroCells z.cells k).toList.length ≤ cs.length := by rw [hzl, h.len, ← Nat.add_mul]; exact Nat.mul_le_mul_right _ hroom
  have hst := run_storeCells_at P g (o * size) e (Builtin.zeroCells z.cells k).toList 0 cs.toArray w h.hg (by simpa using hfit) h1
  simp only [Nat.add_zero] at hst
  refine ⟨_, _, ?_, hzl, h.put hfit, edit_setRow _ _ _⟩
  obtain ⟨m, rfl⟩ : ∃ m, k = m + 1 := ⟨k - 1, by omega⟩
  simp [Builtin.clear_, run_underlying ht, hv, hst]
end

set_option maxRecDepth 100000 in
/-- What stands where, behind the edits of a deletion. -/
theorem seg_del {α : Type} {f : α → List Value} {size : Nat} (hf : ∀ x, (f x).length = size) {cs zs : List Value} {l : List α} {i : Nat} (hi : i < l.length) (ht : cs.take (l.length * size) = l.flatMap f) :
    ((cs.take (i * size) ++ (l.drop (i + 1)).flatMap f ++ cs.drop (i * size + ((l.drop (i + 1)).flatMap f).length)).take ((l.length - 1) * size) ++ zs ++ (cs.take (i * size) ++ (l.drop (i + 1)).flatMap f ++ cs.drop (i * size + ((l.drop (i + 1)).flatMap f).length)).drop ((l.length - 1) * size + zs.length)).take ((l.length - 1) * size) = (l.take i ++ l.drop (i + 1)).flatMap f := by
  have e1 : cs.take (i * size) = (l.take i).flatMap f := by
    have h1 : (cs.take (l.length * size)).take (i * size) = cs.take (i * size) := by
      rw [List.take_take, Nat.min_eq_left (Nat.mul_le_mul_right _ (by omega))]
    rw [← h1, ht]
    have h2 : l.flatMap f = (l.take i).flatMap f ++ (l.drop i).flatMap f := by rw [← List.flatMap_append, List.take_append_drop]
    rw [h2, List.take_left' (by rw [flatF_length hf, List.length_take]; congr 1; omega)]
  have e2 : ((l.take i).flatMap f ++ (l.drop (i + 1)).flatMap f).length = (l.length - 1) * size := by
    rw [List.length_append, flatF_length hf, flatF_length hf, List.length_take, List.length_drop, ← Nat.add_mul]
    congr 1
    omega
  have e3 : ((l.take i).flatMap f ++ (l.drop (i + 1)).flatMap f ++ cs.drop (i * size + ((l.drop (i + 1)).flatMap f).length)).take ((l.length - 1) * size) = (l.take i).flatMap f ++ (l.drop (i + 1)).flatMap f := by
    rw [← e2, List.take_left]
  rw [e1, e3, List.append_assoc, List.take_left' e2, List.flatMap_append]
set_option maxRecDepth 100000 in
/-- .. behind those of an insertion where there is room. -/
theorem seg_ins {α : Type} {f : α → List Value} {size : Nat} (hf : ∀ x, (f x).length = size) {cs : List Value} {l : List α} {x : α} {i : Nat} (hi : i ≤ l.length) (ht : cs.take (i * size) = (l.take i).flatMap f) (hl : (l.length + 1) * size ≤ cs.length) :
    ((cs.take ((i + 1) * size) ++ (l.drop i).flatMap f ++ cs.drop ((i + 1) * size + ((l.drop i).flatMap f).length)).take (i * size) ++ [x].flatMap f ++ (cs.take ((i + 1) * size) ++ (l.drop i).flatMap f ++ cs.drop ((i + 1) * size + ((l.drop i).flatMap f).length)).drop (i * size + ([x].flatMap f).length)).take ((l.length + 1) * size) = (l.take i ++ [x] ++ l.drop i).flatMap f := by
  have hi1 : i * size ≤ (i + 1) * size := Nat.mul_le_mul_right _ (by omega)
  have hi2 : (i + 1) * size ≤ cs.length := Nat.le_trans (Nat.mul_le_mul_right _ (by omega)) hl
  have e0 : ([x].flatMap f).length = size := by simp [hf]
  have e1 : (cs.take ((i + 1) * size)).length = (i + 1) * size := by rw [List.length_take]; omega
  have e2 : (cs.take ((i + 1) * size) ++ (l.drop i).flatMap f ++ cs.drop ((i + 1) * size + ((l.drop i).flatMap f).length)).take (i * size) = (l.take i).flatMap f := by
    rw [List.append_assoc, List.take_append_of_le_length (by rw [e1]; exact hi1), List.take_take, Nat.min_eq_left hi1, ht]
  have e3 : (cs.take ((i + 1) * size) ++ (l.drop i).flatMap f ++ cs.drop ((i + 1) * size + ((l.drop i).flatMap f).length)).drop (i * size + ([x].flatMap f).length) = (l.drop i).flatMap f ++ cs.drop ((i + 1) * size + ((l.drop i).flatMap f).length) := by
    rw [e0, show i * size + size = (i + 1) * size by rw [Nat.succ_mul], List.append_assoc, List.drop_left' e1]
  rw [e2, e3]
  have e4 : ((l.take i).flatMap f ++ [x].flatMap f ++ (l.drop i).flatMap f).length = (l.length + 1) * size := by
    rw [List.length_append, List.length_append, flatF_length hf, flatF_length hf, flatF_length hf, List.length_take, List.length_drop, List.length_singleton, ← Nat.add_mul, ← Nat.add_mul]
    congr 1
    omega
  rw [← List.append_assoc, List.take_left' e4, List.flatMap_append, List.flatMap_append]
set_option maxRecDepth 100000 in
/-- .. and those of one into a fresh row, where what is put comes first. -/
theorem seg_ins2 {α : Type} {f : α → List Value} {size : Nat} (hf : ∀ x, (f x).length = size) {cs : List Value} {l : List α} {x : α} {i : Nat} (hi : i ≤ l.length) (ht : cs.take (i * size) = (l.take i).flatMap f) :
    ((cs.take (i * size) ++ [x].flatMap f ++ cs.drop (i * size + ([x].flatMap f).length)).take ((i + 1) * size) ++ (l.drop i).flatMap f ++ (cs.take (i * size) ++ [x].flatMap f ++ cs.drop (i * size + ([x].flatMap f).length)).drop ((i + 1) * size + ((l.drop i).flatMap f).length)).take ((l.length + 1) * size) = (l.take i ++ [x] ++ l.drop i).flatMap f := by
  have e0 : ([x].flatMap f).length = size := by simp [hf]
  have e1 : ((l.take i).flatMap f ++ [x].flatMap f).length = (i + 1) * size := by
    rw [List.length_append, flatF_length hf, e0, List.length_take, Nat.succ_mul]
    congr 2
    omega
  rw [ht, List.take_left' e1]
  have e4 : ((l.take i).flatMap f ++ [x].flatMap f ++ (l.drop i).flatMap f).length = (l.length + 1) * size := by
    rw [List.length_append, e1, flatF_length hf, List.length_drop, ← Nat.add_mul]
    congr 1
    omega
  rw [List.take_left' e4, List.flatMap_append, List.flatMap_append]

section
variable {P : Program} {K : Act → World → Prop} {Q : Exit → Act → World → Prop} {a : Act} {w w' : World} {dst : Option Tmp} {u u' t : TypeId} {pos : String} {after : Array Edge} {g : Option (Nat × Bool)} {x y : Operand} {vs vx v' : Value}
set_option maxRecDepth 100000 in
theorem wp_copyH (hx : a.eval x = vs) (hy : a.eval y = vx) (hr : (Builtin.copy_ #[u, u'] t #[vs, vx]).run P w = .ok v' w') (h : K (a.put dst v') w') :
    ({ dst := dst, op := .call { callee := .builtin .copy, args := #[x, y], argTypes := #[u, u'] }, type := t, pos := pos, after := after, guard := g } : Oper).wp P a w K Q := by
  unfold Oper.wp execOp
  simp only [resolve, invoke, builtin, Sem.run_bind, Sem.run_pure, Result.andThen_ok, List.map_toArray, List.map_cons, List.map_nil, hx, hy, hr]
  exact h
set_option maxRecDepth 100000 in
theorem wpList_copyH {ops : Array Oper} {rest : List Oper} {o : Oper} (hgd : o.guard = none) (x y : Operand) (u u' : TypeId) (ho : o.op = .call { callee := .builtin .copy, args := #[x, y], argTypes := #[u, u'] }) (hx : a.eval x = vs) (hy : a.eval y = vx) (hr : (Builtin.copy_ #[u, u'] o.type #[vs, vx]).run P w = .ok v' w') (h : wpList P ops Q rest (a.put o.dst v') w') : wpList P ops Q (o :: rest) a w :=
  wpList_plain hgd fun _ hK => by
    unfold Oper.wp execOp
    simp only [ho, resolve, invoke, builtin, Sem.run_bind, Sem.run_pure, Result.andThen_ok, List.map_toArray, List.map_cons, List.map_nil, hx, hy, hr]
    exact hK _ _ h
set_option maxRecDepth 100000 in
theorem wpList_clearH {ops : Array Oper} {rest : List Oper} {o : Oper} (hgd : o.guard = none) (x : Operand) (u : TypeId) (ho : o.op = .call { callee := .builtin .clear, args := #[x], argTypes := #[u] }) (hx : a.eval x = vs) (hr : (Builtin.clear_ #[u] o.type #[vs]).run P w = .ok v' w') (h : wpList P ops Q rest (a.put o.dst v') w') : wpList P ops Q (o :: rest) a w :=
  wpList_plain hgd fun _ hK => by
    unfold Oper.wp execOp
    simp only [ho, resolve, invoke, builtin, Sem.run_bind, Sem.run_pure, Result.andThen_ok, List.map_toArray, List.map_cons, List.map_nil, hx, hr]
    exact hK _ _ h
end

end Go.Proofs.YtplejbgecihnpaaDoor

/-
  A brain in its box, its rows one's own; what a deed leaves: blocks that hold no brains, nothing meant, nothing kept. Conditions: those that each theorem names.
-/
namespace Go.Proofs.YtplejbgecihnpaaDoor
open Go.RowKit Go.Shelf

/-- The types of cells that a deed turns. -/
def mutT (t : TypeId) : Bool := t == 30 || (t == 34 || t == 32)
def stayO (o : Obj) : Bool := match o with
  | .cells _ t _ => !mutT t
  | _ => true
/-- What a deed leaves. -/
structure Stp (base : Nat) (w w' : World) : Prop where
  below : Below base w w'
  keeps : ∀ (i : Nat) (o : Obj), w.heap[i]? = some o → stayO o = true → w'.heap[i]? = some o
  brn : ∀ (i : Nat) (cs : Array Value), Whole w i 30 cs → ∃ cs' : Array Value, Whole w' i 30 cs' ∧ cs'.size = cs.size
section
variable {base : Nat} {w w' w'' : World}
set_option maxRecDepth 100000 in
theorem Stp.refl (base : Nat) (w : World) : Stp base w w := ⟨Below.refl _ _, fun _ _ h _ => h, fun _ cs h => ⟨cs, h, rfl⟩⟩
set_option maxRecDepth 100000 in
theorem Stp.trans (h : Stp base w w') (k : Stp base w' w'') : Stp base w w'' := ⟨h.below.trans k.below, fun i o ho hs => k.keeps i o (h.keeps i o ho hs) hs, fun i cs hi => let ⟨cs1, h1, e1⟩ := h.brn i cs hi; let ⟨cs2, h2, e2⟩ := k.brn i cs1 h1; ⟨cs2, h2, e2.trans e1⟩⟩
set_option maxRecDepth 100000 in
theorem Stp.of_below (hb : Below w.heap.size w w') (h : base ≤ w.heap.size) : Stp base w w' :=
  ⟨hb.mono h, fun i _ ho _ => (hb.block i (Array.getElem?_eq_some_iff.1 ho).1).trans ho, fun _ cs hi => ⟨cs, hi.under hb, rfl⟩⟩
set_option maxRecDepth 100000 in
theorem Stp.size (h : Stp base w w') : w.heap.size ≤ w'.heap.size := h.below.size
set_option maxRecDepth 100000 in
theorem Stp.whole (h : Stp base w w') {b : Nat} {t : TypeId} {cs : Array Value} (hw : Whole w b t cs) (ht : mutT t = false) : Whole w' b t cs := h.keeps b _ hw (by simp [stayO, ht])
set_option maxRecDepth 100000 in
theorem Stp.boxed (h : Stp base w w') {b : Nat} {t : TypeId} {v : Value} (hw : Boxed w b t v) (ht : mutT t = false) : Boxed w' b t v := h.keeps b _ hw (by simp [stayO, ht])
set_option maxRecDepth 100000 in
/-- A store into a box that holds a brain. -/
theorem Stp.set {g : Nat} {t : TypeId} {cs : Array Value} (hw : Whole w g t cs) (ht : mutT t = true) (hg : base ≤ g) (i : Nat) (v : Value) : Stp base w (w.setCell ⟨g, i, none⟩ v) := by
  refine ⟨(Below.refl base w).setCell (p := ⟨g, i, none⟩) hg v, fun j o ho hs => ?_, fun j cs1 hj => ?_⟩
  rotate_left
  · by_cases e : j = g
    · subst e
      have e1 : cs1 = cs ∧ t = 30 := by
        unfold Whole at hj hw
        rw [hw] at hj
        cases hj
        exact ⟨rfl, rfl⟩
      obtain ⟨rfl, rfl⟩ := e1
      exact ⟨_, hw.set i v, by simp⟩
    · exact ⟨cs1, (Below.heap_setCell w ⟨g, i, none⟩ v j e).trans hj, rfl⟩
  by_cases e : j = g
  · subst e
    unfold Whole at hw
    rw [hw] at ho
    cases ho
    simp [stayO, ht] at hs
  · exact (Below.heap_setCell w ⟨g, i, none⟩ v j e).trans ho
def rowT (t : TypeId) : Bool := t == 34 || t == 32
set_option maxRecDepth 100000 in
/-- A row of one's own, of what is meant or of what is kept, has been edited. -/
theorem Stp.own {e : TypeId} {size n : Nat} {v : Value} {xs : List Value} (ho : w.ownsRow base e size v n xs) (her : rowT e = true) (hB : base ≤ w.heap.size) (hg : w.grownBy w' v.ownBlock) : Stp base w w' := by
  have he : mutT e = true := by
    unfold rowT at her
    unfold mutT
    rw [her, Bool.or_true]
  refine ⟨(Below.refl base w).grown hg hB (fun k e => (ho.lt k e).1), fun j o hj hs => ?_, fun j cs1 hj => ⟨cs1, hj.grown hg (fun e0 => ?_), rfl⟩⟩
  rotate_left
  · rcases ho.2 with ⟨rfl, _⟩ | ⟨g, cap, cur, rfl, hb, hc, _⟩
    · simp [Value.ownBlock] at e0
    · simp only [Value.ownBlock, Option.some.injEq] at e0
      subst e0
      unfold Whole at hj
      rw [hc] at hj
      cases hj
      revert her
      decide
  refine (hg.block j (Array.getElem?_eq_some_iff.1 hj).1 ?_).trans hj
  rcases ho.2 with ⟨rfl, _⟩ | ⟨g, cap, cur, rfl, hb, hc, _⟩
  · simp [Value.ownBlock]
  · intro e0
    simp only [Value.ownBlock, Option.some.injEq] at e0
    subst e0
    rw [hc] at hj
    cases hj
    simp [stayO, he] at hs
end

/-- A brain in its box, its rows one's own from base on. -/
structure BrIn (base g : Nat) (w : World) (p : Br) (a : Ad) : Prop where
  box : Whole w g 30 (brC p a)
  own : OwB base w p a
  ge : base ≤ g
section
variable {base g : Nat} {w w' : World} {p : Br} {a : Ad}
set_option maxRecDepth 100000 in
theorem BrIn.under (h : BrIn base g w p a) (hb : Below w.heap.size w w') : BrIn base g w' p a := ⟨h.box.under hb, h.own.under hb, h.ge⟩
set_option maxRecDepth 100000 in
theorem BrIn.lt (h : BrIn base g w p a) : g < w.heap.size := h.box.lt
set_option maxRecDepth 100000 in
theorem OwB.cap {w : World} {p : Br} {a : Ad} (h : OwB base w p a) : p.cf.ms.length ≤ a.e ∧ a.e ≤ maxLen ∧ p.its.length ≤ a.c ∧ p.kps.length ≤ a.d := by
  have cap : ∀ {e : TypeId} {size n c : Nat} {A : Option Addr} {xs : List Value}, w.ownsRow base e size (.slice A n c) n xs → n ≤ c ∧ c ≤ maxLen := by
    intro e size n c A xs h
    rcases h.2 with ⟨h1, h2⟩ | ⟨g, cap, cur, h1, _, _, h2, h3, _⟩
    · injection h1 with _ h4 h5
      subst h5
      exact ⟨by omega, Nat.zero_le _⟩
    · injection h1 with _ _ h4
      subst h4
      exact ⟨h2, h3⟩
  exact ⟨(cap h.ms).1, (cap h.ms).2, (cap h.its).1, (cap h.kps).1⟩
set_option maxRecDepth 100000 in
/-- What reads. -/
theorem OwB.reads {w : World} {p : Br} {a : Ad} (h : OwB base w p a) : RdB_ w w.heap.size p a := by
  obtain ⟨h1, h2, h3, h4⟩ := h.cap
  exact ⟨Rd.of_own h.ms, ItsAt.read h.its, KpsAt.read h.kps, h1, h2, h3, h4⟩
set_option maxRecDepth 100000 in
/-- One number of the brain's is laid anew. -/
theorem BrIn.set (h : BrIn base g w p a) {p' : Br} (i : Nat) (v : Value) (he : (brC p a).setIfInBounds i v = brC p' a) (h1 : p'.cf.ms = p.cf.ms) (h2 : p'.its = p.its) (h3 : p'.kps = p.kps) : BrIn base g (w.setCell ⟨g, i, none⟩ v) p' a := by
  have k := Only.set w g i v
  refine ⟨?_, ?_, h.ge⟩
  · rw [← he]; exact h.box.set i v
  · have := h.own.only k h.box (by decide) (by decide) (by decide)
    exact ⟨by rw [h1]; exact this.ms, by rw [h2]; exact this.its, by rw [h3]; exact this.kps⟩
end
/-- What comes of a deed: the brain is p', all else stays. -/
def StPost (base g : Nat) (p' : Br) (w : World) (e : Ending) (w' : World) : Prop := e = .returned (.tuple #[]) ∧ Stp base w w' ∧ ∃ a', BrIn base g w' p' a'

end Go.Proofs.YtplejbgecihnpaaDoor

/-
  The walks of 'slices.Delete' at what is meant and at what is kept: one of a row of one's own goes. Conditions: those that each theorem names.
-/
namespace Go.Proofs.YtplejbgecihnpaaDoor
open Go.RowKit Go.Shelf

set_option maxRecDepth 100000 in
theorem zero_it (w : World) : (zeroValue 34).run Tryd.prog w = .ok (.agg (It.vs ⟨0, 0, 0, false⟩).toArray) w := by kernel_rfl
set_option maxRecDepth 100000 in
theorem zero_kp (w : World) : (zeroValue 32).run Tryd.prog w = .ok (.agg (Kp.vs ⟨0, 0, 0, 0, 0, 0, false, false⟩).toArray) w := by kernel_rfl
set_option maxRecDepth 100000 in
theorem run_midF {size bytes : Nat} {z : Value} {ty e : TypeId} (ht : Tryd.prog.underlying ty = some (.slice e)) (he : Tryd.prog.elem ty = e) (hi0 : (Tryd.prog.info? e).map (fun i => (i.zero, i.size, i.bytes)) = some (some z, size, bytes)) (b n c k m : Nat) (hk : k < m) (hm : m ≤ c) (w : World) : (Instr.slice ty (.slice (some ⟨b, 0, none⟩) n c) (some (.int .i64 (k : Int))) (some (.int .i64 (m : Int))) none).run Tryd.prog w = .ok (.slice (some ⟨b, k * size, none⟩) (m - k) (c - k)) w := by
  obtain ⟨i0, hi, hz0, hz1, hz2⟩ := info_parts hi0
  have hz : (sizeOf (Tryd.prog.elem ty)).run Tryd.prog w = .ok size w := by
    simp [he, Go.sizeOf, typeInfo, hi, hz1]
  have h1 : (k : Int).toNat = k := by omega
  have h2 : (m : Int).toNat = m := by omega
  rw [run_slice_lh (P := Tryd.prog) w ty (some ⟨b, 0, none⟩) n c (by rw [he]; exact ht) .i64 .i64 (k : Int) (m : Int) (by omega) (by omega) (by omega), hz, h1, h2]
  simp only [Result.andThen_ok, sliced, if_neg (show ¬ c = k by omega), Option.map_some, Addr.add_lit, Nat.zero_add]
set_option maxRecDepth 100000 in
theorem run_lhmF {size bytes : Nat} {z : Value} {ty e : TypeId} (ht : Tryd.prog.underlying ty = some (.slice e)) (he : Tryd.prog.elem ty = e) (hi0 : (Tryd.prog.info? e).map (fun i => (i.zero, i.size, i.bytes)) = some (some z, size, bytes)) (b n c k m h : Nat) (hk : k ≤ m) (hm : m ≤ h) (hh : h ≤ c) (w : World) : ∃ v, (Instr.slice ty (.slice (some ⟨b, 0, none⟩) n c) (some (.int .i64 (k : Int))) (some (.int .i64 (m : Int))) (some (.int .i64 (h : Int)))).run Tryd.prog w = .ok v w := by
  obtain ⟨i0, hi, hz0, hz1, hz2⟩ := info_parts hi0
  have hz : (sizeOf (Tryd.prog.elem ty)).run Tryd.prog w = .ok size w := by
    simp [he, Go.sizeOf, typeInfo, hi, hz1]
  rw [run_slice_lhm (P := Tryd.prog) w ty (some ⟨b, 0, none⟩) n c (by rw [he]; exact ht) .i64 .i64 .i64 (k : Int) (m : Int) (h : Int) (by omega) (by omega) (by omega) (by omega), hz]
  exact ⟨_, rfl⟩
set_option maxRecDepth 100000 in
theorem below_dN {B : Nat} (w : World) (k : Nat) : Below B w (w.drewN k) := ⟨rfl, rfl, rfl, Nat.le_refl _, fun _ _ => rfl⟩

end Go.Proofs.YtplejbgecihnpaaDoor

/-
  The walk of 'mean' of package brain. Conditions: those that each theorem names.
-/
namespace Go.Proofs.YtplejbgecihnpaaDoor
open Go.RowKit Go.Shelf

abbrev itC (x : It) : Array Value := #[.int .i64 x.tok, .int .i64 x.ver, .int .i64 x.zone, .bool x.warm]
set_option maxRecDepth 100000 in
theorem rdI_lit {W : World} {b : Nat} {x : It} (h : Whole W b 34 (itC x)) (B : Nat) (hB : b < B) : RdI W B (some ⟨b, 0, none⟩) 1 [x] := by
  refine ⟨rfl, fun _ => ⟨b, 0, rfl, hB, ?_⟩⟩
  rintro (_ | j) y hy i hi
  · simp only [List.getElem?_cons_zero, Option.some.injEq] at hy
    subst hy
    simp only [Nat.zero_mul, Nat.zero_add]
    rcases (by omega : i = 0 ∨ i = 1 ∨ i = 2 ∨ i = 3) with rfl | rfl | rfl | rfl
    · exact h.cell 0
    · exact h.cell 1
    · exact h.cell 2
    · exact h.cell 3
  · simp at hy
set_option maxRecDepth 100000 in
/-- A row of one's own lies in no block that came after it. -/
theorem own_before {w : World} {base size n b : Nat} {e : TypeId} {v : Value} {xs : List Value} (h : w.ownsRow base e size v n xs) (hb : w.heap.size ≤ b) : v.ownBlock ≠ some b := fun e => by
  have := (h.lt b e).2; omega
set_option maxRecDepth 100000 in
/-- A store into a block of no row of the brain's, and not into the brain. -/
theorem BrIn.far {base g b : Nat} {w : World} {p : Br} {a : Ad} (h : BrIn base g w p a) (hg : g ≠ b) (h1 : (Value.slice a.C p.cf.ms.length a.e).ownBlock ≠ some b) (h2 : (Value.slice a.A p.its.length a.c).ownBlock ≠ some b) (h3 : (Value.slice a.B p.kps.length a.d).ownBlock ≠ some b) (i : Nat) (v : Value) : BrIn base g (w.setCell ⟨b, i, none⟩ v) p a :=
  ⟨(Only.set w b i v).far h.box hg, ⟨ownsRow_setCell_other (a := ⟨b, i, none⟩) h.own.ms h1 v, ownsRow_setCell_other (a := ⟨b, i, none⟩) h.own.its h2 v, ownsRow_setCell_other (a := ⟨b, i, none⟩) h.own.kps h3 v⟩, h.ge⟩
set_option maxRecDepth 100000 in
/-- What is meant has grown, and the brain's box tells it. -/
theorem BrIn.its {base g : Nat} {w w' : World} {p : Br} {a : Ad} (h : BrIn base g w p a) (hg : w.grownBy w' (Value.slice a.A p.its.length a.c).ownBlock) {A' : Option Addr} {c' : Nat} {l : List It} (ho : ItsAt base w' (.slice A' l.length c') l) :
    BrIn base g (w'.setCell ⟨g, 18, none⟩ (.slice A' l.length c')) { p with its := l } ⟨a.C, a.e, A', c', a.B, a.d⟩ := by
  have hb := h.box.grown hg (Ne.symm (own_apart_F (by decide) h.own.its h.box))
  have k := Only.set w' g 18 (.slice A' l.length c')
  refine ⟨?_, ⟨k.own (own_kept_F (by decide) h.own.its h.own.ms hg) hb (by decide), ho.only k hb (by decide), k.own (own_kept_F (by decide) h.own.its h.own.kps hg) hb (by decide)⟩, h.ge⟩
  have h1 := hb.set 18 (.slice A' l.length c')
  simp only [List.setIfInBounds_toArray, List.set_cons_zero, List.set_cons_succ] at h1
  exact h1
set_option maxRecDepth 100000 in
theorem BrIn.kps {base g : Nat} {w w' : World} {p : Br} {a : Ad} (h : BrIn base g w p a) (hg : w.grownBy w' (Value.slice a.B p.kps.length a.d).ownBlock) {A' : Option Addr} {c' : Nat} {l : List Kp} (ho : KpsAt base w' (.slice A' l.length c') l) :
    BrIn base g (w'.setCell ⟨g, 19, none⟩ (.slice A' l.length c')) { p with kps := l } ⟨a.C, a.e, a.A, a.c, A', c'⟩ := by
  have hb := h.box.grown hg (Ne.symm (own_apart_F (by decide) h.own.kps h.box))
  have k := Only.set w' g 19 (.slice A' l.length c')
  refine ⟨?_, ⟨k.own (own_kept_F (by decide) h.own.kps h.own.ms hg) hb (by decide), k.own (own_kept_F (by decide) h.own.kps h.own.its hg) hb (by decide), ho.only k hb (by decide)⟩, h.ge⟩
  have h1 := hb.set 19 (.slice A' l.length c')
  simp only [List.setIfInBounds_toArray, List.set_cons_zero, List.set_cons_succ] at h1
  exact h1

end Go.Proofs.YtplejbgecihnpaaDoor

/-
  The walks of 'changeable' and 'hooked' of package brain, and the table that the first one asks. Conditions: those that each theorem names.
-/
namespace Go.Proofs.YtplejbgecihnpaaDoor
open Go.RowKit Go.Shelf

/-- The table of changes of phases. -/
def chA (k : Nat) : Int := [0, 2, 3, 4, 5, 6, 7, 8, 0, 10, 1].getD k 0
def chB (k : Nat) : Int := [0, 8, 8, 0, 3, 4, 0, 0, 0, 8, 0].getD k 0
set_option maxRecDepth 100000 in
theorem Tab.bel {w w' : World} {B : Nat} (h : Tab w) (hB : 0 < B) (hb : Below B w w') : Tab w' :=
  ⟨Nat.lt_of_lt_of_le h.1 hb.size, fun k hk => ⟨(hb.cell (p := ⟨0, k * 2, none⟩) hB).trans (h.2 k hk).1, (hb.cell (p := ⟨0, k * 2 + 1, none⟩) hB).trans (h.2 k hk).2⟩⟩

set_option maxRecDepth 100000 in
theorem beq_dec (b v : Int) : (b == v) = decide (b = v) := by by_cases h : b = v <;> simp [h]
def chgB (a b : Int) : Bool := decide (b < 11) && legalB a b
set_option maxRecDepth 100000 in
theorem chgB_big {a b : Int} (h : 11 ≤ a) : chgB a b = false := by
  have : legalB a b = false := by
    unfold legalB
    repeat' (rw [if_neg (by omega)])
  simp [chgB, this]
set_option maxRecDepth 100000 in
theorem chgB_zero {a : Int} : chgB a 0 = false := by
  have : legalB a 0 = false := by
    unfold legalB
    repeat' split
    all_goals simp
  simp [chgB, this]
set_option maxRecDepth 100000 in
theorem kinds11 {k : Nat} (h : k < 11) : k = 0 ∨ k = 1 ∨ k = 2 ∨ k = 3 ∨ k = 4 ∨ k = 5 ∨ k = 6 ∨ k = 7 ∨ k = 8 ∨ k = 9 ∨ k = 10 := by omega
set_option maxRecDepth 100000 in
theorem chgB_at {k : Nat} (h : k < 11) {b : Int} (hb : b ≠ 0) : chgB (k : Int) b = (decide (b = chA k) || decide (b = chB k)) := by
  rw [Bool.eq_iff_iff]
  rcases kinds11 h with rfl | rfl | rfl | rfl | rfl | rfl | rfl | rfl | rfl | rfl | rfl <;> simp [chgB, legalB, chA, chB] <;> omega

end Go.Proofs.YtplejbgecihnpaaDoor

/-
  The walks of 'fail', 'end' and 'change' of package brain: what they do where their pointers lead. Conditions: those that each theorem names.
-/
namespace Go.Proofs.YtplejbgecihnpaaDoor
open Go.RowKit Go.Shelf

set_option maxRecDepth 100000 in
/-- One number of one that is kept is laid anew. -/
theorem BrIn.cell {base g b : Nat} {w : World} {p : Br} {a : Ad} (h : BrIn base g w p a) (hB : a.B = some ⟨b, 0, none⟩) {i j : Nat} {x y : Kp} {u : Value} (hx : p.kps[i]? = some x) (hj : j < 8) (hy : y.vs = x.vs.set j u) :
    w.cell? ⟨b, i * 8 + j, none⟩ = x.vs[j]? ∧ w.frozen? ⟨b, i * 8 + j, none⟩ = false ∧ BrIn base g (w.setCell ⟨b, i * 8 + j, none⟩ u) { p with kps := p.kps.set i y } a ∧ Stp base w (w.setCell ⟨b, i * 8 + j, none⟩ u) := by
  have hi : i < p.kps.length := (List.getElem?_eq_some_iff.1 hx).1
  have ho := h.own.kps
  unfold KpsAt at ho
  obtain ⟨b', cs, hb', hge, hin, hnc, htk⟩ := RowIn.of_own ho (by omega)
  rw [hB] at hb'
  injection hb' with hb'
  injection hb' with hb' _ _
  subst hb'
  have hlt : i * 8 + j < p.kps.length * 8 := by omega
  have hlc : i * 8 + j < cs.length := by rw [hin.len]; omega
  have hcell : cs[i * 8 + j]? = x.vs[j]? := by
    rw [← flatF_at Kp.vs_len hx hj, ← htk, List.getElem?_take, if_pos hlt]
  have hne : g ≠ b := by
    intro e
    subst e
    have := own_apart_F (by decide) h.own.kps h.box
    rw [hB] at this
    exact this rfl
  have hset : w.setCell ⟨b, i * 8 + j, none⟩ u = w.setRow b (cs.set (i * 8 + j) u).toArray := by
    rw [setCell_eq_setRow w b (i * 8 + j) cs.toArray _ _ u hin.hg]
    simp
  have hin2 : RowIn (w.setCell ⟨b, i * 8 + j, none⟩ u) b 32 8 a.d (cs.set (i * 8 + j) u) := by
    rw [hset]
    exact ⟨setRow_heap w b cs.toArray _ _ _ hin.hg, by rw [List.length_set]; exact hin.len, hin.capm⟩
  have hk := Only.set w b (i * 8 + j) u
  have hwb : Whole w b 32 cs.toArray := hin.hg
  refine ⟨?_, ?_, ⟨?_, ⟨hk.own h.own.ms hwb (by decide), hk.own h.own.its hwb (by decide), ?_⟩, h.ge⟩, Stp.set hwb (by decide) hge _ _⟩
  · simp [World.cell?, hin.hg, hcell]
  · simp [World.frozen?, hin.hg]
  · have := hk.far h.box hne
    simp only [brC, List.length_set] at this ⊢
    exact this
  · unfold KpsAt
    simp only [List.length_set]
    rw [hB]
    refine hin2.own hge hnc (by rw [flatF_length Kp.vs_len, List.length_set]) ?_
    rw [List.take_set, htk, flatF_set Kp.vs_len hx hj hy]

end Go.Proofs.YtplejbgecihnpaaDoor

/-
  The walk of 'drop' of package brain. Conditions: those that each theorem names.
-/
namespace Go.Proofs.YtplejbgecihnpaaDoor
open Go.RowKit Go.Shelf

set_option maxRecDepth 100000 in
theorem drop_at {l : List Kp} {id : Int} {i : Nat} (h : l.findIdx? (fun x => decide (x.id = id)) = some i) : l.take i ++ l.drop (i + 1) = dropK id l := by
  unfold dropK
  rw [List.eraseP_eq_eraseIdx, h]
  exact (List.eraseIdx_eq_take_drop_succ l i).symm
set_option maxRecDepth 100000 in
theorem dropI_at {l : List It} {t : Int} {i : Nat} (h : l.findIdx? (fun x => decide (x.tok = t)) = some i) : l.take i ++ l.drop (i + 1) = dropI t l := by
  unfold dropI
  rw [List.eraseP_eq_eraseIdx, h]
  exact (List.eraseIdx_eq_take_drop_succ l i).symm
set_option maxRecDepth 100000 in
theorem findB_some {p : Br} {id : Int} {i : Nat} (h : p.kps.findIdx? (fun x => decide (x.id = id)) = some i) : findB p id = (i : Int) ∧ i < p.kps.length := by
  refine ⟨by simp [findB, h], ?_⟩
  rw [List.findIdx?_eq_some_iff_getElem] at h
  exact h.1
set_option maxRecDepth 100000 in
theorem tokenB_some {p : Br} {t : Int} {i : Nat} (h : p.its.findIdx? (fun x => decide (x.tok = t)) = some i) : tokenB p t = (i : Int) ∧ i < p.its.length := by
  refine ⟨by simp [tokenB, h], ?_⟩
  rw [List.findIdx?_eq_some_iff_getElem] at h
  exact h.1

end Go.Proofs.YtplejbgecihnpaaDoor

/-
  The walks of 'slices.Insert' at what is kept: one is put into a row of one's own. Conditions: those that each theorem names.
-/
namespace Go.Proofs.YtplejbgecihnpaaDoor
open Go.RowKit Go.Shelf

def InsPost (A : Option Addr) (n c i : Nat) (l : List Kp) (x : Kp) (base : Nat) (w : World) (e : Ending) (w' : World) : Prop :=
  ∃ A' c', e = .returned (.slice A' (n + 1) c') ∧ KpsAt base w' (.slice A' (n + 1) c') (l.take i ++ [x] ++ l.drop i) ∧ w.grownBy w' (Value.slice A n c).ownBlock
abbrev kpC (x : Kp) : Array Value := #[.int .i64 x.id, .int .i64 x.tok, .int .i64 x.ver, .int .i64 x.zone, .int .u8 x.phase, .int .i64 x.since, .bool x.guard, .bool x.done]
set_option maxRecDepth 100000 in
theorem rdK_lit {W : World} {b : Nat} {x : Kp} (h : Whole W b 32 (kpC x)) (B : Nat) (hB : b < B) : RdK W B (some ⟨b, 0, none⟩) 1 [x] := by
  refine ⟨rfl, fun _ => ⟨b, 0, rfl, hB, ?_⟩⟩
  rintro (_ | j) y hy i hi
  · simp only [List.getElem?_cons_zero, Option.some.injEq] at hy
    subst hy
    simp only [Nat.zero_mul, Nat.zero_add]
    rcases (by omega : i = 0 ∨ i = 1 ∨ i = 2 ∨ i = 3 ∨ i = 4 ∨ i = 5 ∨ i = 6 ∨ i = 7) with rfl | rfl | rfl | rfl | rfl | rfl | rfl | rfl
    · exact h.cell 0
    · exact h.cell 1
    · exact h.cell 2
    · exact h.cell 3
    · exact h.cell 4
    · exact h.cell 5
    · exact h.cell 6
    · exact h.cell 7
  · simp at hy

set_option maxRecDepth 100000 in
theorem wpList_app2 {P : Program} {w : World} {ops : Array Oper} {rest : List Oper} {o : Oper} {a : Act} {Q : Exit → Act → World → Prop} (hg : o.guard = none) (s x : Operand) (t u : TypeId)
    (ho : o.op = .call { callee := .builtin .append, args := #[s, x], argTypes := #[t, u] }) (vs vx v' : Value) (w' : World) (hs : a.eval s = vs) (hx : a.eval x = vx)
    (hr : (Builtin.append_ #[t, u] o.type #[vs, vx]).run P w = .ok v' w') (h : wpList P ops Q rest (a.put o.dst v') w') : wpList P ops Q (o :: rest) a w :=
  wpList_plain hg fun K hK => by
    unfold Oper.wp execOp
    simp only [ho, resolve, invoke, builtin, Sem.run_bind, Sem.run_pure, Result.andThen_ok, List.map_toArray, List.map_cons, List.map_nil, hs, hx, hr]
    exact hK _ _ h

end Go.Proofs.YtplejbgecihnpaaDoor

/-
  A drawn region by hand, where either of two operations may come up. Conditions: those that each theorem names.
-/
namespace Go.Proofs.YtplejbgecihnpaaDoor
open Go.RowKit Go.Shelf

section
variable {P : Program} {ops : Array Oper} {Q : Exit → Act → World → Prop} {md : Region.Mode} {ls : List Nat} {T : World → Prop} {listed : Array Bool} {a : Act} {w : World} {fuel : Nat} {i j : Nat}
variable {d d' : Option Tmp} {op op' : Op} {t t' : TypeId} {pos pos' : String} {after after' : Array Edge} {g g' : Option (Nat × Bool)}
set_option maxRecDepth 100000 in
/-- Two operations may come up: the walk goes on behind either. -/
theorem twoT (hi : ops[i]? = some { dst := d, op := op, type := t, pos := pos, after := after, guard := g }) (hj : ops[j]? = some { dst := d', op := op', type := t', pos := pos', after := after', guard := g' }) (hr : Region.ready md ops listed = [i, j])
    (hw : Region.wanted { dst := d, op := op, type := t, pos := pos, after := after, guard := g } (yielded ops a.tmps) = true)
    (hw' : Region.wanted { dst := d', op := op', type := t', pos := pos', after := after', guard := g' } (yielded ops a.tmps) = true)
    (h : ∀ K' : Act → World → Prop, Shut (∀ a w, (fresh ls (listed.setIfInBounds i true) = true → T w) → wpAnyT P md ops Q ls T fuel (listed.setIfInBounds i true) a w → K' a w) → ({ dst := d, op := op, type := t, pos := pos, after := after, guard := g } : Oper).wp P a w K' Q)
    (h' : ∀ K' : Act → World → Prop, Shut (∀ a w, (fresh ls (listed.setIfInBounds j true) = true → T w) → wpAnyT P md ops Q ls T fuel (listed.setIfInBounds j true) a w → K' a w) → ({ dst := d', op := op', type := t', pos := pos', after := after', guard := g' } : Oper).wp P a w K' Q) : wpAnyT P md ops Q ls T (fuel + 1) listed a w := by
  refine ⟨fun h0 => (by rw [hr] at h0; cases h0), fun k hk => ?_⟩
  rw [hr] at hk
  simp only [List.mem_cons, List.not_mem_nil, or_false] at hk
  rcases hk with rfl | rfl
  · exact wpOp_step hi (fun K' hK => by rw [if_pos hw]; exact h K' (fun a w hT hW => hK a w ⟨hT, hW⟩))
  · exact wpOp_step hj (fun K' hK => by rw [if_pos hw']; exact h' K' (fun a w hT hW => hK a w ⟨hT, hW⟩))
end

end Go.Proofs.YtplejbgecihnpaaDoor
