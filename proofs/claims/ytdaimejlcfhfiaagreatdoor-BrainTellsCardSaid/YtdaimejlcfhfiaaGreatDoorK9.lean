/-
  Texts that the walk of a statement over brains leans on, joined (RowEdit, BrStep, BrDel, BrMean, BrChange). Conditions: those that each theorem names.
-/
import Derived.Test.YtdaimejlcfhfiaaGreatDoorKQ
import Derived.Test.YtdaimejlcfhfiaaGreatDoorK0
import Derived.Test.YtdaimejlcfhfiaaGreatDoorK1
import Derived.Test.YtdaimejlcfhfiaaGreatDoorK2
import Derived.Test.YtdaimejlcfhfiaaGreatDoorK5
import Derived.Test.YtdaimejlcfhfiaaGreatDoorK6
import Derived.Laws.CopyRow
import Derived.Lib.AppendZerosOnto
import Derived.Deep.DeepCutAuto
set_option maxRecDepth 100000

namespace Go.Proofs.YtdaimejlcfhfiaaGreatDoor
open Go.RowKit Go.Shelf

/-- A block of cells of a row with room for cap elements. -/
structure RowIn (w : World) (g : Nat) (e : TypeId) (size cap : Nat) (cs : List Value) : Prop where
  hg : w.heap[g]? = some (.cells cs.toArray e (0, 0))
  len : cs.length = cap * size
  capm : cap ≤ maxLen
/-- One row's block has been edited, and nothing else. -/
structure Edit (g : Nat) (w w' : World) : Prop where
  grown : w.grownBy w' (some g)
  size : w'.heap.size = w.heap.size
theorem Edit.refl (g : Nat) (w : World) : Edit g w w := ⟨World.grownBy.refl w _, rfl⟩
theorem Edit.trans {g : Nat} {a b c : World} (h : Edit g a b) (k : Edit g b c) : Edit g a c :=
  ⟨⟨k.grown.os.trans h.grown.os, k.grown.tape.trans h.grown.tape, k.grown.output.trans h.grown.output, by rw [k.size, h.size]; exact Nat.le_refl _, fun i hi hg => (k.grown.block i (by rw [h.size]; exact hi) hg).trans (h.grown.block i hi hg)⟩, by rw [k.size, h.size]⟩
theorem Edit.drewN (g : Nat) (w : World) (k : Nat) : Edit g w (w.drewN k) := ⟨⟨rfl, rfl, rfl, Nat.le_refl _, fun _ _ _ => rfl⟩, rfl⟩
theorem edit_setRow (w : World) (g : Nat) (cs : Array Value) : Edit g w (w.setRow g cs) :=
  ⟨⟨rfl, rfl, rfl, by simp, fun k _ hk => setRow_other w g k cs (fun e => hk (by rw [e]))⟩, by simp⟩
theorem RowIn.drewN {w : World} {g : Nat} {e : TypeId} {size cap : Nat} {cs : List Value} (h : RowIn w g e size cap cs) (k : Nat) : RowIn (w.drewN k) g e size cap cs := ⟨h.hg, h.len, h.capm⟩
theorem RowIn.of_own {w : World} {base n c : Nat} {e : TypeId} {size : Nat} {A : Option Addr} {xs : List Value} (h : w.ownsRow base e size (.slice A n c) n xs) (hn : 0 < n) :
    ∃ g cs, A = some ⟨g, 0, none⟩ ∧ base ≤ g ∧ RowIn w g e size c cs ∧ n ≤ c ∧ cs.take (n * size) = xs := by
  rcases h.2 with ⟨_, rfl⟩ | ⟨g, cap, cur, hv, hb, hg, hnc, hcm, hcs, ht⟩
  · omega
  · injection hv with h1 h2 h3
    subst h1; subst h3
    exact ⟨g, cur.toList, rfl, hb, ⟨by simpa using hg, by simpa using hcs, hcm⟩, hnc, ht⟩
theorem RowIn.own {w : World} {g cap n base : Nat} {e : TypeId} {size : Nat} {cs xs : List Value} (h : RowIn w g e size cap cs) (hb : base ≤ g) (hn : n ≤ cap) (hl : xs.length = n * size) (ht : cs.take (n * size) = xs) :
    w.ownsRow base e size (.slice (some ⟨g, 0, none⟩) n cap) n xs :=
  ⟨hl, .inr ⟨g, cap, cs.toArray, rfl, hb, h.hg, hn, h.capm, by simpa using h.len, by simpa using ht⟩⟩
theorem RowIn.put {w : World} {g : Nat} {e : TypeId} {size cap o : Nat} {cs vs : List Value} (h : RowIn w g e size cap cs) (hf : o + vs.length ≤ cs.length) :
    RowIn (w.setRow g (cs.take o ++ vs ++ cs.drop (o + vs.length)).toArray) g e size cap (cs.take o ++ vs ++ cs.drop (o + vs.length)) := by
  refine ⟨setRow_heap w g cs.toArray _ e _ h.hg, ?_, h.capm⟩
  rw [← h.len]
  simp only [List.length_append, List.length_take, List.length_drop]
  omega

section
variable {α : Type} {f : α → List Value} {size : Nat} {P : Program}
theorem run_append_in {w : World} {t e : TypeId} {i0 : TypeInfo} (ht : P.underlying t = some (.slice e)) (hi : P.info? e = some i0) (hsz : i0.size = size) (hs : 0 < size) (hf : ∀ x, (f x).length = size) (hf1 : ∀ x, ∀ u ∈ f x, u.oneCell' = true)
    {g cap i m c B : Nat} {cs : List Value} {A : Option Addr} {l : List α} (h : RowIn w g e size cap cs) (hr : RdF size f w B A m l) (hroom : i + m ≤ cap) :
    ∃ w', (Builtin.append_ #[t, t] t #[.slice (some ⟨g, 0, none⟩) i cap, .slice A m c]).run P w = .ok (.slice (some ⟨g, 0, none⟩) (i + m) cap) w' ∧ RowIn w' g e size cap (cs.take (i * size) ++ l.flatMap f ++ cs.drop (i * size + (l.flatMap f).length)) ∧ Edit g w w' := by
  rcases A with _ | ad
  · have hm0 : m = 0 := by
      rcases Nat.eq_zero_or_pos m with h | h
      · exact h
      · obtain ⟨b, off, e, _⟩ := hr.2 h
        cases e
    subst hm0
    have hb : l = [] := List.eq_nil_of_length_eq_zero hr.1
    subst hb
    refine ⟨w, ?_, ?_, Edit.refl _ _⟩
    · have : i ≤ cap := by omega
      simp [Builtin.append_, run_underlying ht, sizeOf, typeInfo, hi, Builtin.lenOf, Builtin.firstCells, this, storeCells]
    · simpa using h
  · have hl : (l.flatMap f).length = m * size := by rw [flatF_length hf, hr.1]
    have hfit : i * size + (l.flatMap f).length ≤ cs.length := by rw [hl, h.len, ← Nat.add_mul]; exact Nat.mul_le_mul_right _ hroom
    have h1 := run_append_room (P := P) w t t e i0 ht hi g i cap cs.toArray h.hg ad m c (l.flatMap f) (by rw [hl, hsz]) (hr.cells hf hs) (flatF_one hf1 l) hroom (by rw [hsz]; simpa using hfit)
    rw [hsz] at h1
    exact ⟨_, h1, h.put hfit, edit_setRow _ _ _⟩

theorem run_copy_in {w : World} {dT sT ty e : TypeId} (hu : P.underlying dT = some (.slice e)) (hsz : (P.info? e).map (·.size) = some size) (hs : 0 < size) (hf : ∀ x, (f x).length = size) (hf1 : ∀ x, ∀ u ∈ f x, u.oneCell' = true)
    {g cap o dLen dCap sLen sCap B m : Nat} {a : Addr} {cs : List Value} {l : List α} (h : RowIn w g e size cap cs) (hr : RdF size f w B (some a) m l) (hm : m = Nat.min sLen dLen) (hroom : o + m ≤ cap) :
    ∃ w', (Builtin.copy_ #[dT, sT] ty #[.slice (some ⟨g, o * size, none⟩) dLen dCap, .slice (some a) sLen sCap]).run P w = .ok (goInt m) w' ∧ RowIn w' g e size cap (cs.take (o * size) ++ l.flatMap f ++ cs.drop (o * size + (l.flatMap f).length)) ∧ Edit g w w' := by
  have hl : (l.flatMap f).length = m * size := by rw [flatF_length hf, hr.1]
  have hfit : o * size + (l.flatMap f).length ≤ cs.length := by rw [hl, h.len, ← Nat.add_mul]; exact Nat.mul_le_mul_right _ hroom
  have hld := run_loadCells_list (P := P) w a (l.flatMap f) (hr.cells hf hs)
  have hst := run_storeCells_at P g (o * size) e (l.flatMap f) 0 cs.toArray w h.hg (by simpa using hfit) (flatF_one hf1 l)
  simp only [Nat.add_zero] at hst
  have hput := h.put hfit
  rw [hl] at hld
  revert hl hfit hld hst hput
  generalize l.flatMap f = xs
  intro hl hfit hld hst hput
  refine ⟨_, ?_, hput, edit_setRow _ _ _⟩
  cases hq : P.info? e with
  | none => simp [hq] at hsz
  | some i =>
    have hi : i.size = size := by simpa [hq] using hsz
    simp [Builtin.copy_, run_underlying hu, Builtin.lenOf, Builtin.firstCells, sizeOf, typeInfo, hq, hi, ← hm, hld, hst]

theorem run_clear_in {w : World} {t e ty : TypeId} {z : Value} (ht : P.underlying t = some (.slice e)) (hv : ∀ w, (zeroValue e).run P w = .ok z w) (hz : z.cells.size = size) (hz1 : ∀ u ∈ z.cells.toList, u.oneCell' = true)
    {g cap o k c : Nat} {cs : List Value} (h : RowIn w g e size cap cs) (hk : 0 < k) (hroom : o + k ≤ cap) :
    ∃ w' zs, (Builtin.clear_ #[t] ty #[.slice (some ⟨g, o * size, none⟩) k c]).run P w = .ok (.tuple #[]) w' ∧ zs.length = k * size ∧ RowIn w' g e size cap (cs.take (o * size) ++ zs ++ cs.drop (o * size + zs.length)) ∧ Edit g w w' := by
  have hzl : (Builtin.zeroCells z.cells k).toList.length = k * size := by rw [Array.length_toList, size_zeroCells, hz]
  have h1 : ∀ v ∈ (Builtin.zeroCells z.cells k).toList, v.oneCell' = true := by
    intro v hv'
    simp only [Builtin.zeroCells, Array.toList_map, List.mem_map, Array.toList_range, List.mem_range] at hv'
    obtain ⟨j, hj, rfl⟩ := hv'
    have h0 : 0 < z.cells.size := by
      rcases Nat.eq_zero_or_pos z.cells.size with h0 | h0
      · rw [h0, Nat.mul_zero] at hj; omega
      · exact h0
    have hlt : j % z.cells.size < z.cells.size := Nat.mod_lt _ h0
    rw [getElem!_pos z.cells _ hlt]
    exact hz1 _ (by simp)
  have hfit : o * size + (Builtin.zeroCells z.cells k).toList.length ≤ cs.length := by rw [hzl, h.len, ← Nat.add_mul]; exact Nat.mul_le_mul_right _ hroom
  have hst := run_storeCells_at P g (o * size) e (Builtin.zeroCells z.cells k).toList 0 cs.toArray w h.hg (by simpa using hfit) h1
  simp only [Nat.add_zero] at hst
  refine ⟨_, _, ?_, hzl, h.put hfit, edit_setRow _ _ _⟩
  obtain ⟨m, rfl⟩ : ∃ m, k = m + 1 := ⟨k - 1, by omega⟩
  simp [Builtin.clear_, run_underlying ht, hv, hst]
end

/-- What stands where, behind the edits of a deletion. -/
theorem seg_del {α : Type} {f : α → List Value} {size : Nat} (hf : ∀ x, (f x).length = size) {cs zs : List Value} {l : List α} {i : Nat} (hi : i < l.length) (ht : cs.take (l.length * size) = l.flatMap f) :
    ((cs.take (i * size) ++ (l.drop (i + 1)).flatMap f ++ cs.drop (i * size + ((l.drop (i + 1)).flatMap f).length)).take ((l.length - 1) * size) ++ zs ++ (cs.take (i * size) ++ (l.drop (i + 1)).flatMap f ++ cs.drop (i * size + ((l.drop (i + 1)).flatMap f).length)).drop ((l.length - 1) * size + zs.length)).take ((l.length - 1) * size) = (l.take i ++ l.drop (i + 1)).flatMap f := by
  have e1 : cs.take (i * size) = (l.take i).flatMap f := by
    have h1 : (cs.take (l.length * size)).take (i * size) = cs.take (i * size) := by
      rw [List.take_take, Nat.min_eq_left (Nat.mul_le_mul_right _ (by omega))]
    rw [← h1, ht]
    have h2 : l.flatMap f = (l.take i).flatMap f ++ (l.drop i).flatMap f := by rw [← List.flatMap_append, List.take_append_drop]
    rw [h2, List.take_left' (by rw [flatF_length hf, List.length_take]; congr 1; omega)]
  have e2 : ((l.take i).flatMap f ++ (l.drop (i + 1)).flatMap f).length = (l.length - 1) * size := by
    rw [List.length_append, flatF_length hf, flatF_length hf, List.length_take, List.length_drop, ← Nat.add_mul]
    congr 1
    omega
  have e3 : ((l.take i).flatMap f ++ (l.drop (i + 1)).flatMap f ++ cs.drop (i * size + ((l.drop (i + 1)).flatMap f).length)).take ((l.length - 1) * size) = (l.take i).flatMap f ++ (l.drop (i + 1)).flatMap f := by
    rw [← e2, List.take_left]
  rw [e1, e3, List.append_assoc, List.take_left' e2, List.flatMap_append]
/-- .. behind those of an insertion where there is room. -/
theorem seg_ins {α : Type} {f : α → List Value} {size : Nat} (hf : ∀ x, (f x).length = size) {cs : List Value} {l : List α} {x : α} {i : Nat} (hi : i ≤ l.length) (ht : cs.take (i * size) = (l.take i).flatMap f) (hl : (l.length + 1) * size ≤ cs.length) :
    ((cs.take ((i + 1) * size) ++ (l.drop i).flatMap f ++ cs.drop ((i + 1) * size + ((l.drop i).flatMap f).length)).take (i * size) ++ [x].flatMap f ++ (cs.take ((i + 1) * size) ++ (l.drop i).flatMap f ++ cs.drop ((i + 1) * size + ((l.drop i).flatMap f).length)).drop (i * size + ([x].flatMap f).length)).take ((l.length + 1) * size) = (l.take i ++ [x] ++ l.drop i).flatMap f := by
  have hi1 : i * size ≤ (i + 1) * size := Nat.mul_le_mul_right _ (by omega)
  have hi2 : (i + 1) * size ≤ cs.length := Nat.le_trans (Nat.mul_le_mul_right _ (by omega)) hl
  have e0 : ([x].flatMap f).length = size := by simp [hf]
  have e1 : (cs.take ((i + 1) * size)).length = (i + 1) * size := by rw [List.length_take]; omega
  have e2 : (cs.take ((i + 1) * size) ++ (l.drop i).flatMap f ++ cs.drop ((i + 1) * size + ((l.drop i).flatMap f).length)).take (i * size) = (l.take i).flatMap f := by
    rw [List.append_assoc, List.take_append_of_le_length (by rw [e1]; exact hi1), List.take_take, Nat.min_eq_left hi1, ht]
  have e3 : (cs.take ((i + 1) * size) ++ (l.drop i).flatMap f ++ cs.drop ((i + 1) * size + ((l.drop i).flatMap f).length)).drop (i * size + ([x].flatMap f).length) = (l.drop i).flatMap f ++ cs.drop ((i + 1) * size + ((l.drop i).flatMap f).length) := by
    rw [e0, show i * size + size = (i + 1) * size by rw [Nat.succ_mul], List.append_assoc, List.drop_left' e1]
  rw [e2, e3]
  have e4 : ((l.take i).flatMap f ++ [x].flatMap f ++ (l.drop i).flatMap f).length = (l.length + 1) * size := by
    rw [List.length_append, List.length_append, flatF_length hf, flatF_length hf, flatF_length hf, List.length_take, List.length_drop, List.length_singleton, ← Nat.add_mul, ← Nat.add_mul]
    congr 1
    omega
  rw [← List.append_assoc, List.take_left' e4, List.flatMap_append, List.flatMap_append]
/-- .. and those of one into a fresh row, where what is put comes first. -/
theorem seg_ins2 {α : Type} {f : α → List Value} {size : Nat} (hf : ∀ x, (f x).length = size) {cs : List Value} {l : List α} {x : α} {i : Nat} (hi : i ≤ l.length) (ht : cs.take (i * size) = (l.take i).flatMap f) :
    ((cs.take (i * size) ++ [x].flatMap f ++ cs.drop (i * size + ([x].flatMap f).length)).take ((i + 1) * size) ++ (l.drop i).flatMap f ++ (cs.take (i * size) ++ [x].flatMap f ++ cs.drop (i * size + ([x].flatMap f).length)).drop ((i + 1) * size + ((l.drop i).flatMap f).length)).take ((l.length + 1) * size) = (l.take i ++ [x] ++ l.drop i).flatMap f := by
  have e0 : ([x].flatMap f).length = size := by simp [hf]
  have e1 : ((l.take i).flatMap f ++ [x].flatMap f).length = (i + 1) * size := by
    rw [List.length_append, flatF_length hf, e0, List.length_take, Nat.succ_mul]
    congr 2
    omega
  rw [ht, List.take_left' e1]
  have e4 : ((l.take i).flatMap f ++ [x].flatMap f ++ (l.drop i).flatMap f).length = (l.length + 1) * size := by
    rw [List.length_append, e1, flatF_length hf, List.length_drop, ← Nat.add_mul]
    congr 1
    omega
  rw [List.take_left' e4, List.flatMap_append, List.flatMap_append]

section
variable {P : Program} {K : Act → World → Prop} {Q : Exit → Act → World → Prop} {a : Act} {w w' : World} {dst : Option Tmp} {u u' t : TypeId} {pos : String} {after : Array Edge} {g : Option (Nat × Bool)} {x y : Operand} {vs vx v' : Value}
theorem wp_copyH (hx : a.eval x = vs) (hy : a.eval y = vx) (hr : (Builtin.copy_ #[u, u'] t #[vs, vx]).run P w = .ok v' w') (h : K (a.put dst v') w') :
    ({ dst := dst, op := .call { callee := .builtin .copy, args := #[x, y], argTypes := #[u, u'] }, type := t, pos := pos, after := after, guard := g } : Oper).wp P a w K Q := by
  unfold Oper.wp execOp
  simp only [resolve, invoke, builtin, Sem.run_bind, Sem.run_pure, Result.andThen_ok, List.map_toArray, List.map_cons, List.map_nil, hx, hy, hr]
  exact h
end

end Go.Proofs.YtdaimejlcfhfiaaGreatDoor

namespace Go.Proofs.YtdaimejlcfhfiaaGreatDoor
open Go.RowKit Go.Shelf

/-- The types of cells that a deed turns. -/
def mutT (t : TypeId) : Bool := t == 30 || (t == 45 || t == 47)
def stayO (o : Obj) : Bool := match o with
  | .cells _ t _ => !mutT t
  | _ => true
/-- What a deed leaves. -/
structure Stp (base : Nat) (w w' : World) : Prop where
  below : Below base w w'
  keeps : ∀ (i : Nat) (o : Obj), w.heap[i]? = some o → stayO o = true → w'.heap[i]? = some o
  brn : ∀ (i : Nat) (cs : Array Value), Whole w i 30 cs → ∃ cs' : Array Value, Whole w' i 30 cs' ∧ cs'.size = cs.size
section
variable {base : Nat} {w w' w'' : World}
theorem Stp.refl (base : Nat) (w : World) : Stp base w w := ⟨Below.refl _ _, fun _ _ h _ => h, fun _ cs h => ⟨cs, h, rfl⟩⟩
theorem Stp.trans (h : Stp base w w') (k : Stp base w' w'') : Stp base w w'' := ⟨h.below.trans k.below, fun i o ho hs => k.keeps i o (h.keeps i o ho hs) hs, fun i cs hi => let ⟨cs1, h1, e1⟩ := h.brn i cs hi; let ⟨cs2, h2, e2⟩ := k.brn i cs1 h1; ⟨cs2, h2, e2.trans e1⟩⟩
theorem Stp.of_below (hb : Below w.heap.size w w') (h : base ≤ w.heap.size) : Stp base w w' :=
  ⟨hb.mono h, fun i _ ho _ => (hb.block i (Array.getElem?_eq_some_iff.1 ho).1).trans ho, fun _ cs hi => ⟨cs, hi.under hb, rfl⟩⟩
theorem Stp.size (h : Stp base w w') : w.heap.size ≤ w'.heap.size := h.below.size
theorem Stp.whole (h : Stp base w w') {b : Nat} {t : TypeId} {cs : Array Value} (hw : Whole w b t cs) (ht : mutT t = false) : Whole w' b t cs := h.keeps b _ hw (by simp [stayO, ht])
/-- A store into a box that holds a brain. -/
theorem Stp.set {g : Nat} {t : TypeId} {cs : Array Value} (hw : Whole w g t cs) (ht : mutT t = true) (hg : base ≤ g) (i : Nat) (v : Value) : Stp base w (w.setCell ⟨g, i, none⟩ v) := by
  refine ⟨(Below.refl base w).setCell (p := ⟨g, i, none⟩) hg v, fun j o ho hs => ?_, fun j cs1 hj => ?_⟩
  rotate_left
  · by_cases e : j = g
    · subst e
      have e1 : cs1 = cs ∧ t = 30 := by
        unfold Whole at hj hw
        rw [hw] at hj
        cases hj
        exact ⟨rfl, rfl⟩
      obtain ⟨rfl, rfl⟩ := e1
      exact ⟨_, hw.set i v, by simp⟩
    · exact ⟨cs1, (Below.heap_setCell w ⟨g, i, none⟩ v j e).trans hj, rfl⟩
  by_cases e : j = g
  · subst e
    unfold Whole at hw
    rw [hw] at ho
    cases ho
    simp [stayO, ht] at hs
  · exact (Below.heap_setCell w ⟨g, i, none⟩ v j e).trans ho
def rowT (t : TypeId) : Bool := t == 45 || t == 47
/-- A row of one's own, of what is meant or of what is kept, has been edited. -/
theorem Stp.own {e : TypeId} {size n : Nat} {v : Value} {xs : List Value} (ho : w.ownsRow base e size v n xs) (her : rowT e = true) (hB : base ≤ w.heap.size) (hg : w.grownBy w' v.ownBlock) : Stp base w w' := by
  have he : mutT e = true := by
    unfold rowT at her
    unfold mutT
    rw [her, Bool.or_true]
  refine ⟨(Below.refl base w).grown hg hB (fun k e => (ho.lt k e).1), fun j o hj hs => ?_, fun j cs1 hj => ⟨cs1, hj.grown hg (fun e0 => ?_), rfl⟩⟩
  rotate_left
  · rcases ho.2 with ⟨rfl, _⟩ | ⟨g, cap, cur, rfl, hb, hc, _⟩
    · simp [Value.ownBlock] at e0
    · simp only [Value.ownBlock, Option.some.injEq] at e0
      subst e0
      unfold Whole at hj
      rw [hc] at hj
      cases hj
      revert her
      decide
  refine (hg.block j (Array.getElem?_eq_some_iff.1 hj).1 ?_).trans hj
  rcases ho.2 with ⟨rfl, _⟩ | ⟨g, cap, cur, rfl, hb, hc, _⟩
  · simp [Value.ownBlock]
  · intro e0
    simp only [Value.ownBlock, Option.some.injEq] at e0
    subst e0
    rw [hc] at hj
    cases hj
    simp [stayO, he] at hs
end

/-- A brain in its box, its rows one's own from base on. -/
structure BrIn (base g : Nat) (w : World) (p : Br) (a : Ad) : Prop where
  box : Whole w g 30 (brC p a)
  own : OwB base w p a
  ge : base ≤ g
section
variable {base g : Nat} {w w' : World} {p : Br} {a : Ad}
theorem BrIn.under (h : BrIn base g w p a) (hb : Below w.heap.size w w') : BrIn base g w' p a := ⟨h.box.under hb, h.own.under hb, h.ge⟩
theorem BrIn.lt (h : BrIn base g w p a) : g < w.heap.size := h.box.lt
theorem OwB.cap {w : World} {p : Br} {a : Ad} (h : OwB base w p a) : p.cf.ms.length ≤ a.e ∧ a.e ≤ maxLen ∧ p.its.length ≤ a.c ∧ p.kps.length ≤ a.d := by
  have cap : ∀ {e : TypeId} {size n c : Nat} {A : Option Addr} {xs : List Value}, w.ownsRow base e size (.slice A n c) n xs → n ≤ c ∧ c ≤ maxLen := by
    intro e size n c A xs h
    rcases h.2 with ⟨h1, h2⟩ | ⟨g, cap, cur, h1, _, _, h2, h3, _⟩
    · injection h1 with _ h4 h5
      subst h5
      exact ⟨by omega, Nat.zero_le _⟩
    · injection h1 with _ _ h4
      subst h4
      exact ⟨h2, h3⟩
  exact ⟨(cap h.ms).1, (cap h.ms).2, (cap h.its).1, (cap h.kps).1⟩
/-- What reads. -/
theorem OwB.reads {w : World} {p : Br} {a : Ad} (h : OwB base w p a) : RdB_ w w.heap.size p a := by
  obtain ⟨h1, h2, h3, h4⟩ := h.cap
  exact ⟨Rd.of_own h.ms, ItsAt.read h.its, KpsAt.read h.kps, h1, h2, h3, h4⟩
/-- One number of the brain's is laid anew. -/
theorem BrIn.set (h : BrIn base g w p a) {p' : Br} (i : Nat) (v : Value) (he : (brC p a).setIfInBounds i v = brC p' a) (h1 : p'.cf.ms = p.cf.ms) (h2 : p'.its = p.its) (h3 : p'.kps = p.kps) : BrIn base g (w.setCell ⟨g, i, none⟩ v) p' a := by
  have k := Only.set w g i v
  refine ⟨?_, ?_, h.ge⟩
  · rw [← he]; exact h.box.set i v
  · have := h.own.only k h.box (by decide) (by decide) (by decide)
    exact ⟨by rw [h1]; exact this.ms, by rw [h2]; exact this.its, by rw [h3]; exact this.kps⟩
end
/-- What comes of a deed: the brain is p', all else stays. -/
def StPost (base g : Nat) (p' : Br) (w : World) (e : Ending) (w' : World) : Prop := e = .returned (.tuple #[]) ∧ Stp base w w' ∧ ∃ a', BrIn base g w' p' a'

end Go.Proofs.YtdaimejlcfhfiaaGreatDoor

namespace Go.Proofs.YtdaimejlcfhfiaaGreatDoor
open Go.RowKit Go.Shelf

theorem zero_it (w : World) : (zeroValue 45).run Tryz.prog w = .ok (.agg (It.vs ⟨0, 0, 0, false⟩).toArray) w := by kernel_rfl
theorem zero_kp (w : World) : (zeroValue 47).run Tryz.prog w = .ok (.agg (Kp.vs ⟨0, 0, 0, 0, 0, 0, false, false⟩).toArray) w := by kernel_rfl
theorem run_midF {size bytes : Nat} {z : Value} {ty e : TypeId} (ht : Tryz.prog.underlying ty = some (.slice e)) (he : Tryz.prog.elem ty = e) (hi0 : (Tryz.prog.info? e).map (fun i => (i.zero, i.size, i.bytes)) = some (some z, size, bytes)) (b n c k m : Nat) (hk : k < m) (hm : m ≤ c) (w : World) : (Instr.slice ty (.slice (some ⟨b, 0, none⟩) n c) (some (.int .i64 (k : Int))) (some (.int .i64 (m : Int))) none).run Tryz.prog w = .ok (.slice (some ⟨b, k * size, none⟩) (m - k) (c - k)) w := by
  obtain ⟨i0, hi, hz0, hz1, hz2⟩ := info_parts hi0
  have hz : (sizeOf (Tryz.prog.elem ty)).run Tryz.prog w = .ok size w := by
    simp [he, Go.sizeOf, typeInfo, hi, hz1]
  have h1 : (k : Int).toNat = k := by omega
  have h2 : (m : Int).toNat = m := by omega
  rw [run_slice_lh (P := Tryz.prog) w ty (some ⟨b, 0, none⟩) n c (by rw [he]; exact ht) .i64 .i64 (k : Int) (m : Int) (by omega) (by omega) (by omega), hz, h1, h2]
  simp only [Result.andThen_ok, sliced, if_neg (show ¬ c = k by omega), Option.map_some, Addr.add_lit, Nat.zero_add]
theorem run_lhmF {size bytes : Nat} {z : Value} {ty e : TypeId} (ht : Tryz.prog.underlying ty = some (.slice e)) (he : Tryz.prog.elem ty = e) (hi0 : (Tryz.prog.info? e).map (fun i => (i.zero, i.size, i.bytes)) = some (some z, size, bytes)) (b n c k m h : Nat) (hk : k ≤ m) (hm : m ≤ h) (hh : h ≤ c) (w : World) : ∃ v, (Instr.slice ty (.slice (some ⟨b, 0, none⟩) n c) (some (.int .i64 (k : Int))) (some (.int .i64 (m : Int))) (some (.int .i64 (h : Int)))).run Tryz.prog w = .ok v w := by
  obtain ⟨i0, hi, hz0, hz1, hz2⟩ := info_parts hi0
  have hz : (sizeOf (Tryz.prog.elem ty)).run Tryz.prog w = .ok size w := by
    simp [he, Go.sizeOf, typeInfo, hi, hz1]
  rw [run_slice_lhm (P := Tryz.prog) w ty (some ⟨b, 0, none⟩) n c (by rw [he]; exact ht) .i64 .i64 .i64 (k : Int) (m : Int) (h : Int) (by omega) (by omega) (by omega) (by omega), hz]
  exact ⟨_, rfl⟩
theorem below_dN {B : Nat} (w : World) (k : Nat) : Below B w (w.drewN k) := ⟨rfl, rfl, rfl, Nat.le_refl _, fun _ _ => rfl⟩

set_option maxHeartbeats 2000000 in
theorem delI_any (A : Option Addr) (n c i : Nat) (l : List It) (base : Nat) (w : World) (h : ItsAt base w (.slice A n c) l) (hl : l.length = n) (hi : i < n) (hn : n ≤ 1000) :
    Calls Tryz.prog 118 #[.slice A n c, .int .i64 (i : Int), .int .i64 (i + 1 : Int)] w fun e w' => e = .returned (.slice A (n - 1) c) ∧ ItsAt base w' (.slice A (n - 1) c) (l.take i ++ l.drop (i + 1)) ∧ w.grownBy w' (Value.slice A n c).ownBlock := by
  have hr := ItsAt.read (by rw [hl]; exact h)
  unfold ItsAt at h
  rw [hl] at h
  obtain ⟨g, cs, rfl, hb, hin, hnc, htk⟩ := RowIn.of_own h (by omega)
  rw [hl] at hr
  obtain ⟨i0, hi0, hz0, hz1, hz2⟩ := info_parts info_it
  have hcm : c ≤ 9223372036854775807 := hin.capm
  obtain ⟨v0, hv0⟩ := run_lhmF Tryz.underlying25 rfl info_it g n c i (i + 1) n (by omega) (by omega) hnc w
  have hhead := fun W => run_headF Tryz.underlying25 rfl info_it (some ⟨g, 0, none⟩) n c i (by omega) W
  obtain ⟨A', hrest, hA'⟩ := run_restF Tryz.underlying25 rfl info_it (some ⟨g, 0, none⟩) n c (i + 1) (by omega)
  have hsrc : RdI w w.heap.size A' (n - (i + 1)) (l.drop (i + 1)) := hr.drop (by omega) (fun h' b off e => hA' ⟨h', hnc⟩ b off e)
  obtain ⟨w1, hrun, hin1, hed1⟩ := run_append_in (size := 4) (c := c - (i + 1)) Tryz.underlying25 hi0 hz1 (by omega) It.vs_len It.vs_one (hin.drewN 1) (hsrc.below (below_dN w 1)) (show i + (n - (i + 1)) ≤ c by omega)
  have hmid := fun W => run_midF Tryz.underlying25 rfl info_it g (n - 1) c (n - 1) n (by omega) hnc W
  obtain ⟨w2, zs, hclr, hzs, hin2, hed2⟩ := run_clear_in (size := 4) (ty := 0) (k := n - (n - 1)) (o := n - 1) (c := c - (n - 1)) Tryz.underlying25 zero_it rfl (show ∀ u ∈ It.vs ⟨0, 0, 0, false⟩, u.oneCell' = true from It.vs_one _) hin1 (by omega) (by omega)
  have hfin := seg_del (l := l) It.vs_len (zs := zs) (i := i) (by rw [hl]; exact hi) (by rw [hl]; exact htk)
  rw [hl] at hfin
  have hn1 : i + (n - (i + 1)) = n - 1 := by omega
  rw [hn1] at hrun
  have HO := Lib.hid (show ItsAt base w2 (.slice (some ⟨g, 0, none⟩) (n - 1) c) (l.take i ++ l.drop (i + 1)) ∧ w.grownBy w2 (some g) from by
    refine ⟨?_, ((Edit.drewN g w 1).trans (hed1.trans hed2)).grown⟩
    have hlen : (l.take i ++ l.drop (i + 1)).length = n - 1 := by rw [List.length_append, List.length_take, List.length_drop]; omega
    unfold ItsAt
    rw [hlen]
    exact hin2.own hb (by omega) (by rw [flatF_length It.vs_len, hlen]) hfin)
  have HV0 := Lib.hid hv0
  have HH := Lib.hid hhead
  have HRe := Lib.hid hrest
  have HRun := Lib.hid hrun
  have HMid := Lib.hid hmid
  have HClr := Lib.hid hclr
  have hne : ((i : Int) == (i : Int) + 1) = false := by rw [beq_eq_false_iff_ne]; omega
  have hwr : IntKind.i64.wrap ((n : Int)) = (n : Int) := by rw [IntKind.wrap_i64]; omega
  have hnI : ((n - 1 : Nat) : Int) = (n : Int) - 1 := by omega
  have HNI := Lib.hid hnI
  have HIi := Lib.hid (show ((i + 1 : Nat) : Int) = (i : Int) + 1 by omega)
  clear hr h hin hnc htk hv0 hhead hrest hsrc hrun hin1 hed1 hmid hclr hzs hin2 hed2 hfin hA' hwr hnI hn1
  go_enter Tryz.func118, Tryz.ntmps118
  have hv0 := HV0.out
  rw [HIi.out] at hv0
  go_wp2_with fail
  have HT : Hid True := Lib.hid trivial
  refine wp_region_T (ls := []) (T := (fun _ => True)) (by kernel_rfl) ?_
  refine kP 0 ?_ rfl ?_ (fun _ => HT.out) ?_
  rotate_left
  · intro V'; go_simp <;> with_reducible rfl
  simp only [Act.put, lA, lZ, lS]
  refine kP 1 ?_ rfl ?_ (fun _ => HT.out) ?_
  rotate_left
  · intro V'; go_simp <;> with_reducible rfl
  simp only [Act.put, lA, lZ, lS]
  refine kP 2 (.slice (some ⟨g, 0, none⟩) i c) rfl ?_ (fun _ => HT.out) ?_
  · intro V'; have hs := HH.out V'; go_simp <;> with_reducible rfl
  simp only [Act.put, lA, lZ, lS]
  refine kP 3 ?_ rfl ?_ (fun _ => HT.out) ?_
  rotate_left
  · intro V'; go_simp <;> with_reducible rfl
  simp only [Act.put, lA, lZ, lS]
  refine kP 4 ?_ rfl ?_ (fun _ => HT.out) ?_
  rotate_left
  · intro V'; go_simp <;> with_reducible rfl
  simp only [Act.put, lA, lZ, lS]
  refine kP 5 (.slice A' (n - (i + 1)) (c - (i + 1))) rfl ?_ (fun _ => HT.out) ?_
  · intro V'; have hs := HRe.out V'; rw [HIi.out] at hs; go_simp <;> with_reducible rfl
  simp only [Act.put, lA, lZ, lS]
  refine oneT (i := 6) rfl (by kernel_rfl) (by rfl) (fun K hK => ?_)
  refine wp_appendH (by rfl) (by rfl) HRun.out ?_
  simp only [Act.put, lA, lZ, lS]
  refine hK.out _ _ (fun _ => HT.out) ?_
  clear hK K
  refine oneT (i := 7) rfl (by kernel_rfl) (by rfl) (fun K hK => ?_)
  go_simp
  refine hK.out _ _ (fun _ => HT.out) ?_
  clear hK K
  refine doneT (by kernel_rfl) ?_ _
  have hmid := HMid.out w1
  rw [HNI.out] at hmid
  have hlen : ((n - 1 : Nat) : Int) = (n : Int) - 1 := HNI.out
  have hclr := HClr.out
  go_wp2_with fail
  go_ret
  exact ⟨rfl, HO.out.1, HO.out.2⟩

set_option maxHeartbeats 2000000 in
theorem delK_any (A : Option Addr) (n c i : Nat) (l : List Kp) (base : Nat) (w : World) (h : KpsAt base w (.slice A n c) l) (hl : l.length = n) (hi : i < n) (hn : n ≤ 1000) :
    Calls Tryz.prog 119 #[.slice A n c, .int .i64 (i : Int), .int .i64 (i + 1 : Int)] w fun e w' => e = .returned (.slice A (n - 1) c) ∧ KpsAt base w' (.slice A (n - 1) c) (l.take i ++ l.drop (i + 1)) ∧ w.grownBy w' (Value.slice A n c).ownBlock := by
  have hr := KpsAt.read (by rw [hl]; exact h)
  unfold KpsAt at h
  rw [hl] at h
  obtain ⟨g, cs, rfl, hb, hin, hnc, htk⟩ := RowIn.of_own h (by omega)
  rw [hl] at hr
  obtain ⟨i0, hi0, hz0, hz1, hz2⟩ := info_parts info_kp
  have hcm : c ≤ 9223372036854775807 := hin.capm
  obtain ⟨v0, hv0⟩ := run_lhmF Tryz.underlying26 rfl info_kp g n c i (i + 1) n (by omega) (by omega) hnc w
  have hhead := fun W => run_headF Tryz.underlying26 rfl info_kp (some ⟨g, 0, none⟩) n c i (by omega) W
  obtain ⟨A', hrest, hA'⟩ := run_restF Tryz.underlying26 rfl info_kp (some ⟨g, 0, none⟩) n c (i + 1) (by omega)
  have hsrc : RdK w w.heap.size A' (n - (i + 1)) (l.drop (i + 1)) := hr.drop (by omega) (fun h' b off e => hA' ⟨h', hnc⟩ b off e)
  obtain ⟨w1, hrun, hin1, hed1⟩ := run_append_in (size := 8) (c := c - (i + 1)) Tryz.underlying26 hi0 hz1 (by omega) Kp.vs_len Kp.vs_one (hin.drewN 1) (hsrc.below (below_dN w 1)) (show i + (n - (i + 1)) ≤ c by omega)
  have hmid := fun W => run_midF Tryz.underlying26 rfl info_kp g (n - 1) c (n - 1) n (by omega) hnc W
  obtain ⟨w2, zs, hclr, hzs, hin2, hed2⟩ := run_clear_in (size := 8) (ty := 0) (k := n - (n - 1)) (o := n - 1) (c := c - (n - 1)) Tryz.underlying26 zero_kp rfl (show ∀ u ∈ Kp.vs ⟨0, 0, 0, 0, 0, 0, false, false⟩, u.oneCell' = true from Kp.vs_one _) hin1 (by omega) (by omega)
  have hfin := seg_del (l := l) Kp.vs_len (zs := zs) (i := i) (by rw [hl]; exact hi) (by rw [hl]; exact htk)
  rw [hl] at hfin
  have hn1 : i + (n - (i + 1)) = n - 1 := by omega
  rw [hn1] at hrun
  have HO := Lib.hid (show KpsAt base w2 (.slice (some ⟨g, 0, none⟩) (n - 1) c) (l.take i ++ l.drop (i + 1)) ∧ w.grownBy w2 (some g) from by
    refine ⟨?_, ((Edit.drewN g w 1).trans (hed1.trans hed2)).grown⟩
    have hlen : (l.take i ++ l.drop (i + 1)).length = n - 1 := by rw [List.length_append, List.length_take, List.length_drop]; omega
    unfold KpsAt
    rw [hlen]
    exact hin2.own hb (by omega) (by rw [flatF_length Kp.vs_len, hlen]) hfin)
  have HV0 := Lib.hid hv0
  have HH := Lib.hid hhead
  have HRe := Lib.hid hrest
  have HRun := Lib.hid hrun
  have HMid := Lib.hid hmid
  have HClr := Lib.hid hclr
  have hne : ((i : Int) == (i : Int) + 1) = false := by rw [beq_eq_false_iff_ne]; omega
  have hwr : IntKind.i64.wrap ((n : Int)) = (n : Int) := by rw [IntKind.wrap_i64]; omega
  have hnI : ((n - 1 : Nat) : Int) = (n : Int) - 1 := by omega
  have HNI := Lib.hid hnI
  have HIi := Lib.hid (show ((i + 1 : Nat) : Int) = (i : Int) + 1 by omega)
  clear hr h hin hnc htk hv0 hhead hrest hsrc hrun hin1 hed1 hmid hclr hzs hin2 hed2 hfin hA' hwr hnI hn1
  go_enter Tryz.func119, Tryz.ntmps119
  have hv0 := HV0.out
  rw [HIi.out] at hv0
  go_wp2_with fail
  have HT : Hid True := Lib.hid trivial
  refine wp_region_T (ls := []) (T := (fun _ => True)) (by kernel_rfl) ?_
  refine kP 0 ?_ rfl ?_ (fun _ => HT.out) ?_
  rotate_left
  · intro V'; go_simp <;> with_reducible rfl
  simp only [Act.put, lA, lZ, lS]
  refine kP 1 ?_ rfl ?_ (fun _ => HT.out) ?_
  rotate_left
  · intro V'; go_simp <;> with_reducible rfl
  simp only [Act.put, lA, lZ, lS]
  refine kP 2 (.slice (some ⟨g, 0, none⟩) i c) rfl ?_ (fun _ => HT.out) ?_
  · intro V'; have hs := HH.out V'; go_simp <;> with_reducible rfl
  simp only [Act.put, lA, lZ, lS]
  refine kP 3 ?_ rfl ?_ (fun _ => HT.out) ?_
  rotate_left
  · intro V'; go_simp <;> with_reducible rfl
  simp only [Act.put, lA, lZ, lS]
  refine kP 4 ?_ rfl ?_ (fun _ => HT.out) ?_
  rotate_left
  · intro V'; go_simp <;> with_reducible rfl
  simp only [Act.put, lA, lZ, lS]
  refine kP 5 (.slice A' (n - (i + 1)) (c - (i + 1))) rfl ?_ (fun _ => HT.out) ?_
  · intro V'; have hs := HRe.out V'; rw [HIi.out] at hs; go_simp <;> with_reducible rfl
  simp only [Act.put, lA, lZ, lS]
  refine oneT (i := 6) rfl (by kernel_rfl) (by rfl) (fun K hK => ?_)
  refine wp_appendH (by rfl) (by rfl) HRun.out ?_
  simp only [Act.put, lA, lZ, lS]
  refine hK.out _ _ (fun _ => HT.out) ?_
  clear hK K
  refine oneT (i := 7) rfl (by kernel_rfl) (by rfl) (fun K hK => ?_)
  go_simp
  refine hK.out _ _ (fun _ => HT.out) ?_
  clear hK K
  refine doneT (by kernel_rfl) ?_ _
  have hmid := HMid.out w1
  rw [HNI.out] at hmid
  have hlen : ((n - 1 : Nat) : Int) = (n : Int) - 1 := HNI.out
  have hclr := HClr.out
  go_wp2_with fail
  go_ret
  exact ⟨rfl, HO.out.1, HO.out.2⟩

end Go.Proofs.YtdaimejlcfhfiaaGreatDoor

namespace Go.Proofs.YtdaimejlcfhfiaaGreatDoor
open Go.RowKit Go.Shelf

abbrev itC (x : It) : Array Value := #[.int .i64 x.tok, .int .i64 x.ver, .int .i64 x.zone, .bool x.warm]
theorem rdI_lit {W : World} {b : Nat} {x : It} (h : Whole W b 45 (itC x)) (B : Nat) (hB : b < B) : RdI W B (some ⟨b, 0, none⟩) 1 [x] := by
  refine ⟨rfl, fun _ => ⟨b, 0, rfl, hB, ?_⟩⟩
  rintro (_ | j) y hy i hi
  · simp only [List.getElem?_cons_zero, Option.some.injEq] at hy
    subst hy
    simp only [Nat.zero_mul, Nat.zero_add]
    rcases (by omega : i = 0 ∨ i = 1 ∨ i = 2 ∨ i = 3) with rfl | rfl | rfl | rfl
    · exact h.cell 0
    · exact h.cell 1
    · exact h.cell 2
    · exact h.cell 3
  · simp at hy
/-- A row of one's own lies in no block that came after it. -/
theorem own_before {w : World} {base size n b : Nat} {e : TypeId} {v : Value} {xs : List Value} (h : w.ownsRow base e size v n xs) (hb : w.heap.size ≤ b) : v.ownBlock ≠ some b := fun e => by
  have := (h.lt b e).2; omega
/-- A store into a block of no row of the brain's, and not into the brain. -/
theorem BrIn.far {base g b : Nat} {w : World} {p : Br} {a : Ad} (h : BrIn base g w p a) (hg : g ≠ b) (h1 : (Value.slice a.C p.cf.ms.length a.e).ownBlock ≠ some b) (h2 : (Value.slice a.A p.its.length a.c).ownBlock ≠ some b) (h3 : (Value.slice a.B p.kps.length a.d).ownBlock ≠ some b) (i : Nat) (v : Value) : BrIn base g (w.setCell ⟨b, i, none⟩ v) p a :=
  ⟨(Only.set w b i v).far h.box hg, ⟨ownsRow_setCell_other (a := ⟨b, i, none⟩) h.own.ms h1 v, ownsRow_setCell_other (a := ⟨b, i, none⟩) h.own.its h2 v, ownsRow_setCell_other (a := ⟨b, i, none⟩) h.own.kps h3 v⟩, h.ge⟩
/-- What is meant has grown, and the brain's box tells it. -/
theorem BrIn.its {base g : Nat} {w w' : World} {p : Br} {a : Ad} (h : BrIn base g w p a) (hg : w.grownBy w' (Value.slice a.A p.its.length a.c).ownBlock) {A' : Option Addr} {c' : Nat} {l : List It} (ho : ItsAt base w' (.slice A' l.length c') l) :
    BrIn base g (w'.setCell ⟨g, 18, none⟩ (.slice A' l.length c')) { p with its := l } ⟨a.C, a.e, A', c', a.B, a.d⟩ := by
  have hb := h.box.grown hg (Ne.symm (own_apart_F (by decide) h.own.its h.box))
  have k := Only.set w' g 18 (.slice A' l.length c')
  refine ⟨?_, ⟨k.own (own_kept_F (by decide) h.own.its h.own.ms hg) hb (by decide), ho.only k hb (by decide), k.own (own_kept_F (by decide) h.own.its h.own.kps hg) hb (by decide)⟩, h.ge⟩
  have h1 := hb.set 18 (.slice A' l.length c')
  simp only [List.setIfInBounds_toArray, List.set_cons_zero, List.set_cons_succ] at h1
  exact h1
theorem BrIn.kps {base g : Nat} {w w' : World} {p : Br} {a : Ad} (h : BrIn base g w p a) (hg : w.grownBy w' (Value.slice a.B p.kps.length a.d).ownBlock) {A' : Option Addr} {c' : Nat} {l : List Kp} (ho : KpsAt base w' (.slice A' l.length c') l) :
    BrIn base g (w'.setCell ⟨g, 19, none⟩ (.slice A' l.length c')) { p with kps := l } ⟨a.C, a.e, a.A, a.c, A', c'⟩ := by
  have hb := h.box.grown hg (Ne.symm (own_apart_F (by decide) h.own.kps h.box))
  have k := Only.set w' g 19 (.slice A' l.length c')
  refine ⟨?_, ⟨k.own (own_kept_F (by decide) h.own.kps h.own.ms hg) hb (by decide), k.own (own_kept_F (by decide) h.own.kps h.own.its hg) hb (by decide), ho.only k hb (by decide)⟩, h.ge⟩
  have h1 := hb.set 19 (.slice A' l.length c')
  simp only [List.setIfInBounds_toArray, List.set_cons_zero, List.set_cons_succ] at h1
  exact h1

set_option maxHeartbeats 2000000 in
theorem mean_any (p : Br) (a : Ad) (x : It) (base g : Nat) (w : World) (h : BrIn base g w p a) (hs1 : -9223372036854775808 ≤ p.sq) (hs2 : p.sq < 1099511627776) (hn : p.its.length ≤ 1000) :
    Calls Tryz.prog 78 #[.pointer (some ⟨g, 0, none⟩), .agg (itC x)] w (StPost base g { p with sq := p.sq + 1, its := p.its ++ [{ x with tok := p.sq + 1 }] } w) := by
  have hbase : base ≤ w.heap.size := Nat.le_trans h.ge (Nat.le_of_lt h.lt)
  obtain ⟨V, hV⟩ : ∃ V, w.alloc (.cells (itC x) 45) = V := ⟨_, rfl⟩
  have hw : Whole V w.heap.size 45 (itC x) := by rw [← hV]; exact Whole.new _ _ _
  have hb : Below w.heap.size w V := by rw [← hV]; exact (Below.refl _ _).alloc (Nat.le_refl _) _
  have hgw := h.lt
  -- the world behind the numbers
  have k1 := Only.set V g 1 (.int .i64 (p.sq + 1))
  have h1 : BrIn base g (V.setCell ⟨g, 1, none⟩ (.int .i64 (p.sq + 1))) { p with sq := p.sq + 1 } a := (h.under hb).set 1 _ rfl rfl rfl rfl
  have hx1 := k1.far hw (by omega)
  obtain ⟨V1, hV1⟩ : ∃ V1, V.setCell ⟨g, 1, none⟩ (.int .i64 (p.sq + 1)) = V1 := ⟨_, rfl⟩
  have hs : Stp base w V1 := by rw [← hV1]; exact (Stp.of_below hb hbase).trans (Stp.set (h.under hb).box (by decide) h.ge _ _)
  rw [hV1] at h1 hx1
  have h2 : BrIn base g (V1.setCell ⟨w.heap.size, 0, none⟩ (.int .i64 (p.sq + 1))) { p with sq := p.sq + 1 } a := h1.far (by omega) (own_before h.own.ms (Nat.le_refl _)) (own_before h.own.its (Nat.le_refl _)) (own_before h.own.kps (Nat.le_refl _)) _ _
  have hx2 : Whole (V1.setCell ⟨w.heap.size, 0, none⟩ (.int .i64 (p.sq + 1))) w.heap.size 45 (itC { x with tok := p.sq + 1 }) := hx1.set 0 (.int .i64 (p.sq + 1))
  obtain ⟨V2, hV2⟩ : ∃ V2, V1.setCell ⟨w.heap.size, 0, none⟩ (.int .i64 (p.sq + 1)) = V2 := ⟨_, rfl⟩
  have hs2' : Stp base w V2 := by rw [← hV2]; exact hs.trans (Stp.set hx1 (by decide) hbase _ _)
  rw [hV2] at h2 hx2
  obtain ⟨c0, c1, c2, c3, c4, c5, c6, c7, c8, c9, c10, c11, c12, c13, c14, c15, c16, c17, c18, c19, c20, c21, c22, c23, c24, c25, c26⟩ := cells27 (h.under hb).box
  have f1 := (h.under hb).box.frozen 1
  have d1 := (cells27 h1.box).2.1
  have e0 := hx1.cell 0
  simp only [List.getElem?_toArray, List.getElem?_cons_zero] at e0
  have fe0 := hx1.frozen 0
  have HV1 := Lib.hid hV1
  have HV2 := Lib.hid hV2
  have HV := Lib.hid hV
  have HB2 := Lib.hid h2
  have HX2 := Lib.hid hx2
  have HS2 := Lib.hid hs2'
  have HBase := Lib.hid hbase
  have HNB := Lib.hid (own_before h.own.its (Nat.le_refl _))
  have HG := Lib.hid h.ge
  have D1 := Lib.hid d1
  have E0 := Lib.hid e0
  have FE0 := Lib.hid fe0
  clear hw hgw hb k1 h1 hx1 hs h2 hx2 hs2' d1 e0 fe0 hV1 hV2 hV hbase h c0 c2 c3 c4 c5 c6 c7 c8 c9 c10 c11 c12 c13 c14 c15 c16 c17 c18 c19 c20 c21 c22 c23 c24 c25 c26
  go_enter Tryz.func78, Tryz.ntmps78
  go_upto_region 1 with fail
  rw [HV.out]
  go_upto_region 2 with fail
  rw [HV1.out]
  have d1 := D1.out
  have e0 := E0.out
  have fe0 := FE0.out
  clear c1 f1
  go_upto_region 3 with fail
  rw [HV2.out]
  clear d1 e0 fe0
  have hHT : Whole V2.drew g 30 (brC { p with sq := p.sq + 1 } a) ∧ Whole V2.drew w.heap.size 45 (itC { x with tok := p.sq + 1 }) := ⟨HB2.out.box.under (below_drewB (Below.refl _ V2) 1), HX2.out.under (below_drewB (Below.refl _ V2) 1)⟩
  have HT : Hid ((fun V' => Whole V' g 30 (brC { p with sq := p.sq + 1 } a) ∧ Whole V' w.heap.size 45 (itC { x with tok := p.sq + 1 })) V2.drew) := Lib.hid hHT
  have HL : Hid (∀ V', (Whole V' g 30 (brC { p with sq := p.sq + 1 } a) ∧ Whole V' w.heap.size 45 (itC { x with tok := p.sq + 1 })) → V'.cell? ⟨g, 18, none⟩ = some (.slice a.A p.its.length a.c) ∧ V'.cell? ⟨w.heap.size, 0, none⟩ = some (.int .i64 (p.sq + 1)) ∧ V'.cell? ⟨w.heap.size, 1, none⟩ = some (.int .i64 x.ver) ∧ V'.cell? ⟨w.heap.size, 2, none⟩ = some (.int .i64 x.zone) ∧ V'.cell? ⟨w.heap.size, 3, none⟩ = some (.bool x.warm)) := Lib.hid (fun V' h => ⟨h.1.cell 18, h.2.cell 0, h.2.cell 1, h.2.cell 2, h.2.cell 3⟩)
  clear hHT
  refine wp_region_T (ls := [10]) (T := (fun V' => Whole V' g 30 (brC { p with sq := p.sq + 1 } a) ∧ Whole V' w.heap.size 45 (itC { x with tok := p.sq + 1 }))) (by kernel_rfl) ?_
  refine kP 0 ?_ rfl ?_ (fun _ => HT.out) ?_
  rotate_left
  · intro V'; go_simp <;> with_reducible rfl
  simp only [Act.put, lA, lZ, lS]
  refine kP 1 ?_ rfl ?_ (fun _ => HT.out) ?_
  rotate_left
  · intro V'; go_simp <;> with_reducible rfl
  simp only [Act.put, lA, lZ, lS]
  refine kP 2 ?_ rfl ?_ (fun _ => HT.out) ?_
  rotate_left
  · intro V'; go_simp <;> with_reducible rfl
  simp only [Act.put, lA, lZ, lS]
  refine kP 3 ?_ rfl ?_ (fun _ => HT.out) ?_
  rotate_left
  · intro V'; go_simp <;> with_reducible rfl
  simp only [Act.put, lA, lZ, lS]
  refine kT 4 ?_ rfl ?_ HT.out ?_
  rotate_left
  · intro V' hV; obtain ⟨d18, d0, d1, d2, d3⟩ := HL.out V' hV; go_simp <;> with_reducible rfl
  simp only [Act.put, lA, lZ, lS]
  refine kT 5 ?_ rfl ?_ HT.out ?_
  rotate_left
  · intro V' hV; obtain ⟨d18, d0, d1, d2, d3⟩ := HL.out V' hV; go_simp <;> with_reducible rfl
  simp only [Act.put, lA, lZ, lS]
  obtain ⟨V3, hV3⟩ : ∃ W, V2.drew.alloc (.cells #[.int .i64 (p.sq + 1), .int .i64 x.ver, .int .i64 x.zone, .bool x.warm] 45) = W := ⟨_, rfl⟩
  have b3 : Below V2.heap.size V2 V3 := by rw [← hV3]; exact (below_drewB (Below.refl _ V2) 1).alloc (Nat.le_refl _) _
  have x3 : Whole V3 V2.heap.size 45 (itC { x with tok := p.sq + 1 }) := by rw [← hV3]; exact Whole.new _ _ _
  have HB3 := Lib.hid (HB2.out.under b3)
  have HX3 := Lib.hid (HX2.out.under b3)
  have HS3 := Lib.hid (HS2.out.trans (Stp.of_below b3 (Nat.le_trans HBase.out HS2.out.size)))
  have H3 := Lib.hid x3
  clear b3 x3
  refine oneT (i := 6) rfl (by kernel_rfl) (by rfl) (fun K hK => ?_)
  go_simp
  clear hV3
  refine hK.out _ _ (fun _ => ⟨HB3.out.box, HX3.out⟩) ?_
  clear hK K
  obtain ⟨A', c', V4, hrun, ho, hg, hk⟩ := its_app V3 base _ p.its HB3.out.own.its V3.heap.size (some ⟨V2.heap.size, 0, none⟩) 1 1 [{ x with tok := p.sq + 1 }] (rdI_lit H3.out _ H3.out.lt) (by omega) (Nat.le_trans HBase.out HS3.out.size)
  have hln : p.its.length + 1 = (p.its ++ [({ x with tok := p.sq + 1 } : It)]).length := by simp
  rw [hln] at hrun ho
  have HRun := Lib.hid hrun
  have HG4 := Lib.hid hg
  have HO4 := Lib.hid ho
  have HT4 := Lib.hid (And.intro (hk _ _ _ HB3.out.box (by decide)) (HX3.out.grown hg (Ne.symm HNB.out)))
  have HS4 := Lib.hid (HS3.out.trans (Stp.own HB3.out.own.its (by decide) (Nat.le_trans HBase.out HS3.out.size) hg))
  clear hrun hg ho hk hln
  refine oneT (i := 7) rfl (by kernel_rfl) (by rfl) (fun K hK => ?_)
  refine wp_appendH (by rfl) (by rfl) HRun.out ?_
  simp only [Act.put, lA, lZ, lS]
  refine hK.out _ _ (fun _ => HT4.out) ?_
  clear hK K
  clear HT
  have HT := HT4
  refine oneT (i := 8) rfl (by kernel_rfl) (by rfl) (fun K hK => ?_)
  go_simp
  refine hK.out _ _ (fun _ => HT.out) ?_
  clear hK K
  refine oneT (i := 9) rfl (by kernel_rfl) (by rfl) (fun K hK => ?_)
  go_simp
  refine hK.out _ _ (fun _ => HT.out) ?_
  clear hK K
  have f18 := HT4.out.1.frozen 18
  have c18 := HT4.out.1.cell 18
  simp only [List.getElem?_toArray, List.getElem?_cons_zero, List.getElem?_cons_succ] at c18
  refine oneL (i := 10) (by kernel_rfl) rfl (by kernel_rfl) (by rfl) (fun K hK => ?_)
  go_simp
  refine hK.out _ _ ?_
  clear hK K
  refine doneT (by kernel_rfl) ?_ _
  go_wp2_with fail
  go_end0
  have hfin := HB3.out.its HG4.out HO4.out
  rw [show (p.its ++ [({ x with tok := p.sq + 1 } : It)]).length = p.its.length + 1 by simp] at hfin
  exact ⟨rfl, HS4.out.trans (Stp.set HT4.out.1 (by decide) HG.out _ _), _, hfin⟩

end Go.Proofs.YtdaimejlcfhfiaaGreatDoor

namespace Go.Proofs.YtdaimejlcfhfiaaGreatDoor
open Go.RowKit Go.Shelf

/-- The table of changes of phases. -/
def chA (k : Nat) : Int := [0, 2, 3, 4, 5, 6, 7, 8, 0, 10, 1].getD k 0
def chB (k : Nat) : Int := [0, 8, 8, 0, 3, 4, 0, 0, 0, 8, 0].getD k 0
def TabH (w : World) : Prop := 0 < w.heap.size ∧ ∀ k, k < 11 → w.cell? ⟨0, k * 2, none⟩ = some (.int .u8 (chA k)) ∧ w.cell? ⟨0, k * 2 + 1, none⟩ = some (.int .u8 (chB k))
theorem TabH.under {w w' : World} (h : TabH w) (hb : Below w.heap.size w w') : TabH w' :=
  ⟨Nat.lt_of_lt_of_le h.1 hb.size, fun k hk => ⟨(hb.cell (p := ⟨0, k * 2, none⟩) h.1).trans (h.2 k hk).1, (hb.cell (p := ⟨0, k * 2 + 1, none⟩) h.1).trans (h.2 k hk).2⟩⟩
theorem TabH.below {w w' : World} {B : Nat} (h : TabH w) (hB : 0 < B) (hb : Below B w w') : TabH w' :=
  ⟨Nat.lt_of_lt_of_le h.1 hb.size, fun k hk => ⟨(hb.cell (p := ⟨0, k * 2, none⟩) hB).trans (h.2 k hk).1, (hb.cell (p := ⟨0, k * 2 + 1, none⟩) hB).trans (h.2 k hk).2⟩⟩
theorem Tab.bel {w w' : World} {B : Nat} (h : Tab w) (hB : 1 < B) (hb : Below B w w') : Tab w' :=
  ⟨Nat.lt_of_lt_of_le h.1 hb.size, fun k hk => ⟨(hb.cell (p := ⟨1, k * 2, none⟩) hB).trans (h.2 k hk).1, (hb.cell (p := ⟨1, k * 2 + 1, none⟩) hB).trans (h.2 k hk).2⟩⟩

theorem beq_dec (b v : Int) : (b == v) = decide (b = v) := by by_cases h : b = v <;> simp [h]
def chgB (a b : Int) : Bool := decide (b < 11) && legalB a b
theorem chgB_big {a b : Int} (h : 11 ≤ a) : chgB a b = false := by
  have : legalB a b = false := by
    unfold legalB
    repeat' (rw [if_neg (by omega)])
  simp [chgB, this]
theorem chgB_zero {a : Int} : chgB a 0 = false := by
  have : legalB a 0 = false := by
    unfold legalB
    repeat' split
    all_goals simp
  simp [chgB, this]
theorem kinds11 {k : Nat} (h : k < 11) : k = 0 ∨ k = 1 ∨ k = 2 ∨ k = 3 ∨ k = 4 ∨ k = 5 ∨ k = 6 ∨ k = 7 ∨ k = 8 ∨ k = 9 ∨ k = 10 := by omega
theorem chgB_at {k : Nat} (h : k < 11) {b : Int} (hb : b ≠ 0) : chgB (k : Int) b = (decide (b = chA k) || decide (b = chB k)) := by
  rw [Bool.eq_iff_iff]
  rcases kinds11 h with rfl | rfl | rfl | rfl | rfl | rfl | rfl | rfl | rfl | rfl | rfl <;> simp [chgB, legalB, chA, chB] <;> omega

set_option maxHeartbeats 1000000 in
theorem changeable_any (a b : Int) (ha : 0 ≤ a) (w : World) (hT : TabH w) : Calls Tryz.prog 86 #[.int .u8 a, .int .i64 b] w fun e w' => e = .returned (.bool (chgB a b)) ∧ w' = w := by
  by_cases h1 : 11 ≤ a
  · rw [chgB_big h1]
    have q : decide (11 ≤ a) = true := decide_eq_true h1
    clear h1 hT
    go_enter Tryz.func86, Tryz.ntmps86
    go_wp2_with fail
    go_ret
    exact ⟨rfl, rfl⟩
  · by_cases h2 : b = 0
    · subst h2
      rw [chgB_zero]
      have q : decide (11 ≤ a) = false := decide_eq_false h1
      have q2 : ((0 : Int) == 0) = true := rfl
      clear h1 hT
      go_enter Tryz.func86, Tryz.ntmps86
      go_wp2_with fail
      go_ret
      exact ⟨rfl, rfl⟩
    · obtain ⟨k, rfl⟩ : ∃ k : Nat, a = (k : Int) := ⟨a.toNat, by omega⟩
      have hk : k < 11 := by omega
      have HV := Lib.hid (chgB_at hk h2)
      obtain ⟨c0, c1⟩ := hT.2 k hk
      have q : decide (11 ≤ (k : Int)) = false := decide_eq_false h1
      have q2 : (b == 0) = false := by simp [h2]
      have hkI : (k : Int) < 11 := by omega
      have hu : wrap64 (chA k) = chA k := by
        have hb : 0 ≤ chA k ∧ chA k ≤ 10 := by rcases kinds11 hk with rfl | rfl | rfl | rfl | rfl | rfl | rfl | rfl | rfl | rfl | rfl <;> decide
        simp only [wrap64]; omega
      have hv : wrap64 (chB k) = chB k := by
        have hb : 0 ≤ chB k ∧ chB k ≤ 10 := by rcases kinds11 hk with rfl | rfl | rfl | rfl | rfl | rfl | rfl | rfl | rfl | rfl | rfl <;> decide
        simp only [wrap64]; omega
      revert c0 c1 HV hu hv
      generalize chA k = u
      generalize chB k = v
      intro HV c0 c1 hu hv
      clear h1 h2 hT
      by_cases e1 : b = u
      · have q3 : (b == u) = true := by simp [e1]
        have HF := Lib.hid (show chgB (k : Int) b = true by rw [HV.out]; simp [e1])
        clear e1
        go_enter Tryz.func86, Tryz.ntmps86
        go_wp2_with fail
        go_ret
        exact ⟨by rw [HF.out]; rfl, rfl⟩
      · have q3 : (b == u) = false := by simp [e1]
        have HF := Lib.hid (show chgB (k : Int) b = (b == v) by rw [HV.out, beq_dec, decide_eq_false e1, Bool.false_or])
        clear e1
        go_enter Tryz.func86, Tryz.ntmps86
        go_wp2_with fail
        go_ret
        exact ⟨by rw [HF.out]; rfl, rfl⟩

theorem hooked_any (a : Int) (w : World) : Calls Tryz.prog 97 #[.int .u8 a] w fun e w' => e = .returned (.bool (decide (a = 1 ∨ a = 7))) ∧ w' = w := by
  by_cases h1 : a = 1
  · have q : (a == 1) = true := by simp [h1]
    have HF := Lib.hid (show decide (a = 1 ∨ a = 7) = true by simp [h1])
    rw [HF.out]
    clear h1
    go_enter Tryz.func97, Tryz.ntmps97
    go_wp2_with fail
    go_ret
    exact ⟨rfl, rfl⟩
  · have q : (a == 1) = false := by simp [h1]
    have HF := Lib.hid (show decide (a = 1 ∨ a = 7) = (a == 7) by rw [beq_dec]; simp [h1])
    rw [HF.out]
    clear h1
    go_enter Tryz.func97, Tryz.ntmps97
    go_wp2_with fail
    go_ret
    exact ⟨rfl, rfl⟩

end Go.Proofs.YtdaimejlcfhfiaaGreatDoor
