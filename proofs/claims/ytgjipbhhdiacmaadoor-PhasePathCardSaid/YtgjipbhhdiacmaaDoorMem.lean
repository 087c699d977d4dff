/-
  Small words on memory that no package's functions enter: rows of bytes, blocks known whole, appends, slices cut, strings. Conditions: those that each theorem names.
-/
import Derived.Test.YtgjipbhhdiacmaaDoorNumKit
import Derived.Laws.BytesArg
import Derived.Deep.RegionHeld3
import Derived.OpenShut
import Derived.Laws.AppendOwnNone
namespace Go.Proofs.YtgjipbhhdiacmaaDoor
open Go.RowKit Go.Shelf

/-- The numbers as they are counted. -/
def nats (l : List Int) : List Nat := l.map Int.toNat

set_option maxRecDepth 100000 in
theorem info_u8 : (Tryd.prog.info? 5).map (fun i => (i.zero, i.size, i.bytes)) = some (some (.int .u8 0), 1, 1) := by kernel_rfl

set_option maxRecDepth 100000 in
theorem own_form {w : World} {base : Nat} {e : TypeId} {n : Nat} {v : Value} {xs : List Value} (h : w.ownsRow base e 1 v n xs) : ∃ A c, v = .slice A n c := by
  rcases h.2 with ⟨rfl, rfl⟩ | ⟨g, cap, cur, rfl, _⟩
  · exact ⟨_, _, rfl⟩
  · exact ⟨_, _, rfl⟩

set_option maxRecDepth 100000 in
theorem info_int : (Tryd.prog.info? 3).map (fun i => (i.zero, i.size, i.bytes)) = some (some (.int .i64 0), 1, 8) := by kernel_rfl

set_option maxRecDepth 100000 in
theorem keeps_drewN (w : World) (k : Nat) : KeepsOthers w (w.drewN k) := ⟨Nat.le_refl _, fun _ _ h _ => h⟩

set_option maxRecDepth 100000 in
/-- 'x[k:]', as the model cuts it: the address under one name. -/
theorem run_rest (A : Option Addr) (n c k : Nat) (hk : k ≤ n) : ∃ A', (∀ w : World, (Instr.slice 35 (.slice A n c) (some (.int .i64 (k : Int))) none none).run Tryd.prog w = .ok (.slice A' (n - k) (c - k)) w) ∧
    ((k < n ∧ n ≤ c) → ∀ b off, A = some ⟨b, off, none⟩ → A' = some ⟨b, off + k, none⟩) := by
  obtain ⟨i0, hi, hz0, hz1, hz2⟩ := info_parts info_u8
  refine ⟨if c = k then A else A.map (·.add (k * 1)), fun w => ?_, ?_⟩
  · have hz : (sizeOf (Tryd.prog.elem 35)).run Tryd.prog w = .ok 1 w := by
      have he : Tryd.prog.elem 35 = 5 := by kernel_rfl
      simp [he, Go.sizeOf, typeInfo, hi, hz1]
    have h63 : (k : Int).toNat = k := by omega
    rw [run_slice_l (P := Tryd.prog) w 35 A n c Tryd.underlying35 .i64 (k : Int) (by omega) (by omega), hz, h63]
    rfl
  · rintro ⟨h1, h2⟩ b off rfl
    rw [if_neg (by omega), Nat.mul_one, Option.map_some, Addr.add_lit]

set_option maxRecDepth 100000 in
theorem own_weaker {w : World} {base base' : Nat} {e : TypeId} {size n : Nat} {v : Value} {xs : List Value} (h : w.ownsRow base' e size v n xs) (hb : base ≤ base') : w.ownsRow base e size v n xs := by
  refine ⟨h.1, ?_⟩
  rcases h.2 with h2 | ⟨g, cap, cur, h2, h3, h4⟩
  · exact .inl h2
  · exact .inr ⟨g, cap, cur, h2, by omega, h4⟩

/-- Block b is just these cells, all of which may be written. -/
def Whole (w : World) (b : Nat) (t : TypeId) (cs : Array Value) : Prop := w.heap[b]? = some (.cells cs t (0, 0))
section
variable {w w' : World} {b : Nat} {t : TypeId} {cs : Array Value}
set_option maxRecDepth 100000 in
theorem Whole.new (w : World) (t : TypeId) (cs : Array Value) : Whole (w.alloc (.cells cs t)) w.heap.size t cs := heap_alloc_new w _
set_option maxRecDepth 100000 in
theorem Whole.lt (h : Whole w b t cs) : b < w.heap.size := by
  rcases Nat.lt_or_ge b w.heap.size with h1 | h1
  · exact h1
  · unfold Whole at h; rw [Array.getElem?_eq_none h1] at h; cases h
set_option maxRecDepth 100000 in
theorem Whole.cell (h : Whole w b t cs) (i : Nat) : w.cell? ⟨b, i, none⟩ = cs[i]? := cell_of_row w b i cs t (0, 0) h
set_option maxRecDepth 100000 in
theorem Whole.frozen (h : Whole w b t cs) (i : Nat) : w.frozen? ⟨b, i, none⟩ = false := by unfold Whole at h; simp [World.frozen?, h]
set_option maxRecDepth 100000 in
theorem Whole.alloc (h : Whole w b t cs) (o : Obj) : Whole (w.alloc o) b t cs := (Below.heap_alloc w o b h.lt).trans h
set_option maxRecDepth 100000 in
theorem Whole.below (h : Whole w b t cs) {B : Nat} (hb : Below B w w') (hB : b < B) : Whole w' b t cs := (hb.block b hB).trans h
set_option maxRecDepth 100000 in
theorem Whole.under (h : Whole w b t cs) (hb : Below w.heap.size w w') : Whole w' b t cs := h.below hb h.lt
set_option maxRecDepth 100000 in
theorem Whole.grown (h : Whole w b t cs) {row : Option Nat} (hg : w.grownBy w' row) (hne : some b ≠ row) : Whole w' b t cs := (hg.block b h.lt hne).trans h
set_option maxRecDepth 100000 in
theorem Whole.set (h : Whole w b t cs) (i : Nat) (u : Value) : Whole (w.setCell ⟨b, i, none⟩ u) b t (cs.setIfInBounds i u) := by
  unfold Whole at h ⊢
  simp [World.setCell, Array.getElem?_modify, h]
set_option maxRecDepth 100000 in
theorem Whole.far (h : Whole w b t cs) {p : Addr} (hp : b ≠ p.block) (u : Value) : Whole (w.setCell p u) b t cs := (Below.heap_setCell w p u b hp).trans h
end

/-- The string of a list of bytes. -/
def strB (bs : List Nat) : ByteArray := strOfNums (bs.map fun x : Nat => (x : Int))

set_option maxRecDepth 100000 in
theorem run_string (w : World) (A : Option Addr) (n c : Nat) (bs : List Nat) (B : Nat) (hr : Rd w B A n (bv bs)) :
    (convert 35 9 (.slice A n c)).run Tryd.prog w = .ok (.string (strB bs)) w := by
  rcases Nat.eq_zero_or_pos n with h | h
  · subst h
    have hbs : bs = [] := by have := hr.1; rw [bv_length] at this; exact List.eq_nil_of_length_eq_zero this
    subst hbs
    rcases A with _ | a
    · exact run_convert_bytes_nil w 35 5 Tryd.underlying35 Tryd.underlying5 0 c 9 Tryd.underlying9
    · have h1 : (loadCells a 0).run Tryd.prog w = .ok (([] : List Int).map (Value.int .u8)).toArray w := by
        have := run_loadCells_list (P := Tryd.prog) w a [] (fun j v hj => by simp at hj)
        simpa using this
      rw [run_convert_bytes_string w 35 9 5 _ 0 c Tryd.underlying35 Tryd.underlying5 Tryd.underlying9, run_bytesToString w a 0 c [] h1]
      rfl
  · obtain ⟨b, off, rfl, _, hc⟩ := hr.2 h
    have hl : bs.length = n := by have := hr.1; rwa [bv_length] at this
    refine run_convert_bytes_arg w 35 5 Tryd.underlying35 Tryd.underlying5 b off n c (bs.map fun x : Nat => (x : Int)) (by simpa using hl) ?_ 9 Tryd.underlying9
    intro i hi
    rw [hc i hi]
    have hib : i < bs.length := by omega
    simp [bv, List.getD, List.getElem?_eq_getElem hib]

set_option maxRecDepth 100000 in
theorem strB_inj {a b : List Nat} (ha : ∀ x ∈ a, x < 256) (hb : ∀ x ∈ b, x < 256) : ((strB a).toList == (strB b).toList) = decide (a = b) := by
  have h2 : ∀ (l : List Nat), (∀ x ∈ l, x < 256) → (strB l).toList.map UInt8.toNat = l := by
    intro l hl
    rw [ByteArray.toList_eq, strB, strOfNums_data, List.map_map, List.map_map]
    conv => rhs; rw [← List.map_id l]
    refine List.map_congr_left fun x hx => ?_
    have := hl x hx
    simp
    omega
  by_cases h : a = b
  · subst h; simp
  · have h' : ¬ (strB a).toList = (strB b).toList := fun e => h (by rw [← h2 a ha, ← h2 b hb, e])
    rw [decide_eq_false h]
    exact beq_eq_false_iff_ne.2 h'

set_option maxRecDepth 100000 in
/-- A literal slice reads as it is written. -/
theorem rd_lit (W : World) (cs : List Value) (t : TypeId) (n : Nat) (hn : cs.length = n) : Rd (W.alloc (.cells cs.toArray t)) (W.heap.size + 1) (some ⟨W.heap.size, 0, none⟩) n cs := by
  refine ⟨hn, fun _ => ⟨W.heap.size, 0, rfl, by omega, fun j hj => ?_⟩⟩
  rw [Nat.zero_add, cell_new]
  simp

set_option maxRecDepth 100000 in
theorem rd_lit_at (W : World) (cs : List Value) (t : TypeId) (n b : Nat) (hn : cs.length = n) (hb : W.heap.size = b) : Rd (W.alloc (.cells cs.toArray t)) (b + 1) (some ⟨b, 0, none⟩) n cs := by
  subst hb; exact rd_lit W cs t n hn

set_option maxRecDepth 100000 in
/-- It reads so behind whatever leaves what was there. -/
theorem Rd.on {W W' : World} {B n : Nat} {A : Option Addr} {xs : List Value} (h : Rd W B A n xs) (hB : B ≤ W.heap.size) (hb : Below W.heap.size W W') : Rd W' B A n xs := h.below (hb.mono hB)

def WakePost (w : World) (e : Ending) (w' : World) : Prop := e = .returned (.bool true) ∧ Below w.heap.size w w'

set_option maxRecDepth 100000 in
/-- 'x[:k]', as the model cuts it. -/
theorem run_head (A : Option Addr) (n c k : Nat) (hk : k ≤ c) (w : World) : (Instr.slice 35 (.slice A n c) none (some (.int .i64 (k : Int))) none).run Tryd.prog w = .ok (.slice A k c) w := by
  obtain ⟨i0, hi, hz0, hz1, hz2⟩ := info_parts info_u8
  have hz : (sizeOf (Tryd.prog.elem 35)).run Tryd.prog w = .ok 1 w := by
    have he : Tryd.prog.elem 35 = 5 := by kernel_rfl
    simp [he, Go.sizeOf, typeInfo, hi, hz1]
  have h63 : (k : Int).toNat = k := by omega
  rw [run_slice_h (P := Tryd.prog) w 35 A n c Tryd.underlying35 .i64 (k : Int) (by omega) (by omega), hz, h63]
  have e : ∀ o : Option Addr, o.map (fun a => a.add (0 * 1)) = o := fun o => by cases o <;> simp [Addr.add]
  simp only [Result.andThen_ok, sliced, e, Nat.sub_zero, ite_self]

set_option maxRecDepth 100000 in
theorem Rd.take {w : World} {B n k : Nat} {A : Option Addr} {xs : List Value} (h : Rd w B A n xs) (hk : k ≤ n) : Rd w B A k (xs.take k) := by
  refine ⟨by rw [List.length_take, h.1]; omega, fun hp => ?_⟩
  obtain ⟨b, off, e, hb, hc⟩ := h.2 (by omega)
  refine ⟨b, off, e, hb, fun j hj => ?_⟩
  rw [hc j (by omega), List.getElem?_take, if_pos hj]

set_option maxRecDepth 100000 in
/-- What came in as a slice of integers reads as a list. -/
theorem rd_of_ints {w : World} {a : Option Addr} {len cap : Nat} {zs : List Int}
    (h : (a = none ∧ len = 0 ∧ cap = 0 ∧ zs = []) ∨ ∃ x, a = some x ∧ len ≤ cap ∧ cap ≤ maxLen ∧ zs.length = cap ∧ (∀ i, i < zs.length → w.cell? (x.add i) = some (.int .i64 (zs.getD i 0))) ∧ ∀ n ∈ zs, (Lit.int .i64 n).wf = true) :
    Rd w w.heap.size a len (iv (zs.take len)) ∧ len ≤ cap ∧ cap ≤ maxLen := by
  rcases h with ⟨rfl, rfl, rfl, rfl⟩ | ⟨x, rfl, hl, hm, hz, hc, _⟩
  · exact ⟨⟨rfl, fun h => absurd h (by omega)⟩, Nat.le_refl _, by omega⟩
  · refine ⟨⟨by rw [iv_length, List.length_take]; omega, fun hp => ?_⟩, hl, hm⟩
    obtain ⟨b, off, rfl, hc'⟩ := ints_at hc (by omega)
    refine ⟨b, off, rfl, World.block_lt_of_cell? w _ (hc' 0 (by omega)), fun j hj => ?_⟩
    rw [hc' j (by omega), iv, List.getElem?_map, List.getElem?_take, if_pos hj, List.getElem?_eq_getElem (by omega)]
    simp [List.getD, List.getElem?_eq_getElem (show j < zs.length by omega)]

set_option maxRecDepth 100000 in
theorem rd_of_bytes {w : World} {a : Option Addr} {len cap : Nat} {zs : List Int}
    (h : (a = none ∧ len = 0 ∧ cap = 0 ∧ zs = []) ∨ ∃ x, a = some x ∧ len ≤ cap ∧ cap ≤ maxLen ∧ zs.length = cap ∧ (∀ i, i < zs.length → w.cell? (x.add i) = some (.int .u8 (zs.getD i 0))) ∧ ∀ n ∈ zs, (Lit.int .u8 n).wf = true) :
    ∃ bs : List Nat, Rd w w.heap.size a len (bv bs) ∧ (∀ x ∈ bs, x < 256) ∧ len ≤ cap ∧ cap ≤ maxLen := by
  rcases h with ⟨rfl, rfl, rfl, rfl⟩ | ⟨x, rfl, hl, hm, hz, hc, hw⟩
  · exact ⟨[], ⟨rfl, fun h => absurd h (by omega)⟩, by simp, Nat.le_refl _, by omega⟩
  · have hr : ∀ n ∈ zs, 0 ≤ n ∧ n < 256 := fun n hn => by
      have := hw n hn
      have := bounds_u8 this
      omega
    refine ⟨nats (zs.take len), ⟨by rw [bv_length, nats, List.length_map, List.length_take]; omega, fun hp => ?_⟩, ?_, hl, hm⟩
    · obtain ⟨b, off, rfl, hc'⟩ := ints_at hc (by omega)
      refine ⟨b, off, rfl, World.block_lt_of_cell? w _ (hc' 0 (by omega)), fun j hj => ?_⟩
      have hjz : j < zs.length := by omega
      rw [hc' j hjz, bv, nats, List.getElem?_map, List.getElem?_map, List.getElem?_take, if_pos hj, List.getElem?_eq_getElem hjz]
      have := hr zs[j] (List.getElem_mem hjz)
      simp [List.getD, List.getElem?_eq_getElem hjz]
      omega
    · intro y hy
      simp only [nats, List.mem_map] at hy
      obtain ⟨z, hz1, rfl⟩ := hy
      have := hr z (List.mem_of_mem_take hz1)
      omega

set_option maxRecDepth 100000 in
/-- 'append(v, x...)' at bytes: v of the call's own, x whatever reads. -/
theorem run_app (w : World) (base : Nat) (v : Value) (n : Nat) (xs : List Value) (hown : w.ownsRow base 5 1 v n xs) (B : Nat) (A : Option Addr) (m c : Nat) (bs : List Nat) (hr : Rd w B A m (bv bs)) (hm : n + m ≤ 1000000) (hbase : base ≤ w.heap.size) :
    ∃ v' w', (Builtin.append_ #[35, 35] 35 #[v, .slice A m c]).run Tryd.prog w = .ok v' w' ∧ w'.ownsRow base 5 1 v' (n + m) (xs ++ bv bs) ∧ w.grownBy w' v.ownBlock := by
  obtain ⟨i0, hi, hz0, hz1, hz2⟩ := info_parts info_u8
  rcases A with _ | ad
  · have hm0 : m = 0 := by
      rcases Nat.eq_zero_or_pos m with h | h
      · exact h
      · obtain ⟨b, off, e, _⟩ := hr.2 h
        cases e
    subst hm0
    have hb : bs = [] := by have := hr.1; rw [bv_length] at this; exact List.eq_nil_of_length_eq_zero this
    subst hb
    have ht := Tryd.underlying35
    refine ⟨v, w, ?_, by simpa [bv] using hown, World.grownBy.refl w _⟩
    rcases hown.2 with ⟨rfl, _⟩ | ⟨g, cap, cur, rfl, _, _, hnc, _⟩
    · simp [Builtin.append_, run_underlying ht, sizeOf, typeInfo, hi, Builtin.lenOf, Builtin.firstCells]
    · simp [Builtin.append_, run_underlying ht, sizeOf, typeInfo, hi, Builtin.lenOf, Builtin.firstCells, hnc, storeCells]
  · have hcells : ∀ j u, (bv bs)[j]? = some u → w.cell? (ad.add j) = some u := by
      intro j u hu
      have hj : j < m := by rw [← hr.1]; exact (List.getElem?_eq_some_iff.1 hu).1
      obtain ⟨b, off, e, _, hc⟩ := hr.2 (by omega)
      injection e with e
      subst e
      rw [Addr.add_lit, hc j hj, hu]
    obtain ⟨v', w', h1, h2, h3, _⟩ := run_append_own (P := Tryd.prog) w base 35 35 5 i0 (.int .u8 0) 1 1 Tryd.underlying35 hi hz0 hz1 hz2 rfl (by decide) v n xs hown ad m c (bv bs) (by rw [hr.1, Nat.mul_one]) hcells (bv_one bs) (by unfold maxLen; omega) (by omega) hbase
    exact ⟨v', w', h1, h2, h3⟩

set_option maxRecDepth 100000 in
/-- An append whose run is known, guarded or not. -/
theorem wpList_app {P : Program} {w : World} {ops : Array Oper} {rest : List Oper} {o : Oper} {a : Act} {Q : Exit → Act → World → Prop} (hw : Region.wanted o (yielded ops a.tmps) = true) (s x : Operand) (t : TypeId)
    (ho : o.op = .call { callee := .builtin .append, args := #[s, x], argTypes := #[t, t] }) (vs vx v' : Value) (w' : World) (hs : a.eval s = vs) (hx : a.eval x = vx)
    (hr : (Builtin.append_ #[t, t] o.type #[vs, vx]).run P w = .ok v' w') (h : wpList P ops Q rest (a.put o.dst v') w') : wpList P ops Q (o :: rest) a w := by
  unfold wpList
  rw [if_pos hw]
  left
  unfold Oper.wp execOp
  simp only [ho, resolve, invoke, builtin, Sem.run_bind, Sem.run_pure, Result.andThen_ok, List.map_toArray, List.map_cons, List.map_nil, hs, hx, hr]
  exact h

set_option maxRecDepth 100000 in
/-- 'append(append([]byte{}, a...), b...)': both run, and what comes reads as both. -/
theorem run_two (w : World) (B : Nat) (A1 A2 : Option Addr) (m1 c1 m2 c2 : Nat) (a b : List Nat) (h1 : Rd w B A1 m1 (bv a)) (h2 : Rd w B A2 m2 (bv b)) (hB : B ≤ w.heap.size) (hm : m1 + m2 ≤ 1000000) :
    ∃ v1 W1 A3 c3 W2, (Builtin.append_ #[35, 35] 35 #[.slice (some ⟨w.heap.size, 0, none⟩) 0 0, .slice A1 m1 c1]).run Tryd.prog (w.alloc (.cells #[] 5)) = .ok v1 W1 ∧
      (Builtin.append_ #[35, 35] 35 #[v1, .slice A2 m2 c2]).run Tryd.prog W1 = .ok (.slice A3 (m1 + m2) c3) W2 ∧ Rd W2 W2.heap.size A3 (m1 + m2) (bv (a ++ b)) ∧ Below w.heap.size w W2 ∧ m1 + m2 ≤ c3 := by
  have ho := World.ownsRow_made (base := w.heap.size) (e := 5) (size := 1) w #[] 0 (Nat.le_refl _) (Nat.zero_le _) rfl
  obtain ⟨v1, W1, r1, o1, g1⟩ := run_app (w.alloc (.cells #[] 5)) w.heap.size _ 0 [] ho B A1 m1 c1 a (h1.alloc hB _) (by omega) (by simp)
  have b1 : Below w.heap.size w W1 := ((Below.refl _ w).alloc (Nat.le_refl _) _).trans (below_row ho g1 (by simp))
  obtain ⟨v2, W2, r2, o2, g2⟩ := run_app W1 w.heap.size v1 (0 + m1) _ o1 B A2 m2 c2 b (h2.below (b1.mono hB)) (by omega) b1.size
  have b2 : Below w.heap.size w W2 := b1.trans (below_row o1 g2 b1.size)
  rw [Nat.zero_add, List.nil_append, ← bv_append] at o2
  obtain ⟨A3, c3, rfl⟩ := own_form o2
  have hc3 : m1 + m2 ≤ c3 := by
    rcases o2.2 with ⟨h3, h4⟩ | ⟨g, cap, cur, h3, _, _, h4, _⟩
    · omega
    · injection h3 with _ _ h5
      omega
  exact ⟨v1, W1, A3, c3, W2, r1, r2, Rd.of_own o2, b2, hc3⟩

set_option maxRecDepth 100000 in
/-- What 'x[:len(x)-1]' is. -/
theorem run_less (A : Option Addr) (n c : Nat) (h0 : 0 < n) (hc : n ≤ c) (w : World) : (Instr.slice 35 (.slice A n c) none (some (.int .i64 ((n : Int) - 1))) none).run Tryd.prog w = .ok (.slice A (n - 1) c) w := by
  have h := run_head A n c (n - 1) (by omega) w
  rw [show ((n - 1 : Nat) : Int) = (n : Int) - 1 by omega] at h
  exact h

/-- What a round that goes on keeps: what lies below n₀, and the box of what is gone over. -/
def KpB (n₀ Bn : Nat) (W W' : World) : Prop := Below n₀ W W' ∧ W'.heap[Bn]? = W.heap[Bn]?

set_option maxRecDepth 100000 in
theorem kpB_t {n₀ Bn : Nat} {A B C : World} (h : KpB n₀ Bn A B) (k : KpB n₀ Bn B C) : KpB n₀ Bn A C := ⟨h.1.trans k.1, k.2.trans h.2⟩

set_option maxRecDepth 100000 in
theorem kpB_b {n₀ Bn : Nat} {w : World} (hn : n₀ ≤ w.heap.size) (hBn : Bn < w.heap.size) (W : World) (l : Nat) (o o' : Obj) (hl : w.heap.size ≤ l) (h : W.heap[l]? = some o) (h1 : o.isCells = false) (h2 : o.isWalk = false) : KpB n₀ Bn W (W.putObj l o') :=
  ⟨belowK_b hn W l o o' hl h h1 h2, World.putObj_heap_other (by omega)⟩

def BoolPost (v : Bool) (w : World) (e : Ending) (w' : World) : Prop := e = .returned (.bool v) ∧ Below w.heap.size w w'

set_option maxRecDepth 100000 in
theorem kpB_refl {n₀ Bn : Nat} {W : World} : KpB n₀ Bn W W := ⟨Below.refl _ _, rfl⟩

set_option maxRecDepth 100000 in
/-- A scope in which the run jumps ahead to one label: what holds there. -/
theorem wp_scope_fwd {P : Program} {a : Act} {w : World} {Q : Exit → Act → World → Prop} {c rest : Code} (l : Nat) (J : Act → World → Prop) (hf : findLabel c l = some rest)
    (first : c.wp P (Exit.jump l J Q) a w) (tail : ∀ a w, J a w → rest.wp P (Exit.jump l (fun _ _ => False) Q) a w) : (Code.scope c).wp P Q a w := by
  refine wp_scope_jumps l J (fun _ _ => 0) hf first (fun a w hJ => wp_mono (tail a w hJ) ?_)
  rintro (_ | _ | l | _ | _ | _) a1 w1 h
  all_goals first | exact h | exact h.2.elim

set_option maxRecDepth 100000 in
/-- 'x[k:]' of integers, as the model cuts it: the address under one name. -/
theorem run_restI (A : Option Addr) (n c k : Nat) (hk : k ≤ n) : ∃ A', (∀ w : World, (Instr.slice 24 (.slice A n c) (some (.int .i64 (k : Int))) none none).run Tryd.prog w = .ok (.slice A' (n - k) (c - k)) w) ∧
    ((k < n ∧ n ≤ c) → ∀ b off, A = some ⟨b, off, none⟩ → A' = some ⟨b, off + k, none⟩) := by
  obtain ⟨i0, hi, hz0, hz1, hz2⟩ := info_parts info_int
  refine ⟨if c = k then A else A.map (·.add (k * 1)), fun w => ?_, ?_⟩
  · have hz : (sizeOf (Tryd.prog.elem 24)).run Tryd.prog w = .ok 1 w := by
      have he : Tryd.prog.elem 24 = 3 := by kernel_rfl
      simp [he, Go.sizeOf, typeInfo, hi, hz1]
    have h63 : (k : Int).toNat = k := by omega
    rw [run_slice_l (P := Tryd.prog) w 24 A n c Tryd.underlying24 .i64 (k : Int) (by omega) (by omega), hz, h63]
    rfl
  · rintro ⟨h1, h2⟩ b off rfl
    rw [if_neg (by omega), Nat.mul_one, Option.map_some, Addr.add_lit]

set_option maxRecDepth 100000 in
theorem own_under {w w' : World} {base : Nat} {e : TypeId} {size n : Nat} {v : Value} {xs : List Value} (h : w.ownsRow base e size v n xs) (hb : Below w.heap.size w w') : w'.ownsRow base e size v n xs := by
  refine h.kept (row := none) ⟨hb.os, hb.tape, hb.output, hb.size, fun i hi _ => hb.block i hi⟩ ?_
  rcases h.2 with ⟨rfl, _⟩ | ⟨g, cap, cur, rfl, _⟩
  · exact .inl rfl
  · exact .inr (by simp [Value.ownBlock])

set_option maxRecDepth 100000 in
theorem own_cap {w : World} {base : Nat} {e : TypeId} {n c : Nat} {A : Option Addr} {xs : List Value} (h : w.ownsRow base e 1 (.slice A n c) n xs) : n ≤ c := by
  rcases h.2 with ⟨h1, h2⟩ | ⟨g, cap, cur, h1, _, _, h2, _⟩
  · omega
  · injection h1 with _ _ h3
    omega

set_option maxRecDepth 100000 in
/-- 'append(v, x...)' at integers: v of the call's own, x whatever reads. -/
theorem run_appI (w : World) (base : Nat) (v : Value) (n : Nat) (xs : List Value) (hown : w.ownsRow base 3 1 v n xs) (B : Nat) (A : Option Addr) (m c : Nat) (zs : List Int) (hr : Rd w B A m (iv zs)) (hm : n + m ≤ 1000000) (hbase : base ≤ w.heap.size) :
    ∃ v' w', (Builtin.append_ #[24, 24] 24 #[v, .slice A m c]).run Tryd.prog w = .ok v' w' ∧ w'.ownsRow base 3 1 v' (n + m) (xs ++ iv zs) ∧ w.grownBy w' v.ownBlock := by
  obtain ⟨i0, hi, hz0, hz1, hz2⟩ := info_parts info_int
  rcases A with _ | ad
  · have hm0 : m = 0 := by
      rcases Nat.eq_zero_or_pos m with h | h
      · exact h
      · obtain ⟨b, off, e, _⟩ := hr.2 h
        cases e
    subst hm0
    have hb : zs = [] := by have := hr.1; rw [iv_length] at this; exact List.eq_nil_of_length_eq_zero this
    subst hb
    have ht := Tryd.underlying24
    refine ⟨v, w, ?_, by simpa [iv] using hown, World.grownBy.refl w _⟩
    rcases hown.2 with ⟨rfl, _⟩ | ⟨g, cap, cur, rfl, _, _, hnc, _⟩
    · simp [Builtin.append_, run_underlying ht, sizeOf, typeInfo, hi, Builtin.lenOf, Builtin.firstCells]
    · simp [Builtin.append_, run_underlying ht, sizeOf, typeInfo, hi, Builtin.lenOf, Builtin.firstCells, hnc, storeCells]
  · have hcells : ∀ j u, (iv zs)[j]? = some u → w.cell? (ad.add j) = some u := by
      intro j u hu
      have hj : j < m := by rw [← hr.1]; exact (List.getElem?_eq_some_iff.1 hu).1
      obtain ⟨b, off, e, _, hc⟩ := hr.2 (by omega)
      injection e with e
      subst e
      rw [Addr.add_lit, hc j hj, hu]
    obtain ⟨v', w', h1, h2, h3, _⟩ := run_append_own (P := Tryd.prog) w base 24 24 3 i0 (.int .i64 0) 1 8 Tryd.underlying24 hi hz0 hz1 hz2 rfl (by decide) v n xs hown ad m c (iv zs) (by rw [hr.1, Nat.mul_one]) hcells (iv_one zs) (by unfold maxLen; omega) (by omega) hbase
    exact ⟨v', w', h1, h2, h3⟩

def TruePost (w : World) (e : Ending) (w' : World) : Prop := e = .returned (.bool true) ∧ Below w.heap.size w w'

set_option maxRecDepth 100000 in
/-- A row of one element type lies in no block of another one. -/
theorem own_apart_of {w : World} {base n b : Nat} {e t : TypeId} {v : Value} {xs : List Value} {cs : Array Value} (hne : e ≠ t) (ho : w.ownsRow base e 1 v n xs) (hw : Whole w b t cs) : v.ownBlock ≠ some b := by
  rcases ho.2 with ⟨rfl, _⟩ | ⟨g, cap, cur, rfl, _, hg, _⟩
  · simp [Value.ownBlock]
  · simp only [Value.ownBlock, ne_eq, Option.some.injEq]
    intro e
    subst e
    unfold Whole at hw
    rw [hw] at hg
    injection hg with hg
    injection hg with _ h _
    exact absurd h.symm hne

set_option maxRecDepth 100000 in
/-- 'x[i:j]', as the model cuts it: the address under one name. -/
theorem run_mid (A : Option Addr) (n c i j : Nat) (hi : i ≤ j) (hj : j ≤ n) (hc : n ≤ c) : ∃ A', (∀ w : World, (Instr.slice 35 (.slice A n c) (some (.int .i64 (i : Int))) (some (.int .i64 (j : Int))) none).run Tryd.prog w = .ok (.slice A' (j - i) (c - i)) w) ∧
    (i < j → ∀ b off, A = some ⟨b, off, none⟩ → A' = some ⟨b, off + i, none⟩) := by
  obtain ⟨i0, hi0, hz0, hz1, hz2⟩ := info_parts info_u8
  refine ⟨if c = i then A else A.map (·.add (i * 1)), fun w => ?_, ?_⟩
  · have hz : (sizeOf (Tryd.prog.elem 35)).run Tryd.prog w = .ok 1 w := by
      have he : Tryd.prog.elem 35 = 5 := by kernel_rfl
      simp [he, Go.sizeOf, typeInfo, hi0, hz1]
    have h63 : (i : Int).toNat = i := by omega
    have h64 : (j : Int).toNat = j := by omega
    rw [run_slice_lh (P := Tryd.prog) w 35 A n c Tryd.underlying35 .i64 .i64 (i : Int) (j : Int) (by omega) (by omega) (by omega), hz, h63, h64]
    rfl
  · rintro h1 b off rfl
    rw [if_neg (by omega), Nat.mul_one, Option.map_some, Addr.add_lit]

set_option maxRecDepth 100000 in
theorem boxed_turn {W W' : World} {B : Nat} {t : TypeId} {v : Value} {row : Option Nat} (h : Boxed W B t v) (hg : W.grownBy W' row) (hr : ∀ r, row = some r → ∃ o : Obj, W.heap[r]? = some o ∧ o.isCells = false) : Boxed W' B t v :=
  h.kept hg fun e => by
    obtain ⟨o, ho, hc⟩ := hr B e.symm
    rw [show W.heap[B]? = _ from h] at ho
    cases ho; cases hc

set_option maxRecDepth 100000 in
theorem own_turn {W W' : World} {base : Nat} {e : TypeId} {size k : Nat} {v : Value} {xs : List Value} {row : Option Nat} (h : W.ownsRow base e size v k xs) (hg : W.grownBy W' row) (hr : ∀ r, row = some r → ∃ o : Obj, W.heap[r]? = some o ∧ o.isCells = false) : W'.ownsRow base e size v k xs := by
  refine h.kept hg ?_
  rcases h.2 with ⟨rfl, _⟩ | ⟨g, cap, cur, rfl, _, hc, _⟩
  · exact .inl rfl
  · right
    intro e
    obtain ⟨o, ho, hcc⟩ := hr g e.symm
    rw [hc] at ho
    cases ho; cases hcc

set_option maxRecDepth 100000 in
theorem Whole.turn {W W' : World} {b : Nat} {t : TypeId} {cs : Array Value} {row : Option Nat} (h : Whole W b t cs) (hg : W.grownBy W' row) (hr : ∀ r, row = some r → ∃ o : Obj, W.heap[r]? = some o ∧ o.isCells = false) : Whole W' b t cs :=
  h.grown hg (fun e => by
    obtain ⟨o, ho, hc⟩ := hr b e.symm
    unfold Whole at h
    rw [h] at ho
    injection ho with ho
    subst ho
    cases hc)
set_option maxRecDepth 100000 in
/-- What leaves all that was there keeps what is no cells. -/
theorem keeps_under {W W' : World} (hb : Below W.heap.size W W') : KeepsOthers W W' :=
  ⟨hb.size, fun i o h _ => by
    have hlt := (Array.getElem?_eq_some_iff.1 h).1
    rw [hb.block i hlt]; exact h⟩

set_option maxRecDepth 100000 in
/-- A store into a block that is older than the row. -/
theorem own_set {w : World} {base : Nat} {e : TypeId} {size n : Nat} {v : Value} {xs : List Value} (h : w.ownsRow base e size v n xs) {b off : Nat} (hb : b < base) (u : Value) : (w.setCell ⟨b, off, none⟩ u).ownsRow base e size v n xs :=
  ownsRow_setCell_other (a := ⟨b, off, none⟩) h (fun e => by have h1 := (h.lt _ e).1; simp at h1; omega) u

end Go.Proofs.YtgjipbhhdiacmaaDoor
