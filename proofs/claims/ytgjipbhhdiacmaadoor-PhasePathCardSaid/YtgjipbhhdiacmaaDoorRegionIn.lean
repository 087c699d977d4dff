/-
  A region that draws its order, inside a round of a range over a function, by an invariant: one step an operation, whatever the order. Conditions: those that each theorem names.
-/
import Derived.Test.YtgjipbhhdiacmaaDoorRegionInv
import Derived.OrdersIn
namespace Go.Proofs.YtgjipbhhdiacmaaDoor
open Go.RowKit Go.Shelf

section
variable {F : Fence} {m : Nat} {P : Program} {ops : Array Oper} {Q : Exit → Act → World → Prop}

set_option maxRecDepth 100000 in
theorem wpAnyIn_inv (hl : lowOnly ops = true) (Φ : (Nat → Bool) → Act → World → Prop)
    (step : ∀ i o L a w, ops[i]? = some o → L i = false → (∀ e ∈ o.after, Region.binds .any e = true → L e.on = true) → Φ L a w → wpOpIn F m P ops Q i (Φ (fun j => if j = i then true else L j)) a w)
    (fin : ∀ L a w, (∀ i, i < ops.size → L i = true) → Φ L a w → Q .normal a w) :
    ∀ (fuel : Nat) (listed : Array Bool) (a : Act) (w : World), listed.size = ops.size → listed.toList.count false ≤ fuel → Φ (fun j => listed.getD j false) a w → wpAnyIn F m P .any ops Q fuel listed a w := by
  intro fuel
  induction fuel with
  | zero =>
    intro listed a w hs hc hΦ
    have hall := count_zero_all (Nat.le_zero.1 hc)
    have hall' : ∀ i, i < ops.size → listed.getD i false = true := fun i hi => by
      have := hall i (by simp; omega)
      simp at this
      simp [this]
    refine ⟨?_, fin _ _ _ hall' hΦ⟩
    refine List.eq_nil_iff_forall_not_mem.2 fun i hm => ?_
    obtain ⟨h1, o, ho, _⟩ := mem_ready.1 hm
    have hlt : i < ops.size := (Array.getElem?_eq_some_iff.1 ho).1
    have h2 := hall' i hlt
    have : i < listed.size := by omega
    simp [this] at h1 h2
    rw [h1] at h2; cases h2
  | succ fuel ih =>
    intro listed a w hs hc hΦ
    refine ⟨fun h0 => fin _ _ _ (fun i hi => ready_none hl hs h0 (i + 1) i (by omega) hi) hΦ, fun i hi => ?_⟩
    obtain ⟨h1, o, ho, hall⟩ := mem_ready.1 hi
    have hlt : i < listed.size := by have := (Array.getElem?_eq_some_iff.1 ho).1; omega
    refine wpOpIn_mono (fun a' w' h => ih (listed.setIfInBounds i true) a' w' (by simpa using hs) ?_ (by rw [set_L hlt]; exact h)) (step i o _ a w ho (by simp [hlt] at h1 ⊢; exact h1) hall hΦ)
    have := count_set h1
    omega

set_option maxRecDepth 100000 in
/-- The same, and the steps know that what has come up has come up behind what it waits for. -/
theorem region_cloIn {id : Nat} {a : Act} {w : World} (hm : P.follows .mixedOrders = true) (hl : lowOnly ops = true) (Φ : (Nat → Bool) → Act → World → Prop) (h0 : Φ (fun _ => false) a w.drew)
    (step : ∀ i o L a w, ops[i]? = some o → L i = false → Clo ops L → (∀ e ∈ o.after, Region.binds .any e = true → L e.on = true) → Φ L a w → wpOpIn F m P ops Q i (Φ (fun j => if j = i then true else L j)) a w)
    (fin : ∀ L a w, (∀ i, i < ops.size → L i = true) → Φ L a w → Q .normal a w) : (Code.region id ops true).wpIn F m P Q a w := by
  refine wpIn_region_any hm (wpAnyIn_inv hl (fun L a w => Clo ops L ∧ Φ L a w) ?_ (fun L a w hall h => fin L a w hall h.2) _ _ _ _ (by simp) (by simp) ?_)
  · intro i o L a w ho hi hall h
    refine wpOpIn_mono (fun a' w' h' => ⟨?_, h'⟩) (step i o L a w ho hi h.1 hall h.2)
    intro j o' ho' hj e he hb
    by_cases hji : j = i
    · subst hji
      rw [ho] at ho'
      injection ho' with e'
      subst e'
      simp [hall e he hb]
    · have := h.1 j o' ho' (by simpa [hji] using hj) e he hb
      simp [this]
  · have e : (fun j => (Array.replicate ops.size false).getD j false) = fun _ => false := by
      funext j
      by_cases h : j < ops.size <;> simp [h]
    rw [e]
    exact ⟨fun _ _ _ h => (by cases h), h0⟩

set_option maxRecDepth 100000 in
theorem At.runIn {i : Nat} {dst : Option Tmp} {op : Op} {t : TypeId} {js : List Nat} (h : At ops i dst op t js) {K : Act → World → Prop} {a : Act} {w : World}
    (hr : ∀ pos after, ({ dst := dst, op := op, type := t, pos := pos, after := after, guard := none } : Oper).wpIn F m P a w K Q) : wpOpIn F m P ops Q i K a w := by
  obtain ⟨o, ho, h1, h2, h3, h4, _⟩ := h
  unfold wpOpIn
  rw [ho]
  dsimp only
  rw [if_pos (by unfold Region.wanted; rw [h4])]
  subst h1; subst h2; subst h3
  have := hr o.pos o.after
  rw [← h4] at this
  exact this
end

section
variable {m l : Nat} {K : Act → World → Prop} {Q : Exit → Act → World → Prop} {a : Act} {w : World} {dst : Option Tmp} {t : TypeId} {pos : String} {after : Array Edge} {x y : Operand}

set_option maxRecDepth 100000 in
/-- An operation inside a round, from what it does as it stands. -/
theorem opIn_of (o : Oper) (hd : ∀ c, o.op ≠ .defer c) {v : Value} {w' : World} (hr : (execOp a.eval o).run Tryd.prog w = .ok (.value v) w') (h : K (a.put o.dst v) w') : o.wpIn (Fence.wide.inRound l) m Tryd.prog a w K Q := by
  refine ⟨fun _ _ => trivial, ?_⟩
  rw [Fence.inRound_round, Oper.semAt_some l _ _ hd, hr]
  exact h

set_option maxRecDepth 100000 in
theorem opI_load_sl {p : Addr} {A : Option Addr} {n c : Nat} (hx : a.eval x = .pointer (some p)) (hc : w.cell? p = some (.slice A n c)) (h : K (a.put dst (.slice A n c)) w) :
    ({ dst := dst, op := .load 35 x, type := t, pos := pos, after := after, guard := none } : Oper).wpIn (Fence.wide.inRound l) m Tryd.prog a w K Q := by
  refine opIn_of _ (by intro c; simp) ?_ h
  unfold execOp
  simp only [hx]
  go_simp
set_option maxRecDepth 100000 in
theorem opI_nil {p : Addr} (hx : a.eval x = .pointer (some p)) (h : K (a.put dst (.pointer (some p))) w) :
    ({ dst := dst, op := .nilCheck x, type := t, pos := pos, after := after, guard := none } : Oper).wpIn (Fence.wide.inRound l) m Tryd.prog a w K Q := by
  refine opIn_of _ (by intro c; simp) ?_ h
  unfold execOp
  simp only [hx]
  go_simp
set_option maxRecDepth 100000 in
theorem opI_move {v : Value} (hx : a.eval x = v) (h : K (a.put dst v) w) :
    ({ dst := dst, op := .move x, type := t, pos := pos, after := after, guard := none } : Oper).wpIn (Fence.wide.inRound l) m Tryd.prog a w K Q := by
  refine opIn_of _ (by intro c; simp) ?_ h
  unfold execOp
  simp only [hx]
  go_simp
set_option maxRecDepth 100000 in
theorem opI_append {vs vx v' : Value} {w' : World} (hx : a.eval x = vs) (hy : a.eval y = vx) (hr : (Builtin.append_ #[35, 35] t #[vs, vx]).run Tryd.prog w = .ok v' w') (h : K (a.put dst v') w') :
    ({ dst := dst, op := .call { callee := .builtin .append, args := #[x, y], argTypes := #[35, 35] }, type := t, pos := pos, after := after, guard := none } : Oper).wpIn (Fence.wide.inRound l) m Tryd.prog a w K Q := by
  refine opIn_of _ (by intro c; simp) (v := v') (w' := w') ?_ h
  unfold execOp
  simp only [resolve, invoke, builtin, Sem.run_bind, Sem.run_pure, Result.andThen_ok, List.map_toArray, List.map_cons, List.map_nil, hx, hy, hr]
set_option maxRecDepth 100000 in
theorem opI_store {p : Addr} {A : Option Addr} {n c : Nat} {u : Value} (hx : a.eval x = .pointer (some p)) (hy : a.eval y = .slice A n c) (hc : w.cell? p = some u) (hf : w.frozen? p = false) (h : K a (w.setCell p (.slice A n c))) :
    ({ dst := none, op := .store 35 x y, type := t, pos := pos, after := after, guard := none } : Oper).wpIn (Fence.wide.inRound l) m Tryd.prog a w K Q := by
  refine ⟨fun _ _ => trivial, ?_⟩
  rw [Fence.inRound_round, Oper.semAt_some l _ _ (by intro c; simp)]
  unfold execOp
  simp only [hx, hy]
  go_simp
  exact h
end

end Go.Proofs.YtgjipbhhdiacmaaDoor
