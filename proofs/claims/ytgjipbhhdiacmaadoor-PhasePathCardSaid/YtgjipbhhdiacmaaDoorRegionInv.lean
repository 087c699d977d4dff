/-
  A region that draws its order, by an invariant: what holds behind any operations that have come up. One step a operation, whatever the order. Conditions: those that each theorem names.
-/
import Derived.Test.YtgjipbhhdiacmaaDoorMem
namespace Go.Proofs.YtgjipbhhdiacmaaDoor
open Go.RowKit Go.Shelf

section
variable {P : Program} {ops : Array Oper} {Q : Exit → Act → World → Prop}

/-- Every operation waits only for operations that stand ahead of it. -/
def lowOnly (ops : Array Oper) : Bool := (List.range ops.size).all fun i => ((ops[i]?).map (·.after.all fun e => !Region.binds .any e || decide (e.on < i))).getD true

set_option maxRecDepth 100000 in
theorem lowOnly_at (h : lowOnly ops = true) {i : Nat} {o : Oper} (ho : ops[i]? = some o) : ∀ e ∈ o.after, Region.binds .any e = true → e.on < i := by
  intro e he hb
  have hlt : i < ops.size := (Array.getElem?_eq_some_iff.1 ho).1
  have h1 := List.all_eq_true.1 h i (List.mem_range.2 hlt)
  simp only [ho, Option.map_some, Option.getD_some, Array.all_eq_true_iff_forall_mem] at h1
  have h2 := h1 e he
  simpa [hb] using h2

set_option maxRecDepth 100000 in
theorem ready_none {listed : Array Bool} (hl : lowOnly ops = true) (hs : listed.size = ops.size) (h : Region.ready .any ops listed = []) : ∀ n i, i < n → i < ops.size → listed.getD i false = true := by
  intro n
  induction n with
  | zero => intro i h; omega
  | succ n ih =>
    intro i hi hlt
    cases hv : listed.getD i false with
    | true => rfl
    | false =>
      exfalso
      have hm : i ∈ Region.ready .any ops listed := by
        refine mem_ready.2 ⟨?_, ops[i], Array.getElem?_eq_getElem hlt, fun e he hb => ?_⟩
        · have : i < listed.size := by omega
          simp [this] at hv ⊢
          exact hv
        · have := lowOnly_at hl (Array.getElem?_eq_getElem hlt) e he hb
          exact ih e.on (by omega) (by omega)
      rw [h] at hm
      cases hm

set_option maxRecDepth 100000 in
theorem count_zero_all {l : List Bool} (h : l.count false = 0) : ∀ i, i < l.length → l[i]? = some true := by
  intro i hi
  rw [List.getElem?_eq_getElem hi]
  cases hv : l[i] with
  | true => rfl
  | false => exact absurd (List.getElem_mem hi) (by rw [hv]; exact List.count_eq_zero.1 h)

set_option maxRecDepth 100000 in
theorem set_L {listed : Array Bool} {i : Nat} (hi : i < listed.size) : (fun j => (listed.setIfInBounds i true).getD j false) = fun j => if j = i then true else listed.getD j false := by
  funext j
  by_cases h : j = i
  · subst h; simp [hi]
  · rw [if_neg h, getD_set_ne false (Ne.symm h)]

set_option maxRecDepth 100000 in
theorem count_set {listed : Array Bool} {i : Nat} (h : listed.getD i true = false) : (listed.setIfInBounds i true).toList.count false < listed.toList.count false := by
  have hi : i < listed.size := by
    rcases Nat.lt_or_ge i listed.size with h' | h'
    · exact h'
    · simp [Array.getElem?_eq_none h'] at h
  have hv : listed.toList[i]'(by simpa using hi) = false := by simpa [hi] using h
  have hpos : 0 < listed.toList.count false := List.count_pos_iff.2 (hv ▸ List.getElem_mem _)
  rw [Array.toList_setIfInBounds, List.count_set (by simpa using hi)]
  simp only [hv]
  simp only [beq_self_eq_true, if_true, show ((true == false) = true) = False by simp, if_false]
  omega

set_option maxRecDepth 100000 in
theorem wpAny_inv (hl : lowOnly ops = true) (Φ : (Nat → Bool) → Act → World → Prop)
    (step : ∀ i o L a w, ops[i]? = some o → L i = false → (∀ e ∈ o.after, Region.binds .any e = true → L e.on = true) → Φ L a w → wpOp P ops Q i (Φ (fun j => if j = i then true else L j)) a w)
    (fin : ∀ L a w, (∀ i, i < ops.size → L i = true) → Φ L a w → Q .normal a w) :
    ∀ (fuel : Nat) (listed : Array Bool) (a : Act) (w : World), listed.size = ops.size → listed.toList.count false ≤ fuel → Φ (fun j => listed.getD j false) a w → wpAny P .any ops Q fuel listed a w := by
  intro fuel
  induction fuel with
  | zero =>
    intro listed a w hs hc hΦ
    have hall := count_zero_all (Nat.le_zero.1 hc)
    have hall' : ∀ i, i < ops.size → listed.getD i false = true := fun i hi => by
      have := hall i (by simp; omega)
      simp at this
      simp [this]
    refine ⟨?_, fin _ _ _ hall' hΦ⟩
    refine List.eq_nil_iff_forall_not_mem.2 fun i hm => ?_
    obtain ⟨h1, o, ho, _⟩ := mem_ready.1 hm
    have hlt : i < ops.size := (Array.getElem?_eq_some_iff.1 ho).1
    have h2 := hall' i hlt
    have : i < listed.size := by omega
    simp [this] at h1 h2
    rw [h1] at h2; cases h2
  | succ fuel ih =>
    intro listed a w hs hc hΦ
    refine ⟨fun h0 => fin _ _ _ (fun i hi => ready_none hl hs h0 (i + 1) i (by omega) hi) hΦ, fun i hi => ?_⟩
    obtain ⟨h1, o, ho, hall⟩ := mem_ready.1 hi
    have hlt : i < listed.size := by have := (Array.getElem?_eq_some_iff.1 ho).1; omega
    refine wpOp_mono (fun a' w' h => ih (listed.setIfInBounds i true) a' w' (by simpa using hs) ?_ (by rw [set_L hlt]; exact h)) (step i o _ a w ho (by simp [hlt] at h1 ⊢; exact h1) hall hΦ)
    have := count_set h1
    omega

set_option maxRecDepth 100000 in
theorem region_inv {id : Nat} {a : Act} {w : World} (hm : P.follows .mixedOrders = true) (hl : lowOnly ops = true) (Φ : (Nat → Bool) → Act → World → Prop) (h0 : Φ (fun _ => false) a w.drew)
    (step : ∀ i o L a w, ops[i]? = some o → L i = false → (∀ e ∈ o.after, Region.binds .any e = true → L e.on = true) → Φ L a w → wpOp P ops Q i (Φ (fun j => if j = i then true else L j)) a w)
    (fin : ∀ L a w, (∀ i, i < ops.size → L i = true) → Φ L a w → Q .normal a w) : (Code.region id ops true).wp P Q a w := by
  refine wp_region_any hm (wpAny_inv hl Φ step fin _ _ _ _ (by simp) ?_ ?_)
  · simp
  · have e : (fun j => (Array.replicate ops.size false).getD j false) = fun _ => false := by
      funext j
      by_cases h : j < ops.size <;> simp [h]
    rw [e]
    exact h0

/-- What has come up has come up behind what it waits for. -/
def Clo (ops : Array Oper) (L : Nat → Bool) : Prop := ∀ i o, ops[i]? = some o → L i = true → ∀ e ∈ o.after, Region.binds .any e = true → L e.on = true

set_option maxRecDepth 100000 in
/-- The same, and the steps know that what has come up has come up behind what it waits for. -/
theorem region_clo {id : Nat} {a : Act} {w : World} (hm : P.follows .mixedOrders = true) (hl : lowOnly ops = true) (Φ : (Nat → Bool) → Act → World → Prop) (h0 : Φ (fun _ => false) a w.drew)
    (step : ∀ i o L a w, ops[i]? = some o → L i = false → Clo ops L → (∀ e ∈ o.after, Region.binds .any e = true → L e.on = true) → Φ L a w → wpOp P ops Q i (Φ (fun j => if j = i then true else L j)) a w)
    (fin : ∀ L a w, (∀ i, i < ops.size → L i = true) → Φ L a w → Q .normal a w) : (Code.region id ops true).wp P Q a w := by
  refine region_inv hm hl (fun L a w => Clo ops L ∧ Φ L a w) ⟨fun _ _ _ h => (by cases h), h0⟩ ?_ (fun L a w hall h => fin L a w hall h.2)
  intro i o L a w ho hi hall h
  refine wpOp_mono (fun a' w' h' => ⟨?_, h'⟩) (step i o L a w ho hi h.1 hall h.2)
  intro j o' ho' hj e he hb
  by_cases hji : j = i
  · subst hji
    rw [ho] at ho'
    injection ho' with e'
    subst e'
    simp [hall e he hb]
  · have := h.1 j o' ho' (by simpa [hji] using hj) e he hb
    simp [this]

/-- Operation i of these is that one, without a guard, and waits for those. -/
def At (ops : Array Oper) (i : Nat) (dst : Option Tmp) (op : Op) (t : TypeId) (js : List Nat) : Prop :=
  ∃ o, ops[i]? = some o ∧ o.dst = dst ∧ o.op = op ∧ o.type = t ∧ o.guard = none ∧ (js.all fun j => o.after.any fun e => Region.binds .any e && e.on == j) = true

set_option maxRecDepth 100000 in
theorem At.needs {i : Nat} {dst : Option Tmp} {op : Op} {t : TypeId} {js : List Nat} (h : At ops i dst op t js) {o : Oper} (ho : ops[i]? = some o) {L : Nat → Bool} (hall : ∀ e ∈ o.after, Region.binds .any e = true → L e.on = true) : ∀ j ∈ js, L j = true := by
  obtain ⟨o', ho', _, _, _, _, hj⟩ := h
  rw [ho] at ho'
  injection ho' with e
  subst e
  intro j hjs
  have h1 := List.all_eq_true.1 hj j hjs
  rw [Array.any_eq_true'] at h1
  obtain ⟨e, he, h2⟩ := h1
  simp only [Bool.and_eq_true, beq_iff_eq] at h2
  rw [← h2.2]
  exact hall e he h2.1

set_option maxRecDepth 100000 in
theorem At.clo {i : Nat} {dst : Option Tmp} {op : Op} {t : TypeId} {js : List Nat} (h : At ops i dst op t js) {L : Nat → Bool} (hc : Clo ops L) (hi : L i = true) : ∀ j ∈ js, L j = true := by
  obtain ⟨o, ho, _⟩ := id h
  exact h.needs ho (hc i o ho hi)
set_option maxRecDepth 100000 in
theorem At.not {i : Nat} {dst : Option Tmp} {op : Op} {t : TypeId} {js : List Nat} (h : At ops i dst op t js) {L : Nat → Bool} (hc : Clo ops L) {j : Nat} (hj : j ∈ js) (hn : L j = false) : L i = false := by
  cases hv : L i with
  | false => rfl
  | true => have := h.clo hc hv j hj; rw [hn] at this; cases this

set_option maxRecDepth 100000 in
theorem At.run {i : Nat} {dst : Option Tmp} {op : Op} {t : TypeId} {js : List Nat} (h : At ops i dst op t js) {K : Act → World → Prop} {a : Act} {w : World}
    (hr : ∀ pos after, ({ dst := dst, op := op, type := t, pos := pos, after := after, guard := none } : Oper).wp P a w K Q) : wpOp P ops Q i K a w := by
  obtain ⟨o, ho, h1, h2, h3, h4, _⟩ := h
  unfold wpOp
  rw [ho]
  dsimp only
  rw [if_pos (by unfold Region.wanted; rw [h4])]
  left
  subst h1; subst h2; subst h3
  have := hr o.pos o.after
  rw [← h4] at this
  exact this

/-- What one frame has in common with another: all but these slots. -/
structure Agree (ds : List Nat) (a0 a : Act) : Prop where
  defers : a.defers = a0.defers
  size : a.tmps.size = a0.tmps.size
  out : ∀ t, t ∉ ds → a.tmps[t]? = a0.tmps[t]?

set_option maxRecDepth 100000 in
theorem Agree.refl (ds : List Nat) (a : Act) : Agree ds a a := ⟨rfl, rfl, fun _ _ => rfl⟩
set_option maxRecDepth 100000 in
theorem Agree.put {ds : List Nat} {a0 a : Act} (h : Agree ds a0 a) {d : Nat} (hd : d ∈ ds) (v : Value) : Agree ds a0 (a.put (some d) v) :=
  ⟨h.defers, by simpa [Act.put] using h.size, fun t ht => by
    have hne : d ≠ t := fun e => ht (e ▸ hd)
    simp only [Act.put]
    rw [Array.getElem?_setIfInBounds_ne hne]
    exact h.out t ht⟩
set_option maxRecDepth 100000 in
theorem Agree.eval {ds : List Nat} {a0 a : Act} (h : Agree ds a0 a) {t : Nat} (ht : t ∉ ds) : a.eval (.tmp t) = a0.eval (.tmp t) := by
  simp only [Act.eval, Array.getD_eq_getD_getElem?, h.out t ht]
set_option maxRecDepth 100000 in
theorem eval_new {a : Act} {d : Nat} (hd : d < a.tmps.size) (v : Value) : (a.put (some d) v).eval (.tmp d) = v := by
  simp [Act.eval, Act.put, hd]
set_option maxRecDepth 100000 in
theorem eval_old {a : Act} {d t : Nat} (hne : d ≠ t) (v : Value) : (a.put (some d) v).eval (.tmp t) = a.eval (.tmp t) :=
  Act.eval_put (dst := some d) fun d' e h => hne (by injection e with e; injection h with h; rw [e, h])

/-- The frame laid anew. -/
def lay (σ : Nat → Value) (ds : List Nat) (a : Act) : Act := ds.foldl (fun a d => a.put (some d) (σ d)) a
set_option maxRecDepth 100000 in
theorem lay_defers (σ : Nat → Value) (ds : List Nat) (a : Act) : (lay σ ds a).defers = a.defers := by
  induction ds generalizing a with
  | nil => rfl
  | cons d ds ih => exact (ih _).trans rfl
set_option maxRecDepth 100000 in
theorem lay_size (σ : Nat → Value) (ds : List Nat) (a : Act) : (lay σ ds a).tmps.size = a.tmps.size := by
  induction ds generalizing a with
  | nil => rfl
  | cons d ds ih => exact (ih _).trans (by simp [Act.put])
set_option maxRecDepth 100000 in
theorem lay_out (σ : Nat → Value) (ds : List Nat) (a : Act) (t : Nat) (ht : t ∉ ds) : (lay σ ds a).tmps[t]? = a.tmps[t]? := by
  induction ds generalizing a with
  | nil => rfl
  | cons d ds ih =>
    refine (ih _ fun h => ht (List.mem_cons_of_mem _ h)).trans ?_
    have hne : d ≠ t := fun e => ht (e ▸ List.mem_cons_self ..)
    simp only [Act.put]
    rw [Array.getElem?_setIfInBounds_ne hne]
set_option maxRecDepth 100000 in
theorem lay_in (σ : Nat → Value) (ds : List Nat) (a : Act) (t : Nat) (ht : t ∈ ds) (hs : t < a.tmps.size) : (lay σ ds a).tmps[t]? = some (σ t) := by
  induction ds generalizing a with
  | nil => cases ht
  | cons d ds ih =>
    by_cases h : t ∈ ds
    · exact ih _ h (by simpa [Act.put] using hs)
    · have e : t = d := by simpa [h] using ht
      subst e
      refine (lay_out σ ds _ t h).trans ?_
      simp [Act.put, hs]
set_option maxRecDepth 100000 in
theorem Agree.lay {ds : List Nat} {a0 a : Act} (h : Agree ds a0 a) (hds : ∀ d ∈ ds, d < a0.tmps.size) : a = lay (fun d => a.eval (.tmp d)) ds a0 := by
  have ht : a.tmps = (Proofs.YtgjipbhhdiacmaaDoor.lay (fun d => a.eval (.tmp d)) ds a0).tmps := by
    refine Array.ext_getElem? fun t => ?_
    by_cases hm : t ∈ ds
    · have hlt : t < a.tmps.size := by rw [h.size]; exact hds t hm
      rw [lay_in _ _ _ _ hm (hds t hm)]
      simp [Act.eval, hlt]
    · rw [lay_out _ _ _ _ hm, h.out t hm]
  have hd := (lay_defers (fun d => a.eval (.tmp d)) ds a0)
  cases a with
  | mk tm df =>
    cases hl : Proofs.YtgjipbhhdiacmaaDoor.lay (fun d => ({ tmps := tm, defers := df } : Act).eval (.tmp d)) ds a0 with
    | mk tm' df' =>
      rw [hl] at ht hd
      have := h.defers
      simp only at ht hd this
      rw [ht, hd, this]

end

end Go.Proofs.YtgjipbhhdiacmaaDoor
