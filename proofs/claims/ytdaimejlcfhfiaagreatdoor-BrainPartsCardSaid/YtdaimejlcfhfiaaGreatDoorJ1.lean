/-
  Texts that the walks of the statements over logs lean on, joined (RegionInv, RegT, RegF). Conditions: those that each theorem names.
-/
import Derived.Test.YtdaimejlcfhfiaaGreatDoorJ0
import Derived.OrdersIn

/-
  A region that draws its order, by an invariant: what holds behind any operations that have come up. One step a operation, whatever the order. Conditions: those that each theorem names.
-/
namespace Go.Proofs.YtdaimejlcfhfiaaGreatDoor
open Go.RowKit Go.Shelf

section
variable {P : Program} {ops : Array Oper} {Q : Exit → Act → World → Prop}

/-- Every operation waits only for operations that stand ahead of it. -/
def lowOnly (ops : Array Oper) : Bool := (List.range ops.size).all fun i => ((ops[i]?).map (·.after.all fun e => !Region.binds .any e || decide (e.on < i))).getD true

set_option maxRecDepth 100000 in
theorem lowOnly_at (h : lowOnly ops = true) {i : Nat} {o : Oper} (ho : ops[i]? = some o) : ∀ e ∈ o.after, Region.binds .any e = true → e.on < i := by
  intro e he hb
  have hlt : i < ops.size := (Array.getElem?_eq_some_iff.1 ho).1
  have h1 := List.all_eq_true.1 h i (List.mem_range.2 hlt)
  simp only [ho, Option.map_some, Option.getD_some, Array.all_eq_true_iff_forall_mem] at h1
  have h2 := h1 e he
  simpa [hb] using h2

set_option maxRecDepth 100000 in
theorem ready_none {listed : Array Bool} (hl : lowOnly ops = true) (hs : listed.size = ops.size) (h : Region.ready .any ops listed = []) : ∀ n i, i < n → i < ops.size → listed.getD i false = true := by
  intro n
  induction n with
  | zero => intro i h; omega
  | succ n ih =>
    intro i hi hlt
    cases hv : listed.getD i false with
    | true => rfl
    | false =>
      exfalso
      have hm : i ∈ Region.ready .any ops listed := by
        refine mem_ready.2 ⟨?_, ops[i], Array.getElem?_eq_getElem hlt, fun e he hb => ?_⟩
        · have : i < listed.size := by omega
          simp [this] at hv ⊢
          exact hv
        · have := lowOnly_at hl (Array.getElem?_eq_getElem hlt) e he hb
          exact ih e.on (by omega) (by omega)
      rw [h] at hm
      cases hm

set_option maxRecDepth 100000 in
theorem count_zero_all {l : List Bool} (h : l.count false = 0) : ∀ i, i < l.length → l[i]? = some true := by
  intro i hi
  rw [List.getElem?_eq_getElem hi]
  cases hv : l[i] with
  | true => rfl
  | false => exact absurd (List.getElem_mem hi) (by rw [hv]; exact List.count_eq_zero.1 h)

set_option maxRecDepth 100000 in
theorem set_L {listed : Array Bool} {i : Nat} (hi : i < listed.size) : (fun j => (listed.setIfInBounds i true).getD j false) = fun j => if j = i then true else listed.getD j false := by
  funext j
  by_cases h : j = i
  · subst h; simp [hi]
  · rw [if_neg h, getD_set_ne false (Ne.symm h)]

set_option maxRecDepth 100000 in
theorem count_set {listed : Array Bool} {i : Nat} (h : listed.getD i true = false) : (listed.setIfInBounds i true).toList.count false < listed.toList.count false := by
  have hi : i < listed.size := by
    rcases Nat.lt_or_ge i listed.size with h' | h'
    · exact h'
    · simp [Array.getElem?_eq_none h'] at h
  have hv : listed.toList[i]'(by simpa using hi) = false := by simpa [hi] using h
  have hpos : 0 < listed.toList.count false := List.count_pos_iff.2 (hv ▸ List.getElem_mem _)
  rw [Array.toList_setIfInBounds, List.count_set (by simpa using hi)]
  simp only [hv]
  simp only [beq_self_eq_true, if_true, show ((true == false) = true) = False by simp, if_false]
  omega

set_option maxRecDepth 100000 in
theorem wpAny_inv (hl : lowOnly ops = true) (Φ : (Nat → Bool) → Act → World → Prop)
    (step : ∀ i o L a w, ops[i]? = some o → L i = false → (∀ e ∈ o.after, Region.binds .any e = true → L e.on = true) → Φ L a w → wpOp P ops Q i (Φ (fun j => if j = i then true else L j)) a w)
    (fin : ∀ L a w, (∀ i, i < ops.size → L i = true) → Φ L a w → Q .normal a w) :
    ∀ (fuel : Nat) (listed : Array Bool) (a : Act) (w : World), listed.size = ops.size → listed.toList.count false ≤ fuel → Φ (fun j => listed.getD j false) a w → wpAny P .any ops Q fuel listed a w := by
  intro fuel
  induction fuel with
  | zero =>
    intro listed a w hs hc hΦ
    have hall := count_zero_all (Nat.le_zero.1 hc)
    have hall' : ∀ i, i < ops.size → listed.getD i false = true := fun i hi => by
      have := hall i (by simp; omega)
      simp at this
      simp [this]
    refine ⟨?_, fin _ _ _ hall' hΦ⟩
    refine List.eq_nil_iff_forall_not_mem.2 fun i hm => ?_
    obtain ⟨h1, o, ho, _⟩ := mem_ready.1 hm
    have hlt : i < ops.size := (Array.getElem?_eq_some_iff.1 ho).1
    have h2 := hall' i hlt
    have : i < listed.size := by omega
    simp [this] at h1 h2
    rw [h1] at h2; cases h2
  | succ fuel ih =>
    intro listed a w hs hc hΦ
    refine ⟨fun h0 => fin _ _ _ (fun i hi => ready_none hl hs h0 (i + 1) i (by omega) hi) hΦ, fun i hi => ?_⟩
    obtain ⟨h1, o, ho, hall⟩ := mem_ready.1 hi
    have hlt : i < listed.size := by have := (Array.getElem?_eq_some_iff.1 ho).1; omega
    refine wpOp_mono (fun a' w' h => ih (listed.setIfInBounds i true) a' w' (by simpa using hs) ?_ (by rw [set_L hlt]; exact h)) (step i o _ a w ho (by simp [hlt] at h1 ⊢; exact h1) hall hΦ)
    have := count_set h1
    omega

set_option maxRecDepth 100000 in
theorem region_inv {id : Nat} {a : Act} {w : World} (hm : P.follows .mixedOrders = true) (hl : lowOnly ops = true) (Φ : (Nat → Bool) → Act → World → Prop) (h0 : Φ (fun _ => false) a w.drew)
    (step : ∀ i o L a w, ops[i]? = some o → L i = false → (∀ e ∈ o.after, Region.binds .any e = true → L e.on = true) → Φ L a w → wpOp P ops Q i (Φ (fun j => if j = i then true else L j)) a w)
    (fin : ∀ L a w, (∀ i, i < ops.size → L i = true) → Φ L a w → Q .normal a w) : (Code.region id ops true).wp P Q a w := by
  refine wp_region_any hm (wpAny_inv hl Φ step fin _ _ _ _ (by simp) ?_ ?_)
  · simp
  · have e : (fun j => (Array.replicate ops.size false).getD j false) = fun _ => false := by
      funext j
      by_cases h : j < ops.size <;> simp [h]
    rw [e]
    exact h0

/-- What has come up has come up behind what it waits for. -/
def Clo (ops : Array Oper) (L : Nat → Bool) : Prop := ∀ i o, ops[i]? = some o → L i = true → ∀ e ∈ o.after, Region.binds .any e = true → L e.on = true

set_option maxRecDepth 100000 in
/-- The same, and the steps know that what has come up has come up behind what it waits for. -/
theorem region_clo {id : Nat} {a : Act} {w : World} (hm : P.follows .mixedOrders = true) (hl : lowOnly ops = true) (Φ : (Nat → Bool) → Act → World → Prop) (h0 : Φ (fun _ => false) a w.drew)
    (step : ∀ i o L a w, ops[i]? = some o → L i = false → Clo ops L → (∀ e ∈ o.after, Region.binds .any e = true → L e.on = true) → Φ L a w → wpOp P ops Q i (Φ (fun j => if j = i then true else L j)) a w)
    (fin : ∀ L a w, (∀ i, i < ops.size → L i = true) → Φ L a w → Q .normal a w) : (Code.region id ops true).wp P Q a w := by
  refine region_inv hm hl (fun L a w => Clo ops L ∧ Φ L a w) ⟨fun _ _ _ h => (by cases h), h0⟩ ?_ (fun L a w hall h => fin L a w hall h.2)
  intro i o L a w ho hi hall h
  refine wpOp_mono (fun a' w' h' => ⟨?_, h'⟩) (step i o L a w ho hi h.1 hall h.2)
  intro j o' ho' hj e he hb
  by_cases hji : j = i
  · subst hji
    rw [ho] at ho'
    injection ho' with e'
    subst e'
    simp [hall e he hb]
  · have := h.1 j o' ho' (by simpa [hji] using hj) e he hb
    simp [this]

/-- Operation i of these is that one, without a guard, and waits for those. -/
def At (ops : Array Oper) (i : Nat) (dst : Option Tmp) (op : Op) (t : TypeId) (js : List Nat) : Prop :=
  ∃ o, ops[i]? = some o ∧ o.dst = dst ∧ o.op = op ∧ o.type = t ∧ o.guard = none ∧ (js.all fun j => o.after.any fun e => Region.binds .any e && e.on == j) = true

set_option maxRecDepth 100000 in
theorem At.needs {i : Nat} {dst : Option Tmp} {op : Op} {t : TypeId} {js : List Nat} (h : At ops i dst op t js) {o : Oper} (ho : ops[i]? = some o) {L : Nat → Bool} (hall : ∀ e ∈ o.after, Region.binds .any e = true → L e.on = true) : ∀ j ∈ js, L j = true := by
  obtain ⟨o', ho', _, _, _, _, hj⟩ := h
  rw [ho] at ho'
  injection ho' with e
  subst e
  intro j hjs
  have h1 := List.all_eq_true.1 hj j hjs
  rw [Array.any_eq_true'] at h1
  obtain ⟨e, he, h2⟩ := h1
  simp only [Bool.and_eq_true, beq_iff_eq] at h2
  rw [← h2.2]
  exact hall e he h2.1

set_option maxRecDepth 100000 in
theorem At.clo {i : Nat} {dst : Option Tmp} {op : Op} {t : TypeId} {js : List Nat} (h : At ops i dst op t js) {L : Nat → Bool} (hc : Clo ops L) (hi : L i = true) : ∀ j ∈ js, L j = true := by
  obtain ⟨o, ho, _⟩ := id h
  exact h.needs ho (hc i o ho hi)
set_option maxRecDepth 100000 in
theorem At.not {i : Nat} {dst : Option Tmp} {op : Op} {t : TypeId} {js : List Nat} (h : At ops i dst op t js) {L : Nat → Bool} (hc : Clo ops L) {j : Nat} (hj : j ∈ js) (hn : L j = false) : L i = false := by
  cases hv : L i with
  | false => rfl
  | true => have := h.clo hc hv j hj; rw [hn] at this; cases this

set_option maxRecDepth 100000 in
theorem At.run {i : Nat} {dst : Option Tmp} {op : Op} {t : TypeId} {js : List Nat} (h : At ops i dst op t js) {K : Act → World → Prop} {a : Act} {w : World}
    (hr : ∀ pos after, ({ dst := dst, op := op, type := t, pos := pos, after := after, guard := none } : Oper).wp P a w K Q) : wpOp P ops Q i K a w := by
  obtain ⟨o, ho, h1, h2, h3, h4, _⟩ := h
  unfold wpOp
  rw [ho]
  dsimp only
  rw [if_pos (by unfold Region.wanted; rw [h4])]
  left
  subst h1; subst h2; subst h3
  have := hr o.pos o.after
  rw [← h4] at this
  exact this

/-- What one frame has in common with another: all but these slots. -/
structure Agree (ds : List Nat) (a0 a : Act) : Prop where
  defers : a.defers = a0.defers
  size : a.tmps.size = a0.tmps.size
  out : ∀ t, t ∉ ds → a.tmps[t]? = a0.tmps[t]?

set_option maxRecDepth 100000 in
theorem Agree.refl (ds : List Nat) (a : Act) : Agree ds a a := ⟨rfl, rfl, fun _ _ => rfl⟩
set_option maxRecDepth 100000 in
theorem Agree.put {ds : List Nat} {a0 a : Act} (h : Agree ds a0 a) {d : Nat} (hd : d ∈ ds) (v : Value) : Agree ds a0 (a.put (some d) v) :=
  ⟨h.defers, by simpa [Act.put] using h.size, fun t ht => by
    have hne : d ≠ t := fun e => ht (e ▸ hd)
    simp only [Act.put]
    rw [Array.getElem?_setIfInBounds_ne hne]
    exact h.out t ht⟩
set_option maxRecDepth 100000 in
theorem Agree.eval {ds : List Nat} {a0 a : Act} (h : Agree ds a0 a) {t : Nat} (ht : t ∉ ds) : a.eval (.tmp t) = a0.eval (.tmp t) := by
  simp only [Act.eval, Array.getD_eq_getD_getElem?, h.out t ht]
set_option maxRecDepth 100000 in
theorem eval_new {a : Act} {d : Nat} (hd : d < a.tmps.size) (v : Value) : (a.put (some d) v).eval (.tmp d) = v := by
  simp [Act.eval, Act.put, hd]
set_option maxRecDepth 100000 in
theorem eval_old {a : Act} {d t : Nat} (hne : d ≠ t) (v : Value) : (a.put (some d) v).eval (.tmp t) = a.eval (.tmp t) :=
  Act.eval_put (dst := some d) fun d' e h => hne (by injection e with e; injection h with h; rw [e, h])

/-- The frame laid anew. -/
def lay (σ : Nat → Value) (ds : List Nat) (a : Act) : Act := ds.foldl (fun a d => a.put (some d) (σ d)) a
set_option maxRecDepth 100000 in
theorem lay_defers (σ : Nat → Value) (ds : List Nat) (a : Act) : (lay σ ds a).defers = a.defers := by
  induction ds generalizing a with
  | nil => rfl
  | cons d ds ih => exact (ih _).trans rfl
set_option maxRecDepth 100000 in
theorem lay_size (σ : Nat → Value) (ds : List Nat) (a : Act) : (lay σ ds a).tmps.size = a.tmps.size := by
  induction ds generalizing a with
  | nil => rfl
  | cons d ds ih => exact (ih _).trans (by simp [Act.put])
set_option maxRecDepth 100000 in
theorem lay_out (σ : Nat → Value) (ds : List Nat) (a : Act) (t : Nat) (ht : t ∉ ds) : (lay σ ds a).tmps[t]? = a.tmps[t]? := by
  induction ds generalizing a with
  | nil => rfl
  | cons d ds ih =>
    refine (ih _ fun h => ht (List.mem_cons_of_mem _ h)).trans ?_
    have hne : d ≠ t := fun e => ht (e ▸ List.mem_cons_self ..)
    simp only [Act.put]
    rw [Array.getElem?_setIfInBounds_ne hne]
set_option maxRecDepth 100000 in
theorem lay_in (σ : Nat → Value) (ds : List Nat) (a : Act) (t : Nat) (ht : t ∈ ds) (hs : t < a.tmps.size) : (lay σ ds a).tmps[t]? = some (σ t) := by
  induction ds generalizing a with
  | nil => cases ht
  | cons d ds ih =>
    by_cases h : t ∈ ds
    · exact ih _ h (by simpa [Act.put] using hs)
    · have e : t = d := by simpa [h] using ht
      subst e
      refine (lay_out σ ds _ t h).trans ?_
      simp [Act.put, hs]
set_option maxRecDepth 100000 in
theorem Agree.lay {ds : List Nat} {a0 a : Act} (h : Agree ds a0 a) (hds : ∀ d ∈ ds, d < a0.tmps.size) : a = lay (fun d => a.eval (.tmp d)) ds a0 := by
  have ht : a.tmps = (Proofs.YtdaimejlcfhfiaaGreatDoor.lay (fun d => a.eval (.tmp d)) ds a0).tmps := by
    refine Array.ext_getElem? fun t => ?_
    by_cases hm : t ∈ ds
    · have hlt : t < a.tmps.size := by rw [h.size]; exact hds t hm
      rw [lay_in _ _ _ _ hm (hds t hm)]
      simp [Act.eval, hlt]
    · rw [lay_out _ _ _ _ hm, h.out t hm]
  have hd := (lay_defers (fun d => a.eval (.tmp d)) ds a0)
  cases a with
  | mk tm df =>
    cases hl : Proofs.YtdaimejlcfhfiaaGreatDoor.lay (fun d => ({ tmps := tm, defers := df } : Act).eval (.tmp d)) ds a0 with
    | mk tm' df' =>
      rw [hl] at ht hd
      have := h.defers
      simp only at ht hd this
      rw [ht, hd, this]

end

end Go.Proofs.YtdaimejlcfhfiaaGreatDoor

/-
  A region that draws its order: what reads is taken first, as long as what it reads stands; that it stands is shown behind each operation but some late ones, which wait for those that read. Outside of a fence, and in a round. Conditions: those that each theorem names.
-/
namespace Go.Proofs.YtdaimejlcfhfiaaGreatDoor
open Go.RowKit Go.Shelf

/-- Each of the late operations waits for operation i. -/
def lateB (ops : Array Oper) (md : Region.Mode) (ls : List Nat) (i : Nat) : Bool := ls.all fun j => match ops[j]? with
  | some o => o.after.any fun e => Region.binds md e && e.on == i
  | none => false
/-- None of the late ones has come up. -/
def fresh (ls : List Nat) (listed : Array Bool) : Bool := ls.all fun l => !listed.getD l true
set_option maxRecDepth 100000 in
theorem fresh_set {ls : List Nat} {listed : Array Bool} {i : Nat} (hi : ls.contains i = false) : fresh ls (listed.setIfInBounds i true) = fresh ls listed := by
  unfold fresh
  have hn : ∀ l ∈ ls, i ≠ l := fun l hl e => by
    subst e
    have : ls.contains i = true := by simpa using hl
    rw [this] at hi; cases hi
  rw [Bool.eq_iff_iff, List.all_eq_true, List.all_eq_true]
  exact ⟨fun h l hl => by rw [← getD_set_ne true (hn l hl)]; exact h l hl, fun h l hl => by rw [getD_set_ne true (hn l hl)]; exact h l hl⟩
set_option maxRecDepth 100000 in
theorem fresh_of_set {ls : List Nat} {listed : Array Bool} {i : Nat} (h : fresh ls (listed.setIfInBounds i true) = true) : fresh ls listed = true := by
  unfold fresh at *
  rw [List.all_eq_true] at *
  intro l hl
  by_cases e : i = l
  · subst e
    have := h i hl
    rcases Nat.lt_or_ge i listed.size with h1 | h1
    · simp [h1] at this
    · simp [h1] at this
  · rw [← getD_set_ne true e]; exact h l hl

section
variable {ops : Array Oper} {md : Region.Mode} {ls : List Nat} {i : Nat} {listed : Array Bool}
/-- What can come up from here on without operation i. -/
def growR (ops : Array Oper) (md : Region.Mode) (i : Nat) (R : Array Bool) : Array Bool := (Array.range ops.size).map fun j => R.getD j true || (j != i && match ops[j]? with
  | some o => o.after.all fun e => !Region.binds md e || R.getD e.on true
  | none => false)
def reachR (ops : Array Oper) (md : Region.Mode) (i : Nat) : Nat → Array Bool → Array Bool
  | 0, R => R
  | k + 1, R => reachR ops md i k (growR ops md i R)
/-- None of the late ones can come up ahead of operation i. -/
def lateR (ops : Array Oper) (md : Region.Mode) (ls : List Nat) (i : Nat) (listed : Array Bool) : Bool :=
  let R := reachR ops md i ops.size listed
  ((List.range ops.size).all fun j => R.getD j true || j == i || !(match ops[j]? with
    | some o => o.after.all fun e => !Region.binds md e || R.getD e.on true
    | none => false)) &&
  (((List.range ops.size).all fun j => !listed.getD j true || R.getD j true) && (R.size == ops.size && (listed.size == ops.size && ls.all fun l => !R.getD l true)))
/-- The same, told by a set that is closed. -/
def LateAt (ops : Array Oper) (md : Region.Mode) (ls : List Nat) (i : Nat) (listed : Array Bool) : Prop :=
  ∃ R : Nat → Bool, (∀ j o, ops[j]? = some o → j ≠ i → (∀ e ∈ o.after, Region.binds md e = true → R e.on = true) → R j = true) ∧ (∀ j, listed.getD j true = true → R j = true) ∧ ∀ l ∈ ls, R l = false
set_option maxRecDepth 100000 in
theorem lateAt_of (h : lateR ops md ls i listed = true) : LateAt ops md ls i listed := by
  unfold lateR at h
  revert h
  generalize reachR ops md i ops.size listed = R
  intro h
  simp only [Bool.and_eq_true, List.all_eq_true, List.mem_range, beq_iff_eq, Bool.not_eq_true', Bool.or_eq_true] at h
  obtain ⟨h1, h2, h3, h4, h5⟩ := h
  refine ⟨fun j => R.getD j true, fun j o ho hne ha => ?_, fun j hj => ?_, h5⟩
  · have hlt : j < ops.size := (Array.getElem?_eq_some_iff.1 ho).1
    rcases h1 j hlt with (h | h) | h
    · exact h
    · exact absurd h hne
    · rw [ho] at h
      dsimp only at h
      have : (o.after.all fun e => !Region.binds md e || R.getD e.on true) = true := by
        rw [Array.all_eq_true']
        intro e he
        cases hb : Region.binds md e with
        | false => rfl
        | true => simp only [Bool.not_true, Bool.false_or]; exact ha e he hb
      rw [this] at h; cases h
  · rcases Nat.lt_or_ge j ops.size with hlt | hge
    · rcases h2 j hlt with h | h
      · rw [hj] at h; cases h
      · exact h
    · show R.getD j true = true
      simp [Array.getD, Nat.not_lt.2 (by omega : R.size ≤ j)]
def lateOk (ops : Array Oper) (md : Region.Mode) (ls : List Nat) (i : Nat) (listed : Array Bool) : Bool :=
  (ls.isEmpty || ((lateB ops md ls i && fresh ls listed) || lateR ops md ls i listed)) && !ls.contains i
set_option maxRecDepth 100000 in
theorem lateAt_ok (hu : listed.getD i true = false) (h : lateOk ops md ls i listed = true) : LateAt ops md ls i listed := by
  unfold lateOk at h
  simp only [Bool.and_eq_true, Bool.or_eq_true, Bool.not_eq_true'] at h
  obtain ⟨h | h | h, hc⟩ := h
  · have e : ls = [] := by simpa using h
    subst e
    exact ⟨fun _ => true, fun _ _ _ _ _ => rfl, fun _ _ => rfl, by simp⟩
  · obtain ⟨h1, h2⟩ := h
    refine ⟨fun k => !ls.contains k && k != i, fun j o ho hne ha => ?_, fun j hj => ?_, fun l hl => by simp [hl]⟩
    · by_cases hj : j ∈ ls
      · have h3 := List.all_eq_true.1 h1 j hj
        simp only [ho] at h3
        rw [Array.any_eq_true'] at h3
        obtain ⟨e, he, h4⟩ := h3
        simp only [Bool.and_eq_true, beq_iff_eq] at h4
        have := ha e he h4.1
        simp [h4.2] at this
      · simp [hj, hne]
    · have hne : j ≠ i := by
        rintro rfl
        rw [hu] at hj; cases hj
      by_cases hl : j ∈ ls
      · have := List.all_eq_true.1 h2 j hl
        rw [hj] at this; simp at this
      · simp [hl, hne]
  · exact lateAt_of h
set_option maxRecDepth 100000 in
theorem LateAt.fresh_ (h : LateAt ops md ls i listed) : fresh ls listed = true := by
  obtain ⟨R, _, h2, h3⟩ := h
  unfold fresh
  rw [List.all_eq_true]
  intro l hl
  cases hc : listed.getD l true with
  | false => rfl
  | true => have := h2 l hc; rw [h3 l hl] at this; cases this
set_option maxRecDepth 100000 in
theorem LateAt.step {j : Nat} {o : Oper} (h : LateAt ops md ls i listed) (ho : ops[j]? = some o) (hne : j ≠ i) (ha : ∀ e ∈ o.after, Region.binds md e = true → listed.getD e.on true = true) : LateAt ops md ls i (listed.setIfInBounds j true) := by
  obtain ⟨R, h1, h2, h3⟩ := h
  refine ⟨R, h1, fun k hk => ?_, h3⟩
  by_cases e : j = k
  · subst e; exact h1 _ o ho hne fun e he hb => h2 _ (ha e he hb)
  · rw [getD_set_ne true e] at hk; exact h2 k hk

end

section
variable {P : Program} {ops : Array Oper} {Q : Exit → Act → World → Prop} {md : Region.Mode} {ls : List Nat} {T : World → Prop}

/-- Whatever order is picked from here on; behind every operation T holds, as long as none of the late ones has come up. -/
def wpAnyT (P : Program) (md : Region.Mode) (ops : Array Oper) (Q : Exit → Act → World → Prop) (ls : List Nat) (T : World → Prop) : Nat → Array Bool → Act → World → Prop
  | 0, listed, a, w => Region.ready md ops listed = [] ∧ Q .normal a w
  | fuel + 1, listed, a, w =>
    (Region.ready md ops listed = [] → Q .normal a w) ∧
    ∀ i ∈ Region.ready md ops listed, wpOp P ops Q i (fun a' w' => (fresh ls (listed.setIfInBounds i true) = true → T w') ∧ wpAnyT P md ops Q ls T fuel (listed.setIfInBounds i true) a' w') a w

set_option maxRecDepth 100000 in
theorem wpAny_of_T : ∀ (fuel : Nat) (listed : Array Bool) (a : Act) (w : World), wpAnyT P md ops Q ls T fuel listed a w → wpAny P md ops Q fuel listed a w
  | 0, _, _, _, h => h
  | fuel + 1, _, _, _, h => ⟨h.1, fun i hi => wpOp_mono (fun a' w' h' => wpAny_of_T fuel _ a' w' h'.2) (h.2 i hi)⟩

set_option maxRecDepth 100000 in
theorem wpAnyT_first {i : Nat} {oi : Oper} {v : Value} (T' : World → Prop) (hil : ls.contains i = false) (hi : ops[i]? = some oi) (hsel : ∀ (j : Nat) (o : Oper) cs b, ops[j]? = some o → o.op ≠ .select cs b)
    (hQ : ∀ c a w, Q (.panic c) (a.put oi.dst v) w → Q (.panic c) a w) :
    ∀ (fuel : Nat) (listed : Array Bool) (a : Act) (w : World),
      (∀ j oj, ops[j]? = some oj → j ≠ i → listed.getD j true = false → (∀ e ∈ oj.after, Region.binds md e = true → e.on ≠ i) → oi.apart ops oj = true) →
      i ∈ Region.ready md ops listed → YieldsIf P ops T' oi v a → T' w → ((∀ w, T' w) ∨ (LateAt ops md ls i listed ∧ ∀ w, T w → T' w)) → (fresh ls listed = true → T w) →
      wpAnyT P md ops Q ls T fuel (listed.setIfInBounds i true) (a.put oi.dst v) w → wpAnyT P md ops Q ls T (fuel + 1) listed a w := by
  intro fuel
  induction fuel with
  | zero =>
    intro listed a w _ hr hy hS _ hS2 H
    refine ⟨fun h => (by rw [h] at hr; cases hr), fun j hj => ?_⟩
    by_cases hji : j = i
    · subst hji; exact hy.wpOp hi hS ⟨fun h => hS2 (fresh_of_set h), H⟩
    · have := ready_mono hj hji
      rw [H.1] at this
      cases this
  | succ fuel ih =>
    intro listed a w hfree hr hy hS hT' hS2 H
    refine ⟨fun h => (by rw [h] at hr; cases hr), fun j hj => ?_⟩
    by_cases hji : j = i
    · subst hji; exact hy.wpOp hi hS ⟨fun h => hS2 (fresh_of_set h), H⟩
    · have h1 := H.2 j (ready_mono hj hji)
      obtain ⟨hjun, oj, hoj, hall⟩ := mem_ready.1 hj
      have hnot : ∀ e ∈ oj.after, Region.binds md e = true → e.on ≠ i := fun e he hb heq => by
        have h1 := hall e he hb
        have h0 := (mem_ready.1 hr).1
        rw [heq] at h1
        rcases Nat.lt_or_ge i listed.size with h' | h'
        · simp [h'] at h0 h1; rw [h0] at h1; cases h1
        · simp [Array.getElem?_eq_none h'] at h1
      have h2 := wpOp_putIf hoj (hfree j oj hoj hji hjun hnot) (fun cs b => hsel i oi cs b hi) (fun cs b => hsel j oj cs b hoj) hQ hy h1
      have hfree' : ∀ k ok, ops[k]? = some ok → k ≠ i → (listed.setIfInBounds j true).getD k true = false →
          (∀ e ∈ ok.after, Region.binds md e = true → e.on ≠ i) → oi.apart ops ok = true := fun k ok hk hki hun hno => by
        refine hfree k ok hk hki ?_ hno
        by_cases hjk : j = k
        · subst hjk; exact hjun
        · rw [getD_set_ne true hjk] at hun; exact hun
      refine wpOp_mono (fun a' w' h3 => ?_) h2
      have hTw : fresh ls (listed.setIfInBounds j true) = true → T w' := fun h => h3.2.1 (by
        rw [Array.setIfInBounds_comm _ _ (Ne.symm hji), fresh_set hil]; exact h)
      have hT2 : (∀ w, T' w) ∨ (LateAt ops md ls i (listed.setIfInBounds j true) ∧ ∀ w, T w → T' w) := by
        rcases hT' with h | ⟨h1, h3⟩
        · exact .inl h
        · refine .inr ⟨h1.step hoj hji fun e he hb => ?_, h3⟩
          have h1 := hall e he hb
          rcases Nat.lt_or_ge e.on listed.size with h' | h'
          · simp [h'] at h1 ⊢; exact h1
          · simp [Array.getElem?_eq_none h'] at h1
      refine ⟨hTw, ih (listed.setIfInBounds j true) a' w' hfree' (ready_mono hr (Ne.symm hji)) h3.1 ?_ hT2 hTw ?_⟩
      · rcases hT2 with h | ⟨h4, h5⟩
        · exact h w'
        · exact h5 w' (hTw h4.fresh_)
      · rw [Array.setIfInBounds_comm _ _ hji]
        exact h3.2.2

section
variable {fuel i : Nat} {listed : Array Bool} {a : Act} {w : World} {d : Option Tmp} {op : Op} {t : TypeId} {pos : String} {after : Array Edge} {g : Option (Nat × Bool)}

set_option maxRecDepth 100000 in
/-- An operation that yields v in every world that meets T: the late ones wait for it. -/
theorem takeT {v : Value} (hi : ops[i]? = some { dst := d, op := op, type := t, pos := pos, after := after, guard := g })
    (hs : Region.noSelect ops = true) (hf : Region.free md ops listed i = true) (hr : (Region.ready md ops listed).contains i = true) (hl : lateOk ops md ls i listed = true)
    (hQ : ∀ c a w, Q (.panic c) (a.put d v) w → Q (.panic c) a w) (hw : Region.wanted { dst := d, op := op, type := t, pos := pos, after := after, guard := g } (yielded ops a.tmps) = true)
    (hy : ∀ w, T w → (execOp a.eval { dst := d, op := op, type := t, pos := pos, after := after, guard := g }).run P w = .ok (.value v) w) (hT : T w)
    (h : wpAnyT P md ops Q ls T fuel (listed.setIfInBounds i true) (a.put d v) w) : wpAnyT P md ops Q ls T (fuel + 1) listed a w :=
  wpAnyT_first T (by unfold lateOk at hl; simp only [Bool.and_eq_true, Bool.not_eq_true'] at hl; exact hl.2) hi (Region.noSelect_spec hs) hQ fuel listed a w (Region.free_spec hi hf) (by simpa using hr) (Or.inl ⟨hw, hy⟩) hT
    (.inr ⟨lateAt_ok (mem_ready.1 (by simpa using hr)).1 hl, fun _ h => h⟩) (fun _ => hT) h
set_option maxRecDepth 100000 in
/-- An operation that yields v in every world. -/
theorem takeP {v : Value} (hi : ops[i]? = some { dst := d, op := op, type := t, pos := pos, after := after, guard := g })
    (hs : Region.noSelect ops = true) (hf : Region.free md ops listed i = true) (hr : (Region.ready md ops listed).contains i = true) (hl : ls.contains i = false)
    (hQ : ∀ c a w, Q (.panic c) (a.put d v) w → Q (.panic c) a w) (hw : Region.wanted { dst := d, op := op, type := t, pos := pos, after := after, guard := g } (yielded ops a.tmps) = true)
    (hy : ∀ w, (execOp a.eval { dst := d, op := op, type := t, pos := pos, after := after, guard := g }).run P w = .ok (.value v) w) (hT : fresh ls listed = true → T w)
    (h : wpAnyT P md ops Q ls T fuel (listed.setIfInBounds i true) (a.put d v) w) : wpAnyT P md ops Q ls T (fuel + 1) listed a w :=
  wpAnyT_first (fun _ => True) hl hi (Region.noSelect_spec hs) hQ fuel listed a w (Region.free_spec hi hf) (by simpa using hr) (Or.inl ⟨hw, fun w _ => hy w⟩) trivial (.inl fun _ => trivial) hT h

set_option maxRecDepth 100000 in
/-- An operation whose guard says no. -/
theorem skipT (hi : ops[i]? = some { dst := d, op := op, type := t, pos := pos, after := after, guard := g })
    (hs : Region.noSelect ops = true) (hf : Region.free md ops listed i = true) (hr : (Region.ready md ops listed).contains i = true) (hl : ls.contains i = false)
    (hQ : ∀ c a w, Q (.panic c) (a.put d undef) w → Q (.panic c) a w) (hw : Region.wanted { dst := d, op := op, type := t, pos := pos, after := after, guard := g } (yielded ops a.tmps) = false) (hT : fresh ls listed = true → T w)
    (h : wpAnyT P md ops Q ls T fuel (listed.setIfInBounds i true) (a.put d undef) w) : wpAnyT P md ops Q ls T (fuel + 1) listed a w :=
  wpAnyT_first (fun _ => True) hl hi (Region.noSelect_spec hs) hQ fuel listed a w (Region.free_spec hi hf) (by simpa using hr) (Or.inr ⟨hw, rfl⟩) trivial (.inl fun _ => trivial) hT h

set_option maxRecDepth 100000 in
/-- An operation that is all that may come up. -/
theorem oneT (hi : ops[i]? = some { dst := d, op := op, type := t, pos := pos, after := after, guard := g }) (hr : Region.ready md ops listed = [i])
    (hw : Region.wanted { dst := d, op := op, type := t, pos := pos, after := after, guard := g } (yielded ops a.tmps) = true)
    (h : ∀ K' : Act → World → Prop, Shut (∀ a w, (fresh ls (listed.setIfInBounds i true) = true → T w) → wpAnyT P md ops Q ls T fuel (listed.setIfInBounds i true) a w → K' a w) → ({ dst := d, op := op, type := t, pos := pos, after := after, guard := g } : Oper).wp P a w K' Q) : wpAnyT P md ops Q ls T (fuel + 1) listed a w := by
  refine ⟨fun h0 => (by rw [hr] at h0; cases h0), fun j hj => ?_⟩
  rw [hr] at hj
  simp only [List.mem_singleton] at hj
  subst hj
  exact wpOp_step hi (fun K' hK => by rw [if_pos hw]; exact h K' (fun a w hT hW => hK a w ⟨hT, hW⟩))
set_option maxRecDepth 100000 in
/-- A late one that is all that may come up. -/
theorem oneL (hl : fresh ls (listed.setIfInBounds i true) = false) (hi : ops[i]? = some { dst := d, op := op, type := t, pos := pos, after := after, guard := g }) (hr : Region.ready md ops listed = [i])
    (hw : Region.wanted { dst := d, op := op, type := t, pos := pos, after := after, guard := g } (yielded ops a.tmps) = true)
    (h : ∀ K' : Act → World → Prop, Shut (∀ a w, wpAnyT P md ops Q ls T fuel (listed.setIfInBounds i true) a w → K' a w) → ({ dst := d, op := op, type := t, pos := pos, after := after, guard := g } : Oper).wp P a w K' Q) : wpAnyT P md ops Q ls T (fuel + 1) listed a w :=
  oneT hi hr hw fun K' hK => h K' (fun a w hW => hK a w (fun h => by rw [hl] at h; cases h) hW)
set_option maxRecDepth 100000 in
theorem doneT {listed : Array Bool} {a : Act} {w : World} (hr : Region.ready md ops listed = []) (h : Q .normal a w) : ∀ fuel, wpAnyT P md ops Q ls T fuel listed a w
  | 0 => ⟨hr, h⟩
  | _ + 1 => ⟨fun _ => h, by rw [hr]; simp⟩
set_option maxRecDepth 100000 in
theorem wpOp_at (hi : ops[i]? = some { dst := d, op := op, type := t, pos := pos, after := after, guard := g }) {K : Act → World → Prop}
    (hw : Region.wanted { dst := d, op := op, type := t, pos := pos, after := after, guard := g } (yielded ops a.tmps) = true)
    (h : ({ dst := d, op := op, type := t, pos := pos, after := after, guard := g } : Oper).wp P a w K Q) : wpOp P ops Q i K a w := by
  unfold wpOp
  rw [hi]
  dsimp only
  rw [if_pos hw]
  exact .inl h
set_option maxRecDepth 100000 in
/-- What is left are operations each of which leaves the frame, and T, as they are: whatever the order. -/
theorem wpAnyT_steady (ds : List Nat) (step : ∀ i ∈ ds, ∀ w K, T w → (∀ w', T w' → K a w') → wpOp P ops Q i K a w) (fin : ∀ w, T w → Q .normal a w) :
    ∀ (fuel : Nat) (listed : Array Bool) (w : World), (∀ i, i < ops.size → listed.getD i true = false → i ∈ ds) → listed.size = ops.size → listed.toList.count false ≤ fuel → T w → wpAnyT P md ops Q ls T fuel listed a w := by
  intro fuel
  induction fuel with
  | zero =>
    intro listed w _ hs hc hT
    have hall := count_zero_all (Nat.le_zero.1 hc)
    refine ⟨?_, fin w hT⟩
    refine List.eq_nil_iff_forall_not_mem.2 fun i hm => ?_
    obtain ⟨h1, o, ho, _⟩ := mem_ready.1 hm
    have hlt : i < ops.size := (Array.getElem?_eq_some_iff.1 ho).1
    have h2 := hall i (by simp; omega)
    have : i < listed.size := by omega
    simp [this] at h1 h2
    rw [h1] at h2; cases h2
  | succ fuel ih =>
    intro listed w hd hs hc hT
    refine ⟨fun _ => fin w hT, fun i hi => ?_⟩
    obtain ⟨h1, o, ho, _⟩ := mem_ready.1 hi
    have hlt : i < ops.size := (Array.getElem?_eq_some_iff.1 ho).1
    refine step i (hd i hlt h1) w _ hT (fun w' hT' => ⟨fun _ => hT', ih (listed.setIfInBounds i true) w' ?_ (by simpa using hs) ?_ hT'⟩)
    · intro j hj hu
      by_cases e : i = j
      · subst e; exact hd i hj h1
      · rw [getD_set_ne true e] at hu; exact hd j hj hu
    · have := count_set h1
      omega
set_option maxRecDepth 100000 in
theorem unlisted_in {ops : Array Oper} {listed : Array Bool} {ds : List Nat} (h : ((List.range ops.size).all fun i => listed.getD i true || ds.contains i) = true) : ∀ i, i < ops.size → listed.getD i true = false → i ∈ ds := by
  intro i hi hu
  have := List.all_eq_true.1 h i (List.mem_range.2 hi)
  rw [hu, Bool.false_or] at this
  simpa using this
set_option maxRecDepth 100000 in
theorem wp_region_T {id : Nat} {a : Act} {w : World} (hm : P.follows .mixedOrders = true) (h : wpAnyT P .any ops Q ls T ops.size (Array.replicate ops.size false) a w.drew) : (Code.region id ops true).wp P Q a w :=
  wp_region_any hm (wpAny_of_T _ _ _ _ h)
end
end

section
variable {P : Program} {ops : Array Oper} {Q : Exit → Act → World → Prop} {l m : Nat}
/-- No operation that defers a call. -/
def noDeferT (ops : Array Oper) : Bool := ops.all fun o => match o.op with | .defer _ => false | _ => true
set_option maxRecDepth 100000 in
theorem noDeferT_at {i : Nat} {o : Oper} (h : noDeferT ops = true) (ho : ops[i]? = some o) : ∀ c, o.op ≠ .defer c := by
  intro c hc
  have := Array.all_eq_true_iff_forall_mem.1 h o (Array.mem_of_getElem? ho)
  simp [hc] at this
set_option maxRecDepth 100000 in
theorem round_of_wp {o : Oper} {a : Act} {w : World} {K : Act → World → Prop} (hd : ∀ c, o.op ≠ .defer c) (h : o.wp P a w K Q) : o.wpIn (Fence.wide.inRound l) m P a w K Q := by
  refine ⟨fun _ _ => trivial, ?_⟩
  rw [Oper.semAt_eq _ _ _ hd]
  unfold Oper.wp at h
  generalize (execOp a.eval o).run P w = r at h
  cases r with
  | ok x w' =>
    cases x with
    | value v => exact h
    | skip => exact h
    | defer d => exact h
    | enter f args => exact ⟨fun h => (by cases h), callsIn_wide.2 h⟩
    | row r args => exact ⟨fun h => (by cases h), fun c cs _ => let ⟨v, w', r, s⟩ := h c cs; ⟨v, w', r, stepsIn_wide.2 s⟩⟩
    | _ => exact h.elim
  | halt x w' => cases x <;> exact h
set_option maxRecDepth 100000 in
theorem roundOp {i : Nat} {K : Act → World → Prop} {a : Act} {w : World} (hd : noDeferT ops = true) (hL : ∀ a w, ¬ Q .outgrown a w) (h : wpOp P ops Q i K a w) : wpOpIn (Fence.wide.inRound l) m P ops Q i K a w := by
  unfold wpOp at h
  unfold wpOpIn
  cases ho : ops[i]? with
  | none => rw [ho] at h; exact h
  | some o =>
    rw [ho] at h
    dsimp only at h ⊢
    split
    · rename_i hw
      rw [if_pos hw] at h
      rcases h with h | h
      · exact round_of_wp (noDeferT_at hd ho) h
      · exact h.2.elim fun a h => h.elim fun w h => (hL a w h).elim
    · rename_i hw
      rw [if_neg hw] at h
      exact ⟨fun _ _ => trivial, h⟩
set_option maxRecDepth 100000 in
theorem roundAny (hd : noDeferT ops = true) (hL : ∀ a w, ¬ Q .outgrown a w) : ∀ (fuel : Nat) (listed : Array Bool) (a : Act) (w : World), wpAny P .any ops Q fuel listed a w → wpAnyIn (Fence.wide.inRound l) m P .any ops Q fuel listed a w
  | 0, _, _, _, h => h
  | fuel + 1, _, _, _, h => ⟨h.1, fun i hi => wpOpIn_mono (fun a' w' h' => roundAny hd hL fuel _ a' w' h') (roundOp hd hL (h.2 i hi))⟩
set_option maxRecDepth 100000 in
/-- Such a region in a round. -/
theorem wpIn_region_T {id : Nat} {a : Act} {w : World} {ls : List Nat} {T : World → Prop} (hm : P.follows .mixedOrders = true) (hd : noDeferT ops = true) (hL : ∀ a w, ¬ Q .outgrown a w)
    (h : wpAnyT P .any ops Q ls T ops.size (Array.replicate ops.size false) a w.drew) : (Code.region id ops true).wpIn (Fence.wide.inRound l) m P Q a w :=
  wpIn_region_any hm (roundAny hd hL _ _ _ _ (wpAny_of_T _ _ _ _ h))
end

end Go.Proofs.YtdaimejlcfhfiaaGreatDoor

/-
  A region that draws its order, inside any fence that is no round's: what reads is taken first, as long as what it reads stands; calls and what an iterator hands over come one by one. Conditions: those that each theorem names.
-/
namespace Go.Proofs.YtdaimejlcfhfiaaGreatDoor
open Go.RowKit Go.Shelf

section
variable {F : Fence} {n : Nat} {P : Program} {ops : Array Oper} {Q : Exit → Act → World → Prop} {md : Region.Mode} {ls : List Nat} {T : World → Prop}

/-- It yields v in every world that meets S, and makes no call. -/
def YieldsF (P : Program) (ops : Array Oper) (S : World → Prop) (o : Oper) (v : Value) (a : Act) : Prop := YieldsIf P ops S o v a ∧ ∀ w, o.about P w a.eval = none
set_option maxRecDepth 100000 in
theorem YieldsF.wpOpIn {S : World → Prop} {i : Nat} {o : Oper} {v : Value} {a : Act} (hro : F.round = none) (hi : ops[i]? = some o) (hy : YieldsF P ops S o v a) {K : Act → World → Prop} {w : World} (hS : S w) (h : K (a.put o.dst v) w) : wpOpIn F n P ops Q i K a w := by
  unfold Go.wpOpIn
  simp only [hi]
  have hab : ∀ f, o.about P w a.eval = some f → F.fn f := fun f hf => by rw [hy.2 w] at hf; cases hf
  rcases hy.1 with ⟨hw, hv⟩ | ⟨hw, rfl⟩
  · simp only [hw, if_true, Oper.wpIn, hro, Oper.semAt_none, hv w hS, Oper.uponIn]; exact ⟨hab, h⟩
  · simp only [hw, Bool.false_eq_true, if_false]; exact ⟨hab, h⟩
set_option maxRecDepth 100000 in
theorem YieldsF.of_same {S : World → Prop} {o : Oper} {v : Value} {a a' : Act} (hy : YieldsF P ops S o v a) (he : execOp a'.eval o = execOp a.eval o)
    (hw : Region.wanted o (yielded ops a'.tmps) = Region.wanted o (yielded ops a.tmps)) (hb : ∀ w, o.about P w a'.eval = o.about P w a.eval) : YieldsF P ops S o v a' :=
  ⟨hy.1.of_same he hw, fun w => by rw [hb w]; exact hy.2 w⟩
set_option maxRecDepth 100000 in
theorem wpOpIn_putF {S : World → Prop} {j : Nat} {oi oj : Oper} {v : Value} (hro : F.round = none) (hj : ops[j]? = some oj) (hap : oi.apart ops oj = true)
    (hsi : ∀ cs b, oi.op ≠ .select cs b) (hsj : ∀ cs b, oj.op ≠ .select cs b)
    (hQ : ∀ c a w, Q (.panic c) (a.put oi.dst v) w → Q (.panic c) a w) {K : Act → World → Prop} {a : Act} {w : World}
    (hy : YieldsF P ops S oi v a) (h : wpOpIn F n P ops Q j K (a.put oi.dst v) w) :
    wpOpIn F n P ops Q j (fun a' w' => YieldsF P ops S oi v a' ∧ K (a'.put oi.dst v) w') a w := by
  obtain ⟨h1, h2, h3⟩ := Oper.apart_spec hap
  have keep : ∀ (a : Act), YieldsF P ops S oi v a → ∀ u, YieldsF P ops S oi v (a.put oj.dst u) := fun a hy u =>
    hy.of_same (execOp_put oi hsi a oj.dst u h3) (wanted_put oi a oj.dst u h3) (fun w => about_put oi w a oj.dst u h3)
  have keepD : ∀ d, YieldsF P ops S oi v { a with defers := d :: a.defers } := fun d => hy.of_same rfl rfl (fun _ => rfl)
  unfold wpOpIn at *
  simp only [hj] at *
  rw [wanted_put oj a oi.dst v h1, about_put oj w a oi.dst v h1] at h
  split
  · rename_i hw
    simp only [hw, if_true] at h
    unfold Oper.wpIn at *
    rw [about_put oj w a oi.dst v h1] at h
    refine ⟨h.1, ?_⟩
    have h := h.2
    rw [hro, Oper.semAt_none, execOp_put oj hsj a oi.dst v h1] at h
    rw [hro, Oper.semAt_none]
    generalize (execOp a.eval oj).run P w = r at *
    cases r with
    | ok x w' =>
      cases x <;> simp only [Oper.uponIn] at h ⊢
      case value u => exact ⟨keep a hy u, by rw [← Act.put_comm a v u h2]; exact h⟩
      case skip => exact ⟨keep a hy _, by rw [← Act.put_comm a v undef h2]; exact h⟩
      case defer d =>
        refine ⟨keep _ (keepD d) _, ?_⟩
        rw [← Act.put_comm _ v undef h2, ← Act.put_defers]
        exact h
      case enter f args =>
        refine ⟨h.1, CallsIn.mono h.2 fun e w'' he => ?_⟩
        cases e with
        | returned u => exact ⟨keep a hy u, by rw [← Act.put_comm a v u h2]; exact he⟩
        | panicked c => exact hQ _ _ _ he
        | outgrown => exact he
      case row row args => exact ⟨h.1, RowsIn.mono h.2 fun u w'' he => ⟨keep a hy u, by rw [← Act.put_comm a v u h2]; exact he⟩⟩
      case round l f tmps assign body =>
        refine ⟨h.1, RoundIn.mono h.2 fun e w'' he => ?_⟩
        cases e with
        | returned u => exact ⟨keep a hy u, by rw [← Act.put_comm a v u h2]; exact he⟩
        | panicked c => exact hQ _ _ _ he
        | outgrown => exact he
    | halt x w' =>
      cases x <;> simp only [Oper.uponIn] at h ⊢
      case panic u => exact hQ _ _ _ h
  · rename_i hw
    simp only [hw] at h
    exact ⟨h.1, keep a hy _, by rw [← Act.put_comm a v undef h2]; exact h.2⟩

/-- Whatever order is picked from here on; behind every operation T holds, as long as none of the late ones has come up. -/
def wpAnyF (F : Fence) (n : Nat) (P : Program) (md : Region.Mode) (ops : Array Oper) (Q : Exit → Act → World → Prop) (ls : List Nat) (T : World → Prop) : Nat → Array Bool → Act → World → Prop
  | 0, listed, a, w => Region.ready md ops listed = [] ∧ Q .normal a w
  | fuel + 1, listed, a, w =>
    (Region.ready md ops listed = [] → Q .normal a w) ∧
    ∀ i ∈ Region.ready md ops listed, wpOpIn F n P ops Q i (fun a' w' => (fresh ls (listed.setIfInBounds i true) = true → T w') ∧ wpAnyF F n P md ops Q ls T fuel (listed.setIfInBounds i true) a' w') a w

set_option maxRecDepth 100000 in
theorem wpAnyIn_of_F : ∀ (fuel : Nat) (listed : Array Bool) (a : Act) (w : World), wpAnyF F n P md ops Q ls T fuel listed a w → wpAnyIn F n P md ops Q fuel listed a w
  | 0, _, _, _, h => h
  | fuel + 1, _, _, _, h => ⟨h.1, fun i hi => wpOpIn_mono (fun a' w' h' => wpAnyIn_of_F fuel _ a' w' h'.2) (h.2 i hi)⟩

set_option maxRecDepth 100000 in
theorem wpAnyF_first {i : Nat} {oi : Oper} {v : Value} (hro : F.round = none) (T' : World → Prop) (hil : ls.contains i = false) (hi : ops[i]? = some oi) (hsel : ∀ (j : Nat) (o : Oper) cs b, ops[j]? = some o → o.op ≠ .select cs b)
    (hQ : ∀ c a w, Q (.panic c) (a.put oi.dst v) w → Q (.panic c) a w) :
    ∀ (fuel : Nat) (listed : Array Bool) (a : Act) (w : World),
      (∀ j oj, ops[j]? = some oj → j ≠ i → listed.getD j true = false → (∀ e ∈ oj.after, Region.binds md e = true → e.on ≠ i) → oi.apart ops oj = true) →
      i ∈ Region.ready md ops listed → YieldsF P ops T' oi v a → T' w → ((∀ w, T' w) ∨ (LateAt ops md ls i listed ∧ ∀ w, T w → T' w)) → (fresh ls listed = true → T w) →
      wpAnyF F n P md ops Q ls T fuel (listed.setIfInBounds i true) (a.put oi.dst v) w → wpAnyF F n P md ops Q ls T (fuel + 1) listed a w := by
  intro fuel
  induction fuel with
  | zero =>
    intro listed a w _ hr hy hS _ hS2 H
    refine ⟨fun h => (by rw [h] at hr; cases hr), fun j hj => ?_⟩
    by_cases hji : j = i
    · subst hji; exact hy.wpOpIn hro hi hS ⟨fun h => hS2 (fresh_of_set h), H⟩
    · have := ready_mono hj hji
      rw [H.1] at this
      cases this
  | succ fuel ih =>
    intro listed a w hfree hr hy hS hT' hS2 H
    refine ⟨fun h => (by rw [h] at hr; cases hr), fun j hj => ?_⟩
    by_cases hji : j = i
    · subst hji; exact hy.wpOpIn hro hi hS ⟨fun h => hS2 (fresh_of_set h), H⟩
    · have h1 := H.2 j (ready_mono hj hji)
      obtain ⟨hjun, oj, hoj, hall⟩ := mem_ready.1 hj
      have hnot : ∀ e ∈ oj.after, Region.binds md e = true → e.on ≠ i := fun e he hb heq => by
        have h1 := hall e he hb
        have h0 := (mem_ready.1 hr).1
        rw [heq] at h1
        rcases Nat.lt_or_ge i listed.size with h' | h'
        · simp [h'] at h0 h1; rw [h0] at h1; cases h1
        · simp [Array.getElem?_eq_none h'] at h1
      have h2 := wpOpIn_putF hro hoj (hfree j oj hoj hji hjun hnot) (fun cs b => hsel i oi cs b hi) (fun cs b => hsel j oj cs b hoj) hQ hy h1
      have hfree' : ∀ k ok, ops[k]? = some ok → k ≠ i → (listed.setIfInBounds j true).getD k true = false →
          (∀ e ∈ ok.after, Region.binds md e = true → e.on ≠ i) → oi.apart ops ok = true := fun k ok hk hki hun hno => by
        refine hfree k ok hk hki ?_ hno
        by_cases hjk : j = k
        · subst hjk; exact hjun
        · rw [getD_set_ne true hjk] at hun; exact hun
      refine wpOpIn_mono (fun a' w' h3 => ?_) h2
      have hTw : fresh ls (listed.setIfInBounds j true) = true → T w' := fun h => h3.2.1 (by
        rw [Array.setIfInBounds_comm _ _ (Ne.symm hji), fresh_set hil]; exact h)
      have hT2 : (∀ w, T' w) ∨ (LateAt ops md ls i (listed.setIfInBounds j true) ∧ ∀ w, T w → T' w) := by
        rcases hT' with h | ⟨h1, h3⟩
        · exact .inl h
        · refine .inr ⟨h1.step hoj hji fun e he hb => ?_, h3⟩
          have h1 := hall e he hb
          rcases Nat.lt_or_ge e.on listed.size with h' | h'
          · simp [h'] at h1 ⊢; exact h1
          · simp [Array.getElem?_eq_none h'] at h1
      refine ⟨hTw, ih (listed.setIfInBounds j true) a' w' hfree' (ready_mono hr (Ne.symm hji)) h3.1 ?_ hT2 hTw ?_⟩
      · rcases hT2 with h | ⟨h4, h5⟩
        · exact h w'
        · exact h5 w' (hTw h4.fresh_)
      · rw [Array.setIfInBounds_comm _ _ hji]
        exact h3.2.2

section
variable {fuel i : Nat} {listed : Array Bool} {a : Act} {w : World} {d : Option Tmp} {op : Op} {t : TypeId} {pos : String} {after : Array Edge} {g : Option (Nat × Bool)}

set_option maxRecDepth 100000 in
/-- An operation that yields v in every world that meets T: the late ones wait for it. -/
theorem takeF {v : Value} (hro : F.round = none) (hab : ∀ w, ({ dst := d, op := op, type := t, pos := pos, after := after, guard := g } : Oper).about P w a.eval = none) (hi : ops[i]? = some { dst := d, op := op, type := t, pos := pos, after := after, guard := g })
    (hs : Region.noSelect ops = true) (hf : Region.free md ops listed i = true) (hr : (Region.ready md ops listed).contains i = true) (hl : lateOk ops md ls i listed = true)
    (hQ : ∀ c a w, Q (.panic c) (a.put d v) w → Q (.panic c) a w) (hw : Region.wanted { dst := d, op := op, type := t, pos := pos, after := after, guard := g } (yielded ops a.tmps) = true)
    (hy : ∀ w, T w → (execOp a.eval { dst := d, op := op, type := t, pos := pos, after := after, guard := g }).run P w = .ok (.value v) w) (hT : T w)
    (h : wpAnyF F n P md ops Q ls T fuel (listed.setIfInBounds i true) (a.put d v) w) : wpAnyF F n P md ops Q ls T (fuel + 1) listed a w :=
  wpAnyF_first hro T (by unfold lateOk at hl; simp only [Bool.and_eq_true, Bool.not_eq_true'] at hl; exact hl.2) hi (Region.noSelect_spec hs) hQ fuel listed a w (Region.free_spec hi hf) (by simpa using hr) ⟨Or.inl ⟨hw, hy⟩, hab⟩ hT
    (.inr ⟨lateAt_ok (mem_ready.1 (by simpa using hr)).1 hl, fun _ h => h⟩) (fun _ => hT) h
set_option maxRecDepth 100000 in
/-- An operation that yields v in every world. -/
theorem takeQ {v : Value} (hro : F.round = none) (hab : ∀ w, ({ dst := d, op := op, type := t, pos := pos, after := after, guard := g } : Oper).about P w a.eval = none) (hi : ops[i]? = some { dst := d, op := op, type := t, pos := pos, after := after, guard := g })
    (hs : Region.noSelect ops = true) (hf : Region.free md ops listed i = true) (hr : (Region.ready md ops listed).contains i = true) (hl : ls.contains i = false)
    (hQ : ∀ c a w, Q (.panic c) (a.put d v) w → Q (.panic c) a w) (hw : Region.wanted { dst := d, op := op, type := t, pos := pos, after := after, guard := g } (yielded ops a.tmps) = true)
    (hy : ∀ w, (execOp a.eval { dst := d, op := op, type := t, pos := pos, after := after, guard := g }).run P w = .ok (.value v) w) (hT : fresh ls listed = true → T w)
    (h : wpAnyF F n P md ops Q ls T fuel (listed.setIfInBounds i true) (a.put d v) w) : wpAnyF F n P md ops Q ls T (fuel + 1) listed a w :=
  wpAnyF_first hro (fun _ => True) hl hi (Region.noSelect_spec hs) hQ fuel listed a w (Region.free_spec hi hf) (by simpa using hr) ⟨Or.inl ⟨hw, fun w _ => hy w⟩, hab⟩ trivial (.inl fun _ => trivial) hT h

set_option maxRecDepth 100000 in
/-- An operation whose guard says no. -/
theorem skipF (hro : F.round = none) (hab : ∀ w, ({ dst := d, op := op, type := t, pos := pos, after := after, guard := g } : Oper).about P w a.eval = none) (hi : ops[i]? = some { dst := d, op := op, type := t, pos := pos, after := after, guard := g })
    (hs : Region.noSelect ops = true) (hf : Region.free md ops listed i = true) (hr : (Region.ready md ops listed).contains i = true) (hl : ls.contains i = false)
    (hQ : ∀ c a w, Q (.panic c) (a.put d undef) w → Q (.panic c) a w) (hw : Region.wanted { dst := d, op := op, type := t, pos := pos, after := after, guard := g } (yielded ops a.tmps) = false) (hT : fresh ls listed = true → T w)
    (h : wpAnyF F n P md ops Q ls T fuel (listed.setIfInBounds i true) (a.put d undef) w) : wpAnyF F n P md ops Q ls T (fuel + 1) listed a w :=
  wpAnyF_first hro (fun _ => True) hl hi (Region.noSelect_spec hs) hQ fuel listed a w (Region.free_spec hi hf) (by simpa using hr) ⟨Or.inr ⟨hw, rfl⟩, hab⟩ trivial (.inl fun _ => trivial) hT h

set_option maxRecDepth 100000 in
/-- An operation that is all that may come up. -/
theorem oneF (hi : ops[i]? = some { dst := d, op := op, type := t, pos := pos, after := after, guard := g }) (hr : Region.ready md ops listed = [i])
    (hw : Region.wanted { dst := d, op := op, type := t, pos := pos, after := after, guard := g } (yielded ops a.tmps) = true)
    (h : ∀ K' : Act → World → Prop, Shut (∀ a w, (fresh ls (listed.setIfInBounds i true) = true → T w) → wpAnyF F n P md ops Q ls T fuel (listed.setIfInBounds i true) a w → K' a w) → ({ dst := d, op := op, type := t, pos := pos, after := after, guard := g } : Oper).wpIn F n P a w K' Q) : wpAnyF F n P md ops Q ls T (fuel + 1) listed a w := by
  refine ⟨fun h0 => (by rw [hr] at h0; cases h0), fun j hj => ?_⟩
  rw [hr] at hj
  simp only [List.mem_singleton] at hj
  subst hj
  exact wpOpIn_step hi (fun K' hK => by rw [if_pos hw]; exact h K' (fun a w hT hW => hK a w ⟨hT, hW⟩))
set_option maxRecDepth 100000 in
/-- A late one that is all that may come up. -/
theorem oneM (hl : fresh ls (listed.setIfInBounds i true) = false) (hi : ops[i]? = some { dst := d, op := op, type := t, pos := pos, after := after, guard := g }) (hr : Region.ready md ops listed = [i])
    (hw : Region.wanted { dst := d, op := op, type := t, pos := pos, after := after, guard := g } (yielded ops a.tmps) = true)
    (h : ∀ K' : Act → World → Prop, Shut (∀ a w, wpAnyF F n P md ops Q ls T fuel (listed.setIfInBounds i true) a w → K' a w) → ({ dst := d, op := op, type := t, pos := pos, after := after, guard := g } : Oper).wpIn F n P a w K' Q) : wpAnyF F n P md ops Q ls T (fuel + 1) listed a w :=
  oneF hi hr hw fun K' hK => h K' (fun a w hW => hK a w (fun h => by rw [hl] at h; cases h) hW)
set_option maxRecDepth 100000 in
theorem doneF {listed : Array Bool} {a : Act} {w : World} (hr : Region.ready md ops listed = []) (h : Q .normal a w) : ∀ fuel, wpAnyF F n P md ops Q ls T fuel listed a w
  | 0 => ⟨hr, h⟩
  | _ + 1 => ⟨fun _ => h, by rw [hr]; simp⟩
set_option maxRecDepth 100000 in
theorem wpIn_region_F {id : Nat} {a : Act} {w : World} (hm : P.follows .mixedOrders = true) (h : wpAnyF F n P .any ops Q ls T ops.size (Array.replicate ops.size false) a w.drew) : (Code.region id ops true).wpIn F n P Q a w :=
  wpIn_region_any hm (wpAnyIn_of_F _ _ _ _ h)
end
end

end Go.Proofs.YtdaimejlcfhfiaaGreatDoor
