/-
  A region that draws its order: what reads is taken first, as long as what it reads stands; that it stands is shown behind each operation but some late ones, which wait for those that read. Outside of a fence, and in a round. Conditions: those that each theorem names.
-/
import Derived.Test.YtgjipbhhdiacmaaDoorRegRound
import Derived.Test.YtgjipbhhdiacmaaDoorRegionInv
namespace Go.Proofs.YtgjipbhhdiacmaaDoor
open Go.RowKit Go.Shelf

/-- Each of the late operations waits for operation i. -/
def lateB (ops : Array Oper) (md : Region.Mode) (ls : List Nat) (i : Nat) : Bool := ls.all fun j => match ops[j]? with
  | some o => o.after.any fun e => Region.binds md e && e.on == i
  | none => false
/-- None of the late ones has come up. -/
def fresh (ls : List Nat) (listed : Array Bool) : Bool := ls.all fun l => !listed.getD l true
set_option maxRecDepth 100000 in
theorem fresh_set {ls : List Nat} {listed : Array Bool} {i : Nat} (hi : ls.contains i = false) : fresh ls (listed.setIfInBounds i true) = fresh ls listed := by
  unfold fresh
  have hn : ∀ l ∈ ls, i ≠ l := fun l hl e => by
    subst e
    have : ls.contains i = true := by simpa using hl
    rw [this] at hi; cases hi
  rw [Bool.eq_iff_iff, List.all_eq_true, List.all_eq_true]
  exact ⟨fun h l hl => by rw [← getD_set_ne true (hn l hl)]; exact h l hl, fun h l hl => by rw [getD_set_ne true (hn l hl)]; exact h l hl⟩
set_option maxRecDepth 100000 in
theorem fresh_of_set {ls : List Nat} {listed : Array Bool} {i : Nat} (h : fresh ls (listed.setIfInBounds i true) = true) : fresh ls listed = true := by
  unfold fresh at *
  rw [List.all_eq_true] at *
  intro l hl
  by_cases e : i = l
  · subst e
    have := h i hl
    rcases Nat.lt_or_ge i listed.size with h1 | h1
    · simp [h1] at this
    · simp [h1] at this
  · rw [← getD_set_ne true e]; exact h l hl

section
variable {ops : Array Oper} {md : Region.Mode} {ls : List Nat} {i : Nat} {listed : Array Bool}
/-- What can come up from here on without operation i. -/
def growR (ops : Array Oper) (md : Region.Mode) (i : Nat) (R : Array Bool) : Array Bool := (Array.range ops.size).map fun j => R.getD j true || (j != i && match ops[j]? with
  | some o => o.after.all fun e => !Region.binds md e || R.getD e.on true
  | none => false)
def reachR (ops : Array Oper) (md : Region.Mode) (i : Nat) : Nat → Array Bool → Array Bool
  | 0, R => R
  | k + 1, R => reachR ops md i k (growR ops md i R)
/-- None of the late ones can come up ahead of operation i. -/
def lateR (ops : Array Oper) (md : Region.Mode) (ls : List Nat) (i : Nat) (listed : Array Bool) : Bool :=
  let R := reachR ops md i ops.size listed
  ((List.range ops.size).all fun j => R.getD j true || j == i || !(match ops[j]? with
    | some o => o.after.all fun e => !Region.binds md e || R.getD e.on true
    | none => false)) &&
  (((List.range ops.size).all fun j => !listed.getD j true || R.getD j true) && (R.size == ops.size && (listed.size == ops.size && ls.all fun l => !R.getD l true)))
/-- The same, told by a set that is closed. -/
def LateAt (ops : Array Oper) (md : Region.Mode) (ls : List Nat) (i : Nat) (listed : Array Bool) : Prop :=
  ∃ R : Nat → Bool, (∀ j o, ops[j]? = some o → j ≠ i → (∀ e ∈ o.after, Region.binds md e = true → R e.on = true) → R j = true) ∧ (∀ j, listed.getD j true = true → R j = true) ∧ ∀ l ∈ ls, R l = false
set_option maxRecDepth 100000 in
theorem lateAt_of (h : lateR ops md ls i listed = true) : LateAt ops md ls i listed := by
  unfold lateR at h
  revert h
  generalize reachR ops md i ops.size listed = R
  intro h
  simp only [Bool.and_eq_true, List.all_eq_true, List.mem_range, beq_iff_eq, Bool.not_eq_true', Bool.or_eq_true] at h
  obtain ⟨h1, h2, h3, h4, h5⟩ := h
  refine ⟨fun j => R.getD j true, fun j o ho hne ha => ?_, fun j hj => ?_, h5⟩
  · have hlt : j < ops.size := (Array.getElem?_eq_some_iff.1 ho).1
    rcases h1 j hlt with (h | h) | h
    · exact h
    · exact absurd h hne
    · rw [ho] at h
      dsimp only at h
      have : (o.after.all fun e => !Region.binds md e || R.getD e.on true) = true := by
        rw [Array.all_eq_true']
        intro e he
        cases hb : Region.binds md e with
        | false => rfl
        | true => simp only [Bool.not_true, Bool.false_or]; exact ha e he hb
      rw [this] at h; cases h
  · rcases Nat.lt_or_ge j ops.size with hlt | hge
    · rcases h2 j hlt with h | h
      · rw [hj] at h; cases h
      · exact h
    · show R.getD j true = true
      simp [Array.getD, Nat.not_lt.2 (by omega : R.size ≤ j)]
def lateOk (ops : Array Oper) (md : Region.Mode) (ls : List Nat) (i : Nat) (listed : Array Bool) : Bool :=
  (ls.isEmpty || ((lateB ops md ls i && fresh ls listed) || lateR ops md ls i listed)) && !ls.contains i
set_option maxRecDepth 100000 in
theorem lateAt_ok (hu : listed.getD i true = false) (h : lateOk ops md ls i listed = true) : LateAt ops md ls i listed := by
  unfold lateOk at h
  simp only [Bool.and_eq_true, Bool.or_eq_true, Bool.not_eq_true'] at h
  obtain ⟨h | h | h, hc⟩ := h
  · have e : ls = [] := by simpa using h
    subst e
    exact ⟨fun _ => true, fun _ _ _ _ _ => rfl, fun _ _ => rfl, by simp⟩
  · obtain ⟨h1, h2⟩ := h
    refine ⟨fun k => !ls.contains k && k != i, fun j o ho hne ha => ?_, fun j hj => ?_, fun l hl => by simp [hl]⟩
    · by_cases hj : j ∈ ls
      · have h3 := List.all_eq_true.1 h1 j hj
        simp only [ho] at h3
        rw [Array.any_eq_true'] at h3
        obtain ⟨e, he, h4⟩ := h3
        simp only [Bool.and_eq_true, beq_iff_eq] at h4
        have := ha e he h4.1
        simp [h4.2] at this
      · simp [hj, hne]
    · have hne : j ≠ i := by
        rintro rfl
        rw [hu] at hj; cases hj
      by_cases hl : j ∈ ls
      · have := List.all_eq_true.1 h2 j hl
        rw [hj] at this; simp at this
      · simp [hl, hne]
  · exact lateAt_of h
set_option maxRecDepth 100000 in
theorem LateAt.fresh_ (h : LateAt ops md ls i listed) : fresh ls listed = true := by
  obtain ⟨R, _, h2, h3⟩ := h
  unfold fresh
  rw [List.all_eq_true]
  intro l hl
  cases hc : listed.getD l true with
  | false => rfl
  | true => have := h2 l hc; rw [h3 l hl] at this; cases this
set_option maxRecDepth 100000 in
theorem LateAt.step {j : Nat} {o : Oper} (h : LateAt ops md ls i listed) (ho : ops[j]? = some o) (hne : j ≠ i) (ha : ∀ e ∈ o.after, Region.binds md e = true → listed.getD e.on true = true) : LateAt ops md ls i (listed.setIfInBounds j true) := by
  obtain ⟨R, h1, h2, h3⟩ := h
  refine ⟨R, h1, fun k hk => ?_, h3⟩
  by_cases e : j = k
  · subst e; exact h1 _ o ho hne fun e he hb => h2 _ (ha e he hb)
  · rw [getD_set_ne true e] at hk; exact h2 k hk

end

section
variable {P : Program} {ops : Array Oper} {Q : Exit → Act → World → Prop} {md : Region.Mode} {ls : List Nat} {T : World → Prop}

/-- Whatever order is picked from here on; behind every operation T holds, as long as none of the late ones has come up. -/
def wpAnyT (P : Program) (md : Region.Mode) (ops : Array Oper) (Q : Exit → Act → World → Prop) (ls : List Nat) (T : World → Prop) : Nat → Array Bool → Act → World → Prop
  | 0, listed, a, w => Region.ready md ops listed = [] ∧ Q .normal a w
  | fuel + 1, listed, a, w =>
    (Region.ready md ops listed = [] → Q .normal a w) ∧
    ∀ i ∈ Region.ready md ops listed, wpOp P ops Q i (fun a' w' => (fresh ls (listed.setIfInBounds i true) = true → T w') ∧ wpAnyT P md ops Q ls T fuel (listed.setIfInBounds i true) a' w') a w

set_option maxRecDepth 100000 in
theorem wpAny_of_T : ∀ (fuel : Nat) (listed : Array Bool) (a : Act) (w : World), wpAnyT P md ops Q ls T fuel listed a w → wpAny P md ops Q fuel listed a w
  | 0, _, _, _, h => h
  | fuel + 1, _, _, _, h => ⟨h.1, fun i hi => wpOp_mono (fun a' w' h' => wpAny_of_T fuel _ a' w' h'.2) (h.2 i hi)⟩

set_option maxRecDepth 100000 in
theorem wpAnyT_first {i : Nat} {oi : Oper} {v : Value} (T' : World → Prop) (hil : ls.contains i = false) (hi : ops[i]? = some oi) (hsel : ∀ (j : Nat) (o : Oper) cs b, ops[j]? = some o → o.op ≠ .select cs b)
    (hQ : ∀ c a w, Q (.panic c) (a.put oi.dst v) w → Q (.panic c) a w) :
    ∀ (fuel : Nat) (listed : Array Bool) (a : Act) (w : World),
      (∀ j oj, ops[j]? = some oj → j ≠ i → listed.getD j true = false → (∀ e ∈ oj.after, Region.binds md e = true → e.on ≠ i) → oi.apart ops oj = true) →
      i ∈ Region.ready md ops listed → YieldsIf P ops T' oi v a → T' w → ((∀ w, T' w) ∨ (LateAt ops md ls i listed ∧ ∀ w, T w → T' w)) → (fresh ls listed = true → T w) →
      wpAnyT P md ops Q ls T fuel (listed.setIfInBounds i true) (a.put oi.dst v) w → wpAnyT P md ops Q ls T (fuel + 1) listed a w := by
  intro fuel
  induction fuel with
  | zero =>
    intro listed a w _ hr hy hS _ hS2 H
    refine ⟨fun h => (by rw [h] at hr; cases hr), fun j hj => ?_⟩
    by_cases hji : j = i
    · subst hji; exact hy.wpOp hi hS ⟨fun h => hS2 (fresh_of_set h), H⟩
    · have := ready_mono hj hji
      rw [H.1] at this
      cases this
  | succ fuel ih =>
    intro listed a w hfree hr hy hS hT' hS2 H
    refine ⟨fun h => (by rw [h] at hr; cases hr), fun j hj => ?_⟩
    by_cases hji : j = i
    · subst hji; exact hy.wpOp hi hS ⟨fun h => hS2 (fresh_of_set h), H⟩
    · have h1 := H.2 j (ready_mono hj hji)
      obtain ⟨hjun, oj, hoj, hall⟩ := mem_ready.1 hj
      have hnot : ∀ e ∈ oj.after, Region.binds md e = true → e.on ≠ i := fun e he hb heq => by
        have h1 := hall e he hb
        have h0 := (mem_ready.1 hr).1
        rw [heq] at h1
        rcases Nat.lt_or_ge i listed.size with h' | h'
        · simp [h'] at h0 h1; rw [h0] at h1; cases h1
        · simp [Array.getElem?_eq_none h'] at h1
      have h2 := wpOp_putIf hoj (hfree j oj hoj hji hjun hnot) (fun cs b => hsel i oi cs b hi) (fun cs b => hsel j oj cs b hoj) hQ hy h1
      have hfree' : ∀ k ok, ops[k]? = some ok → k ≠ i → (listed.setIfInBounds j true).getD k true = false →
          (∀ e ∈ ok.after, Region.binds md e = true → e.on ≠ i) → oi.apart ops ok = true := fun k ok hk hki hun hno => by
        refine hfree k ok hk hki ?_ hno
        by_cases hjk : j = k
        · subst hjk; exact hjun
        · rw [getD_set_ne true hjk] at hun; exact hun
      refine wpOp_mono (fun a' w' h3 => ?_) h2
      have hTw : fresh ls (listed.setIfInBounds j true) = true → T w' := fun h => h3.2.1 (by
        rw [Array.setIfInBounds_comm _ _ (Ne.symm hji), fresh_set hil]; exact h)
      have hT2 : (∀ w, T' w) ∨ (LateAt ops md ls i (listed.setIfInBounds j true) ∧ ∀ w, T w → T' w) := by
        rcases hT' with h | ⟨h1, h3⟩
        · exact .inl h
        · refine .inr ⟨h1.step hoj hji fun e he hb => ?_, h3⟩
          have h1 := hall e he hb
          rcases Nat.lt_or_ge e.on listed.size with h' | h'
          · simp [h'] at h1 ⊢; exact h1
          · simp [Array.getElem?_eq_none h'] at h1
      refine ⟨hTw, ih (listed.setIfInBounds j true) a' w' hfree' (ready_mono hr (Ne.symm hji)) h3.1 ?_ hT2 hTw ?_⟩
      · rcases hT2 with h | ⟨h4, h5⟩
        · exact h w'
        · exact h5 w' (hTw h4.fresh_)
      · rw [Array.setIfInBounds_comm _ _ hji]
        exact h3.2.2

section
variable {fuel i : Nat} {listed : Array Bool} {a : Act} {w : World} {d : Option Tmp} {op : Op} {t : TypeId} {pos : String} {after : Array Edge} {g : Option (Nat × Bool)}

set_option maxRecDepth 100000 in
/-- An operation that yields v in every world that meets T: the late ones wait for it. -/
theorem takeT {v : Value} (hi : ops[i]? = some { dst := d, op := op, type := t, pos := pos, after := after, guard := g })
    (hs : Region.noSelect ops = true) (hf : Region.free md ops listed i = true) (hr : (Region.ready md ops listed).contains i = true) (hl : lateOk ops md ls i listed = true)
    (hQ : ∀ c a w, Q (.panic c) (a.put d v) w → Q (.panic c) a w) (hw : Region.wanted { dst := d, op := op, type := t, pos := pos, after := after, guard := g } (yielded ops a.tmps) = true)
    (hy : ∀ w, T w → (execOp a.eval { dst := d, op := op, type := t, pos := pos, after := after, guard := g }).run P w = .ok (.value v) w) (hT : T w)
    (h : wpAnyT P md ops Q ls T fuel (listed.setIfInBounds i true) (a.put d v) w) : wpAnyT P md ops Q ls T (fuel + 1) listed a w :=
  wpAnyT_first T (by unfold lateOk at hl; simp only [Bool.and_eq_true, Bool.not_eq_true'] at hl; exact hl.2) hi (Region.noSelect_spec hs) hQ fuel listed a w (Region.free_spec hi hf) (by simpa using hr) (Or.inl ⟨hw, hy⟩) hT
    (.inr ⟨lateAt_ok (mem_ready.1 (by simpa using hr)).1 hl, fun _ h => h⟩) (fun _ => hT) h
set_option maxRecDepth 100000 in
/-- An operation that yields v in every world. -/
theorem takeP {v : Value} (hi : ops[i]? = some { dst := d, op := op, type := t, pos := pos, after := after, guard := g })
    (hs : Region.noSelect ops = true) (hf : Region.free md ops listed i = true) (hr : (Region.ready md ops listed).contains i = true) (hl : ls.contains i = false)
    (hQ : ∀ c a w, Q (.panic c) (a.put d v) w → Q (.panic c) a w) (hw : Region.wanted { dst := d, op := op, type := t, pos := pos, after := after, guard := g } (yielded ops a.tmps) = true)
    (hy : ∀ w, (execOp a.eval { dst := d, op := op, type := t, pos := pos, after := after, guard := g }).run P w = .ok (.value v) w) (hT : fresh ls listed = true → T w)
    (h : wpAnyT P md ops Q ls T fuel (listed.setIfInBounds i true) (a.put d v) w) : wpAnyT P md ops Q ls T (fuel + 1) listed a w :=
  wpAnyT_first (fun _ => True) hl hi (Region.noSelect_spec hs) hQ fuel listed a w (Region.free_spec hi hf) (by simpa using hr) (Or.inl ⟨hw, fun w _ => hy w⟩) trivial (.inl fun _ => trivial) hT h

set_option maxRecDepth 100000 in
/-- An operation whose guard says no. -/
theorem skipT (hi : ops[i]? = some { dst := d, op := op, type := t, pos := pos, after := after, guard := g })
    (hs : Region.noSelect ops = true) (hf : Region.free md ops listed i = true) (hr : (Region.ready md ops listed).contains i = true) (hl : ls.contains i = false)
    (hQ : ∀ c a w, Q (.panic c) (a.put d undef) w → Q (.panic c) a w) (hw : Region.wanted { dst := d, op := op, type := t, pos := pos, after := after, guard := g } (yielded ops a.tmps) = false) (hT : fresh ls listed = true → T w)
    (h : wpAnyT P md ops Q ls T fuel (listed.setIfInBounds i true) (a.put d undef) w) : wpAnyT P md ops Q ls T (fuel + 1) listed a w :=
  wpAnyT_first (fun _ => True) hl hi (Region.noSelect_spec hs) hQ fuel listed a w (Region.free_spec hi hf) (by simpa using hr) (Or.inr ⟨hw, rfl⟩) trivial (.inl fun _ => trivial) hT h

set_option maxRecDepth 100000 in
/-- An operation that is all that may come up. -/
theorem oneT (hi : ops[i]? = some { dst := d, op := op, type := t, pos := pos, after := after, guard := g }) (hr : Region.ready md ops listed = [i])
    (hw : Region.wanted { dst := d, op := op, type := t, pos := pos, after := after, guard := g } (yielded ops a.tmps) = true)
    (h : ∀ K' : Act → World → Prop, Shut (∀ a w, (fresh ls (listed.setIfInBounds i true) = true → T w) → wpAnyT P md ops Q ls T fuel (listed.setIfInBounds i true) a w → K' a w) → ({ dst := d, op := op, type := t, pos := pos, after := after, guard := g } : Oper).wp P a w K' Q) : wpAnyT P md ops Q ls T (fuel + 1) listed a w := by
  refine ⟨fun h0 => (by rw [hr] at h0; cases h0), fun j hj => ?_⟩
  rw [hr] at hj
  simp only [List.mem_singleton] at hj
  subst hj
  exact wpOp_step hi (fun K' hK => by rw [if_pos hw]; exact h K' (fun a w hT hW => hK a w ⟨hT, hW⟩))
set_option maxRecDepth 100000 in
/-- A late one that is all that may come up. -/
theorem oneL (hl : fresh ls (listed.setIfInBounds i true) = false) (hi : ops[i]? = some { dst := d, op := op, type := t, pos := pos, after := after, guard := g }) (hr : Region.ready md ops listed = [i])
    (hw : Region.wanted { dst := d, op := op, type := t, pos := pos, after := after, guard := g } (yielded ops a.tmps) = true)
    (h : ∀ K' : Act → World → Prop, Shut (∀ a w, wpAnyT P md ops Q ls T fuel (listed.setIfInBounds i true) a w → K' a w) → ({ dst := d, op := op, type := t, pos := pos, after := after, guard := g } : Oper).wp P a w K' Q) : wpAnyT P md ops Q ls T (fuel + 1) listed a w :=
  oneT hi hr hw fun K' hK => h K' (fun a w hW => hK a w (fun h => by rw [hl] at h; cases h) hW)
set_option maxRecDepth 100000 in
theorem doneT {listed : Array Bool} {a : Act} {w : World} (hr : Region.ready md ops listed = []) (h : Q .normal a w) : ∀ fuel, wpAnyT P md ops Q ls T fuel listed a w
  | 0 => ⟨hr, h⟩
  | _ + 1 => ⟨fun _ => h, by rw [hr]; simp⟩
set_option maxRecDepth 100000 in
theorem wpOp_at (hi : ops[i]? = some { dst := d, op := op, type := t, pos := pos, after := after, guard := g }) {K : Act → World → Prop}
    (hw : Region.wanted { dst := d, op := op, type := t, pos := pos, after := after, guard := g } (yielded ops a.tmps) = true)
    (h : ({ dst := d, op := op, type := t, pos := pos, after := after, guard := g } : Oper).wp P a w K Q) : wpOp P ops Q i K a w := by
  unfold wpOp
  rw [hi]
  dsimp only
  rw [if_pos hw]
  exact .inl h
set_option maxRecDepth 100000 in
/-- What is left are operations each of which leaves the frame, and T, as they are: whatever the order. -/
theorem wpAnyT_steady (ds : List Nat) (step : ∀ i ∈ ds, ∀ w K, T w → (∀ w', T w' → K a w') → wpOp P ops Q i K a w) (fin : ∀ w, T w → Q .normal a w) :
    ∀ (fuel : Nat) (listed : Array Bool) (w : World), (∀ i, i < ops.size → listed.getD i true = false → i ∈ ds) → listed.size = ops.size → listed.toList.count false ≤ fuel → T w → wpAnyT P md ops Q ls T fuel listed a w := by
  intro fuel
  induction fuel with
  | zero =>
    intro listed w _ hs hc hT
    have hall := count_zero_all (Nat.le_zero.1 hc)
    refine ⟨?_, fin w hT⟩
    refine List.eq_nil_iff_forall_not_mem.2 fun i hm => ?_
    obtain ⟨h1, o, ho, _⟩ := mem_ready.1 hm
    have hlt : i < ops.size := (Array.getElem?_eq_some_iff.1 ho).1
    have h2 := hall i (by simp; omega)
    have : i < listed.size := by omega
    simp [this] at h1 h2
    rw [h1] at h2; cases h2
  | succ fuel ih =>
    intro listed w hd hs hc hT
    refine ⟨fun _ => fin w hT, fun i hi => ?_⟩
    obtain ⟨h1, o, ho, _⟩ := mem_ready.1 hi
    have hlt : i < ops.size := (Array.getElem?_eq_some_iff.1 ho).1
    refine step i (hd i hlt h1) w _ hT (fun w' hT' => ⟨fun _ => hT', ih (listed.setIfInBounds i true) w' ?_ (by simpa using hs) ?_ hT'⟩)
    · intro j hj hu
      by_cases e : i = j
      · subst e; exact hd i hj h1
      · rw [getD_set_ne true e] at hu; exact hd j hj hu
    · have := count_set h1
      omega
set_option maxRecDepth 100000 in
theorem unlisted_in {ops : Array Oper} {listed : Array Bool} {ds : List Nat} (h : ((List.range ops.size).all fun i => listed.getD i true || ds.contains i) = true) : ∀ i, i < ops.size → listed.getD i true = false → i ∈ ds := by
  intro i hi hu
  have := List.all_eq_true.1 h i (List.mem_range.2 hi)
  rw [hu, Bool.false_or] at this
  simpa using this
set_option maxRecDepth 100000 in
theorem wp_region_T {id : Nat} {a : Act} {w : World} (hm : P.follows .mixedOrders = true) (h : wpAnyT P .any ops Q ls T ops.size (Array.replicate ops.size false) a w.drew) : (Code.region id ops true).wp P Q a w :=
  wp_region_any hm (wpAny_of_T _ _ _ _ h)
end
end

section
variable {P : Program} {ops : Array Oper} {Q : Exit → Act → World → Prop} {l m : Nat}
/-- No operation that defers a call. -/
def noDeferT (ops : Array Oper) : Bool := ops.all fun o => match o.op with | .defer _ => false | _ => true
set_option maxRecDepth 100000 in
theorem noDeferT_at {i : Nat} {o : Oper} (h : noDeferT ops = true) (ho : ops[i]? = some o) : ∀ c, o.op ≠ .defer c := by
  intro c hc
  have := Array.all_eq_true_iff_forall_mem.1 h o (Array.mem_of_getElem? ho)
  simp [hc] at this
set_option maxRecDepth 100000 in
theorem round_of_wp {o : Oper} {a : Act} {w : World} {K : Act → World → Prop} (hd : ∀ c, o.op ≠ .defer c) (h : o.wp P a w K Q) : o.wpIn (Fence.wide.inRound l) m P a w K Q := by
  refine ⟨fun _ _ => trivial, ?_⟩
  rw [Oper.semAt_eq _ _ _ hd]
  unfold Oper.wp at h
  generalize (execOp a.eval o).run P w = r at h
  cases r with
  | ok x w' =>
    cases x with
    | value v => exact h
    | skip => exact h
    | defer d => exact h
    | enter f args => exact ⟨fun h => (by cases h), callsIn_wide.2 h⟩
    | row r args => exact ⟨fun h => (by cases h), fun c cs _ => let ⟨v, w', r, s⟩ := h c cs; ⟨v, w', r, stepsIn_wide.2 s⟩⟩
    | _ => exact h.elim
  | halt x w' => cases x <;> exact h
set_option maxRecDepth 100000 in
theorem roundOp {i : Nat} {K : Act → World → Prop} {a : Act} {w : World} (hd : noDeferT ops = true) (hL : ∀ a w, ¬ Q .outgrown a w) (h : wpOp P ops Q i K a w) : wpOpIn (Fence.wide.inRound l) m P ops Q i K a w := by
  unfold wpOp at h
  unfold wpOpIn
  cases ho : ops[i]? with
  | none => rw [ho] at h; exact h
  | some o =>
    rw [ho] at h
    dsimp only at h ⊢
    split
    · rename_i hw
      rw [if_pos hw] at h
      rcases h with h | h
      · exact round_of_wp (noDeferT_at hd ho) h
      · exact h.2.elim fun a h => h.elim fun w h => (hL a w h).elim
    · rename_i hw
      rw [if_neg hw] at h
      exact ⟨fun _ _ => trivial, h⟩
set_option maxRecDepth 100000 in
theorem roundAny (hd : noDeferT ops = true) (hL : ∀ a w, ¬ Q .outgrown a w) : ∀ (fuel : Nat) (listed : Array Bool) (a : Act) (w : World), wpAny P .any ops Q fuel listed a w → wpAnyIn (Fence.wide.inRound l) m P .any ops Q fuel listed a w
  | 0, _, _, _, h => h
  | fuel + 1, _, _, _, h => ⟨h.1, fun i hi => wpOpIn_mono (fun a' w' h' => roundAny hd hL fuel _ a' w' h') (roundOp hd hL (h.2 i hi))⟩
set_option maxRecDepth 100000 in
/-- Such a region in a round. -/
theorem wpIn_region_T {id : Nat} {a : Act} {w : World} {ls : List Nat} {T : World → Prop} (hm : P.follows .mixedOrders = true) (hd : noDeferT ops = true) (hL : ∀ a w, ¬ Q .outgrown a w)
    (h : wpAnyT P .any ops Q ls T ops.size (Array.replicate ops.size false) a w.drew) : (Code.region id ops true).wpIn (Fence.wide.inRound l) m P Q a w :=
  wpIn_region_any hm (roundAny hd hL _ _ _ _ (wpAny_of_T _ _ _ _ h))
end

end Go.Proofs.YtgjipbhhdiacmaaDoor
