/-
  Texts that the walk of a statement over brains leans on, joined (RegT, RegF, BoxW, CfMath, BrMath, BrPlain). Conditions: those that each theorem names.
-/
import Derived.Test.YtdaimejlcfhfiaaGreatDoorKQ
import Derived.Test.YtdaimejlcfhfiaaGreatDoorK0
import Derived.OrdersIn
set_option maxRecDepth 100000

namespace Go.Proofs.YtdaimejlcfhfiaaGreatDoor
open Go.RowKit Go.Shelf

/-- Each of the late operations waits for operation i. -/
def lateB (ops : Array Oper) (md : Region.Mode) (ls : List Nat) (i : Nat) : Bool := ls.all fun j => match ops[j]? with
  | some o => o.after.any fun e => Region.binds md e && e.on == i
  | none => false
/-- None of the late ones has come up. -/
def fresh (ls : List Nat) (listed : Array Bool) : Bool := ls.all fun l => !listed.getD l true
theorem fresh_set {ls : List Nat} {listed : Array Bool} {i : Nat} (hi : ls.contains i = false) : fresh ls (listed.setIfInBounds i true) = fresh ls listed := by
  unfold fresh
  have hn : ∀ l ∈ ls, i ≠ l := fun l hl e => by
    subst e
    have : ls.contains i = true := by simpa using hl
    rw [this] at hi; cases hi
  rw [Bool.eq_iff_iff, List.all_eq_true, List.all_eq_true]
  exact ⟨fun h l hl => by rw [← getD_set_ne true (hn l hl)]; exact h l hl, fun h l hl => by rw [getD_set_ne true (hn l hl)]; exact h l hl⟩
theorem fresh_of_set {ls : List Nat} {listed : Array Bool} {i : Nat} (h : fresh ls (listed.setIfInBounds i true) = true) : fresh ls listed = true := by
  unfold fresh at *
  rw [List.all_eq_true] at *
  intro l hl
  by_cases e : i = l
  · subst e
    have := h i hl
    rcases Nat.lt_or_ge i listed.size with h1 | h1
    · simp [h1] at this
    · simp [h1] at this
  · rw [← getD_set_ne true e]; exact h l hl

section
variable {ops : Array Oper} {md : Region.Mode} {ls : List Nat} {i : Nat} {listed : Array Bool}
/-- What can come up from here on without operation i. -/
def growR (ops : Array Oper) (md : Region.Mode) (i : Nat) (R : Array Bool) : Array Bool := (Array.range ops.size).map fun j => R.getD j true || (j != i && match ops[j]? with
  | some o => o.after.all fun e => !Region.binds md e || R.getD e.on true
  | none => false)
def reachR (ops : Array Oper) (md : Region.Mode) (i : Nat) : Nat → Array Bool → Array Bool
  | 0, R => R
  | k + 1, R => reachR ops md i k (growR ops md i R)
/-- None of the late ones can come up ahead of operation i. -/
def lateR (ops : Array Oper) (md : Region.Mode) (ls : List Nat) (i : Nat) (listed : Array Bool) : Bool :=
  let R := reachR ops md i ops.size listed
  ((List.range ops.size).all fun j => R.getD j true || j == i || !(match ops[j]? with
    | some o => o.after.all fun e => !Region.binds md e || R.getD e.on true
    | none => false)) &&
  (((List.range ops.size).all fun j => !listed.getD j true || R.getD j true) && (R.size == ops.size && (listed.size == ops.size && ls.all fun l => !R.getD l true)))
/-- The same, told by a set that is closed. -/
def LateAt (ops : Array Oper) (md : Region.Mode) (ls : List Nat) (i : Nat) (listed : Array Bool) : Prop :=
  ∃ R : Nat → Bool, (∀ j o, ops[j]? = some o → j ≠ i → (∀ e ∈ o.after, Region.binds md e = true → R e.on = true) → R j = true) ∧ (∀ j, listed.getD j true = true → R j = true) ∧ ∀ l ∈ ls, R l = false
theorem lateAt_of (h : lateR ops md ls i listed = true) : LateAt ops md ls i listed := by
  unfold lateR at h
  revert h
  generalize reachR ops md i ops.size listed = R
  intro h
  simp only [Bool.and_eq_true, List.all_eq_true, List.mem_range, beq_iff_eq, Bool.not_eq_true', Bool.or_eq_true] at h
  obtain ⟨h1, h2, h3, h4, h5⟩ := h
  refine ⟨fun j => R.getD j true, fun j o ho hne ha => ?_, fun j hj => ?_, h5⟩
  · have hlt : j < ops.size := (Array.getElem?_eq_some_iff.1 ho).1
    rcases h1 j hlt with (h | h) | h
    · exact h
    · exact absurd h hne
    · rw [ho] at h
      dsimp only at h
      have : (o.after.all fun e => !Region.binds md e || R.getD e.on true) = true := by
        rw [Array.all_eq_true']
        intro e he
        cases hb : Region.binds md e with
        | false => rfl
        | true => simp only [Bool.not_true, Bool.false_or]; exact ha e he hb
      rw [this] at h; cases h
  · rcases Nat.lt_or_ge j ops.size with hlt | hge
    · rcases h2 j hlt with h | h
      · rw [hj] at h; cases h
      · exact h
    · show R.getD j true = true
      simp [Array.getD, Nat.not_lt.2 (by omega : R.size ≤ j)]
def lateOk (ops : Array Oper) (md : Region.Mode) (ls : List Nat) (i : Nat) (listed : Array Bool) : Bool :=
  (ls.isEmpty || ((lateB ops md ls i && fresh ls listed) || lateR ops md ls i listed)) && !ls.contains i
theorem lateAt_ok (hu : listed.getD i true = false) (h : lateOk ops md ls i listed = true) : LateAt ops md ls i listed := by
  unfold lateOk at h
  simp only [Bool.and_eq_true, Bool.or_eq_true, Bool.not_eq_true'] at h
  obtain ⟨h | h | h, hc⟩ := h
  · have e : ls = [] := by simpa using h
    subst e
    exact ⟨fun _ => true, fun _ _ _ _ _ => rfl, fun _ _ => rfl, by simp⟩
  · obtain ⟨h1, h2⟩ := h
    refine ⟨fun k => !ls.contains k && k != i, fun j o ho hne ha => ?_, fun j hj => ?_, fun l hl => by simp [hl]⟩
    · by_cases hj : j ∈ ls
      · have h3 := List.all_eq_true.1 h1 j hj
        simp only [ho] at h3
        rw [Array.any_eq_true'] at h3
        obtain ⟨e, he, h4⟩ := h3
        simp only [Bool.and_eq_true, beq_iff_eq] at h4
        have := ha e he h4.1
        simp [h4.2] at this
      · simp [hj, hne]
    · have hne : j ≠ i := by
        rintro rfl
        rw [hu] at hj; cases hj
      by_cases hl : j ∈ ls
      · have := List.all_eq_true.1 h2 j hl
        rw [hj] at this; simp at this
      · simp [hl, hne]
  · exact lateAt_of h
theorem LateAt.fresh_ (h : LateAt ops md ls i listed) : fresh ls listed = true := by
  obtain ⟨R, _, h2, h3⟩ := h
  unfold fresh
  rw [List.all_eq_true]
  intro l hl
  cases hc : listed.getD l true with
  | false => rfl
  | true => have := h2 l hc; rw [h3 l hl] at this; cases this
theorem LateAt.step {j : Nat} {o : Oper} (h : LateAt ops md ls i listed) (ho : ops[j]? = some o) (hne : j ≠ i) (ha : ∀ e ∈ o.after, Region.binds md e = true → listed.getD e.on true = true) : LateAt ops md ls i (listed.setIfInBounds j true) := by
  obtain ⟨R, h1, h2, h3⟩ := h
  refine ⟨R, h1, fun k hk => ?_, h3⟩
  by_cases e : j = k
  · subst e; exact h1 _ o ho hne fun e he hb => h2 _ (ha e he hb)
  · rw [getD_set_ne true e] at hk; exact h2 k hk

end

section
variable {P : Program} {ops : Array Oper} {Q : Exit → Act → World → Prop} {md : Region.Mode} {ls : List Nat} {T : World → Prop}

/-- Whatever order is picked from here on; behind every operation T holds, as long as none of the late ones has come up. -/
def wpAnyT (P : Program) (md : Region.Mode) (ops : Array Oper) (Q : Exit → Act → World → Prop) (ls : List Nat) (T : World → Prop) : Nat → Array Bool → Act → World → Prop
  | 0, listed, a, w => Region.ready md ops listed = [] ∧ Q .normal a w
  | fuel + 1, listed, a, w =>
    (Region.ready md ops listed = [] → Q .normal a w) ∧
    ∀ i ∈ Region.ready md ops listed, wpOp P ops Q i (fun a' w' => (fresh ls (listed.setIfInBounds i true) = true → T w') ∧ wpAnyT P md ops Q ls T fuel (listed.setIfInBounds i true) a' w') a w

theorem wpAny_of_T : ∀ (fuel : Nat) (listed : Array Bool) (a : Act) (w : World), wpAnyT P md ops Q ls T fuel listed a w → wpAny P md ops Q fuel listed a w
  | 0, _, _, _, h => h
  | fuel + 1, _, _, _, h => ⟨h.1, fun i hi => wpOp_mono (fun a' w' h' => wpAny_of_T fuel _ a' w' h'.2) (h.2 i hi)⟩

theorem wpAnyT_first {i : Nat} {oi : Oper} {v : Value} (T' : World → Prop) (hil : ls.contains i = false) (hi : ops[i]? = some oi) (hsel : ∀ (j : Nat) (o : Oper) cs b, ops[j]? = some o → o.op ≠ .select cs b)
    (hQ : ∀ c a w, Q (.panic c) (a.put oi.dst v) w → Q (.panic c) a w) :
    ∀ (fuel : Nat) (listed : Array Bool) (a : Act) (w : World),
      (∀ j oj, ops[j]? = some oj → j ≠ i → listed.getD j true = false → (∀ e ∈ oj.after, Region.binds md e = true → e.on ≠ i) → oi.apart ops oj = true) →
      i ∈ Region.ready md ops listed → YieldsIf P ops T' oi v a → T' w → ((∀ w, T' w) ∨ (LateAt ops md ls i listed ∧ ∀ w, T w → T' w)) → (fresh ls listed = true → T w) →
      wpAnyT P md ops Q ls T fuel (listed.setIfInBounds i true) (a.put oi.dst v) w → wpAnyT P md ops Q ls T (fuel + 1) listed a w := by
  intro fuel
  induction fuel with
  | zero =>
    intro listed a w _ hr hy hS _ hS2 H
    refine ⟨fun h => (by rw [h] at hr; cases hr), fun j hj => ?_⟩
    by_cases hji : j = i
    · subst hji; exact hy.wpOp hi hS ⟨fun h => hS2 (fresh_of_set h), H⟩
    · have := ready_mono hj hji
      rw [H.1] at this
      cases this
  | succ fuel ih =>
    intro listed a w hfree hr hy hS hT' hS2 H
    refine ⟨fun h => (by rw [h] at hr; cases hr), fun j hj => ?_⟩
    by_cases hji : j = i
    · subst hji; exact hy.wpOp hi hS ⟨fun h => hS2 (fresh_of_set h), H⟩
    · have h1 := H.2 j (ready_mono hj hji)
      obtain ⟨hjun, oj, hoj, hall⟩ := mem_ready.1 hj
      have hnot : ∀ e ∈ oj.after, Region.binds md e = true → e.on ≠ i := fun e he hb heq => by
        have h1 := hall e he hb
        have h0 := (mem_ready.1 hr).1
        rw [heq] at h1
        rcases Nat.lt_or_ge i listed.size with h' | h'
        · simp [h'] at h0 h1; rw [h0] at h1; cases h1
        · simp [Array.getElem?_eq_none h'] at h1
      have h2 := wpOp_putIf hoj (hfree j oj hoj hji hjun hnot) (fun cs b => hsel i oi cs b hi) (fun cs b => hsel j oj cs b hoj) hQ hy h1
      have hfree' : ∀ k ok, ops[k]? = some ok → k ≠ i → (listed.setIfInBounds j true).getD k true = false →
          (∀ e ∈ ok.after, Region.binds md e = true → e.on ≠ i) → oi.apart ops ok = true := fun k ok hk hki hun hno => by
        refine hfree k ok hk hki ?_ hno
        by_cases hjk : j = k
        · subst hjk; exact hjun
        · rw [getD_set_ne true hjk] at hun; exact hun
      refine wpOp_mono (fun a' w' h3 => ?_) h2
      have hTw : fresh ls (listed.setIfInBounds j true) = true → T w' := fun h => h3.2.1 (by
        rw [Array.setIfInBounds_comm _ _ (Ne.symm hji), fresh_set hil]; exact h)
      have hT2 : (∀ w, T' w) ∨ (LateAt ops md ls i (listed.setIfInBounds j true) ∧ ∀ w, T w → T' w) := by
        rcases hT' with h | ⟨h1, h3⟩
        · exact .inl h
        · refine .inr ⟨h1.step hoj hji fun e he hb => ?_, h3⟩
          have h1 := hall e he hb
          rcases Nat.lt_or_ge e.on listed.size with h' | h'
          · simp [h'] at h1 ⊢; exact h1
          · simp [Array.getElem?_eq_none h'] at h1
      refine ⟨hTw, ih (listed.setIfInBounds j true) a' w' hfree' (ready_mono hr (Ne.symm hji)) h3.1 ?_ hT2 hTw ?_⟩
      · rcases hT2 with h | ⟨h4, h5⟩
        · exact h w'
        · exact h5 w' (hTw h4.fresh_)
      · rw [Array.setIfInBounds_comm _ _ hji]
        exact h3.2.2

section
variable {fuel i : Nat} {listed : Array Bool} {a : Act} {w : World} {d : Option Tmp} {op : Op} {t : TypeId} {pos : String} {after : Array Edge} {g : Option (Nat × Bool)}

/-- An operation that yields v in every world that meets T: the late ones wait for it. -/
theorem takeT {v : Value} (hi : ops[i]? = some { dst := d, op := op, type := t, pos := pos, after := after, guard := g })
    (hs : Region.noSelect ops = true) (hf : Region.free md ops listed i = true) (hr : (Region.ready md ops listed).contains i = true) (hl : lateOk ops md ls i listed = true)
    (hQ : ∀ c a w, Q (.panic c) (a.put d v) w → Q (.panic c) a w) (hw : Region.wanted { dst := d, op := op, type := t, pos := pos, after := after, guard := g } (yielded ops a.tmps) = true)
    (hy : ∀ w, T w → (execOp a.eval { dst := d, op := op, type := t, pos := pos, after := after, guard := g }).run P w = .ok (.value v) w) (hT : T w)
    (h : wpAnyT P md ops Q ls T fuel (listed.setIfInBounds i true) (a.put d v) w) : wpAnyT P md ops Q ls T (fuel + 1) listed a w :=
  wpAnyT_first T (by unfold lateOk at hl; simp only [Bool.and_eq_true, Bool.not_eq_true'] at hl; exact hl.2) hi (Region.noSelect_spec hs) hQ fuel listed a w (Region.free_spec hi hf) (by simpa using hr) (Or.inl ⟨hw, hy⟩) hT
    (.inr ⟨lateAt_ok (mem_ready.1 (by simpa using hr)).1 hl, fun _ h => h⟩) (fun _ => hT) h
/-- An operation that yields v in every world. -/
theorem takeP {v : Value} (hi : ops[i]? = some { dst := d, op := op, type := t, pos := pos, after := after, guard := g })
    (hs : Region.noSelect ops = true) (hf : Region.free md ops listed i = true) (hr : (Region.ready md ops listed).contains i = true) (hl : ls.contains i = false)
    (hQ : ∀ c a w, Q (.panic c) (a.put d v) w → Q (.panic c) a w) (hw : Region.wanted { dst := d, op := op, type := t, pos := pos, after := after, guard := g } (yielded ops a.tmps) = true)
    (hy : ∀ w, (execOp a.eval { dst := d, op := op, type := t, pos := pos, after := after, guard := g }).run P w = .ok (.value v) w) (hT : fresh ls listed = true → T w)
    (h : wpAnyT P md ops Q ls T fuel (listed.setIfInBounds i true) (a.put d v) w) : wpAnyT P md ops Q ls T (fuel + 1) listed a w :=
  wpAnyT_first (fun _ => True) hl hi (Region.noSelect_spec hs) hQ fuel listed a w (Region.free_spec hi hf) (by simpa using hr) (Or.inl ⟨hw, fun w _ => hy w⟩) trivial (.inl fun _ => trivial) hT h

/-- An operation whose guard says no. -/
theorem skipT (hi : ops[i]? = some { dst := d, op := op, type := t, pos := pos, after := after, guard := g })
    (hs : Region.noSelect ops = true) (hf : Region.free md ops listed i = true) (hr : (Region.ready md ops listed).contains i = true) (hl : ls.contains i = false)
    (hQ : ∀ c a w, Q (.panic c) (a.put d undef) w → Q (.panic c) a w) (hw : Region.wanted { dst := d, op := op, type := t, pos := pos, after := after, guard := g } (yielded ops a.tmps) = false) (hT : fresh ls listed = true → T w)
    (h : wpAnyT P md ops Q ls T fuel (listed.setIfInBounds i true) (a.put d undef) w) : wpAnyT P md ops Q ls T (fuel + 1) listed a w :=
  wpAnyT_first (fun _ => True) hl hi (Region.noSelect_spec hs) hQ fuel listed a w (Region.free_spec hi hf) (by simpa using hr) (Or.inr ⟨hw, rfl⟩) trivial (.inl fun _ => trivial) hT h
theorem kT (i : Nat) (v : Value) (hi : ops[i]? = some { dst := d, op := op, type := t, pos := pos, after := after, guard := g })
    (hy : ∀ w, T w → (execOp a.eval { dst := d, op := op, type := t, pos := pos, after := after, guard := g }).run P w = .ok (.value v) w) (hT : T w)
    (h : wpAnyT P md ops Q ls T fuel (listed.setIfInBounds i true) (a.put d v) w)
    (hs : Region.noSelect ops = true := by kernel_rfl) (hf : Region.free md ops listed i = true := by kernel_rfl) (hr : (Region.ready md ops listed).contains i = true := by kernel_rfl) (hl : lateOk ops md ls i listed = true := by kernel_rfl)
    (hQ : ∀ c a w, Q (.panic c) (a.put d v) w → Q (.panic c) a w := by exact fun _ _ _ h => h) (hw : Region.wanted { dst := d, op := op, type := t, pos := pos, after := after, guard := g } (yielded ops a.tmps) = true := by rfl) : wpAnyT P md ops Q ls T (fuel + 1) listed a w :=
  takeT (i := i) (v := v) hi hs hf hr hl hQ hw hy hT h
theorem kP (i : Nat) (v : Value) (hi : ops[i]? = some { dst := d, op := op, type := t, pos := pos, after := after, guard := g })
    (hy : ∀ w, (execOp a.eval { dst := d, op := op, type := t, pos := pos, after := after, guard := g }).run P w = .ok (.value v) w) (hT : fresh ls listed = true → T w)
    (h : wpAnyT P md ops Q ls T fuel (listed.setIfInBounds i true) (a.put d v) w)
    (hs : Region.noSelect ops = true := by kernel_rfl) (hf : Region.free md ops listed i = true := by kernel_rfl) (hr : (Region.ready md ops listed).contains i = true := by kernel_rfl) (hl : ls.contains i = false := by kernel_rfl)
    (hQ : ∀ c a w, Q (.panic c) (a.put d v) w → Q (.panic c) a w := by exact fun _ _ _ h => h) (hw : Region.wanted { dst := d, op := op, type := t, pos := pos, after := after, guard := g } (yielded ops a.tmps) = true := by rfl) : wpAnyT P md ops Q ls T (fuel + 1) listed a w :=
  takeP (i := i) (v := v) hi hs hf hr hl hQ hw hy hT h
theorem kS (i : Nat) (hi : ops[i]? = some { dst := d, op := op, type := t, pos := pos, after := after, guard := g })
    (hT : fresh ls listed = true → T w)
    (h : wpAnyT P md ops Q ls T fuel (listed.setIfInBounds i true) (a.put d undef) w)
    (hs : Region.noSelect ops = true := by kernel_rfl) (hf : Region.free md ops listed i = true := by kernel_rfl) (hr : (Region.ready md ops listed).contains i = true := by kernel_rfl) (hl : ls.contains i = false := by kernel_rfl)
    (hQ : ∀ c a w, Q (.panic c) (a.put d undef) w → Q (.panic c) a w := by exact fun _ _ _ h => h) (hw : Region.wanted { dst := d, op := op, type := t, pos := pos, after := after, guard := g } (yielded ops a.tmps) = false := by rfl) : wpAnyT P md ops Q ls T (fuel + 1) listed a w :=
  skipT (i := i) hi hs hf hr hl hQ hw hT h

/-- An operation that is all that may come up. -/
theorem oneT (hi : ops[i]? = some { dst := d, op := op, type := t, pos := pos, after := after, guard := g }) (hr : Region.ready md ops listed = [i])
    (hw : Region.wanted { dst := d, op := op, type := t, pos := pos, after := after, guard := g } (yielded ops a.tmps) = true)
    (h : ∀ K' : Act → World → Prop, Shut (∀ a w, (fresh ls (listed.setIfInBounds i true) = true → T w) → wpAnyT P md ops Q ls T fuel (listed.setIfInBounds i true) a w → K' a w) → ({ dst := d, op := op, type := t, pos := pos, after := after, guard := g } : Oper).wp P a w K' Q) : wpAnyT P md ops Q ls T (fuel + 1) listed a w := by
  refine ⟨fun h0 => (by rw [hr] at h0; cases h0), fun j hj => ?_⟩
  rw [hr] at hj
  simp only [List.mem_singleton] at hj
  subst hj
  exact wpOp_step hi (fun K' hK => by rw [if_pos hw]; exact h K' (fun a w hT hW => hK a w ⟨hT, hW⟩))
/-- A late one that is all that may come up. -/
theorem oneL (hl : fresh ls (listed.setIfInBounds i true) = false) (hi : ops[i]? = some { dst := d, op := op, type := t, pos := pos, after := after, guard := g }) (hr : Region.ready md ops listed = [i])
    (hw : Region.wanted { dst := d, op := op, type := t, pos := pos, after := after, guard := g } (yielded ops a.tmps) = true)
    (h : ∀ K' : Act → World → Prop, Shut (∀ a w, wpAnyT P md ops Q ls T fuel (listed.setIfInBounds i true) a w → K' a w) → ({ dst := d, op := op, type := t, pos := pos, after := after, guard := g } : Oper).wp P a w K' Q) : wpAnyT P md ops Q ls T (fuel + 1) listed a w :=
  oneT hi hr hw fun K' hK => h K' (fun a w hW => hK a w (fun h => by rw [hl] at h; cases h) hW)
theorem doneT {listed : Array Bool} {a : Act} {w : World} (hr : Region.ready md ops listed = []) (h : Q .normal a w) : ∀ fuel, wpAnyT P md ops Q ls T fuel listed a w
  | 0 => ⟨hr, h⟩
  | _ + 1 => ⟨fun _ => h, by rw [hr]; simp⟩
theorem wp_region_T {id : Nat} {a : Act} {w : World} (hm : P.follows .mixedOrders = true) (h : wpAnyT P .any ops Q ls T ops.size (Array.replicate ops.size false) a w.drew) : (Code.region id ops true).wp P Q a w :=
  wp_region_any hm (wpAny_of_T _ _ _ _ h)
end
end

section
variable {P : Program} {ops : Array Oper} {Q : Exit → Act → World → Prop} {l m : Nat}
end

end Go.Proofs.YtdaimejlcfhfiaaGreatDoor

namespace Go.Proofs.YtdaimejlcfhfiaaGreatDoor
open Go.RowKit Go.Shelf

section
variable {F : Fence} {n : Nat} {P : Program} {ops : Array Oper} {Q : Exit → Act → World → Prop} {md : Region.Mode} {ls : List Nat} {T : World → Prop}

/-- It yields v in every world that meets S, and makes no call. -/
def YieldsF (P : Program) (ops : Array Oper) (S : World → Prop) (o : Oper) (v : Value) (a : Act) : Prop := YieldsIf P ops S o v a ∧ ∀ w, o.about P w a.eval = none
theorem YieldsF.wpOpIn {S : World → Prop} {i : Nat} {o : Oper} {v : Value} {a : Act} (hro : F.round = none) (hi : ops[i]? = some o) (hy : YieldsF P ops S o v a) {K : Act → World → Prop} {w : World} (hS : S w) (h : K (a.put o.dst v) w) : wpOpIn F n P ops Q i K a w := by
  unfold Go.wpOpIn
  simp only [hi]
  have hab : ∀ f, o.about P w a.eval = some f → F.fn f := fun f hf => by rw [hy.2 w] at hf; cases hf
  rcases hy.1 with ⟨hw, hv⟩ | ⟨hw, rfl⟩
  · simp only [hw, if_true, Oper.wpIn, hro, Oper.semAt_none, hv w hS, Oper.uponIn]; exact ⟨hab, h⟩
  · simp only [hw, Bool.false_eq_true, if_false]; exact ⟨hab, h⟩
theorem YieldsF.of_same {S : World → Prop} {o : Oper} {v : Value} {a a' : Act} (hy : YieldsF P ops S o v a) (he : execOp a'.eval o = execOp a.eval o)
    (hw : Region.wanted o (yielded ops a'.tmps) = Region.wanted o (yielded ops a.tmps)) (hb : ∀ w, o.about P w a'.eval = o.about P w a.eval) : YieldsF P ops S o v a' :=
  ⟨hy.1.of_same he hw, fun w => by rw [hb w]; exact hy.2 w⟩
theorem wpOpIn_putF {S : World → Prop} {j : Nat} {oi oj : Oper} {v : Value} (hro : F.round = none) (hj : ops[j]? = some oj) (hap : oi.apart ops oj = true)
    (hsi : ∀ cs b, oi.op ≠ .select cs b) (hsj : ∀ cs b, oj.op ≠ .select cs b)
    (hQ : ∀ c a w, Q (.panic c) (a.put oi.dst v) w → Q (.panic c) a w) {K : Act → World → Prop} {a : Act} {w : World}
    (hy : YieldsF P ops S oi v a) (h : wpOpIn F n P ops Q j K (a.put oi.dst v) w) :
    wpOpIn F n P ops Q j (fun a' w' => YieldsF P ops S oi v a' ∧ K (a'.put oi.dst v) w') a w := by
  obtain ⟨h1, h2, h3⟩ := Oper.apart_spec hap
  have keep : ∀ (a : Act), YieldsF P ops S oi v a → ∀ u, YieldsF P ops S oi v (a.put oj.dst u) := fun a hy u =>
    hy.of_same (execOp_put oi hsi a oj.dst u h3) (wanted_put oi a oj.dst u h3) (fun w => about_put oi w a oj.dst u h3)
  have keepD : ∀ d, YieldsF P ops S oi v { a with defers := d :: a.defers } := fun d => hy.of_same rfl rfl (fun _ => rfl)
  unfold wpOpIn at *
  simp only [hj] at *
  rw [wanted_put oj a oi.dst v h1, about_put oj w a oi.dst v h1] at h
  split
  · rename_i hw
    simp only [hw, if_true] at h
    unfold Oper.wpIn at *
    rw [about_put oj w a oi.dst v h1] at h
    refine ⟨h.1, ?_⟩
    have h := h.2
    rw [hro, Oper.semAt_none, execOp_put oj hsj a oi.dst v h1] at h
    rw [hro, Oper.semAt_none]
    generalize (execOp a.eval oj).run P w = r at *
    cases r with
    | ok x w' =>
      cases x <;> simp only [Oper.uponIn] at h ⊢
      case value u => exact ⟨keep a hy u, by rw [← Act.put_comm a v u h2]; exact h⟩
      case skip => exact ⟨keep a hy _, by rw [← Act.put_comm a v undef h2]; exact h⟩
      case defer d =>
        refine ⟨keep _ (keepD d) _, ?_⟩
        rw [← Act.put_comm _ v undef h2, ← Act.put_defers]
        exact h
      case enter f args =>
        refine ⟨h.1, CallsIn.mono h.2 fun e w'' he => ?_⟩
        cases e with
        | returned u => exact ⟨keep a hy u, by rw [← Act.put_comm a v u h2]; exact he⟩
        | panicked c => exact hQ _ _ _ he
        | outgrown => exact he
      case row row args => exact ⟨h.1, RowsIn.mono h.2 fun u w'' he => ⟨keep a hy u, by rw [← Act.put_comm a v u h2]; exact he⟩⟩
      case round l f tmps assign body =>
        refine ⟨h.1, RoundIn.mono h.2 fun e w'' he => ?_⟩
        cases e with
        | returned u => exact ⟨keep a hy u, by rw [← Act.put_comm a v u h2]; exact he⟩
        | panicked c => exact hQ _ _ _ he
        | outgrown => exact he
    | halt x w' =>
      cases x <;> simp only [Oper.uponIn] at h ⊢
      case panic u => exact hQ _ _ _ h
  · rename_i hw
    simp only [hw] at h
    exact ⟨h.1, keep a hy _, by rw [← Act.put_comm a v undef h2]; exact h.2⟩

/-- Whatever order is picked from here on; behind every operation T holds, as long as none of the late ones has come up. -/
def wpAnyF (F : Fence) (n : Nat) (P : Program) (md : Region.Mode) (ops : Array Oper) (Q : Exit → Act → World → Prop) (ls : List Nat) (T : World → Prop) : Nat → Array Bool → Act → World → Prop
  | 0, listed, a, w => Region.ready md ops listed = [] ∧ Q .normal a w
  | fuel + 1, listed, a, w =>
    (Region.ready md ops listed = [] → Q .normal a w) ∧
    ∀ i ∈ Region.ready md ops listed, wpOpIn F n P ops Q i (fun a' w' => (fresh ls (listed.setIfInBounds i true) = true → T w') ∧ wpAnyF F n P md ops Q ls T fuel (listed.setIfInBounds i true) a' w') a w

theorem wpAnyIn_of_F : ∀ (fuel : Nat) (listed : Array Bool) (a : Act) (w : World), wpAnyF F n P md ops Q ls T fuel listed a w → wpAnyIn F n P md ops Q fuel listed a w
  | 0, _, _, _, h => h
  | fuel + 1, _, _, _, h => ⟨h.1, fun i hi => wpOpIn_mono (fun a' w' h' => wpAnyIn_of_F fuel _ a' w' h'.2) (h.2 i hi)⟩

theorem wpAnyF_first {i : Nat} {oi : Oper} {v : Value} (hro : F.round = none) (T' : World → Prop) (hil : ls.contains i = false) (hi : ops[i]? = some oi) (hsel : ∀ (j : Nat) (o : Oper) cs b, ops[j]? = some o → o.op ≠ .select cs b)
    (hQ : ∀ c a w, Q (.panic c) (a.put oi.dst v) w → Q (.panic c) a w) :
    ∀ (fuel : Nat) (listed : Array Bool) (a : Act) (w : World),
      (∀ j oj, ops[j]? = some oj → j ≠ i → listed.getD j true = false → (∀ e ∈ oj.after, Region.binds md e = true → e.on ≠ i) → oi.apart ops oj = true) →
      i ∈ Region.ready md ops listed → YieldsF P ops T' oi v a → T' w → ((∀ w, T' w) ∨ (LateAt ops md ls i listed ∧ ∀ w, T w → T' w)) → (fresh ls listed = true → T w) →
      wpAnyF F n P md ops Q ls T fuel (listed.setIfInBounds i true) (a.put oi.dst v) w → wpAnyF F n P md ops Q ls T (fuel + 1) listed a w := by
  intro fuel
  induction fuel with
  | zero =>
    intro listed a w _ hr hy hS _ hS2 H
    refine ⟨fun h => (by rw [h] at hr; cases hr), fun j hj => ?_⟩
    by_cases hji : j = i
    · subst hji; exact hy.wpOpIn hro hi hS ⟨fun h => hS2 (fresh_of_set h), H⟩
    · have := ready_mono hj hji
      rw [H.1] at this
      cases this
  | succ fuel ih =>
    intro listed a w hfree hr hy hS hT' hS2 H
    refine ⟨fun h => (by rw [h] at hr; cases hr), fun j hj => ?_⟩
    by_cases hji : j = i
    · subst hji; exact hy.wpOpIn hro hi hS ⟨fun h => hS2 (fresh_of_set h), H⟩
    · have h1 := H.2 j (ready_mono hj hji)
      obtain ⟨hjun, oj, hoj, hall⟩ := mem_ready.1 hj
      have hnot : ∀ e ∈ oj.after, Region.binds md e = true → e.on ≠ i := fun e he hb heq => by
        have h1 := hall e he hb
        have h0 := (mem_ready.1 hr).1
        rw [heq] at h1
        rcases Nat.lt_or_ge i listed.size with h' | h'
        · simp [h'] at h0 h1; rw [h0] at h1; cases h1
        · simp [Array.getElem?_eq_none h'] at h1
      have h2 := wpOpIn_putF hro hoj (hfree j oj hoj hji hjun hnot) (fun cs b => hsel i oi cs b hi) (fun cs b => hsel j oj cs b hoj) hQ hy h1
      have hfree' : ∀ k ok, ops[k]? = some ok → k ≠ i → (listed.setIfInBounds j true).getD k true = false →
          (∀ e ∈ ok.after, Region.binds md e = true → e.on ≠ i) → oi.apart ops ok = true := fun k ok hk hki hun hno => by
        refine hfree k ok hk hki ?_ hno
        by_cases hjk : j = k
        · subst hjk; exact hjun
        · rw [getD_set_ne true hjk] at hun; exact hun
      refine wpOpIn_mono (fun a' w' h3 => ?_) h2
      have hTw : fresh ls (listed.setIfInBounds j true) = true → T w' := fun h => h3.2.1 (by
        rw [Array.setIfInBounds_comm _ _ (Ne.symm hji), fresh_set hil]; exact h)
      have hT2 : (∀ w, T' w) ∨ (LateAt ops md ls i (listed.setIfInBounds j true) ∧ ∀ w, T w → T' w) := by
        rcases hT' with h | ⟨h1, h3⟩
        · exact .inl h
        · refine .inr ⟨h1.step hoj hji fun e he hb => ?_, h3⟩
          have h1 := hall e he hb
          rcases Nat.lt_or_ge e.on listed.size with h' | h'
          · simp [h'] at h1 ⊢; exact h1
          · simp [Array.getElem?_eq_none h'] at h1
      refine ⟨hTw, ih (listed.setIfInBounds j true) a' w' hfree' (ready_mono hr (Ne.symm hji)) h3.1 ?_ hT2 hTw ?_⟩
      · rcases hT2 with h | ⟨h4, h5⟩
        · exact h w'
        · exact h5 w' (hTw h4.fresh_)
      · rw [Array.setIfInBounds_comm _ _ hji]
        exact h3.2.2

section
variable {fuel i : Nat} {listed : Array Bool} {a : Act} {w : World} {d : Option Tmp} {op : Op} {t : TypeId} {pos : String} {after : Array Edge} {g : Option (Nat × Bool)}

/-- An operation that yields v in every world that meets T: the late ones wait for it. -/
theorem takeF {v : Value} (hro : F.round = none) (hab : ∀ w, ({ dst := d, op := op, type := t, pos := pos, after := after, guard := g } : Oper).about P w a.eval = none) (hi : ops[i]? = some { dst := d, op := op, type := t, pos := pos, after := after, guard := g })
    (hs : Region.noSelect ops = true) (hf : Region.free md ops listed i = true) (hr : (Region.ready md ops listed).contains i = true) (hl : lateOk ops md ls i listed = true)
    (hQ : ∀ c a w, Q (.panic c) (a.put d v) w → Q (.panic c) a w) (hw : Region.wanted { dst := d, op := op, type := t, pos := pos, after := after, guard := g } (yielded ops a.tmps) = true)
    (hy : ∀ w, T w → (execOp a.eval { dst := d, op := op, type := t, pos := pos, after := after, guard := g }).run P w = .ok (.value v) w) (hT : T w)
    (h : wpAnyF F n P md ops Q ls T fuel (listed.setIfInBounds i true) (a.put d v) w) : wpAnyF F n P md ops Q ls T (fuel + 1) listed a w :=
  wpAnyF_first hro T (by unfold lateOk at hl; simp only [Bool.and_eq_true, Bool.not_eq_true'] at hl; exact hl.2) hi (Region.noSelect_spec hs) hQ fuel listed a w (Region.free_spec hi hf) (by simpa using hr) ⟨Or.inl ⟨hw, hy⟩, hab⟩ hT
    (.inr ⟨lateAt_ok (mem_ready.1 (by simpa using hr)).1 hl, fun _ h => h⟩) (fun _ => hT) h
/-- An operation that yields v in every world. -/
theorem takeQ {v : Value} (hro : F.round = none) (hab : ∀ w, ({ dst := d, op := op, type := t, pos := pos, after := after, guard := g } : Oper).about P w a.eval = none) (hi : ops[i]? = some { dst := d, op := op, type := t, pos := pos, after := after, guard := g })
    (hs : Region.noSelect ops = true) (hf : Region.free md ops listed i = true) (hr : (Region.ready md ops listed).contains i = true) (hl : ls.contains i = false)
    (hQ : ∀ c a w, Q (.panic c) (a.put d v) w → Q (.panic c) a w) (hw : Region.wanted { dst := d, op := op, type := t, pos := pos, after := after, guard := g } (yielded ops a.tmps) = true)
    (hy : ∀ w, (execOp a.eval { dst := d, op := op, type := t, pos := pos, after := after, guard := g }).run P w = .ok (.value v) w) (hT : fresh ls listed = true → T w)
    (h : wpAnyF F n P md ops Q ls T fuel (listed.setIfInBounds i true) (a.put d v) w) : wpAnyF F n P md ops Q ls T (fuel + 1) listed a w :=
  wpAnyF_first hro (fun _ => True) hl hi (Region.noSelect_spec hs) hQ fuel listed a w (Region.free_spec hi hf) (by simpa using hr) ⟨Or.inl ⟨hw, fun w _ => hy w⟩, hab⟩ trivial (.inl fun _ => trivial) hT h

/-- An operation whose guard says no. -/
theorem skipF (hro : F.round = none) (hab : ∀ w, ({ dst := d, op := op, type := t, pos := pos, after := after, guard := g } : Oper).about P w a.eval = none) (hi : ops[i]? = some { dst := d, op := op, type := t, pos := pos, after := after, guard := g })
    (hs : Region.noSelect ops = true) (hf : Region.free md ops listed i = true) (hr : (Region.ready md ops listed).contains i = true) (hl : ls.contains i = false)
    (hQ : ∀ c a w, Q (.panic c) (a.put d undef) w → Q (.panic c) a w) (hw : Region.wanted { dst := d, op := op, type := t, pos := pos, after := after, guard := g } (yielded ops a.tmps) = false) (hT : fresh ls listed = true → T w)
    (h : wpAnyF F n P md ops Q ls T fuel (listed.setIfInBounds i true) (a.put d undef) w) : wpAnyF F n P md ops Q ls T (fuel + 1) listed a w :=
  wpAnyF_first hro (fun _ => True) hl hi (Region.noSelect_spec hs) hQ fuel listed a w (Region.free_spec hi hf) (by simpa using hr) ⟨Or.inr ⟨hw, rfl⟩, hab⟩ trivial (.inl fun _ => trivial) hT h

/-- An operation that is all that may come up. -/
theorem oneF (hi : ops[i]? = some { dst := d, op := op, type := t, pos := pos, after := after, guard := g }) (hr : Region.ready md ops listed = [i])
    (hw : Region.wanted { dst := d, op := op, type := t, pos := pos, after := after, guard := g } (yielded ops a.tmps) = true)
    (h : ∀ K' : Act → World → Prop, Shut (∀ a w, (fresh ls (listed.setIfInBounds i true) = true → T w) → wpAnyF F n P md ops Q ls T fuel (listed.setIfInBounds i true) a w → K' a w) → ({ dst := d, op := op, type := t, pos := pos, after := after, guard := g } : Oper).wpIn F n P a w K' Q) : wpAnyF F n P md ops Q ls T (fuel + 1) listed a w := by
  refine ⟨fun h0 => (by rw [hr] at h0; cases h0), fun j hj => ?_⟩
  rw [hr] at hj
  simp only [List.mem_singleton] at hj
  subst hj
  exact wpOpIn_step hi (fun K' hK => by rw [if_pos hw]; exact h K' (fun a w hT hW => hK a w ⟨hT, hW⟩))
/-- A late one that is all that may come up. -/
theorem oneM (hl : fresh ls (listed.setIfInBounds i true) = false) (hi : ops[i]? = some { dst := d, op := op, type := t, pos := pos, after := after, guard := g }) (hr : Region.ready md ops listed = [i])
    (hw : Region.wanted { dst := d, op := op, type := t, pos := pos, after := after, guard := g } (yielded ops a.tmps) = true)
    (h : ∀ K' : Act → World → Prop, Shut (∀ a w, wpAnyF F n P md ops Q ls T fuel (listed.setIfInBounds i true) a w → K' a w) → ({ dst := d, op := op, type := t, pos := pos, after := after, guard := g } : Oper).wpIn F n P a w K' Q) : wpAnyF F n P md ops Q ls T (fuel + 1) listed a w :=
  oneF hi hr hw fun K' hK => h K' (fun a w hW => hK a w (fun h => by rw [hl] at h; cases h) hW)
theorem doneF {listed : Array Bool} {a : Act} {w : World} (hr : Region.ready md ops listed = []) (h : Q .normal a w) : ∀ fuel, wpAnyF F n P md ops Q ls T fuel listed a w
  | 0 => ⟨hr, h⟩
  | _ + 1 => ⟨fun _ => h, by rw [hr]; simp⟩
theorem wpIn_region_F {id : Nat} {a : Act} {w : World} (hm : P.follows .mixedOrders = true) (h : wpAnyF F n P .any ops Q ls T ops.size (Array.replicate ops.size false) a w.drew) : (Code.region id ops true).wpIn F n P Q a w :=
  wpIn_region_any hm (wpAnyIn_of_F _ _ _ _ h)
end
end

end Go.Proofs.YtdaimejlcfhfiaaGreatDoor

namespace Go.Proofs.YtdaimejlcfhfiaaGreatDoor
open Go.RowKit Go.Shelf

/-- Nothing but block g has turned. -/
structure Only (g : Nat) (w w' : World) : Prop where
  grown : w.grownBy w' (some g)
  size : w'.heap.size = w.heap.size
  keeps : KeepsOthers w w'
section
variable {g : Nat} {w w' w'' : World} {t : TypeId}
theorem Only.set (w : World) (g i : Nat) (v : Value) : Only g w (w.setCell ⟨g, i, none⟩ v) := by
  have h := Below.refl 0 w
  refine ⟨⟨rfl, rfl, rfl, by simp, fun j _ hj => Below.heap_setCell w ⟨g, i, none⟩ v j (fun e => hj (by simp only at e; rw [e]))⟩, by simp, KeepsOthers.setCell _ _ _⟩
theorem Only.trans (h : Only g w w') (k : Only g w' w'') : Only g w w'' :=
  ⟨⟨k.grown.os.trans h.grown.os, k.grown.tape.trans h.grown.tape, k.grown.output.trans h.grown.output, by rw [k.size, h.size]; exact Nat.le_refl _, fun i hi hg => (k.grown.block i (by rw [h.size]; exact hi) hg).trans (h.grown.block i hi hg)⟩, by rw [k.size, h.size], h.keeps.trans k.keeps⟩
theorem Only.far (h : Only g w w') {b : Nat} {cs : Array Value} (hw : Whole w b t cs) (hne : b ≠ g) : Whole w' b t cs := hw.grown h.grown (by simpa using hne)
theorem Only.own {base size n : Nat} {e : TypeId} {v : Value} {xs : List Value} {cs : Array Value} (h : Only g w w') (ho : w.ownsRow base e size v n xs) (hw : Whole w g t cs) (hne : e ≠ t) : w'.ownsRow base e size v n xs :=
  ho.kept h.grown (by
    rcases ho.2 with ⟨rfl, _⟩ | ⟨g', cap, cur, rfl, _, hg, _⟩
    · exact .inl rfl
    · right
      simp only [Value.ownBlock, ne_eq, Option.some.injEq]
      intro e0
      have := own_apart_F hne ho hw
      simp [Value.ownBlock] at this
      omega)
theorem Only.ownB {base size n : Nat} {e : TypeId} {v : Value} {xs : List Value} (h : Only g w w') (ho : w.ownsRow base e size v n xs) (hg : g < base) : w'.ownsRow base e size v n xs :=
  ho.kept h.grown (by
    rcases ho.2 with ⟨rfl, _⟩ | ⟨g', cap, cur, rfl, hb, _⟩
    · exact .inl rfl
    · right
      simp only [Value.ownBlock, ne_eq, Option.some.injEq]
      omega)
theorem Only.bel {B : Nat} {w0 : World} (h : Only g w w') (hb : Below B w0 w) (hg : B ≤ g) : Below B w0 w' :=
  ⟨h.grown.os.trans hb.os, h.grown.tape.trans hb.tape, h.grown.output.trans hb.output, by rw [h.size]; exact hb.size, fun k hk => by
    rcases Nat.lt_or_ge k w.heap.size with hlt | hge
    · exact (h.grown.block k hlt (by simp; omega)).trans (hb.block k hk)
    · rw [← hb.block k hk, Array.getElem?_eq_none hge, Array.getElem?_eq_none (by rw [h.size]; exact hge)]⟩
theorem put2 {x0 x1 : Value} (hA : Whole w g t #[x0, x1]) (v0 v1 : Value) : Whole ((w.setCell ⟨g, 0, none⟩ v0).setCell ⟨g, 1, none⟩ v1) g t #[v0, v1] ∧ Only g w ((w.setCell ⟨g, 0, none⟩ v0).setCell ⟨g, 1, none⟩ v1) := by
  have h0 := hA.set 0 v0
  simp only [List.setIfInBounds_toArray, List.set_cons_zero] at h0
  have h1 := h0.set 1 v1
  simp only [List.setIfInBounds_toArray, List.set_cons_zero, List.set_cons_succ] at h1
  exact ⟨h1, (Only.set _ _ _ _).trans (Only.set _ _ _ _)⟩
end
/-- Two allocs behind each other: both blocks, whole. -/
theorem two_new (w : World) (t u : TypeId) (xs ys : Array Value) : Below w.heap.size w ((w.alloc (.cells xs t)).alloc (.cells ys u)) ∧ Whole ((w.alloc (.cells xs t)).alloc (.cells ys u)) w.heap.size t xs ∧ Whole ((w.alloc (.cells xs t)).alloc (.cells ys u)) (w.heap.size + 1) u ys := by
  refine ⟨((Below.refl _ w).alloc (Nat.le_refl _) _).alloc (by simp) _, (Whole.new w _ _).alloc _, ?_⟩
  have := Whole.new (w.alloc (.cells xs t)) u ys
  rwa [World.size_alloc] at this
theorem three_new (w : World) (t u v : TypeId) (xs ys zs : Array Value) : Below w.heap.size w (((w.alloc (.cells xs t)).alloc (.cells ys u)).alloc (.cells zs v)) ∧ Whole (((w.alloc (.cells xs t)).alloc (.cells ys u)).alloc (.cells zs v)) w.heap.size t xs ∧ Whole (((w.alloc (.cells xs t)).alloc (.cells ys u)).alloc (.cells zs v)) (w.heap.size + 1) u ys ∧ Whole (((w.alloc (.cells xs t)).alloc (.cells ys u)).alloc (.cells zs v)) (w.heap.size + 1 + 1) v zs := by
  obtain ⟨h1, h2, h3⟩ := two_new w t u xs ys
  refine ⟨h1.alloc (by simp; omega) _, h2.alloc _, h3.alloc _, ?_⟩
  have := Whole.new ((w.alloc (.cells xs t)).alloc (.cells ys u)) v zs
  simpa using this

end Go.Proofs.YtdaimejlcfhfiaaGreatDoor

namespace Go.Proofs.YtdaimejlcfhfiaaGreatDoor
open Go.RowKit Go.Shelf

/-- A group, as it lies: its numbers, Skip, and the slice of its marks with what is read there. -/
structure Cf where
  f0 : Int
  f1 : Int
  f2 : Int
  f3 : Int
  f4 : Int
  f5 : Int
  f6 : Int
  f7 : Int
  f8 : Int
  f9 : Int
  f10 : Int
  f11 : Int
  f12 : Int
  sk : Bool
  A : Option Addr
  n : Nat
  c : Nat
  ms : List Int

abbrev Cf.cells (x : Cf) : Array Value := #[.int .i64 x.f0, .int .i64 x.f1, .int .i64 x.f2, .int .i64 x.f3, .int .i64 x.f4, .int .i64 x.f5, .int .i64 x.f6, .int .i64 x.f7, .int .i64 x.f8, .int .i64 x.f9, .int .i64 x.f10, .int .i64 x.f11, .int .i64 x.f12, .bool x.sk, .slice x.A x.n x.c]
abbrev Cf.v (x : Cf) : Value := .agg #[.int .i64 x.f0, .int .i64 x.f1, .int .i64 x.f2, .int .i64 x.f3, .int .i64 x.f4, .int .i64 x.f5, .int .i64 x.f6, .int .i64 x.f7, .int .i64 x.f8, .int .i64 x.f9, .int .i64 x.f10, .int .i64 x.f11, .int .i64 x.f12, .bool x.sk, .slice x.A x.n x.c]
/-- Its numbers, in the row's order. -/
def Cf.fs (x : Cf) : List Int := [x.f0, x.f1, x.f2, x.f3, x.f4, x.f5, x.f6, x.f7, x.f8, x.f9, x.f10, x.f11, x.f12]
def Cf.at (x : Cf) (k : Nat) : Int := x.fs.getD k 0
/-- From where to where. -/
def loB (k : Nat) : Int := [0, 0, 0, 0, 0, 0, 0, 0, 1, 1, 1, 0, 1].getD k 0
def hiB (k : Nat) : Int := [6, 100, 3, 3, 20, 20, 20, 20, 20, 20, 20, 20, 1099511627776].getD k 0
def fitK (x : Cf) (k : Nat) : Bool := decide (loB k ≤ x.at k) && decide (x.at k ≤ hiB k)
def inB (x : Cf) : Bool := (List.range 13).all (fitK x)
def upB : Int → List Int → Bool
  | _, [] => true
  | last, m :: r => decide (last < m) && decide (m ≤ 100) && upB m r
def fl (x : Cf) : Int := (x.f0 * x.f1 + 99) / 100
def roomB (x : Cf) : Bool := decide (x.f0 = 0) || decide (1 ≤ x.f2 + x.f0 - fl x)
def marksB (l : List Int) : Bool := decide (l.length ≤ 4) && upB 0 l
/-- A group may be. -/
def may (x : Cf) : Bool := inB x && (marksB x.ms && roomB x)
def er (b : Bool) : Int := if b = true then 0 else 70
def skI (b : Bool) : Int := if b = true then 1 else 0
def rowOf (x : Cf) : List Int := x.fs ++ skI x.sk :: x.ms
def sameC (x y : Cf) : Bool := decide (x.fs = y.fs) && (decide (x.sk = y.sk) && decide (x.ms = y.ms))

theorem inB_iff {x : Cf} : inB x = true ↔ ((0 ≤ x.f0 ∧ x.f0 ≤ 6) ∧ (0 ≤ x.f1 ∧ x.f1 ≤ 100) ∧ (0 ≤ x.f2 ∧ x.f2 ≤ 3) ∧ (0 ≤ x.f3 ∧ x.f3 ≤ 3)) ∧ ((0 ≤ x.f4 ∧ x.f4 ≤ 20) ∧ (0 ≤ x.f5 ∧ x.f5 ≤ 20) ∧ (0 ≤ x.f6 ∧ x.f6 ≤ 20) ∧ (0 ≤ x.f7 ∧ x.f7 ≤ 20)) ∧ ((1 ≤ x.f8 ∧ x.f8 ≤ 20) ∧ (1 ≤ x.f9 ∧ x.f9 ≤ 20) ∧ (1 ≤ x.f10 ∧ x.f10 ≤ 20) ∧ (0 ≤ x.f11 ∧ x.f11 ≤ 20) ∧ (1 ≤ x.f12 ∧ x.f12 ≤ 1099511627776)) := by
  have e : List.range 13 = [0, 1, 2, 3, 4, 5, 6, 7, 8, 9, 10, 11, 12] := rfl
  simp only [inB, e, List.all_cons, List.all_nil, Bool.and_true, Bool.and_eq_true, fitK, decide_eq_true_eq, Cf.at, Cf.fs, loB, hiB, List.getD_cons_zero, List.getD_cons_succ]
  constructor
  · rintro ⟨h0, h1, h2, h3, h4, h5, h6, h7, h8, h9, h10, h11, h12⟩
    exact ⟨⟨h0, h1, h2, h3⟩, ⟨h4, h5, h6, h7⟩, h8, h9, h10, h11, h12⟩
  · rintro ⟨⟨h0, h1, h2, h3⟩, ⟨h4, h5, h6, h7⟩, h8, h9, h10, h11, h12⟩
    exact ⟨h0, h1, h2, h3, h4, h5, h6, h7, h8, h9, h10, h11, h12⟩

theorem not_inB {x : Cf} {k : Nat} (hk : k < 13) (h : x.at k < loB k ∨ hiB k < x.at k) : may x = false := by
  have h1 : fitK x k = false := by
    rcases h with h | h
    · simp [fitK, show ¬ loB k ≤ x.at k by omega]
    · simp [fitK, show ¬ x.at k ≤ hiB k by omega]
  have h2 : inB x = false := by
    cases hv : inB x with
    | false => rfl
    | true =>
      have := List.all_eq_true.1 hv k (List.mem_range.2 hk)
      rw [h1] at this; cases this
  simp [may, h2]

/-- What all rounds have found. -/
theorem inB_all {x : Cf} (h : ∀ k, k < 13 → fitK x k = true) : inB x = true := List.all_eq_true.2 fun k hk => h k (List.mem_range.1 hk)

theorem fl_bd {x : Cf} (h : inB x = true) : 0 ≤ x.f0 * x.f1 ∧ x.f0 * x.f1 ≤ 600 ∧ 0 ≤ fl x ∧ fl x ≤ x.f0 := by
  obtain ⟨⟨⟨a0, a1⟩, ⟨b0, b1⟩, _⟩, _⟩ := inB_iff.1 h
  have h1 : 0 ≤ x.f0 * x.f1 := Int.mul_nonneg a0 b0
  have h2 : x.f0 * x.f1 ≤ x.f0 * 100 := Int.mul_le_mul_of_nonneg_left b1 a0
  unfold fl
  exact ⟨h1, by omega, by omega, by omega⟩

/-- A group told by a row. -/
def ofRow (l : List Int) (A : Option Addr) (n c : Nat) : Cf := ⟨l.getD 0 0, l.getD 1 0, l.getD 2 0, l.getD 3 0, l.getD 4 0, l.getD 5 0, l.getD 6 0, l.getD 7 0, l.getD 8 0, l.getD 9 0, l.getD 10 0, l.getD 11 0, l.getD 12 0, decide (l.getD 13 0 = 1), A, n, c, l.drop 14⟩
def cf0 : Cf := ⟨0, 0, 0, 0, 0, 0, 0, 0, 0, 0, 0, 0, 0, false, none, 0, 0, []⟩
/-- A row that may be a group's, by its shape. -/
def shapeB (l : List Int) : Bool := decide (14 ≤ l.length) && (decide (l.getD 13 0 = 0) || decide (l.getD 13 0 = 1))
/-- Of this row a group is told. -/
def isRow (l : List Int) : Bool := shapeB l && may (ofRow l none 0 0)

theorem sameC_iff {x y : Cf} : sameC x y = true ↔ x.fs = y.fs ∧ x.sk = y.sk ∧ x.ms = y.ms := by simp [sameC]
theorem sameC_refl (x : Cf) : sameC x x = true := sameC_iff.2 ⟨rfl, rfl, rfl⟩

/-- Groups as they lie: the slice of marks reads as they are. -/
structure Lies (x : Cf) (w : World) (B : Nat) : Prop where
  rd : Rd w B x.A x.n (iv x.ms)
  cap : x.n ≤ x.c
  max : x.c ≤ maxLen
theorem Lies.below {x : Cf} {w w' : World} {B : Nat} (h : Lies x w B) (hb : Below B w w') : Lies x w' B := ⟨h.rd.below hb, h.cap, h.max⟩
theorem Lies.more {x : Cf} {w : World} {B B' : Nat} (h : Lies x w B) (hB : B ≤ B') : Lies x w B' := ⟨h.rd.more hB, h.cap, h.max⟩
theorem Lies.len {x : Cf} {w : World} {B : Nat} (h : Lies x w B) : x.ms.length = x.n := by have := h.rd.1; rwa [iv_length] at this
theorem Lies.on {x : Cf} {w w' : World} {B : Nat} (h : Lies x w B) (hB : B ≤ w.heap.size) (hb : Below w.heap.size w w') : Lies x w' B := h.below (hb.mono hB)
/-- The table of bounds lies there, in the first block. -/
def Tab (w : World) : Prop := 1 < w.heap.size ∧ ∀ k, k < 13 → w.cell? ⟨1, k * 2, none⟩ = some (.int .i64 (loB k)) ∧ w.cell? ⟨1, k * 2 + 1, none⟩ = some (.int .i64 (hiB k))
theorem Tab.under {w w' : World} (h : Tab w) (hb : Below w.heap.size w w') : Tab w' :=
  ⟨Nat.lt_of_lt_of_le h.1 hb.size, fun k hk => ⟨(hb.cell (p := ⟨1, k * 2, none⟩) h.1).trans (h.2 k hk).1, (hb.cell (p := ⟨1, k * 2 + 1, none⟩) h.1).trans (h.2 k hk).2⟩⟩
theorem Tab.below {w w' : World} {B : Nat} (h : Tab w) (hB : w.heap.size ≤ B) (hb : Below B w w') : Tab w' := h.under (hb.mono hB)

end Go.Proofs.YtdaimejlcfhfiaaGreatDoor

namespace Go.Proofs.YtdaimejlcfhfiaaGreatDoor
open Go.RowKit Go.Shelf

structure It where
  tok : Int
  ver : Int
  zone : Int
  warm : Bool
  deriving DecidableEq
structure Kp where
  id : Int
  tok : Int
  ver : Int
  zone : Int
  phase : Int
  since : Int
  guard : Bool
  done : Bool
  deriving DecidableEq
structure Rf where
  st : Int
  fr : Int
  to_ : Int
  step : Int
  paused : Bool
  since : Int
  fails : Int
  deriving DecidableEq
/-- A brain; its group is told with no memory of its own (A none, n and c 0). -/
structure Br where
  ep : Int
  sq : Int
  set : Bool
  cf : Cf
  its : List It
  kps : List Kp
  rf : Rf
/-- A group without its memory. -/
def Cf.pl (x : Cf) : Cf := { x with A := none, n := 0, c := 0 }
def brMax : Int := 1099511627776
def numsB (l : List Int) : Bool := l.all isNum
/-- How many numbers a record of a kind has; -1: it is none, or a group's row. -/
def manyB (k : Int) : Int :=
  if k = 1 ∨ k = 12 ∨ k = 13 ∨ k = 15 ∨ k = 16 then 0 else if k = 5 ∨ k = 7 ∨ k = 10 ∨ k = 14 then 1 else if k = 9 ∨ k = 11 then 2 else if k = 3 ∨ k = 4 ∨ k = 6 then 3 else if k = 8 then 5 else -1
def legalB (a b : Int) : Bool :=
  if a = 1 then decide (b = 2 ∨ b = 8) else if a = 2 then decide (b = 3 ∨ b = 8) else if a = 3 then decide (b = 4) else if a = 4 then decide (b = 5 ∨ b = 3) else if a = 5 then decide (b = 6 ∨ b = 4) else if a = 6 then decide (b = 7) else if a = 7 then decide (b = 8) else if a = 9 then decide (b = 10 ∨ b = 8) else if a = 10 then decide (b = 1) else false
def keptB (b : Br) (id : Int) : Option Kp := b.kps.find? fun x => decide (x.id = id)
def meantB (b : Br) (t : Int) : Option It := b.its.find? fun x => decide (x.tok = t)
/-- The place of the one that counts; -1: there is none. -/
def findB (b : Br) (id : Int) : Int := match b.kps.findIdx? (fun x => decide (x.id = id)) with | some i => i | none => -1
def tokenB (b : Br) (t : Int) : Int := match b.its.findIdx? (fun x => decide (x.tok = t)) with | some i => i | none => -1
def putK (l : List Kp) (x : Kp) : List Kp := l.takeWhile (fun y => decide (y.id ≤ x.id)) ++ x :: l.dropWhile (fun y => decide (y.id ≤ x.id))
/-- The first one of an id, changed. -/
def setK (id : Int) (f : Kp → Kp) : List Kp → List Kp
  | [] => []
  | x :: l => if x.id = id then f x :: l else x :: setK id f l
def dropI (t : Int) (l : List It) : List It := l.eraseP fun x => decide (x.tok = t)
def dropK (id : Int) (l : List Kp) : List Kp := l.eraseP fun x => decide (x.id = id)

def confB (b : Br) (l : List Int) : Br :=
  if isRow l = true then { b with cf := if b.set then { ofRow l none 0 0 with f12 := b.cf.f12 } else ofRow l none 0 0, set := true } else b
def bootB (b : Br) : Br := if b.ep < brMax then { b with ep := b.ep + 1 } else b
def intentB (b : Br) (v z h : Int) : Br :=
  if b.set = true ∧ 1 ≤ v ∧ z < 4 ∧ h < 2 ∧ b.sq < brMax then { b with sq := b.sq + 1, its := b.its ++ [⟨b.sq + 1, v, z, decide (h = 1)⟩] } else b
def madeB (b : Br) (t id now : Int) : Br :=
  match meantB b t with
  | none => b
  | some i => if 1 ≤ id ∧ keptB b id = none then
      { b with its := dropI t b.its, kps := putK b.kps ⟨id, i.tok, i.ver, i.zone, if i.warm then 9 else 1, now, false, false⟩, rf := if b.rf.st = 1 then { b.rf with fails := 0 } else b.rf }
    else b
def takeB (b : Br) (id t v z now : Int) : Br :=
  if 1 ≤ id ∧ keptB b id = none then { b with kps := putK b.kps ⟨id, t, v, z, 8, now, false, false⟩ } else b
def phaseB (b : Br) (id p now : Int) : Br :=
  match keptB b id with
  | none => b
  | some x => if p < 11 ∧ legalB x.phase p = true then { b with kps := setK id (fun y => { y with phase := p, since := now, done := false }) b.kps } else b
def goneB_ (b : Br) (id : Int) : Br := if keptB b id = none then b else { b with kps := dropK id b.kps }
def guardB (b : Br) (id on : Int) : Br := if keptB b id = none then b else if on < 2 then { b with kps := setK id (fun y => { y with guard := decide (on = 1) }) b.kps } else b
def doneB (b : Br) (id : Int) : Br :=
  match keptB b id with
  | none => b
  | some x => if x.phase = 1 ∨ x.phase = 7 then { b with kps := setK id (fun y => { y with done := true }) b.kps } else b
def startB (b : Br) (to_ now : Int) : Br := if b.set = true ∧ ¬ b.rf.st = 1 ∧ 1 ≤ to_ then { b with rf := ⟨1, b.cf.f12, to_, 0, false, now, 0⟩ } else b
def failR (r : Rf) (m : Int) : Rf := if m ≤ wrap64 (r.fails + 1) then { r with to_ := r.fr, fails := 0 } else { r with fails := wrap64 (r.fails + 1) }
def goR (r : Rf) : Rf := if r.paused = true then { r with paused := false, step := wrap64 (r.step + 1) } else r
def pauseR (r : Rf) (now : Int) : Rf := if r.paused = true then r else { r with paused := true, since := now }
/-- What is done of a refresh that is active. -/
def refB (b : Br) (k x : Int) : Br :=
  if k = 5 then { b with rf := failR b.rf b.cf.f10 } else if k = 12 then { b with rf := { b.rf with st := 3, paused := false } } else if k = 13 then { b with rf := { b.rf with to_ := b.rf.fr } } else if k = 14 then { b with rf := pauseR b.rf x } else if k = 15 then { b with rf := goR b.rf } else if k = 16 then { b with rf := { b.rf with st := 2, paused := false }, cf := { b.cf with f12 := b.rf.to_ } } else b
def fitB (b : Br) (k x0 x1 x2 x3 x4 : Int) : Br :=
  if k = 1 then bootB b else if k = 3 then intentB b x0 x1 x2 else if k = 4 then madeB b x0 x1 x2 else if k = 6 then phaseB b x0 x1 x2 else if k = 7 then goneB_ b x0 else if k = 8 then takeB b x0 x1 x2 x3 x4 else if k = 9 then guardB b x0 x1 else if k = 10 then doneB b x0 else if k = 11 then startB b x0 x1 else if b.rf.st = 1 then refB b k x0 else b
/-- A brain behind a record. -/
def applyB (b : Br) (k : Int) (l : List Int) : Br :=
  if numsB l = true then (if k = 2 then confB b l else if manyB k = (l.length : Int) then fitB b k (l.getD 0 0) (l.getD 1 0) (l.getD 2 0) (l.getD 3 0) (l.getD 4 0) else b) else b
def allB (b : Br) (l : List (Int × List Int)) : Br := l.foldl (fun b r => applyB b r.1 r.2) b
def br0 : Br := ⟨0, 0, false, cf0, [], [], ⟨0, 0, 0, 0, false, 0, 0⟩⟩

section
variable {b : Br} {k : Int} {l : List Int}
theorem putK_mem {l : List Kp} {x y : Kp} : y ∈ putK l x ↔ y = x ∨ y ∈ l := by
  simp only [putK, List.mem_append, List.mem_cons]
  have : y ∈ l ↔ y ∈ l.takeWhile (fun y => decide (y.id ≤ x.id)) ∨ y ∈ l.dropWhile (fun y => decide (y.id ≤ x.id)) := by
    rw [← List.mem_append, List.takeWhile_append_dropWhile]
  rw [this]
  constructor
  · rintro (h | h | h) <;> simp [h]
  · rintro (h | h | h) <;> simp [h]
theorem putK_len (l : List Kp) (x : Kp) : (putK l x).length = l.length + 1 := by
  have h : (l.takeWhile (fun y => decide (y.id ≤ x.id)) ++ l.dropWhile (fun y => decide (y.id ≤ x.id))).length = l.length := by rw [List.takeWhile_append_dropWhile]
  simp only [putK, List.length_append, List.length_cons] at h ⊢
  omega
theorem setK_len (id : Int) (f : Kp → Kp) : ∀ l : List Kp, (setK id f l).length = l.length
  | [] => rfl
  | x :: l => by unfold setK; split <;> simp [setK_len id f l]
theorem setK_mem {id : Int} {f : Kp → Kp} {y : Kp} : ∀ {l : List Kp}, y ∈ setK id f l → y ∈ l ∨ ∃ x ∈ l, x.id = id ∧ y = f x
  | [], h => by simp [setK] at h
  | x :: l, h => by
    unfold setK at h
    split at h
    · rename_i e
      rcases List.mem_cons.1 h with rfl | h
      · exact .inr ⟨x, List.mem_cons_self .., e, rfl⟩
      · exact .inl (List.mem_cons_of_mem _ h)
    · rcases List.mem_cons.1 h with rfl | h
      · exact .inl (List.mem_cons_self ..)
      · rcases setK_mem h with h | ⟨z, hz, e⟩
        · exact .inl (List.mem_cons_of_mem _ h)
        · exact .inr ⟨z, List.mem_cons_of_mem _ hz, e⟩
/-- Where the changed one stands, and where the others do. -/
theorem setK_get {id : Int} {f : Kp → Kp} : ∀ {l : List Kp} {i : Nat}, l.findIdx? (fun x => decide (x.id = id)) = some i → ∀ j, (setK id f l)[j]? = if j = i then l[j]?.map f else l[j]?
  | [], i, h => by simp at h
  | x :: l, i, h => by
    intro j
    unfold setK
    rw [List.findIdx?_cons] at h
    by_cases hx : x.id = id
    · simp only [hx, decide_true, if_true] at h ⊢
      injection h with h
      subst h
      cases j <;> simp
    · simp only [hx, decide_false, Bool.false_eq_true, if_false] at h ⊢
      cases hl : l.findIdx? (fun x => decide (x.id = id)) with
      | none => rw [hl] at h; simp at h
      | some i' =>
        rw [hl] at h
        simp only [Option.map_some, Option.some.injEq] at h
        subst h
        cases j with
        | zero => simp
        | succ j => simp [setK_get hl j]
theorem kept_some {id : Int} {x : Kp} (h : keptB b id = some x) : x ∈ b.kps ∧ x.id = id := by
  refine ⟨List.mem_of_find?_eq_some h, ?_⟩
  have := List.find?_some h
  simpa using this
theorem meant_some {t : Int} {x : It} (h : meantB b t = some x) : x ∈ b.its ∧ x.tok = t := by
  refine ⟨List.mem_of_find?_eq_some h, ?_⟩
  have := List.find?_some h
  simpa using this
theorem legal_bd {a p : Int} (h : legalB a p = true) : 1 ≤ p ∧ p ≤ 10 := by
  unfold legalB at h
  repeat' split at h
  all_goals first | (simp only [decide_eq_true_eq] at h; omega) | simp at h
end

end Go.Proofs.YtdaimejlcfhfiaaGreatDoor

namespace Go.Proofs.YtdaimejlcfhfiaaGreatDoor
open Go.RowKit Go.Shelf

section
variable {b : Br} {k : Int} {l : List Int}

theorem nums_at (h : numsB l = true) (i : Nat) : 0 ≤ l.getD i 0 ∧ l.getD i 0 ≤ brMax := by
  rw [List.getD_eq_getElem?_getD]
  cases hx : l[i]? with
  | none => simp [brMax]
  | some x =>
    have := List.all_eq_true.1 h x (List.mem_of_getElem? hx)
    simpa [brMax] using isNum_iff.1 this

/-- A record's effect, kind by kind. -/
theorem fit_cases {P : Br → Prop} {x0 x1 x2 x3 x4 : Int} (h1 : k = 1 → P (bootB b)) (h3 : k = 3 → P (intentB b x0 x1 x2)) (h4 : k = 4 → P (madeB b x0 x1 x2)) (h6 : k = 6 → P (phaseB b x0 x1 x2)) (h7 : k = 7 → P (goneB_ b x0)) (h8 : k = 8 → P (takeB b x0 x1 x2 x3 x4)) (h9 : k = 9 → P (guardB b x0 x1)) (h10 : k = 10 → P (doneB b x0)) (h11 : k = 11 → P (startB b x0 x1)) (hr : b.rf.st = 1 → k ≠ 3 ∧ k ≠ 4 ∧ k ≠ 6 ∧ k ≠ 7 ∧ k ≠ 8 ∧ k ≠ 9 ∧ k ≠ 10 → P (refB b k x0)) (h0 : P b) : P (fitB b k x0 x1 x2 x3 x4) := by
  unfold fitB
  by_cases e1 : k = 1
  · simp only [e1, if_true]; exact h1 e1
  by_cases e3 : k = 3
  · simp only [e3]; exact h3 e3
  by_cases e4 : k = 4
  · simp only [e4]; exact h4 e4
  by_cases e6 : k = 6
  · simp only [e6]; exact h6 e6
  by_cases e7 : k = 7
  · simp only [e7]; exact h7 e7
  by_cases e8 : k = 8
  · simp only [e8]; exact h8 e8
  by_cases e9 : k = 9
  · simp only [e9]; exact h9 e9
  by_cases e10 : k = 10
  · simp only [e10]; exact h10 e10
  by_cases e11 : k = 11
  · simp only [e11]; exact h11 e11
  simp only [if_neg e1, if_neg e3, if_neg e4, if_neg e6, if_neg e7, if_neg e8, if_neg e9, if_neg e10, if_neg e11]
  split
  · rename_i h
    exact hr h ⟨e3, e4, e6, e7, e8, e9, e10⟩
  · exact h0
theorem apply_cases {P : Br → Prop} (hc : k = 2 → isRow l = true → P (confB b l)) (hf : numsB l = true → k ≠ 2 → manyB k = (l.length : Int) → P (fitB b k (l.getD 0 0) (l.getD 1 0) (l.getD 2 0) (l.getD 3 0) (l.getD 4 0))) (h0 : P b) : P (applyB b k l) := by
  unfold applyB
  split
  · rename_i hn
    split
    · rename_i e
      by_cases hr : isRow l = true
      · exact hc e hr
      · unfold confB; rw [if_neg hr]; exact h0
    · rename_i e
      split
      · rename_i hm
        exact hf hn e hm
      · exact h0
  · exact h0

/-- What a record may turn: numbers never fall, one more or fewer at most. -/
structure StepB (k : Int) (b o : Br) : Prop where
  sq : b.sq ≤ o.sq
  ep : b.ep ≤ o.ep
  set : o.set = (b.set || o.set)
  cnt : (o.its.length + o.kps.length = b.its.length + b.kps.length) ∨ (o.its.length + o.kps.length = b.its.length + b.kps.length + 1 ∧ (k = 3 ∨ k = 8)) ∨ (o.its.length + o.kps.length + 1 = b.its.length + b.kps.length ∧ k = 7)
theorem stepB_refl : StepB k b b := ⟨Int.le_refl _, Int.le_refl _, by cases b.set <;> rfl, .inl rfl⟩
theorem meant_len {t : Int} {i : It} (h : meantB b t = some i) : (dropI t b.its).length + 1 = b.its.length := by
  obtain ⟨h1, h2⟩ := meant_some h
  have := List.length_eraseP_of_mem (p := fun x : It => decide (x.tok = t)) h1 (by simp [h2])
  have h3 : 0 < b.its.length := List.length_pos_of_mem h1
  unfold dropI
  omega
theorem kept_len {id : Int} (h : ¬ keptB b id = none) : (dropK id b.kps).length + 1 = b.kps.length := by
  cases hx : keptB b id with
  | none => exact absurd hx h
  | some x =>
    obtain ⟨h1, h2⟩ := kept_some hx
    have := List.length_eraseP_of_mem (p := fun x : Kp => decide (x.id = id)) h1 (by simp [h2])
    have h3 : 0 < b.kps.length := List.length_pos_of_mem h1
    unfold dropK
    omega
theorem step_apply (b : Br) (k : Int) (l : List Int) : StepB k b (applyB b k l) := by
  have hs : ∀ {o : Br}, o.set = b.set → o.set = (b.set || o.set) := fun e => by rw [e]; cases b.set <;> rfl
  refine apply_cases (P := StepB k b) (fun _ hr => ?_) (fun hn _ _ => ?_) stepB_refl
  · unfold confB
    rw [if_pos hr]
    exact ⟨Int.le_refl _, Int.le_refl _, by simp, .inl rfl⟩
  · refine fit_cases (P := StepB k b) (fun _ => ?_) (fun e3 => ?_) (fun _ => ?_) (fun _ => ?_) (fun e7 => ?_) (fun e8 => ?_) (fun _ => ?_) (fun _ => ?_) (fun _ => ?_) (fun _ _ => ?_) stepB_refl
    · unfold bootB; split
      · exact ⟨Int.le_refl _, by show b.ep ≤ b.ep + 1; omega, hs rfl, .inl rfl⟩
      · exact stepB_refl
    · unfold intentB; split
      · exact ⟨by show b.sq ≤ b.sq + 1; omega, Int.le_refl _, hs rfl, .inr (.inl ⟨by simp; omega, .inl e3⟩)⟩
      · exact stepB_refl
    · unfold madeB; split
      · exact stepB_refl
      · rename_i i hi
        split
        · exact ⟨Int.le_refl _, Int.le_refl _, hs rfl, .inl (by have := meant_len hi; simp only [putK_len]; omega)⟩
        · exact stepB_refl
    · unfold phaseB; split
      · exact stepB_refl
      · split
        · exact ⟨Int.le_refl _, Int.le_refl _, hs rfl, .inl (by simp only [setK_len])⟩
        · exact stepB_refl
    · unfold goneB_; split
      · exact stepB_refl
      · rename_i e
        exact ⟨Int.le_refl _, Int.le_refl _, hs rfl, .inr (.inr ⟨by have := kept_len e; simp only; omega, e7⟩)⟩
    · unfold takeB; split
      · exact ⟨Int.le_refl _, Int.le_refl _, hs rfl, .inr (.inl ⟨by simp only [putK_len]; omega, .inr e8⟩)⟩
      · exact stepB_refl
    · unfold guardB; split
      · exact stepB_refl
      · split
        · exact ⟨Int.le_refl _, Int.le_refl _, hs rfl, .inl (by simp only [setK_len])⟩
        · exact stepB_refl
    · unfold doneB; split
      · exact stepB_refl
      · split
        · exact ⟨Int.le_refl _, Int.le_refl _, hs rfl, .inl (by simp only [setK_len])⟩
        · exact stepB_refl
    · unfold startB; split
      · exact ⟨Int.le_refl _, Int.le_refl _, hs rfl, .inl rfl⟩
      · exact stepB_refl
    · unfold refB
      repeat' split
      all_goals first
        | exact stepB_refl
        | exact ⟨Int.le_refl _, Int.le_refl _, hs rfl, .inl rfl⟩
/-- No longer than so many behind so many records. -/
theorem len_apply (b : Br) (k : Int) (l : List Int) : (applyB b k l).its.length + (applyB b k l).kps.length ≤ b.its.length + b.kps.length + 1 := by
  rcases (step_apply b k l).cnt with h | ⟨h, _⟩ | ⟨h, _⟩ <;> omega

theorem all_append (b : Br) (l m : List (Int × List Int)) : allB b (l ++ m) = allB (allB b l) m := by simp [allB]
end

end Go.Proofs.YtdaimejlcfhfiaaGreatDoor
