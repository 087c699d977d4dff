/-
  Texts that the walk of a statement over brains leans on, joined (RegT, RegF, RdF, BoxW, BrPlain, BrMore). Conditions: those that each theorem names.
-/
import Derived.Test.YtplejbgecihnpaaDoorK0
import Derived.OrdersIn

namespace Go.Proofs.YtplejbgecihnpaaDoor
open Go.RowKit Go.Shelf

/-- Each of the late operations waits for operation i. -/
def lateB (ops : Array Oper) (md : Region.Mode) (ls : List Nat) (i : Nat) : Bool := ls.all fun j => match ops[j]? with
  | some o => o.after.any fun e => Region.binds md e && e.on == i
  | none => false
/-- None of the late ones has come up. -/
def fresh (ls : List Nat) (listed : Array Bool) : Bool := ls.all fun l => !listed.getD l true
set_option maxRecDepth 100000 in
theorem fresh_set {ls : List Nat} {listed : Array Bool} {i : Nat} (hi : ls.contains i = false) : fresh ls (listed.setIfInBounds i true) = fresh ls listed := by
  unfold fresh
  have hn : ∀ l ∈ ls, i ≠ l := fun l hl e => by
    subst e
    have : ls.contains i = true := by simpa using hl
    rw [this] at hi; cases hi
  rw [Bool.eq_iff_iff, List.all_eq_true, List.all_eq_true]
  exact ⟨fun h l hl => by rw [← getD_set_ne true (hn l hl)]; exact h l hl, fun h l hl => by rw [getD_set_ne true (hn l hl)]; exact h l hl⟩
set_option maxRecDepth 100000 in
theorem fresh_of_set {ls : List Nat} {listed : Array Bool} {i : Nat} (h : fresh ls (listed.setIfInBounds i true) = true) : fresh ls listed = true := by
  unfold fresh at *
  rw [List.all_eq_true] at *
  intro l hl
  by_cases e : i = l
  · subst e
    have := h i hl
    rcases Nat.lt_or_ge i listed.size with h1 | h1
    · simp [h1] at this
    · simp [h1] at this
  · rw [← getD_set_ne true e]; exact h l hl

section
variable {ops : Array Oper} {md : Region.Mode} {ls : List Nat} {i : Nat} {listed : Array Bool}
/-- What can come up from here on without operation i. -/
def growR (ops : Array Oper) (md : Region.Mode) (i : Nat) (R : Array Bool) : Array Bool := (Array.range ops.size).map fun j => R.getD j true || (j != i && match ops[j]? with
  | some o => o.after.all fun e => !Region.binds md e || R.getD e.on true
  | none => false)
def reachR (ops : Array Oper) (md : Region.Mode) (i : Nat) : Nat → Array Bool → Array Bool
  | 0, R => R
  | k + 1, R => reachR ops md i k (growR ops md i R)
/-- None of the late ones can come up ahead of operation i. -/
def lateR (ops : Array Oper) (md : Region.Mode) (ls : List Nat) (i : Nat) (listed : Array Bool) : Bool :=
  let R := reachR ops md i ops.size listed
  ((List.range ops.size).all fun j => R.getD j true || j == i || !(match ops[j]? with
    | some o => o.after.all fun e => !Region.binds md e || R.getD e.on true
    | none => false)) &&
  (((List.range ops.size).all fun j => !listed.getD j true || R.getD j true) && (R.size == ops.size && (listed.size == ops.size && ls.all fun l => !R.getD l true)))
/-- The same, told by a set that is closed. -/
def LateAt (ops : Array Oper) (md : Region.Mode) (ls : List Nat) (i : Nat) (listed : Array Bool) : Prop :=
  ∃ R : Nat → Bool, (∀ j o, ops[j]? = some o → j ≠ i → (∀ e ∈ o.after, Region.binds md e = true → R e.on = true) → R j = true) ∧ (∀ j, listed.getD j true = true → R j = true) ∧ ∀ l ∈ ls, R l = false
set_option maxRecDepth 100000 in
theorem lateAt_of (h : lateR ops md ls i listed = true) : LateAt ops md ls i listed := by
  unfold lateR at h
  revert h
  generalize reachR ops md i ops.size listed = R
  intro h
  simp only [Bool.and_eq_true, List.all_eq_true, List.mem_range, beq_iff_eq, Bool.not_eq_true', Bool.or_eq_true] at h
  obtain ⟨h1, h2, h3, h4, h5⟩ := h
  refine ⟨fun j => R.getD j true, fun j o ho hne ha => ?_, fun j hj => ?_, h5⟩
  · have hlt : j < ops.size := (Array.getElem?_eq_some_iff.1 ho).1
    rcases h1 j hlt with (h | h) | h
    · exact h
    · exact absurd h hne
    · rw [ho] at h
      dsimp only at h
      have : (o.after.all fun e => !Region.binds md e || R.getD e.on true) = true := by
        rw [Array.all_eq_true']
        intro e he
        cases hb : Region.binds md e with
        | false => rfl
        | true => simp only [Bool.not_true, Bool.false_or]; exact ha e he hb
      rw [this] at h; cases h
  · rcases Nat.lt_or_ge j ops.size with hlt | hge
    · rcases h2 j hlt with h | h
      · rw [hj] at h; cases h
      · exact h
    · show R.getD j true = true
      simp [Array.getD, Nat.not_lt.2 (by omega : R.size ≤ j)]
def lateOk (ops : Array Oper) (md : Region.Mode) (ls : List Nat) (i : Nat) (listed : Array Bool) : Bool :=
  (ls.isEmpty || ((lateB ops md ls i && fresh ls listed) || lateR ops md ls i listed)) && !ls.contains i
set_option maxRecDepth 100000 in
theorem lateAt_ok (hu : listed.getD i true = false) (h : lateOk ops md ls i listed = true) : LateAt ops md ls i listed := by
  unfold lateOk at h
  simp only [Bool.and_eq_true, Bool.or_eq_true, Bool.not_eq_true'] at h
  obtain ⟨h | h | h, hc⟩ := h
  · have e : ls = [] := by simpa using h
    subst e
    exact ⟨fun _ => true, fun _ _ _ _ _ => rfl, fun _ _ => rfl, by simp⟩
  · obtain ⟨h1, h2⟩ := h
    refine ⟨fun k => !ls.contains k && k != i, fun j o ho hne ha => ?_, fun j hj => ?_, fun l hl => by simp [hl]⟩
    · by_cases hj : j ∈ ls
      · have h3 := List.all_eq_true.1 h1 j hj
        simp only [ho] at h3
        rw [Array.any_eq_true'] at h3
        obtain ⟨e, he, h4⟩ := h3
        simp only [Bool.and_eq_true, beq_iff_eq] at h4
        have := ha e he h4.1
        simp [h4.2] at this
      · simp [hj, hne]
    · have hne : j ≠ i := by
        rintro rfl
        rw [hu] at hj; cases hj
      by_cases hl : j ∈ ls
      · have := List.all_eq_true.1 h2 j hl
        rw [hj] at this; simp at this
      · simp [hl, hne]
  · exact lateAt_of h
set_option maxRecDepth 100000 in
theorem LateAt.fresh_ (h : LateAt ops md ls i listed) : fresh ls listed = true := by
  obtain ⟨R, _, h2, h3⟩ := h
  unfold fresh
  rw [List.all_eq_true]
  intro l hl
  cases hc : listed.getD l true with
  | false => rfl
  | true => have := h2 l hc; rw [h3 l hl] at this; cases this
set_option maxRecDepth 100000 in
theorem LateAt.step {j : Nat} {o : Oper} (h : LateAt ops md ls i listed) (ho : ops[j]? = some o) (hne : j ≠ i) (ha : ∀ e ∈ o.after, Region.binds md e = true → listed.getD e.on true = true) : LateAt ops md ls i (listed.setIfInBounds j true) := by
  obtain ⟨R, h1, h2, h3⟩ := h
  refine ⟨R, h1, fun k hk => ?_, h3⟩
  by_cases e : j = k
  · subst e; exact h1 _ o ho hne fun e he hb => h2 _ (ha e he hb)
  · rw [getD_set_ne true e] at hk; exact h2 k hk

end

section
variable {P : Program} {ops : Array Oper} {Q : Exit → Act → World → Prop} {md : Region.Mode} {ls : List Nat} {T : World → Prop}

/-- Whatever order is picked from here on; behind every operation T holds, as long as none of the late ones has come up. -/
def wpAnyT (P : Program) (md : Region.Mode) (ops : Array Oper) (Q : Exit → Act → World → Prop) (ls : List Nat) (T : World → Prop) : Nat → Array Bool → Act → World → Prop
  | 0, listed, a, w => Region.ready md ops listed = [] ∧ Q .normal a w
  | fuel + 1, listed, a, w =>
    (Region.ready md ops listed = [] → Q .normal a w) ∧
    ∀ i ∈ Region.ready md ops listed, wpOp P ops Q i (fun a' w' => (fresh ls (listed.setIfInBounds i true) = true → T w') ∧ wpAnyT P md ops Q ls T fuel (listed.setIfInBounds i true) a' w') a w

set_option maxRecDepth 100000 in
theorem wpAny_of_T : ∀ (fuel : Nat) (listed : Array Bool) (a : Act) (w : World), wpAnyT P md ops Q ls T fuel listed a w → wpAny P md ops Q fuel listed a w
  | 0, _, _, _, h => h
  | fuel + 1, _, _, _, h => ⟨h.1, fun i hi => wpOp_mono (fun a' w' h' => wpAny_of_T fuel _ a' w' h'.2) (h.2 i hi)⟩

set_option maxRecDepth 100000 in
theorem wpAnyT_first {i : Nat} {oi : Oper} {v : Value} (T' : World → Prop) (hil : ls.contains i = false) (hi : ops[i]? = some oi) (hsel : ∀ (j : Nat) (o : Oper) cs b, ops[j]? = some o → o.op ≠ .select cs b)
    (hQ : ∀ c a w, Q (.panic c) (a.put oi.dst v) w → Q (.panic c) a w) :
    ∀ (fuel : Nat) (listed : Array Bool) (a : Act) (w : World),
      (∀ j oj, ops[j]? = some oj → j ≠ i → listed.getD j true = false → (∀ e ∈ oj.after, Region.binds md e = true → e.on ≠ i) → oi.apart ops oj = true) →
      i ∈ Region.ready md ops listed → YieldsIf P ops T' oi v a → T' w → ((∀ w, T' w) ∨ (LateAt ops md ls i listed ∧ ∀ w, T w → T' w)) → (fresh ls listed = true → T w) →
      wpAnyT P md ops Q ls T fuel (listed.setIfInBounds i true) (a.put oi.dst v) w → wpAnyT P md ops Q ls T (fuel + 1) listed a w := by
  intro fuel
  induction fuel with
  | zero =>
    intro listed a w _ hr hy hS _ hS2 H
    refine ⟨fun h => (by rw [h] at hr; cases hr), fun j hj => ?_⟩
    by_cases hji : j = i
    · subst hji; exact hy.wpOp hi hS ⟨fun h => hS2 (fresh_of_set h), H⟩
    · have := ready_mono hj hji
      rw [H.1] at this
      cases this
  | succ fuel ih =>
    intro listed a w hfree hr hy hS hT' hS2 H
    refine ⟨fun h => (by rw [h] at hr; cases hr), fun j hj => ?_⟩
    by_cases hji : j = i
    · subst hji; exact hy.wpOp hi hS ⟨fun h => hS2 (fresh_of_set h), H⟩
    · have h1 := H.2 j (ready_mono hj hji)
      obtain ⟨hjun, oj, hoj, hall⟩ := mem_ready.1 hj
      have hnot : ∀ e ∈ oj.after, Region.binds md e = true → e.on ≠ i := fun e he hb heq => by
        have h1 := hall e he hb
        have h0 := (mem_ready.1 hr).1
        rw [heq] at h1
        rcases Nat.lt_or_ge i listed.size with h' | h'
        · simp [h'] at h0 h1; rw [h0] at h1; cases h1
        · simp [Array.getElem?_eq_none h'] at h1
      have h2 := wpOp_putIf hoj (hfree j oj hoj hji hjun hnot) (fun cs b => hsel i oi cs b hi) (fun cs b => hsel j oj cs b hoj) hQ hy h1
      have hfree' : ∀ k ok, ops[k]? = some ok → k ≠ i → (listed.setIfInBounds j true).getD k true = false →
          (∀ e ∈ ok.after, Region.binds md e = true → e.on ≠ i) → oi.apart ops ok = true := fun k ok hk hki hun hno => by
        refine hfree k ok hk hki ?_ hno
        by_cases hjk : j = k
        · subst hjk; exact hjun
        · rw [getD_set_ne true hjk] at hun; exact hun
      refine wpOp_mono (fun a' w' h3 => ?_) h2
      have hTw : fresh ls (listed.setIfInBounds j true) = true → T w' := fun h => h3.2.1 (by
        rw [Array.setIfInBounds_comm _ _ (Ne.symm hji), fresh_set hil]; exact h)
      have hT2 : (∀ w, T' w) ∨ (LateAt ops md ls i (listed.setIfInBounds j true) ∧ ∀ w, T w → T' w) := by
        rcases hT' with h | ⟨h1, h3⟩
        · exact .inl h
        · refine .inr ⟨h1.step hoj hji fun e he hb => ?_, h3⟩
          have h1 := hall e he hb
          rcases Nat.lt_or_ge e.on listed.size with h' | h'
          · simp [h'] at h1 ⊢; exact h1
          · simp [Array.getElem?_eq_none h'] at h1
      refine ⟨hTw, ih (listed.setIfInBounds j true) a' w' hfree' (ready_mono hr (Ne.symm hji)) h3.1 ?_ hT2 hTw ?_⟩
      · rcases hT2 with h | ⟨h4, h5⟩
        · exact h w'
        · exact h5 w' (hTw h4.fresh_)
      · rw [Array.setIfInBounds_comm _ _ hji]
        exact h3.2.2

section
variable {fuel i : Nat} {listed : Array Bool} {a : Act} {w : World} {d : Option Tmp} {op : Op} {t : TypeId} {pos : String} {after : Array Edge} {g : Option (Nat × Bool)}

set_option maxRecDepth 100000 in
/-- An operation that yields v in every world that meets T: the late ones wait for it. -/
theorem takeT {v : Value} (hi : ops[i]? = some { dst := d, op := op, type := t, pos := pos, after := after, guard := g })
    (hs : Region.noSelect ops = true) (hf : Region.free md ops listed i = true) (hr : (Region.ready md ops listed).contains i = true) (hl : lateOk ops md ls i listed = true)
    (hQ : ∀ c a w, Q (.panic c) (a.put d v) w → Q (.panic c) a w) (hw : Region.wanted { dst := d, op := op, type := t, pos := pos, after := after, guard := g } (yielded ops a.tmps) = true)
    (hy : ∀ w, T w → (execOp a.eval { dst := d, op := op, type := t, pos := pos, after := after, guard := g }).run P w = .ok (.value v) w) (hT : T w)
    (h : wpAnyT P md ops Q ls T fuel (listed.setIfInBounds i true) (a.put d v) w) : wpAnyT P md ops Q ls T (fuel + 1) listed a w :=
  wpAnyT_first T (by unfold lateOk at hl; simp only [Bool.and_eq_true, Bool.not_eq_true'] at hl; exact hl.2) hi (Region.noSelect_spec hs) hQ fuel listed a w (Region.free_spec hi hf) (by simpa using hr) (Or.inl ⟨hw, hy⟩) hT
    (.inr ⟨lateAt_ok (mem_ready.1 (by simpa using hr)).1 hl, fun _ h => h⟩) (fun _ => hT) h
set_option maxRecDepth 100000 in
/-- An operation that yields v in every world. -/
theorem takeP {v : Value} (hi : ops[i]? = some { dst := d, op := op, type := t, pos := pos, after := after, guard := g })
    (hs : Region.noSelect ops = true) (hf : Region.free md ops listed i = true) (hr : (Region.ready md ops listed).contains i = true) (hl : ls.contains i = false)
    (hQ : ∀ c a w, Q (.panic c) (a.put d v) w → Q (.panic c) a w) (hw : Region.wanted { dst := d, op := op, type := t, pos := pos, after := after, guard := g } (yielded ops a.tmps) = true)
    (hy : ∀ w, (execOp a.eval { dst := d, op := op, type := t, pos := pos, after := after, guard := g }).run P w = .ok (.value v) w) (hT : fresh ls listed = true → T w)
    (h : wpAnyT P md ops Q ls T fuel (listed.setIfInBounds i true) (a.put d v) w) : wpAnyT P md ops Q ls T (fuel + 1) listed a w :=
  wpAnyT_first (fun _ => True) hl hi (Region.noSelect_spec hs) hQ fuel listed a w (Region.free_spec hi hf) (by simpa using hr) (Or.inl ⟨hw, fun w _ => hy w⟩) trivial (.inl fun _ => trivial) hT h

set_option maxRecDepth 100000 in
/-- An operation whose guard says no. -/
theorem skipT (hi : ops[i]? = some { dst := d, op := op, type := t, pos := pos, after := after, guard := g })
    (hs : Region.noSelect ops = true) (hf : Region.free md ops listed i = true) (hr : (Region.ready md ops listed).contains i = true) (hl : ls.contains i = false)
    (hQ : ∀ c a w, Q (.panic c) (a.put d undef) w → Q (.panic c) a w) (hw : Region.wanted { dst := d, op := op, type := t, pos := pos, after := after, guard := g } (yielded ops a.tmps) = false) (hT : fresh ls listed = true → T w)
    (h : wpAnyT P md ops Q ls T fuel (listed.setIfInBounds i true) (a.put d undef) w) : wpAnyT P md ops Q ls T (fuel + 1) listed a w :=
  wpAnyT_first (fun _ => True) hl hi (Region.noSelect_spec hs) hQ fuel listed a w (Region.free_spec hi hf) (by simpa using hr) (Or.inr ⟨hw, rfl⟩) trivial (.inl fun _ => trivial) hT h

set_option maxRecDepth 100000 in
/-- An operation that is all that may come up. -/
theorem oneT (hi : ops[i]? = some { dst := d, op := op, type := t, pos := pos, after := after, guard := g }) (hr : Region.ready md ops listed = [i])
    (hw : Region.wanted { dst := d, op := op, type := t, pos := pos, after := after, guard := g } (yielded ops a.tmps) = true)
    (h : ∀ K' : Act → World → Prop, Shut (∀ a w, (fresh ls (listed.setIfInBounds i true) = true → T w) → wpAnyT P md ops Q ls T fuel (listed.setIfInBounds i true) a w → K' a w) → ({ dst := d, op := op, type := t, pos := pos, after := after, guard := g } : Oper).wp P a w K' Q) : wpAnyT P md ops Q ls T (fuel + 1) listed a w := by
  refine ⟨fun h0 => (by rw [hr] at h0; cases h0), fun j hj => ?_⟩
  rw [hr] at hj
  simp only [List.mem_singleton] at hj
  subst hj
  exact wpOp_step hi (fun K' hK => by rw [if_pos hw]; exact h K' (fun a w hT hW => hK a w ⟨hT, hW⟩))
set_option maxRecDepth 100000 in
/-- A late one that is all that may come up. -/
theorem oneL (hl : fresh ls (listed.setIfInBounds i true) = false) (hi : ops[i]? = some { dst := d, op := op, type := t, pos := pos, after := after, guard := g }) (hr : Region.ready md ops listed = [i])
    (hw : Region.wanted { dst := d, op := op, type := t, pos := pos, after := after, guard := g } (yielded ops a.tmps) = true)
    (h : ∀ K' : Act → World → Prop, Shut (∀ a w, wpAnyT P md ops Q ls T fuel (listed.setIfInBounds i true) a w → K' a w) → ({ dst := d, op := op, type := t, pos := pos, after := after, guard := g } : Oper).wp P a w K' Q) : wpAnyT P md ops Q ls T (fuel + 1) listed a w :=
  oneT hi hr hw fun K' hK => h K' (fun a w hW => hK a w (fun h => by rw [hl] at h; cases h) hW)
set_option maxRecDepth 100000 in
theorem doneT {listed : Array Bool} {a : Act} {w : World} (hr : Region.ready md ops listed = []) (h : Q .normal a w) : ∀ fuel, wpAnyT P md ops Q ls T fuel listed a w
  | 0 => ⟨hr, h⟩
  | _ + 1 => ⟨fun _ => h, by rw [hr]; simp⟩
set_option maxRecDepth 100000 in
theorem wp_region_T {id : Nat} {a : Act} {w : World} (hm : P.follows .mixedOrders = true) (h : wpAnyT P .any ops Q ls T ops.size (Array.replicate ops.size false) a w.drew) : (Code.region id ops true).wp P Q a w :=
  wp_region_any hm (wpAny_of_T _ _ _ _ h)
end
end

section
variable {P : Program} {ops : Array Oper} {Q : Exit → Act → World → Prop} {l m : Nat}
end

end Go.Proofs.YtplejbgecihnpaaDoor

namespace Go.Proofs.YtplejbgecihnpaaDoor
open Go.RowKit Go.Shelf

section
variable {F : Fence} {n : Nat} {P : Program} {ops : Array Oper} {Q : Exit → Act → World → Prop} {md : Region.Mode} {ls : List Nat} {T : World → Prop}

/-- It yields v in every world that meets S, and makes no call. -/
def YieldsF (P : Program) (ops : Array Oper) (S : World → Prop) (o : Oper) (v : Value) (a : Act) : Prop := YieldsIf P ops S o v a ∧ ∀ w, o.about P w a.eval = none
set_option maxRecDepth 100000 in
theorem YieldsF.wpOpIn {S : World → Prop} {i : Nat} {o : Oper} {v : Value} {a : Act} (hro : F.round = none) (hi : ops[i]? = some o) (hy : YieldsF P ops S o v a) {K : Act → World → Prop} {w : World} (hS : S w) (h : K (a.put o.dst v) w) : wpOpIn F n P ops Q i K a w := by
  unfold Go.wpOpIn
  simp only [hi]
  have hab : ∀ f, o.about P w a.eval = some f → F.fn f := fun f hf => by rw [hy.2 w] at hf; cases hf
  rcases hy.1 with ⟨hw, hv⟩ | ⟨hw, rfl⟩
  · simp only [hw, if_true, Oper.wpIn, hro, Oper.semAt_none, hv w hS, Oper.uponIn]; exact ⟨hab, h⟩
  · simp only [hw, Bool.false_eq_true, if_false]; exact ⟨hab, h⟩
set_option maxRecDepth 100000 in
theorem YieldsF.of_same {S : World → Prop} {o : Oper} {v : Value} {a a' : Act} (hy : YieldsF P ops S o v a) (he : execOp a'.eval o = execOp a.eval o)
    (hw : Region.wanted o (yielded ops a'.tmps) = Region.wanted o (yielded ops a.tmps)) (hb : ∀ w, o.about P w a'.eval = o.about P w a.eval) : YieldsF P ops S o v a' :=
  ⟨hy.1.of_same he hw, fun w => by rw [hb w]; exact hy.2 w⟩
set_option maxRecDepth 100000 in
theorem wpOpIn_putF {S : World → Prop} {j : Nat} {oi oj : Oper} {v : Value} (hro : F.round = none) (hj : ops[j]? = some oj) (hap : oi.apart ops oj = true)
    (hsi : ∀ cs b, oi.op ≠ .select cs b) (hsj : ∀ cs b, oj.op ≠ .select cs b)
    (hQ : ∀ c a w, Q (.panic c) (a.put oi.dst v) w → Q (.panic c) a w) {K : Act → World → Prop} {a : Act} {w : World}
    (hy : YieldsF P ops S oi v a) (h : wpOpIn F n P ops Q j K (a.put oi.dst v) w) :
    wpOpIn F n P ops Q j (fun a' w' => YieldsF P ops S oi v a' ∧ K (a'.put oi.dst v) w') a w := by
  obtain ⟨h1, h2, h3⟩ := Oper.apart_spec hap
  have keep : ∀ (a : Act), YieldsF P ops S oi v a → ∀ u, YieldsF P ops S oi v (a.put oj.dst u) := fun a hy u =>
    hy.of_same (execOp_put oi hsi a oj.dst u h3) (wanted_put oi a oj.dst u h3) (fun w => about_put oi w a oj.dst u h3)
  have keepD : ∀ d, YieldsF P ops S oi v { a with defers := d :: a.defers } := fun d => hy.of_same rfl rfl (fun _ => rfl)
  unfold wpOpIn at *
  simp only [hj] at *
  rw [wanted_put oj a oi.dst v h1, about_put oj w a oi.dst v h1] at h
  split
  · rename_i hw
    simp only [hw, if_true] at h
    unfold Oper.wpIn at *
    rw [about_put oj w a oi.dst v h1] at h
    refine ⟨h.1, ?_⟩
    have h := h.2
    rw [hro, Oper.semAt_none, execOp_put oj hsj a oi.dst v h1] at h
    rw [hro, Oper.semAt_none]
    generalize (execOp a.eval oj).run P w = r at *
    cases r with
    | ok x w' =>
      cases x <;> simp only [Oper.uponIn] at h ⊢
      case value u => exact ⟨keep a hy u, by rw [← Act.put_comm a v u h2]; exact h⟩
      case skip => exact ⟨keep a hy _, by rw [← Act.put_comm a v undef h2]; exact h⟩
      case defer d =>
        refine ⟨keep _ (keepD d) _, ?_⟩
        rw [← Act.put_comm _ v undef h2, ← Act.put_defers]
        exact h
      case enter f args =>
        refine ⟨h.1, CallsIn.mono h.2 fun e w'' he => ?_⟩
        cases e with
        | returned u => exact ⟨keep a hy u, by rw [← Act.put_comm a v u h2]; exact he⟩
        | panicked c => exact hQ _ _ _ he
        | outgrown => exact he
      case row row args => exact ⟨h.1, RowsIn.mono h.2 fun u w'' he => ⟨keep a hy u, by rw [← Act.put_comm a v u h2]; exact he⟩⟩
      case round l f tmps assign body =>
        refine ⟨h.1, RoundIn.mono h.2 fun e w'' he => ?_⟩
        cases e with
        | returned u => exact ⟨keep a hy u, by rw [← Act.put_comm a v u h2]; exact he⟩
        | panicked c => exact hQ _ _ _ he
        | outgrown => exact he
    | halt x w' =>
      cases x <;> simp only [Oper.uponIn] at h ⊢
      case panic u => exact hQ _ _ _ h
  · rename_i hw
    simp only [hw] at h
    exact ⟨h.1, keep a hy _, by rw [← Act.put_comm a v undef h2]; exact h.2⟩

/-- Whatever order is picked from here on; behind every operation T holds, as long as none of the late ones has come up. -/
def wpAnyF (F : Fence) (n : Nat) (P : Program) (md : Region.Mode) (ops : Array Oper) (Q : Exit → Act → World → Prop) (ls : List Nat) (T : World → Prop) : Nat → Array Bool → Act → World → Prop
  | 0, listed, a, w => Region.ready md ops listed = [] ∧ Q .normal a w
  | fuel + 1, listed, a, w =>
    (Region.ready md ops listed = [] → Q .normal a w) ∧
    ∀ i ∈ Region.ready md ops listed, wpOpIn F n P ops Q i (fun a' w' => (fresh ls (listed.setIfInBounds i true) = true → T w') ∧ wpAnyF F n P md ops Q ls T fuel (listed.setIfInBounds i true) a' w') a w

set_option maxRecDepth 100000 in
theorem wpAnyIn_of_F : ∀ (fuel : Nat) (listed : Array Bool) (a : Act) (w : World), wpAnyF F n P md ops Q ls T fuel listed a w → wpAnyIn F n P md ops Q fuel listed a w
  | 0, _, _, _, h => h
  | fuel + 1, _, _, _, h => ⟨h.1, fun i hi => wpOpIn_mono (fun a' w' h' => wpAnyIn_of_F fuel _ a' w' h'.2) (h.2 i hi)⟩

set_option maxRecDepth 100000 in
theorem wpAnyF_first {i : Nat} {oi : Oper} {v : Value} (hro : F.round = none) (T' : World → Prop) (hil : ls.contains i = false) (hi : ops[i]? = some oi) (hsel : ∀ (j : Nat) (o : Oper) cs b, ops[j]? = some o → o.op ≠ .select cs b)
    (hQ : ∀ c a w, Q (.panic c) (a.put oi.dst v) w → Q (.panic c) a w) :
    ∀ (fuel : Nat) (listed : Array Bool) (a : Act) (w : World),
      (∀ j oj, ops[j]? = some oj → j ≠ i → listed.getD j true = false → (∀ e ∈ oj.after, Region.binds md e = true → e.on ≠ i) → oi.apart ops oj = true) →
      i ∈ Region.ready md ops listed → YieldsF P ops T' oi v a → T' w → ((∀ w, T' w) ∨ (LateAt ops md ls i listed ∧ ∀ w, T w → T' w)) → (fresh ls listed = true → T w) →
      wpAnyF F n P md ops Q ls T fuel (listed.setIfInBounds i true) (a.put oi.dst v) w → wpAnyF F n P md ops Q ls T (fuel + 1) listed a w := by
  intro fuel
  induction fuel with
  | zero =>
    intro listed a w _ hr hy hS _ hS2 H
    refine ⟨fun h => (by rw [h] at hr; cases hr), fun j hj => ?_⟩
    by_cases hji : j = i
    · subst hji; exact hy.wpOpIn hro hi hS ⟨fun h => hS2 (fresh_of_set h), H⟩
    · have := ready_mono hj hji
      rw [H.1] at this
      cases this
  | succ fuel ih =>
    intro listed a w hfree hr hy hS hT' hS2 H
    refine ⟨fun h => (by rw [h] at hr; cases hr), fun j hj => ?_⟩
    by_cases hji : j = i
    · subst hji; exact hy.wpOpIn hro hi hS ⟨fun h => hS2 (fresh_of_set h), H⟩
    · have h1 := H.2 j (ready_mono hj hji)
      obtain ⟨hjun, oj, hoj, hall⟩ := mem_ready.1 hj
      have hnot : ∀ e ∈ oj.after, Region.binds md e = true → e.on ≠ i := fun e he hb heq => by
        have h1 := hall e he hb
        have h0 := (mem_ready.1 hr).1
        rw [heq] at h1
        rcases Nat.lt_or_ge i listed.size with h' | h'
        · simp [h'] at h0 h1; rw [h0] at h1; cases h1
        · simp [Array.getElem?_eq_none h'] at h1
      have h2 := wpOpIn_putF hro hoj (hfree j oj hoj hji hjun hnot) (fun cs b => hsel i oi cs b hi) (fun cs b => hsel j oj cs b hoj) hQ hy h1
      have hfree' : ∀ k ok, ops[k]? = some ok → k ≠ i → (listed.setIfInBounds j true).getD k true = false →
          (∀ e ∈ ok.after, Region.binds md e = true → e.on ≠ i) → oi.apart ops ok = true := fun k ok hk hki hun hno => by
        refine hfree k ok hk hki ?_ hno
        by_cases hjk : j = k
        · subst hjk; exact hjun
        · rw [getD_set_ne true hjk] at hun; exact hun
      refine wpOpIn_mono (fun a' w' h3 => ?_) h2
      have hTw : fresh ls (listed.setIfInBounds j true) = true → T w' := fun h => h3.2.1 (by
        rw [Array.setIfInBounds_comm _ _ (Ne.symm hji), fresh_set hil]; exact h)
      have hT2 : (∀ w, T' w) ∨ (LateAt ops md ls i (listed.setIfInBounds j true) ∧ ∀ w, T w → T' w) := by
        rcases hT' with h | ⟨h1, h3⟩
        · exact .inl h
        · refine .inr ⟨h1.step hoj hji fun e he hb => ?_, h3⟩
          have h1 := hall e he hb
          rcases Nat.lt_or_ge e.on listed.size with h' | h'
          · simp [h'] at h1 ⊢; exact h1
          · simp [Array.getElem?_eq_none h'] at h1
      refine ⟨hTw, ih (listed.setIfInBounds j true) a' w' hfree' (ready_mono hr (Ne.symm hji)) h3.1 ?_ hT2 hTw ?_⟩
      · rcases hT2 with h | ⟨h4, h5⟩
        · exact h w'
        · exact h5 w' (hTw h4.fresh_)
      · rw [Array.setIfInBounds_comm _ _ hji]
        exact h3.2.2

section
variable {fuel i : Nat} {listed : Array Bool} {a : Act} {w : World} {d : Option Tmp} {op : Op} {t : TypeId} {pos : String} {after : Array Edge} {g : Option (Nat × Bool)}

set_option maxRecDepth 100000 in
/-- An operation that yields v in every world that meets T: the late ones wait for it. -/
theorem takeF {v : Value} (hro : F.round = none) (hab : ∀ w, ({ dst := d, op := op, type := t, pos := pos, after := after, guard := g } : Oper).about P w a.eval = none) (hi : ops[i]? = some { dst := d, op := op, type := t, pos := pos, after := after, guard := g })
    (hs : Region.noSelect ops = true) (hf : Region.free md ops listed i = true) (hr : (Region.ready md ops listed).contains i = true) (hl : lateOk ops md ls i listed = true)
    (hQ : ∀ c a w, Q (.panic c) (a.put d v) w → Q (.panic c) a w) (hw : Region.wanted { dst := d, op := op, type := t, pos := pos, after := after, guard := g } (yielded ops a.tmps) = true)
    (hy : ∀ w, T w → (execOp a.eval { dst := d, op := op, type := t, pos := pos, after := after, guard := g }).run P w = .ok (.value v) w) (hT : T w)
    (h : wpAnyF F n P md ops Q ls T fuel (listed.setIfInBounds i true) (a.put d v) w) : wpAnyF F n P md ops Q ls T (fuel + 1) listed a w :=
  wpAnyF_first hro T (by unfold lateOk at hl; simp only [Bool.and_eq_true, Bool.not_eq_true'] at hl; exact hl.2) hi (Region.noSelect_spec hs) hQ fuel listed a w (Region.free_spec hi hf) (by simpa using hr) ⟨Or.inl ⟨hw, hy⟩, hab⟩ hT
    (.inr ⟨lateAt_ok (mem_ready.1 (by simpa using hr)).1 hl, fun _ h => h⟩) (fun _ => hT) h
set_option maxRecDepth 100000 in
/-- An operation that yields v in every world. -/
theorem takeQ {v : Value} (hro : F.round = none) (hab : ∀ w, ({ dst := d, op := op, type := t, pos := pos, after := after, guard := g } : Oper).about P w a.eval = none) (hi : ops[i]? = some { dst := d, op := op, type := t, pos := pos, after := after, guard := g })
    (hs : Region.noSelect ops = true) (hf : Region.free md ops listed i = true) (hr : (Region.ready md ops listed).contains i = true) (hl : ls.contains i = false)
    (hQ : ∀ c a w, Q (.panic c) (a.put d v) w → Q (.panic c) a w) (hw : Region.wanted { dst := d, op := op, type := t, pos := pos, after := after, guard := g } (yielded ops a.tmps) = true)
    (hy : ∀ w, (execOp a.eval { dst := d, op := op, type := t, pos := pos, after := after, guard := g }).run P w = .ok (.value v) w) (hT : fresh ls listed = true → T w)
    (h : wpAnyF F n P md ops Q ls T fuel (listed.setIfInBounds i true) (a.put d v) w) : wpAnyF F n P md ops Q ls T (fuel + 1) listed a w :=
  wpAnyF_first hro (fun _ => True) hl hi (Region.noSelect_spec hs) hQ fuel listed a w (Region.free_spec hi hf) (by simpa using hr) ⟨Or.inl ⟨hw, fun w _ => hy w⟩, hab⟩ trivial (.inl fun _ => trivial) hT h

set_option maxRecDepth 100000 in
/-- An operation whose guard says no. -/
theorem skipF (hro : F.round = none) (hab : ∀ w, ({ dst := d, op := op, type := t, pos := pos, after := after, guard := g } : Oper).about P w a.eval = none) (hi : ops[i]? = some { dst := d, op := op, type := t, pos := pos, after := after, guard := g })
    (hs : Region.noSelect ops = true) (hf : Region.free md ops listed i = true) (hr : (Region.ready md ops listed).contains i = true) (hl : ls.contains i = false)
    (hQ : ∀ c a w, Q (.panic c) (a.put d undef) w → Q (.panic c) a w) (hw : Region.wanted { dst := d, op := op, type := t, pos := pos, after := after, guard := g } (yielded ops a.tmps) = false) (hT : fresh ls listed = true → T w)
    (h : wpAnyF F n P md ops Q ls T fuel (listed.setIfInBounds i true) (a.put d undef) w) : wpAnyF F n P md ops Q ls T (fuel + 1) listed a w :=
  wpAnyF_first hro (fun _ => True) hl hi (Region.noSelect_spec hs) hQ fuel listed a w (Region.free_spec hi hf) (by simpa using hr) ⟨Or.inr ⟨hw, rfl⟩, hab⟩ trivial (.inl fun _ => trivial) hT h

set_option maxRecDepth 100000 in
/-- An operation that is all that may come up. -/
theorem oneF (hi : ops[i]? = some { dst := d, op := op, type := t, pos := pos, after := after, guard := g }) (hr : Region.ready md ops listed = [i])
    (hw : Region.wanted { dst := d, op := op, type := t, pos := pos, after := after, guard := g } (yielded ops a.tmps) = true)
    (h : ∀ K' : Act → World → Prop, Shut (∀ a w, (fresh ls (listed.setIfInBounds i true) = true → T w) → wpAnyF F n P md ops Q ls T fuel (listed.setIfInBounds i true) a w → K' a w) → ({ dst := d, op := op, type := t, pos := pos, after := after, guard := g } : Oper).wpIn F n P a w K' Q) : wpAnyF F n P md ops Q ls T (fuel + 1) listed a w := by
  refine ⟨fun h0 => (by rw [hr] at h0; cases h0), fun j hj => ?_⟩
  rw [hr] at hj
  simp only [List.mem_singleton] at hj
  subst hj
  exact wpOpIn_step hi (fun K' hK => by rw [if_pos hw]; exact h K' (fun a w hT hW => hK a w ⟨hT, hW⟩))
set_option maxRecDepth 100000 in
/-- A late one that is all that may come up. -/
theorem oneM (hl : fresh ls (listed.setIfInBounds i true) = false) (hi : ops[i]? = some { dst := d, op := op, type := t, pos := pos, after := after, guard := g }) (hr : Region.ready md ops listed = [i])
    (hw : Region.wanted { dst := d, op := op, type := t, pos := pos, after := after, guard := g } (yielded ops a.tmps) = true)
    (h : ∀ K' : Act → World → Prop, Shut (∀ a w, wpAnyF F n P md ops Q ls T fuel (listed.setIfInBounds i true) a w → K' a w) → ({ dst := d, op := op, type := t, pos := pos, after := after, guard := g } : Oper).wpIn F n P a w K' Q) : wpAnyF F n P md ops Q ls T (fuel + 1) listed a w :=
  oneF hi hr hw fun K' hK => h K' (fun a w hW => hK a w (fun h => by rw [hl] at h; cases h) hW)
set_option maxRecDepth 100000 in
theorem doneF {listed : Array Bool} {a : Act} {w : World} (hr : Region.ready md ops listed = []) (h : Q .normal a w) : ∀ fuel, wpAnyF F n P md ops Q ls T fuel listed a w
  | 0 => ⟨hr, h⟩
  | _ + 1 => ⟨fun _ => h, by rw [hr]; simp⟩
set_option maxRecDepth 100000 in
theorem wpIn_region_F {id : Nat} {a : Act} {w : World} (hm : P.follows .mixedOrders = true) (h : wpAnyF F n P .any ops Q ls T ops.size (Array.replicate ops.size false) a w.drew) : (Code.region id ops true).wpIn F n P Q a w :=
  wpIn_region_any hm (wpAnyIn_of_F _ _ _ _ h)
end
end

end Go.Proofs.YtplejbgecihnpaaDoor

namespace Go.Proofs.YtplejbgecihnpaaDoor
open Go.RowKit Go.Shelf

section
variable {α : Type} {f : α → List Value} {size : Nat}
set_option maxRecDepth 100000 in
theorem flatF_length (hf : ∀ x, (f x).length = size) (l : List α) : (l.flatMap f).length = l.length * size := by
  induction l with
  | nil => simp
  | cons x l ih => rw [List.flatMap_cons, List.length_append, ih, hf, List.length_cons, Nat.succ_mul]; omega
set_option maxRecDepth 100000 in
theorem flatF_at (hf : ∀ x, (f x).length = size) {l : List α} {j : Nat} {x : α} (hx : l[j]? = some x) {i : Nat} (hi : i < size) : (l.flatMap f)[j * size + i]? = (f x)[i]? := by
  induction l generalizing j with
  | nil => simp at hx
  | cons y l ih =>
    rw [List.flatMap_cons]
    cases j with
    | zero =>
      simp at hx
      subst hx
      rw [Nat.zero_mul, Nat.zero_add, List.getElem?_append_left (by rw [hf]; exact hi)]
    | succ j =>
      rw [List.getElem?_append_right (by rw [hf, Nat.succ_mul]; omega), hf, show (j + 1) * size + i - size = j * size + i by rw [Nat.succ_mul]; omega]
      exact ih (by simpa using hx)
set_option maxRecDepth 100000 in
theorem flatF_set (hf : ∀ x, (f x).length = size) {l : List α} {j : Nat} {x y : α} (hx : l[j]? = some x) {i : Nat} (hi : i < size) {u : Value} (hy : f y = (f x).set i u) : (l.flatMap f).set (j * size + i) u = (l.set j y).flatMap f := by
  induction l generalizing j with
  | nil => simp at hx
  | cons z l ih =>
    cases j with
    | zero =>
      simp at hx
      subst hx
      rw [Nat.zero_mul, Nat.zero_add, List.flatMap_cons, List.set_cons_zero, List.flatMap_cons, hy, List.set_append_left _ _ (by rw [hf]; exact hi)]
    | succ j =>
      rw [List.set_cons_succ, List.flatMap_cons, List.flatMap_cons, List.set_append_right _ _ (by rw [hf, Nat.succ_mul]; omega), hf, show (j + 1) * size + i - size = j * size + i by rw [Nat.succ_mul]; omega, ih (by simpa using hx)]
set_option maxRecDepth 100000 in
theorem flatF_one (hf1 : ∀ x, ∀ u ∈ f x, u.oneCell' = true) (l : List α) : ∀ u ∈ l.flatMap f, u.oneCell' = true := by
  intro u hu
  simp only [List.mem_flatMap] at hu
  obtain ⟨x, _, hx⟩ := hu
  exact hf1 x u hx
end

/-- A slice of structs of 'size' cells, whose values f tells, that reads as the list l, in a block below B. -/
def RdF {α : Type} (size : Nat) (f : α → List Value) (w : World) (B : Nat) (A : Option Addr) (n : Nat) (l : List α) : Prop :=
  l.length = n ∧ (0 < n → ∃ b off, A = some ⟨b, off, none⟩ ∧ b < B ∧ ∀ j x, l[j]? = some x → ∀ i, i < size → w.cell? ⟨b, off + j * size + i, none⟩ = (f x)[i]?)
section
variable {α : Type} {f : α → List Value} {size : Nat} {w w' : World} {B B' n : Nat} {A : Option Addr} {l : List α}
set_option maxRecDepth 100000 in
theorem RdF.len (h : RdF size f w B A n l) : l.length = n := h.1
set_option maxRecDepth 100000 in
theorem RdF.nil_ (w : World) (B : Nat) (A : Option Addr) : RdF size f w B A 0 [] := ⟨rfl, fun h => absurd h (by omega)⟩
set_option maxRecDepth 100000 in
theorem RdF.below (h : RdF size f w B A n l) (hb : Below B w w') : RdF size f w' B A n l :=
  ⟨h.1, fun hn => by
    obtain ⟨b, off, e, hlt, hc⟩ := h.2 hn
    exact ⟨b, off, e, hlt, fun j x hx i hi => (hb.cell (p := ⟨b, off + j * size + i, none⟩) hlt).trans (hc j x hx i hi)⟩⟩
set_option maxRecDepth 100000 in
theorem RdF.more (h : RdF size f w B A n l) (hB : B ≤ B') : RdF size f w B' A n l :=
  ⟨h.1, fun hn => by
    obtain ⟨b, off, e, hlt, hc⟩ := h.2 hn
    exact ⟨b, off, e, by omega, hc⟩⟩
set_option maxRecDepth 100000 in
theorem RdF.up {W W' : World} (h : RdF size f W W.heap.size A n l) (hb : Below W.heap.size W W') : RdF size f W' W'.heap.size A n l := (h.below hb).more hb.size
set_option maxRecDepth 100000 in
/-- The first k. -/
theorem RdF.take (h : RdF size f w B A n l) {k : Nat} (hk : k ≤ n) : RdF size f w B A k (l.take k) :=
  ⟨by rw [List.length_take, h.1]; omega, fun hn => by
    obtain ⟨b, off, e, hlt, hc⟩ := h.2 (by omega)
    refine ⟨b, off, e, hlt, fun j x hx => hc j x ?_⟩
    rw [List.getElem?_take] at hx
    split at hx
    · exact hx
    · cases hx⟩
set_option maxRecDepth 100000 in
/-- Those from k on, where A' is where they begin. -/
theorem RdF.drop (h : RdF size f w B A n l) {k : Nat} (hk : k ≤ n) {A' : Option Addr} (hA : k < n → ∀ b off, A = some ⟨b, off, none⟩ → A' = some ⟨b, off + k * size, none⟩) : RdF size f w B A' (n - k) (l.drop k) :=
  ⟨by rw [List.length_drop, h.1], fun hn => by
    obtain ⟨b, off, e, hlt, hc⟩ := h.2 (by omega)
    refine ⟨b, off + k * size, hA (by omega) b off e, hlt, fun j x hx i hi => ?_⟩
    rw [List.getElem?_drop] at hx
    have h1 := hc _ x hx i hi
    rw [Nat.add_mul] at h1
    rw [← h1, show off + k * size + j * size + i = off + (k * size + j * size) + i by omega]⟩
set_option maxRecDepth 100000 in
theorem RdF.of_own {base c : Nat} {e : TypeId} (hf : ∀ x, (f x).length = size) (hs : 0 < size) (h : w.ownsRow base e size (.slice A n c) n (l.flatMap f)) : RdF size f w w.heap.size A n l := by
  have hl : l.length = n := by
    have h1 := h.1
    rw [flatF_length hf] at h1
    exact Nat.eq_of_mul_eq_mul_right hs h1
  refine ⟨hl, fun hn => ?_⟩
  obtain ⟨g, cap, hv, _, hlt⟩ := h.form hn
  injection hv with hA _ hc
  subst hA; subst hc
  refine ⟨g, 0, rfl, hlt, fun j x hx i hi => ?_⟩
  have hj : j < l.length := (List.getElem?_eq_some_iff.1 hx).1
  have hji : j * size + i < n * size := by
    have h1 : (j + 1) * size ≤ n * size := Nat.mul_le_mul_right _ (by omega)
    rw [Nat.succ_mul] at h1
    omega
  rw [Nat.zero_add, h.cellAt (j * size + i) hji]
  exact flatF_at hf hx hi
set_option maxRecDepth 100000 in
theorem RdF.cells {a : Addr} (hf : ∀ x, (f x).length = size) (hs : 0 < size) (h : RdF size f w B (some a) n l) : ∀ j u, (l.flatMap f)[j]? = some u → w.cell? (a.add j) = some u := by
  intro j u hu
  have hj : j < l.length * size := by rw [← flatF_length hf]; exact (List.getElem?_eq_some_iff.1 hu).1
  have hn : 0 < n := by
    rcases Nat.eq_zero_or_pos n with h0 | h0
    · have := h.1; rw [this, h0, Nat.zero_mul] at hj; omega
    · exact h0
  obtain ⟨b, off, e, _, hc⟩ := h.2 hn
  injection e with e
  subst e
  have hjl : j / size < l.length := (Nat.div_lt_iff_lt_mul hs).2 hj
  have hx : l[j / size]? = some l[j / size] := List.getElem?_eq_getElem hjl
  have hm : j % size < size := Nat.mod_lt _ hs
  have hd : j / size * size + j % size = j := by rw [Nat.mul_comm]; exact Nat.div_add_mod j size
  have h1 := hc _ _ hx (j % size) hm
  rw [Addr.add_lit, show off + j = off + j / size * size + j % size by omega, h1, ← flatF_at hf hx hm, hd, hu]
end

set_option maxRecDepth 100000 in
theorem own_formF {w : World} {base : Nat} {e : TypeId} {size n : Nat} {v : Value} {xs : List Value} (h : w.ownsRow base e size v n xs) : ∃ A c, v = .slice A n c := by
  rcases h.2 with ⟨rfl, rfl⟩ | ⟨g, cap, cur, rfl, _⟩
  · exact ⟨_, _, rfl⟩
  · exact ⟨_, _, rfl⟩
set_option maxRecDepth 100000 in
/-- A row of one element type lies in no block of another one, of however many cells. -/
theorem own_apart_F {w : World} {base size n b : Nat} {e t : TypeId} {v : Value} {xs : List Value} {cs : Array Value} (hne : e ≠ t) (ho : w.ownsRow base e size v n xs) (hw : Whole w b t cs) : v.ownBlock ≠ some b := by
  rcases ho.2 with ⟨rfl, _⟩ | ⟨g, cap, cur, rfl, _, hg, _⟩
  · simp [Value.ownBlock]
  · simp only [Value.ownBlock, ne_eq, Option.some.injEq]
    intro e
    subst e
    unfold Whole at hw
    rw [hw] at hg
    injection hg with hg
    injection hg with _ h _
    exact absurd h.symm hne
set_option maxRecDepth 100000 in
/-- Two rows of the call's own of unlike element types: one stays while the other one grows. -/
theorem own_kept_F {w w' : World} {base base' n m size size' : Nat} {e e' : TypeId} {v u : Value} {xs ys : List Value} (hne : e ≠ e') (h1 : w.ownsRow base e size v n xs) (h2 : w.ownsRow base' e' size' u m ys) (hg : w.grownBy w' v.ownBlock) : w'.ownsRow base' e' size' u m ys := by
  refine h2.kept hg ?_
  rcases h2.2 with ⟨rfl, _⟩ | ⟨g, cap, cur, rfl, _, hg1, _⟩
  · exact .inl rfl
  · right
    intro e0
    rcases h1.2 with ⟨rfl, _⟩ | ⟨g', cap', cur', rfl, _, hg', _⟩
    · simp [Value.ownBlock] at e0
    · simp only [Value.ownBlock, Option.some.injEq] at e0
      subst e0
      rw [hg1] at hg'
      injection hg' with hg'
      injection hg' with _ h5 _
      exact absurd h5.symm hne

set_option maxRecDepth 100000 in
/-- 'append(v, x...)' at structs: v of the call's own, x whatever reads. -/
theorem run_appF {α : Type} {f : α → List Value} {size bytes : Nat} {z : Value} {ty e : TypeId} (ht : Tryd.prog.underlying ty = some (.slice e)) (hi0 : (Tryd.prog.info? e).map (fun i => (i.zero, i.size, i.bytes)) = some (some z, size, bytes)) (hz : z.cells.size = size) (hs : 0 < size) (hf : ∀ x, (f x).length = size) (hf1 : ∀ x, ∀ u ∈ f x, u.oneCell' = true) (w : World) (base : Nat) (v : Value) (n : Nat) (xs : List Value) (hown : w.ownsRow base e size v n xs) (B : Nat) (A : Option Addr) (m c : Nat) (l : List α) (hr : RdF size f w B A m l) (hm : n + m ≤ maxLen) (hbt : (n + m) * bytes ≤ 140737488355328) (hbase : base ≤ w.heap.size) :
    ∃ v' w', (Builtin.append_ #[ty, ty] ty #[v, .slice A m c]).run Tryd.prog w = .ok v' w' ∧ w'.ownsRow base e size v' (n + m) (xs ++ l.flatMap f) ∧ w.grownBy w' v.ownBlock := by
  obtain ⟨i0, hi, hz0, hz1, hz2⟩ := info_parts hi0
  rcases A with _ | ad
  · have hm0 : m = 0 := by
      rcases Nat.eq_zero_or_pos m with h | h
      · exact h
      · obtain ⟨b, off, e, _⟩ := hr.2 h
        cases e
    subst hm0
    have hb : l = [] := List.eq_nil_of_length_eq_zero hr.1
    subst hb
    refine ⟨v, w, ?_, by simpa using hown, World.grownBy.refl w _⟩
    rcases hown.2 with ⟨rfl, _⟩ | ⟨g, cap, cur, rfl, _, _, hnc, _⟩
    · simp [Builtin.append_, run_underlying ht, sizeOf, typeInfo, hi, Builtin.lenOf, Builtin.firstCells]
    · simp [Builtin.append_, run_underlying ht, sizeOf, typeInfo, hi, Builtin.lenOf, Builtin.firstCells, hnc, storeCells]
  · obtain ⟨v', w', h1, h2, h3, _⟩ := run_append_own (P := Tryd.prog) w base ty ty e i0 z size bytes ht hi hz0 hz1 hz2 hz hs v n xs hown ad m c (l.flatMap f) (by rw [flatF_length hf, hr.1]) (hr.cells hf hs) (flatF_one hf1 l) (by unfold maxLen at *; omega) hbt hbase
    exact ⟨v', w', h1, h2, h3⟩

set_option maxRecDepth 100000 in
/-- 'x[k:]', 'x[:k]' of structs. -/
theorem run_restF {size bytes : Nat} {z : Value} {ty e : TypeId} (ht : Tryd.prog.underlying ty = some (.slice e)) (he : Tryd.prog.elem ty = e) (hi0 : (Tryd.prog.info? e).map (fun i => (i.zero, i.size, i.bytes)) = some (some z, size, bytes)) (A : Option Addr) (n c k : Nat) (hk : k ≤ n) : ∃ A', (∀ w : World, (Instr.slice ty (.slice A n c) (some (.int .i64 (k : Int))) none none).run Tryd.prog w = .ok (.slice A' (n - k) (c - k)) w) ∧
    ((k < n ∧ n ≤ c) → ∀ b off, A = some ⟨b, off, none⟩ → A' = some ⟨b, off + k * size, none⟩) := by
  obtain ⟨i0, hi, hz0, hz1, hz2⟩ := info_parts hi0
  refine ⟨if c = k then A else A.map (·.add (k * size)), fun w => ?_, ?_⟩
  · have hz : (sizeOf (Tryd.prog.elem ty)).run Tryd.prog w = .ok size w := by
      simp [he, Go.sizeOf, typeInfo, hi, hz1]
    have h63 : (k : Int).toNat = k := by omega
    rw [run_slice_l (P := Tryd.prog) w ty A n c (by rw [he]; exact ht) .i64 (k : Int) (by omega) (by omega), hz, h63]
    rfl
  · rintro ⟨h1, h2⟩ b off rfl
    rw [if_neg (by omega), Option.map_some, Addr.add_lit]
set_option maxRecDepth 100000 in
theorem run_headF {size bytes : Nat} {z : Value} {ty e : TypeId} (ht : Tryd.prog.underlying ty = some (.slice e)) (he : Tryd.prog.elem ty = e) (hi0 : (Tryd.prog.info? e).map (fun i => (i.zero, i.size, i.bytes)) = some (some z, size, bytes)) (A : Option Addr) (n c k : Nat) (hk : k ≤ c) (w : World) : (Instr.slice ty (.slice A n c) none (some (.int .i64 (k : Int))) none).run Tryd.prog w = .ok (.slice A k c) w := by
  obtain ⟨i0, hi, hz0, hz1, hz2⟩ := info_parts hi0
  have hz : (sizeOf (Tryd.prog.elem ty)).run Tryd.prog w = .ok size w := by
    simp [he, Go.sizeOf, typeInfo, hi, hz1]
  have h63 : (k : Int).toNat = k := by omega
  rw [run_slice_h (P := Tryd.prog) w ty A n c (by rw [he]; exact ht) .i64 (k : Int) (by omega) (by omega), hz, h63]
  have e : ∀ o : Option Addr, o.map (fun a => a.add (0 * size)) = o := fun o => by cases o <;> simp [Addr.add]
  simp only [Result.andThen_ok, sliced, e, Nat.sub_zero, ite_self]

end Go.Proofs.YtplejbgecihnpaaDoor

namespace Go.Proofs.YtplejbgecihnpaaDoor
open Go.RowKit Go.Shelf

/-- Nothing but block g has turned. -/
structure Only (g : Nat) (w w' : World) : Prop where
  grown : w.grownBy w' (some g)
  size : w'.heap.size = w.heap.size
  keeps : KeepsOthers w w'
section
variable {g : Nat} {w w' w'' : World} {t : TypeId}
set_option maxRecDepth 100000 in
theorem Only.set (w : World) (g i : Nat) (v : Value) : Only g w (w.setCell ⟨g, i, none⟩ v) := by
  have h := Below.refl 0 w
  refine ⟨⟨rfl, rfl, rfl, by simp, fun j _ hj => Below.heap_setCell w ⟨g, i, none⟩ v j (fun e => hj (by simp only at e; rw [e]))⟩, by simp, KeepsOthers.setCell _ _ _⟩
set_option maxRecDepth 100000 in
theorem Only.trans (h : Only g w w') (k : Only g w' w'') : Only g w w'' :=
  ⟨⟨k.grown.os.trans h.grown.os, k.grown.tape.trans h.grown.tape, k.grown.output.trans h.grown.output, by rw [k.size, h.size]; exact Nat.le_refl _, fun i hi hg => (k.grown.block i (by rw [h.size]; exact hi) hg).trans (h.grown.block i hi hg)⟩, by rw [k.size, h.size], h.keeps.trans k.keeps⟩
set_option maxRecDepth 100000 in
theorem Only.far (h : Only g w w') {b : Nat} {cs : Array Value} (hw : Whole w b t cs) (hne : b ≠ g) : Whole w' b t cs := hw.grown h.grown (by simpa using hne)
set_option maxRecDepth 100000 in
theorem Only.own {base size n : Nat} {e : TypeId} {v : Value} {xs : List Value} {cs : Array Value} (h : Only g w w') (ho : w.ownsRow base e size v n xs) (hw : Whole w g t cs) (hne : e ≠ t) : w'.ownsRow base e size v n xs :=
  ho.kept h.grown (by
    rcases ho.2 with ⟨rfl, _⟩ | ⟨g', cap, cur, rfl, _, hg, _⟩
    · exact .inl rfl
    · right
      simp only [Value.ownBlock, ne_eq, Option.some.injEq]
      intro e0
      have := own_apart_F hne ho hw
      simp [Value.ownBlock] at this
      omega)
set_option maxRecDepth 100000 in
theorem Only.bel {B : Nat} {w0 : World} (h : Only g w w') (hb : Below B w0 w) (hg : B ≤ g) : Below B w0 w' :=
  ⟨h.grown.os.trans hb.os, h.grown.tape.trans hb.tape, h.grown.output.trans hb.output, by rw [h.size]; exact hb.size, fun k hk => by
    rcases Nat.lt_or_ge k w.heap.size with hlt | hge
    · exact (h.grown.block k hlt (by simp; omega)).trans (hb.block k hk)
    · rw [← hb.block k hk, Array.getElem?_eq_none hge, Array.getElem?_eq_none (by rw [h.size]; exact hge)]⟩
end
set_option maxRecDepth 100000 in
/-- Two allocs behind each other: both blocks, whole. -/
theorem two_new (w : World) (t u : TypeId) (xs ys : Array Value) : Below w.heap.size w ((w.alloc (.cells xs t)).alloc (.cells ys u)) ∧ Whole ((w.alloc (.cells xs t)).alloc (.cells ys u)) w.heap.size t xs ∧ Whole ((w.alloc (.cells xs t)).alloc (.cells ys u)) (w.heap.size + 1) u ys := by
  refine ⟨((Below.refl _ w).alloc (Nat.le_refl _) _).alloc (by simp) _, (Whole.new w _ _).alloc _, ?_⟩
  have := Whole.new (w.alloc (.cells xs t)) u ys
  rwa [World.size_alloc] at this
set_option maxRecDepth 100000 in
theorem three_new (w : World) (t u v : TypeId) (xs ys zs : Array Value) : Below w.heap.size w (((w.alloc (.cells xs t)).alloc (.cells ys u)).alloc (.cells zs v)) ∧ Whole (((w.alloc (.cells xs t)).alloc (.cells ys u)).alloc (.cells zs v)) w.heap.size t xs ∧ Whole (((w.alloc (.cells xs t)).alloc (.cells ys u)).alloc (.cells zs v)) (w.heap.size + 1) u ys ∧ Whole (((w.alloc (.cells xs t)).alloc (.cells ys u)).alloc (.cells zs v)) (w.heap.size + 1 + 1) v zs := by
  obtain ⟨h1, h2, h3⟩ := two_new w t u xs ys
  refine ⟨h1.alloc (by simp; omega) _, h2.alloc _, h3.alloc _, ?_⟩
  have := Whole.new ((w.alloc (.cells xs t)).alloc (.cells ys u)) v zs
  simpa using this

end Go.Proofs.YtplejbgecihnpaaDoor

namespace Go.Proofs.YtplejbgecihnpaaDoor
open Go.RowKit Go.Shelf

section
variable {b : Br} {k : Int} {l : List Int}

set_option maxRecDepth 100000 in
theorem nums_at (h : numsB l = true) (i : Nat) : 0 ≤ l.getD i 0 ∧ l.getD i 0 ≤ brMax := by
  rw [List.getD_eq_getElem?_getD]
  cases hx : l[i]? with
  | none => simp [brMax]
  | some x =>
    have := List.all_eq_true.1 h x (List.mem_of_getElem? hx)
    simpa [brMax] using isNum_iff.1 this

set_option maxRecDepth 100000 in
/-- A record's effect, kind by kind. -/
theorem fit_cases {P : Br → Prop} {x0 x1 x2 x3 x4 : Int} (h1 : k = 1 → P (bootB b)) (h3 : k = 3 → P (intentB b x0 x1 x2)) (h4 : k = 4 → P (madeB b x0 x1 x2)) (h6 : k = 6 → P (phaseB b x0 x1 x2)) (h7 : k = 7 → P (goneB_ b x0)) (h8 : k = 8 → P (takeB b x0 x1 x2 x3 x4)) (h9 : k = 9 → P (guardB b x0 x1)) (h10 : k = 10 → P (doneB b x0)) (h11 : k = 11 → P (startB b x0 x1)) (hr : b.rf.st = 1 → k ≠ 3 ∧ k ≠ 4 ∧ k ≠ 6 ∧ k ≠ 7 ∧ k ≠ 8 ∧ k ≠ 9 ∧ k ≠ 10 → P (refB b k x0)) (h0 : P b) : P (fitB b k x0 x1 x2 x3 x4) := by
  unfold fitB
  by_cases e1 : k = 1
  · simp only [e1, if_true]; exact h1 e1
  by_cases e3 : k = 3
  · simp only [e3]; exact h3 e3
  by_cases e4 : k = 4
  · simp only [e4]; exact h4 e4
  by_cases e6 : k = 6
  · simp only [e6]; exact h6 e6
  by_cases e7 : k = 7
  · simp only [e7]; exact h7 e7
  by_cases e8 : k = 8
  · simp only [e8]; exact h8 e8
  by_cases e9 : k = 9
  · simp only [e9]; exact h9 e9
  by_cases e10 : k = 10
  · simp only [e10]; exact h10 e10
  by_cases e11 : k = 11
  · simp only [e11]; exact h11 e11
  simp only [if_neg e1, if_neg e3, if_neg e4, if_neg e6, if_neg e7, if_neg e8, if_neg e9, if_neg e10, if_neg e11]
  split
  · rename_i h
    exact hr h ⟨e3, e4, e6, e7, e8, e9, e10⟩
  · exact h0
set_option maxRecDepth 100000 in
theorem apply_cases {P : Br → Prop} (hc : k = 2 → isRow l = true → P (confB b l)) (hf : numsB l = true → k ≠ 2 → manyB k = (l.length : Int) → P (fitB b k (l.getD 0 0) (l.getD 1 0) (l.getD 2 0) (l.getD 3 0) (l.getD 4 0))) (h0 : P b) : P (applyB b k l) := by
  unfold applyB
  split
  · rename_i hn
    split
    · rename_i e
      by_cases hr : isRow l = true
      · exact hc e hr
      · unfold confB; rw [if_neg hr]; exact h0
    · rename_i e
      split
      · rename_i hm
        exact hf hn e hm
      · exact h0
  · exact h0

/-- What a record may turn: numbers never fall, one more or fewer at most. -/
structure StepB (k : Int) (b o : Br) : Prop where
  sq : b.sq ≤ o.sq
  ep : b.ep ≤ o.ep
  set : o.set = (b.set || o.set)
  cnt : (o.its.length + o.kps.length = b.its.length + b.kps.length) ∨ (o.its.length + o.kps.length = b.its.length + b.kps.length + 1 ∧ (k = 3 ∨ k = 8)) ∨ (o.its.length + o.kps.length + 1 = b.its.length + b.kps.length ∧ k = 7)
set_option maxRecDepth 100000 in
theorem stepB_refl : StepB k b b := ⟨Int.le_refl _, Int.le_refl _, by cases b.set <;> rfl, .inl rfl⟩
set_option maxRecDepth 100000 in
theorem meant_len {t : Int} {i : It} (h : meantB b t = some i) : (dropI t b.its).length + 1 = b.its.length := by
  obtain ⟨h1, h2⟩ := meant_some h
  have := List.length_eraseP_of_mem (p := fun x : It => decide (x.tok = t)) h1 (by simp [h2])
  have h3 : 0 < b.its.length := List.length_pos_of_mem h1
  unfold dropI
  omega
set_option maxRecDepth 100000 in
theorem kept_len {id : Int} (h : ¬ keptB b id = none) : (dropK id b.kps).length + 1 = b.kps.length := by
  cases hx : keptB b id with
  | none => exact absurd hx h
  | some x =>
    obtain ⟨h1, h2⟩ := kept_some hx
    have := List.length_eraseP_of_mem (p := fun x : Kp => decide (x.id = id)) h1 (by simp [h2])
    have h3 : 0 < b.kps.length := List.length_pos_of_mem h1
    unfold dropK
    omega
set_option maxRecDepth 100000 in
theorem step_apply (b : Br) (k : Int) (l : List Int) : StepB k b (applyB b k l) := by
  have hs : ∀ {o : Br}, o.set = b.set → o.set = (b.set || o.set) := fun e => by rw [e]; cases b.set <;> rfl
  refine apply_cases (P := StepB k b) (fun _ hr => ?_) (fun hn _ _ => ?_) stepB_refl
  · unfold confB
    rw [if_pos hr]
    exact ⟨Int.le_refl _, Int.le_refl _, by simp, .inl rfl⟩
  · refine fit_cases (P := StepB k b) (fun _ => ?_) (fun e3 => ?_) (fun _ => ?_) (fun _ => ?_) (fun e7 => ?_) (fun e8 => ?_) (fun _ => ?_) (fun _ => ?_) (fun _ => ?_) (fun _ _ => ?_) stepB_refl
    · unfold bootB; split
      · exact ⟨Int.le_refl _, by show b.ep ≤ b.ep + 1; omega, hs rfl, .inl rfl⟩
      · exact stepB_refl
    · unfold intentB; split
      · exact ⟨by show b.sq ≤ b.sq + 1; omega, Int.le_refl _, hs rfl, .inr (.inl ⟨by simp; omega, .inl e3⟩)⟩
      · exact stepB_refl
    · unfold madeB; split
      · exact stepB_refl
      · rename_i i hi
        split
        · exact ⟨Int.le_refl _, Int.le_refl _, hs rfl, .inl (by have := meant_len hi; simp only [putK_len]; omega)⟩
        · exact stepB_refl
    · unfold phaseB; split
      · exact stepB_refl
      · split
        · exact ⟨Int.le_refl _, Int.le_refl _, hs rfl, .inl (by simp only [setK_len])⟩
        · exact stepB_refl
    · unfold goneB_; split
      · exact stepB_refl
      · rename_i e
        exact ⟨Int.le_refl _, Int.le_refl _, hs rfl, .inr (.inr ⟨by have := kept_len e; simp only; omega, e7⟩)⟩
    · unfold takeB; split
      · exact ⟨Int.le_refl _, Int.le_refl _, hs rfl, .inr (.inl ⟨by simp only [putK_len]; omega, .inr e8⟩)⟩
      · exact stepB_refl
    · unfold guardB; split
      · exact stepB_refl
      · split
        · exact ⟨Int.le_refl _, Int.le_refl _, hs rfl, .inl (by simp only [setK_len])⟩
        · exact stepB_refl
    · unfold doneB; split
      · exact stepB_refl
      · split
        · exact ⟨Int.le_refl _, Int.le_refl _, hs rfl, .inl (by simp only [setK_len])⟩
        · exact stepB_refl
    · unfold startB; split
      · exact ⟨Int.le_refl _, Int.le_refl _, hs rfl, .inl rfl⟩
      · exact stepB_refl
    · unfold refB
      repeat' split
      all_goals first
        | exact stepB_refl
        | exact ⟨Int.le_refl _, Int.le_refl _, hs rfl, .inl rfl⟩
set_option maxRecDepth 100000 in
/-- No longer than so many behind so many records. -/
theorem len_apply (b : Br) (k : Int) (l : List Int) : (applyB b k l).its.length + (applyB b k l).kps.length ≤ b.its.length + b.kps.length + 1 := by
  rcases (step_apply b k l).cnt with h | ⟨h, _⟩ | ⟨h, _⟩ <;> omega

end

end Go.Proofs.YtplejbgecihnpaaDoor

namespace Go.Proofs.YtplejbgecihnpaaDoor
open Go.RowKit Go.Shelf

section
variable {a b o : Br} {k : Int} {l : List Int}
set_option maxRecDepth 100000 in
/-- A record with a number that may not be changes nothing. -/
theorem not_nums (h : numsB l = false) : applyB b k l = b := by simp [applyB, h]
set_option maxRecDepth 100000 in
theorem not_len (hk : k ≠ 2) (h : manyB k ≠ (l.length : Int)) : applyB b k l = b := by
  unfold applyB
  rw [if_neg hk, if_neg h]
  split <;> rfl
end

end Go.Proofs.YtplejbgecihnpaaDoor
