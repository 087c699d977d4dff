/-
  Texts that the walk of a statement over brains leans on, joined (RegStay2). Conditions: those that each theorem names.
-/
import Derived.Test.YtplejbgecihnpaaDoorK19

namespace Go.Proofs.YtplejbgecihnpaaDoor
open Go.RowKit Go.Shelf

section
variable {P : Program} {ops : Array Oper} {Q : Exit → Act → World → Prop}
/-- Each but the last two has no guard and yields into a slot of its own, one of ds; each is waited for by a later one, up to the one of number n; the last one waits for that. -/
def growOk2 (ops : Array Oper) (n : Nat) (ds : List Nat) : Bool :=
  ((List.range n).all fun i => match dstAt ops i with
    | some d => ds.contains d && (List.range n).all fun j => i == j || dstAt ops j != some d
    | none => false) &&
  (((List.range (n + 2)).all fun i => match ops[i]? with
    | some o => o.guard.isNone
    | none => false) &&
  (((List.range n).all fun i => (List.range (n + 1)).any fun j => decide (i < j) && match ops[j]? with
    | some o => waits o i
    | none => false) && ((match ops[n + 1]? with
    | some o => waits o n
    | none => false) && ops.size == n + 2)))
theorem region_stay2 {id : Nat} {a0 : Act} {W : World} (hm : P.follows .mixedOrders = true) (hl : lowOnly ops = true) (n : Nat) (ds : List Nat) (hk : growOk2 ops n ds = true) (hds : ∀ d ∈ ds, d < a0.tmps.size)
    (R : Nat → Value → World → Prop) (Mid : Act → World → Prop) (Fr : Nat → Value → World → Prop) (D : Value → Value → Prop) (x y : Nat) (hx : x < n) (hy : y < n) (hxy : x ≠ y)
    (hD1 : ∀ v u w, Fr x v w → R y u w → D v u) (hD2 : ∀ v u w, Fr y v w → R x u w → D u v)
    (step : ∀ i o d a w, i < n → ops[i]? = some o → o.dst = some d → Agree ds a0 a → Below W.heap.size W w → (∀ j d', waits o j = true → dstAt ops j = some d' → R j (a.eval (.tmp d')) w) → ∀ K : Act → World → Prop, (∀ v w', Stay ops n W R i w w' → R i v w' → Fr i v w → K (a.put (some d) v) w') → o.wp P a w K Q)
    (last : ∀ o a w, ops[n]? = some o → Agree ds a0 a → Below W.heap.size W w → (∀ i d, i < n → dstAt ops i = some d → R i (a.eval (.tmp d)) w) → (∀ dx dy, dstAt ops x = some dx → dstAt ops y = some dy → D (a.eval (.tmp dx)) (a.eval (.tmp dy))) → ∀ K : Act → World → Prop, (∀ a' w', Mid a' w' → K a' w') → o.wp P a w K Q)
    (last2 : ∀ o a w, ops[n + 1]? = some o → Mid a w → ∀ K : Act → World → Prop, (∀ a' w', Q .normal a' w' → K a' w') → o.wp P a w K Q) : (Code.region id ops true).wp P Q a0 W := by
  unfold growOk2 at hk
  simp only [Bool.and_eq_true, List.all_eq_true, List.mem_range, beq_iff_eq] at hk
  obtain ⟨h1, h2, h3, hw2, hsz⟩ := hk
  have hd : ∀ i, i < n → ∃ d, dstAt ops i = some d ∧ d ∈ ds ∧ ∀ j, j < n → j ≠ i → dstAt ops j ≠ some d := by
    intro i hi
    have := h1 i hi
    split at this
    · rename_i d e
      simp only [Bool.and_eq_true, List.all_eq_true, List.mem_range, Bool.or_eq_true, beq_iff_eq, bne_iff_ne] at this
      refine ⟨d, e, by simpa using this.1, fun j hj hne => ?_⟩
      rcases this.2 j hj with h | h
      · exact absurd h.symm hne
      · exact h
    · cases this
  have hgd : ∀ (i : Nat) (o : Oper), ops[i]? = some o → o.guard = none := by
    intro i o ho
    have hlt := (Array.getElem?_eq_some_iff.1 ho).1
    have := h2 i (by omega)
    rw [ho] at this
    simpa using this
  obtain ⟨ol, hol⟩ : ∃ o : Oper, ops[n]? = some o := ⟨_, Array.getElem?_eq_getElem (by omega)⟩
  obtain ⟨ol2, hol2⟩ : ∃ o : Oper, ops[n + 1]? = some o := ⟨_, Array.getElem?_eq_getElem (by omega)⟩
  rw [hol2] at hw2
  have two : ∀ {L : Nat → Bool}, (∀ e ∈ ol2.after, Region.binds .any e = true → L e.on = true) → L n = true := by
    intro L hall
    have h6 : waits ol2 n = true := hw2
    unfold waits at h6
    rw [Array.any_eq_true'] at h6
    obtain ⟨e, he, h7⟩ := h6
    simp only [Bool.and_eq_true, beq_iff_eq] at h7
    have := hall e he h7.1
    rwa [h7.2] at this
  have anc : ∀ {L : Nat → Bool}, (∀ j oj, ops[j]? = some oj → L j = true → ∀ e ∈ oj.after, Region.binds .any e = true → L e.on = true) → (∀ e ∈ ol.after, Region.binds .any e = true → L e.on = true) → ∀ m i, n - i ≤ m → i < n → L i = true := by
    intro L hclo hall m
    induction m with
    | zero => intro i h hi; omega
    | succ m ih =>
      intro i h hi
      have h4 := h3 i hi
      rw [List.any_eq_true] at h4
      obtain ⟨j, hj, h5⟩ := h4
      rw [List.mem_range] at hj
      simp only [Bool.and_eq_true, decide_eq_true_eq] at h5
      obtain ⟨hij, h6⟩ := h5
      have hall' : ∀ oj, ops[j]? = some oj → ∀ e ∈ oj.after, Region.binds .any e = true → L e.on = true := by
        intro oj hoj
        rcases Nat.lt_or_ge j n with hjn | hjn
        · exact hclo j oj hoj (ih j (by omega) hjn)
        · have : j = n := by omega
          subst this
          rw [hol] at hoj
          cases hoj
          exact hall
      cases hoj : ops[j]? with
      | none => rw [hoj] at h6; cases h6
      | some oj =>
        rw [hoj] at h6
        unfold waits at h6
        rw [Array.any_eq_true'] at h6
        obtain ⟨e, he, h7⟩ := h6
        simp only [Bool.and_eq_true, beq_iff_eq] at h7
        have := hall' oj hoj e he h7.1
        rwa [h7.2] at this
  have run : ∀ {i : Nat} {o : Oper} {K : Act → World → Prop} {a : Act} {w : World}, ops[i]? = some o → o.wp P a w K Q → wpOp P ops Q i K a w := by
    intro i o K a w ho h
    unfold wpOp
    rw [ho]
    dsimp only
    rw [if_pos (by unfold Region.wanted; rw [hgd i o ho])]
    exact .inl h
  refine region_clo hm hl (fun L a w => (L (n + 1) = true → Q .normal a w) ∧ (L (n + 1) = false → L n = true → Mid a w) ∧ (L n = false → Agree ds a0 a ∧ Below W.heap.size W w ∧ (∀ i d, i < n → L i = true → dstAt ops i = some d → R i (a.eval (.tmp d)) w) ∧ (L x = true → L y = true → ∀ dx dy, dstAt ops x = some dx → dstAt ops y = some dy → D (a.eval (.tmp dx)) (a.eval (.tmp dy))))) ⟨fun h => (by cases h), fun _ h => (by cases h), fun _ => ⟨Agree.refl _ _, ⟨rfl, rfl, rfl, Nat.le_refl _, fun _ _ => rfl⟩, fun _ _ _ h => (by cases h), fun h => (by cases h)⟩⟩ ?_ (fun L a w hall h => h.1 (hall (n + 1) (by omega)))
  intro i o L a w ho hi hclo hall h
  have hlt : i < n + 2 := by have := (Array.getElem?_eq_some_iff.1 ho).1; omega
  have hLn : L n = false ∨ L n = true := by cases L n <;> simp
  have hL2 : L n = false → L (n + 1) = false := by
    intro h0
    cases h9 : L (n + 1) with
    | false => rfl
    | true => have := two (hclo (n + 1) ol2 hol2 h9); rw [h0] at this; cases this
  rcases Nat.lt_or_ge i n with hin | hin
  · have hn0 : L n = false := by
      rcases hLn with h0 | h0
      · exact h0
      · have := anc hclo (hclo n ol hol h0) n i (by omega) hin
        rw [hi] at this
        cases this
    obtain ⟨hag, hbel, hgot, hdd⟩ := h.2.2 hn0
    obtain ⟨d, hdi, hdm, hdne⟩ := hd i hin
    have hdo : o.dst = some d := by unfold dstAt at hdi; rw [ho] at hdi; exact hdi
    refine run ho (step i o d a w hin ho hdo hag hbel (fun j d' hw hj => ?_) _ (fun v w' hb hv hfr => ⟨fun h0 => ?_, fun _ h0 => ?_, fun _ => ⟨hag.put hdm v, hbel.trans hb.1, fun j d' hj hLj hdj => ?_, fun hLx hLy dx dy hdx hdy => ?_⟩⟩))
    · unfold waits at hw
      rw [Array.any_eq_true'] at hw
      obtain ⟨e, he, h5⟩ := hw
      simp only [Bool.and_eq_true, beq_iff_eq] at h5
      have h6 := hall e he h5.1
      rw [h5.2] at h6
      have h7 := lowOnly_at hl ho e he h5.1
      exact hgot j d' (by omega) h6 hj
    · replace h0 : (if n + 1 = i then true else L (n + 1)) = true := h0
      rw [if_neg (by omega)] at h0
      rw [hL2 hn0] at h0; cases h0
    · replace h0 : (if n = i then true else L n) = true := h0
      rw [if_neg (by omega)] at h0
      rw [hn0] at h0; cases h0
    · by_cases hji : j = i
      · subst hji
        rw [hdi] at hdj
        cases hdj
        rw [eval_new (by rw [hag.size]; exact hds d hdm)]
        exact hv
      · replace hLj : (if j = i then true else L j) = true := hLj
        rw [if_neg hji] at hLj
        rw [eval_old (fun e => hdne j hj hji (by rw [hdj, e]))]
        refine hb.2 j _ hj hji (fun oj hoj => ?_) (hgot j d' hj hLj hdj)
        cases hwt : waits oj i with
        | false => rfl
        | true =>
          unfold waits at hwt
          rw [Array.any_eq_true'] at hwt
          obtain ⟨e, he, h5⟩ := hwt
          simp only [Bool.and_eq_true, beq_iff_eq] at h5
          have h8 := hclo j oj hoj hLj e he h5.1
          rw [h5.2, hi] at h8
          cases h8
    · replace hLx : (if x = i then true else L x) = true := hLx
      replace hLy : (if y = i then true else L y) = true := hLy
      by_cases hxi : x = i
      · subst hxi
        rw [if_neg (Ne.symm hxy)] at hLy
        rw [hdi] at hdx
        cases hdx
        rw [eval_new (by rw [hag.size]; exact hds d hdm), eval_old (fun e => hdne y hy (Ne.symm hxy) (by rw [hdy, e]))]
        exact hD1 _ _ _ hfr (hgot y dy hy hLy hdy)
      · rw [if_neg hxi] at hLx
        by_cases hyi : y = i
        · subst hyi
          rw [hdi] at hdy
          cases hdy
          rw [eval_new (by rw [hag.size]; exact hds d hdm), eval_old (fun e => hdne x hx hxy (by rw [hdx, e]))]
          exact hD2 _ _ _ hfr (hgot x dx hx hLx hdx)
        · rw [if_neg hyi] at hLy
          rw [eval_old (fun e => hdne x hx hxi (by rw [hdx, e])), eval_old (fun e => hdne y hy hyi (by rw [hdy, e]))]
          exact hdd hLx hLy dx dy hdx hdy
  · rcases (by omega : i = n ∨ i = n + 1) with hin' | hin'
    · subst hin'
      obtain ⟨hag, hbel, hgot, hdd⟩ := h.2.2 hi
      rw [hol] at ho
      cases ho
      refine run hol (last ol a w hol hag hbel (fun j d hj hdj => hgot j d hj ?_ hdj) (hdd (anc hclo hall _ x (Nat.le_refl _) hx) (anc hclo hall _ y (Nat.le_refl _) hy)) _ (fun a' w' hq => ⟨fun h0 => ?_, fun _ _ => hq, fun h0 => (by simp at h0)⟩))
      · exact anc hclo hall _ j (Nat.le_refl _) hj
      · replace h0 : (if i + 1 = i then true else L (i + 1)) = true := h0
        rw [if_neg (by omega)] at h0
        rw [hL2 hi] at h0; cases h0
    · subst hin'
      rw [hol2] at ho
      cases ho
      refine run hol2 (last2 ol2 a w hol2 (h.2.1 hi (two hall)) _ (fun a' w' hq => ⟨fun _ => hq, fun h0 => (by simp at h0), fun h0 => ?_⟩))
      · replace h0 : (if n = n + 1 then true else L n) = false := h0
        rw [if_neg (by omega)] at h0
        have := two hall
        rw [h0] at this; cases this
end

end Go.Proofs.YtplejbgecihnpaaDoor
