/-
  A map whose keys are what calls ask, and of what: looked up, laid anew. Conditions: those that each theorem names.
-/
import Derived.Test.YtgajnmjifhemgaaClSmall
import Derived.RangeFuncRecord
namespace Go.Proofs.Ytgajnmjifhemgaa
open Go.RowKit Go.Shelf

/-- What a call asks, and of what. -/
def keyV (x : Cl) : Value := .agg #[.int .u8 x.kind, .int .i64 x.key]
def entC (i : Nat) (x : Cl) : MapEntry := { key := keyV x, val := .int .i64 1, born := i }
def entsC : Nat → List Cl → List MapEntry
  | _, [] => []
  | i, x :: l => entC i x :: entsC (i + 1) l
theorem entsC_length : ∀ (i : Nat) (l : List Cl), (entsC i l).length = l.length
  | _, [] => rfl
  | i, _ :: l => by simp [entsC, entsC_length (i + 1) l]
theorem entsC_snoc : ∀ (i : Nat) (l : List Cl) (x : Cl), entsC i (l ++ [x]) = entsC i l ++ [entC (i + l.length) x]
  | i, [], x => rfl
  | i, y :: l, x => by
    have h := entsC_snoc (i + 1) l x
    simp only [entsC, List.cons_append, h, List.length_cons, List.cons.injEq, true_and, List.append_cancel_left_eq, and_true]
    rw [show i + 1 + l.length = i + (l.length + 1) by omega]
theorem entsC_born : ∀ (i : Nat) (l : List Cl), ∀ e ∈ entsC i l, e.born < i + l.length
  | _, [], e, h => by simp [entsC] at h
  | i, _ :: l, e, h => by
    simp only [entsC, List.mem_cons] at h
    rcases h with rfl | h
    · simp [entC]
    · have := entsC_born (i + 1) l e h; simp only [List.length_cons]; omega
/-- The map of those. -/
def AskMap (l : List Cl) (b : Nat) (W : World) : Prop := W.heap[b]? = some (.map (entsC 0 l).toArray l.length)

theorem run_eqKey (w : World) (x y : Cl) : (Op.equal 67 (keyV x) (keyV y)).run Try.prog w = .ok (decide (y.kind = x.kind ∧ y.key = x.key)) w := by
  unfold keyV
  show (Op.equalIn 10000 67 (.agg #[.int .u8 x.kind, .int .i64 x.key]) (.agg #[.int .u8 y.kind, .int .i64 y.key])).run Try.prog w = _
  go_simp
  by_cases h1 : x.kind = y.kind
  · by_cases h2 : x.key = y.key
    · simp [h1, h2]
    · simp [h1, h2, Ne.symm h2]
  · simp [h1, Ne.symm h1]
theorem run_checkKeyA (b : Bool) (x : Cl) (w : World) : (Instr.checkKey b 10000 67 (keyV x)).run Try.prog w = .ok () w := by
  kernel_rfl
theorem find_asking (x : Cl) (w : World) : ∀ (l : List Cl) (i j : Nat), ∃ r, (Instr.findAsking 67 (keyV x) (entsC i l) j).run Try.prog w = .ok r w ∧ (anyC l x.kind x.key = true → ∃ p, r = some (p, .int .i64 1)) ∧ (anyC l x.kind x.key = false → r = none)
  | [], _, _ => ⟨none, rfl, by simp [anyC], by simp⟩
  | y :: l, i, j => by
    obtain ⟨r, h1, h2, h3⟩ := find_asking x w l (i + 1) (j + 1)
    have he := run_eqKey w x y
    by_cases h : y.kind = x.kind ∧ y.key = x.key
    · rw [decide_eq_true h] at he
      refine ⟨some (j, .int .i64 1), ?_, fun _ => ⟨_, rfl⟩, fun h4 => ?_⟩
      · simp only [entsC, Instr.findAsking, entC, Sem.run_bind, he, Result.andThen_ok, if_true, Sem.run_pure]
      · simp [anyC, h] at h4
    · rw [decide_eq_false h] at he
      have ha : anyC (y :: l) x.kind x.key = anyC l x.kind x.key := by simp only [anyC, List.any_cons, decide_eq_false h, Bool.false_or]
      rw [ha]
      refine ⟨r, ?_, h2, h3⟩
      simp only [entsC, Instr.findAsking, entC, Sem.run_bind, he, Result.andThen_ok, Bool.false_eq_true, if_false]
      exact h1
theorem find_key (x : Cl) (l : List Cl) (w : World) : ∃ r, (Instr.findKey 67 (keyV x) (entsC 0 l)).run Try.prog w = .ok r w ∧ (anyC l x.kind x.key = true → ∃ p, r = some (p, .int .i64 1)) ∧ (anyC l x.kind x.key = false → r = none) := by
  cases l with
  | nil => exact ⟨none, by simp [Instr.findKey, entsC, run_underlying Try.underlying67, Instr.findNow], by simp [anyC], by simp⟩
  | cons y l =>
    obtain ⟨r, h1, h2, h3⟩ := find_asking x w (y :: l) 0 0
    refine ⟨r, ?_, h2, h3⟩
    simp only [Instr.findKey, Sem.run_bind, run_underlying Try.underlying67, Result.andThen_ok]
    simp only [entsC, Instr.findNow, Instr.sameNow]
    exact h1
theorem zeroI (w : World) : (zeroValue 3).run Try.prog w = .ok (.int .i64 0) w := by kernel_rfl

section
variable {l : List Cl} {b : Nat} {W : World}
theorem AskMap.look (h : AskMap l b W) (x : Cl) : (Instr.lookup 65 (.map (some b)) (.agg #[.int .u8 x.kind, .int .i64 x.key]) false).run Try.prog W = .ok (.int .i64 (if anyC l x.kind x.key = true then 1 else 0)) W := by
  obtain ⟨r, h1, h2, h3⟩ := find_key x l W
  have hk := fun b => run_checkKeyA b x W
  have hgo : (getObj b).run Try.prog W = .ok (.map (entsC 0 l).toArray l.length) W := by have h' := h; unfold AskMap at h'; simp [getObj, Sem.run, h']
  unfold keyV at h1 hk
  simp only [Instr.lookup, Sem.run_bind, run_underlying Try.underlying65, Result.andThen_ok, hgo, Sem.run_pure, hk, h1]
  cases ha : anyC l x.kind x.key with
  | true =>
    obtain ⟨p, rfl⟩ := h2 ha
    simp
  | false =>
    obtain rfl := h3 ha
    simp
/-- Those of which the last one has no count yet. -/
def AskMap0 (l : List Cl) (x : Cl) (b : Nat) (W : World) : Prop := W.heap[b]? = some (.map ((entsC 0 l).toArray.push { key := keyV x, val := .int .i64 0, born := l.length }) (l.length + 1))
theorem AskMap.lt (h : AskMap l b W) : b < W.heap.size := (Array.getElem?_eq_some_iff.1 h).1
theorem AskMap.entry (h : AskMap l b W) (x : Cl) (ha : anyC l x.kind x.key = false) : ∃ W', (Instr.mapEntry 65 (.map (some b)) (.agg #[.int .u8 x.kind, .int .i64 x.key])).run Try.prog W = .ok (.tuple #[.int .i64 0, .int .i64 (l.length : Int)]) W' ∧ AskMap0 l x b W' ∧ W.grownBy W' (some b) ∧ W'.heap.size = W.heap.size := by
  obtain ⟨r, h1, h2, h3⟩ := find_key x l W
  have hk := fun b => run_checkKeyA b x W
  have hgo : (getObj b).run Try.prog W = .ok (.map (entsC 0 l).toArray l.length) W := by have h' := h; unfold AskMap at h'; simp [getObj, Sem.run, h']
  unfold keyV at h1 hk
  obtain rfl := h3 ha
  refine ⟨W.putObj b (.map ((entsC 0 l).toArray.push { key := keyV x, val := .int .i64 0, born := l.length }) (l.length + 1)), ?_, World.putObj_heap_same h.lt, ⟨rfl, rfl, rfl, by simp [World.putObj], fun i _ hi => World.putObj_heap_other (by rintro rfl; exact hi rfl)⟩, by simp [World.putObj]⟩
  have hs : ∀ o, (setObj b o).run Try.prog W = .ok () (W.putObj b o) := fun o => by have h' := h; unfold AskMap at h'; simp [setObj, Sem.run, h', World.putObj]
  simp only [Instr.mapEntry, Sem.run_bind, run_underlying Try.underlying65, Result.andThen_ok, hgo, hk, h1, zeroI, hs, Sem.run_pure]
  rfl
theorem AskMap0.store {x : Cl} (h : AskMap0 l x b W) : ∃ W', (Instr.entryStore 65 (.map (some b)) (.int .i64 (l.length : Int)) (.int .i64 1)).run Try.prog W = .ok () W' ∧ AskMap (l ++ [x]) b W' ∧ W.grownBy W' (some b) ∧ W'.heap.size = W.heap.size := by
  unfold AskMap0 at h
  have hgo : (getObj b).run Try.prog W = .ok (.map ((entsC 0 l).toArray.push { key := keyV x, val := .int .i64 0, born := l.length }) (l.length + 1)) W := by simp [getObj, Sem.run, h]
  have hlt : b < W.heap.size := (Array.getElem?_eq_some_iff.1 h).1
  have hs : ∀ o, (setObj b o).run Try.prog W = .ok () (W.putObj b o) := fun o => by simp [setObj, Sem.run, h, World.putObj]
  have hf : ((entsC 0 l).toArray.push { key := keyV x, val := .int .i64 0, born := l.length }).findIdx? (fun e => (e.born : Int) == (l.length : Int)) = some l.length := by
    rw [List.push_toArray, List.findIdx?_toArray, List.findIdx?_append]
    have h0 : (entsC 0 l).findIdx? (fun e => (e.born : Int) == (l.length : Int)) = none := by
      rw [List.findIdx?_eq_none_iff]
      intro e he
      have := entsC_born 0 l e he
      simp; omega
    rw [h0]
    simp [entsC_length]
  have hm : ((entsC 0 l).toArray.push { key := keyV x, val := .int .i64 0, born := l.length }).modify l.length (fun e => { e with val := .int .i64 1 }) = (entsC 0 (l ++ [x])).toArray := by
    rw [entsC_snoc, List.push_toArray]
    apply Array.ext'
    rw [Array.toList_modify]
    have := entsC_length 0 l
    apply List.ext_getElem?
    intro j
    rw [List.getElem?_modify]
    rcases Nat.lt_trichotomy j l.length with hj | hj | hj
    · rw [List.getElem?_append_left (by omega), List.getElem?_append_left (by omega)]
      have : l.length ≠ j := by omega
      simp [this]
    · subst hj
      rw [List.getElem?_append_right (by omega), List.getElem?_append_right (by omega), this]
      simp [entC]
    · have hne : l.length ≠ j := by omega
      rw [List.getElem?_eq_none (by simp; omega), List.getElem?_eq_none (by simp; omega)]
      simp
  refine ⟨W.putObj b (.map (entsC 0 (l ++ [x])).toArray (l.length + 1)), ?_, ?_, ⟨rfl, rfl, rfl, by simp [World.putObj], fun i _ hi => World.putObj_heap_other (by rintro rfl; exact hi rfl)⟩, by simp [World.putObj]⟩
  · simp only [Instr.entryStore, Sem.run_bind, Result.andThen_ok, hgo, asInt, asIntOf, Sem.run_pure, hf, hm, hs]
  · unfold AskMap
    rw [World.putObj_heap_same hlt]
    simp
/-- .. looked up between the two. -/
theorem find_asking0 (x : Cl) (w : World) (e : MapEntry) (he : e.key = keyV x) : ∀ (l : List Cl) (i j : Nat), anyC l x.kind x.key = false → ∃ p, (Instr.findAsking 67 (keyV x) (entsC i l ++ [e]) j).run Try.prog w = .ok (some (p, e.val)) w
  | [], _, j, _ => ⟨j, by
      have h := run_eqKey w x x
      simp only [and_self, decide_true] at h
      simp only [entsC, List.nil_append, Instr.findAsking, Sem.run_bind, he, h, Result.andThen_ok, if_true, Sem.run_pure]⟩
  | y :: l, i, j, ha => by
    have hq := run_eqKey w x y
    have h : ¬ (y.kind = x.kind ∧ y.key = x.key) := by
      intro h
      simp [anyC, h] at ha
    have ha' : anyC l x.kind x.key = false := by rw [← ha]; simp only [anyC, List.any_cons, decide_eq_false h, Bool.false_or]
    obtain ⟨p, hp⟩ := find_asking0 x w e he l (i + 1) (j + 1) ha'
    rw [decide_eq_false h] at hq
    refine ⟨p, ?_⟩
    simp only [entsC, List.cons_append, Instr.findAsking, entC, Sem.run_bind, hq, Result.andThen_ok, Bool.false_eq_true, if_false]
    exact hp
theorem AskMap0.look {x : Cl} (h : AskMap0 l x b W) (ha : anyC l x.kind x.key = false) : (Instr.lookup 65 (.map (some b)) (.agg #[.int .u8 x.kind, .int .i64 x.key]) false).run Try.prog W = .ok (.int .i64 0) W := by
  unfold AskMap0 at h
  have hgo : (getObj b).run Try.prog W = .ok (.map ((entsC 0 l).toArray.push { key := keyV x, val := .int .i64 0, born := l.length }) (l.length + 1)) W := by simp [getObj, Sem.run, h]
  obtain ⟨p, hp⟩ := find_asking0 x W { key := keyV x, val := .int .i64 0, born := l.length } rfl l 0 0 ha
  have hk := fun b => run_checkKeyA b x W
  have hf : (Instr.findKey 67 (keyV x) ((entsC 0 l).toArray.push { key := keyV x, val := .int .i64 0, born := l.length }).toList).run Try.prog W = .ok (some (p, .int .i64 0)) W := by
    rw [List.push_toArray]
    simp only [Instr.findKey, Sem.run_bind, run_underlying Try.underlying67, Result.andThen_ok]
    cases l with
    | nil => simpa only [entsC, List.nil_append, Instr.findNow, Instr.sameNow] using hp
    | cons y l => simpa only [entsC, List.cons_append, Instr.findNow, Instr.sameNow] using hp
  unfold keyV at hf hk hgo
  simp only [Instr.lookup, Sem.run_bind, run_underlying Try.underlying65, Result.andThen_ok, hgo, Sem.run_pure, hk, hf, Bool.false_eq_true, if_false]
theorem AskMap.kept {W' : World} {row : Option Nat} (h : AskMap l b W) (hg : W.grownBy W' row) (hne : some b ≠ row) : AskMap l b W' := (hg.block b h.lt hne).trans h
theorem AskMap.under {W' : World} (h : AskMap l b W) (hb : Below W.heap.size W W') : AskMap l b W' := (hb.block b h.lt).trans h
end

end Go.Proofs.Ytgajnmjifhemgaa
