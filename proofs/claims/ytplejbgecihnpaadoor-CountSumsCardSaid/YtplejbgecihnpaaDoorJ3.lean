/-
  Texts that the walks of the statements over logs lean on, joined (BrPlain, BrMore, KpRow, BrRow, WalkAt). Conditions: those that each theorem names.
-/
import Derived.Test.YtplejbgecihnpaaDoorJ0
import Derived.Test.YtplejbgecihnpaaDoorJ1
import Derived.Test.YtplejbgecihnpaaDoorJ2
import Derived.Laws.StructEq
import Derived.ProofKit
import Derived.Below
import Derived.Deep.Draws

/-
  What follows of records one behind the other: brains that may be stay so; tokens; what a record leaves as it was. Plain. Conditions: those that each theorem names.
-/
namespace Go.Proofs.YtplejbgecihnpaaDoor
open Go.RowKit Go.Shelf

section
variable {b : Br} {k : Int} {l : List Int}

set_option maxRecDepth 100000 in
theorem nums_at (h : numsB l = true) (i : Nat) : 0 ≤ l.getD i 0 ∧ l.getD i 0 ≤ brMax := by
  rw [List.getD_eq_getElem?_getD]
  cases hx : l[i]? with
  | none => simp [brMax]
  | some x =>
    have := List.all_eq_true.1 h x (List.mem_of_getElem? hx)
    simpa [brMax] using isNum_iff.1 this

set_option maxRecDepth 100000 in
/-- A record's effect, kind by kind. -/
theorem fit_cases {P : Br → Prop} {x0 x1 x2 x3 x4 : Int} (h1 : k = 1 → P (bootB b)) (h3 : k = 3 → P (intentB b x0 x1 x2)) (h4 : k = 4 → P (madeB b x0 x1 x2)) (h6 : k = 6 → P (phaseB b x0 x1 x2)) (h7 : k = 7 → P (goneB_ b x0)) (h8 : k = 8 → P (takeB b x0 x1 x2 x3 x4)) (h9 : k = 9 → P (guardB b x0 x1)) (h10 : k = 10 → P (doneB b x0)) (h11 : k = 11 → P (startB b x0 x1)) (hr : b.rf.st = 1 → k ≠ 3 ∧ k ≠ 4 ∧ k ≠ 6 ∧ k ≠ 7 ∧ k ≠ 8 ∧ k ≠ 9 ∧ k ≠ 10 → P (refB b k x0)) (h0 : P b) : P (fitB b k x0 x1 x2 x3 x4) := by
  unfold fitB
  by_cases e1 : k = 1
  · simp only [e1, if_true]; exact h1 e1
  by_cases e3 : k = 3
  · simp only [e3]; exact h3 e3
  by_cases e4 : k = 4
  · simp only [e4]; exact h4 e4
  by_cases e6 : k = 6
  · simp only [e6]; exact h6 e6
  by_cases e7 : k = 7
  · simp only [e7]; exact h7 e7
  by_cases e8 : k = 8
  · simp only [e8]; exact h8 e8
  by_cases e9 : k = 9
  · simp only [e9]; exact h9 e9
  by_cases e10 : k = 10
  · simp only [e10]; exact h10 e10
  by_cases e11 : k = 11
  · simp only [e11]; exact h11 e11
  simp only [if_neg e1, if_neg e3, if_neg e4, if_neg e6, if_neg e7, if_neg e8, if_neg e9, if_neg e10, if_neg e11]
  split
  · rename_i h
    exact hr h ⟨e3, e4, e6, e7, e8, e9, e10⟩
  · exact h0
set_option maxRecDepth 100000 in
theorem apply_cases {P : Br → Prop} (hc : k = 2 → isRow l = true → P (confB b l)) (hf : numsB l = true → k ≠ 2 → manyB k = (l.length : Int) → P (fitB b k (l.getD 0 0) (l.getD 1 0) (l.getD 2 0) (l.getD 3 0) (l.getD 4 0))) (h0 : P b) : P (applyB b k l) := by
  unfold applyB
  split
  · rename_i hn
    split
    · rename_i e
      by_cases hr : isRow l = true
      · exact hc e hr
      · unfold confB; rw [if_neg hr]; exact h0
    · rename_i e
      split
      · rename_i hm
        exact hf hn e hm
      · exact h0
  · exact h0

set_option maxRecDepth 100000 in
/-- A brain that may be may be behind whatever record. -/
theorem right_apply (h : RightB b) : RightB (applyB b k l) := by
  refine apply_cases (P := RightB) (fun _ hr => ?_) (fun hn _ _ => ?_) h
  · have hm : may (ofRow l none 0 0) = true := by
      simp only [isRow, Bool.and_eq_true] at hr
      exact hr.2
    unfold confB
    rw [if_pos hr]
    refine ⟨h.ep, h.sq, h.its, h.itp, h.kps, h.kpp, h.rf, fun e => by simp at e, fun _ => ?_⟩
    show may (if b.set then _ else _) = true
    split
    · rename_i e
      have := may_ver_bd (h.yes e)
      exact may_ver hm this.1 this.2
    · exact hm
  · have a0 := nums_at hn 0
    have a1 := nums_at hn 1
    refine fit_cases (P := RightB) (fun _ => ?_) (fun _ => ?_) (fun _ => ?_) (fun _ => ?_) (fun _ => ?_) (fun _ => ?_) (fun _ => ?_) (fun _ => ?_) (fun _ => ?_) (fun hs _ => ?_) h
    · unfold bootB; split
      · exact ⟨⟨by have := h.ep; show 0 ≤ b.ep + 1; omega, by show b.ep + 1 ≤ brMax; omega⟩, h.sq, h.its, h.itp, h.kps, h.kpp, h.rf, h.no, h.yes⟩
      · exact h
    · unfold intentB; split
      · rename_i e
        obtain ⟨e1, e2, e3, e4, e5⟩ := e
        have hs := h.sq
        refine ⟨h.ep, ⟨by show 0 ≤ b.sq + 1; omega, by show b.sq + 1 ≤ brMax; omega⟩, fun x hx => ?_, ?_, h.kps, h.kpp, h.rf, fun e => (by rw [e1] at e; cases e), h.yes⟩
        · simp only [List.mem_append, List.mem_singleton] at hx
          rcases hx with hx | rfl
          · have := h.its x hx
            exact ⟨this.1, by show x.tok ≤ b.sq + 1; omega⟩
          · exact ⟨by show 1 ≤ b.sq + 1; omega, Int.le_refl _⟩
        · show (b.its ++ _).Pairwise _
          rw [List.pairwise_append]
          refine ⟨h.itp, List.pairwise_singleton _ _, fun x hx y hy => ?_⟩
          simp only [List.mem_singleton] at hy
          subst hy
          have := (h.its x hx).2
          show x.tok < b.sq + 1
          omega
      · exact h
    · unfold madeB
      split
      · exact h
      · rename_i i hi
        split
        · rename_i e
          have hn := kept_none.1 e.2
          refine ⟨h.ep, h.sq, fun x hx => h.its x (List.mem_of_mem_eraseP hx), h.itp.sublist List.eraseP_sublist, fun x hx => ?_, putK_pw h.kpp (fun y hy => hn y hy), ?_, fun e => ?_, h.yes⟩
          · rcases putK_mem.1 hx with rfl | hx
            · refine ⟨⟨e.1, a1.2⟩, ?_⟩
              show 1 ≤ (if i.warm then (9 : Int) else 1) ∧ (if i.warm then (9 : Int) else 1) ≤ 10
              split <;> decide
            · exact h.kps x hx
          · show (if b.rf.st = 1 then _ else _ : Rf).st = 1 → _
            split
            · exact fun e => h.rf e
            · exact fun e => h.rf e
          · have := h.no e
            have hm := (meant_some hi).1
            rw [this.1] at hm
            cases hm
        · exact h
    · unfold phaseB
      split
      · exact h
      · rename_i x hx
        split
        · rename_i e
          have hb := legal_bd e.2
          refine ⟨h.ep, h.sq, h.its, h.itp, fun y hy => ?_, setK_pw (by simp) h.kpp, h.rf, h.no, h.yes⟩
          rcases setK_mem hy with hy | ⟨z, hz, _, rfl⟩
          · exact h.kps y hy
          · exact ⟨(h.kps z hz).1, hb⟩
        · exact h
    · unfold goneB_; split
      · exact h
      · exact ⟨h.ep, h.sq, h.its, h.itp, fun x hx => h.kps x (List.mem_of_mem_eraseP hx), h.kpp.sublist List.eraseP_sublist, h.rf, h.no, h.yes⟩
    · unfold takeB; split
      · rename_i e
        have hn := kept_none.1 e.2
        refine ⟨h.ep, h.sq, h.its, h.itp, fun x hx => ?_, putK_pw h.kpp (fun y hy => hn y hy), h.rf, h.no, h.yes⟩
        rcases putK_mem.1 hx with rfl | hx
        · exact ⟨⟨e.1, a0.2⟩, by show (1 : Int) ≤ 8; decide, by show (8 : Int) ≤ 10; decide⟩
        · exact h.kps x hx
      · exact h
    · unfold guardB; split
      · exact h
      · split
        · refine ⟨h.ep, h.sq, h.its, h.itp, fun y hy => ?_, setK_pw (by simp) h.kpp, h.rf, h.no, h.yes⟩
          rcases setK_mem hy with hy | ⟨z, hz, _, rfl⟩
          · exact h.kps y hy
          · exact h.kps z hz
        · exact h
    · unfold doneB
      split
      · exact h
      · split
        · refine ⟨h.ep, h.sq, h.its, h.itp, fun y hy => ?_, setK_pw (by simp) h.kpp, h.rf, h.no, h.yes⟩
          rcases setK_mem hy with hy | ⟨z, hz, _, rfl⟩
          · exact h.kps y hy
          · exact h.kps z hz
        · exact h
    · unfold startB; split
      · rename_i e
        have hv := may_ver_bd (h.yes e.1)
        exact ⟨h.ep, h.sq, h.its, h.itp, h.kps, h.kpp, fun _ => ⟨hv, e.2.2, a0.2⟩, fun e' => by rw [show b.set = false from e'] at e; simp at e, h.yes⟩
      · exact h
    · have hset : b.set = true := by
        cases hb : b.set with
        | true => rfl
        | false => have := (h.no hb).2; omega
      obtain ⟨r1, r2⟩ := h.rf hs
      have hno : ∀ {X : Prop}, b.set = false → X := fun e => by rw [hset] at e; cases e
      unfold refB failR pauseR goR
      repeat' split
      all_goals first
        | exact h
        | exact ⟨h.ep, h.sq, h.its, h.itp, h.kps, h.kpp, fun _ => ⟨r1, r1⟩, hno, h.yes⟩
        | exact ⟨h.ep, h.sq, h.its, h.itp, h.kps, h.kpp, fun _ => ⟨r1, r2⟩, hno, h.yes⟩
        | exact ⟨h.ep, h.sq, h.its, h.itp, h.kps, h.kpp, fun _ => ⟨r1, r2⟩, hno, fun _ => may_ver (h.yes hset) r2.1 r2.2⟩

/-- What a record may turn: numbers never fall, one more or fewer at most. -/
structure StepB (k : Int) (b o : Br) : Prop where
  sq : b.sq ≤ o.sq
  ep : b.ep ≤ o.ep
  set : o.set = (b.set || o.set)
  cnt : (o.its.length + o.kps.length = b.its.length + b.kps.length) ∨ (o.its.length + o.kps.length = b.its.length + b.kps.length + 1 ∧ (k = 3 ∨ k = 8)) ∨ (o.its.length + o.kps.length + 1 = b.its.length + b.kps.length ∧ k = 7)
set_option maxRecDepth 100000 in
theorem stepB_refl : StepB k b b := ⟨Int.le_refl _, Int.le_refl _, by cases b.set <;> rfl, .inl rfl⟩
set_option maxRecDepth 100000 in
theorem meant_len {t : Int} {i : It} (h : meantB b t = some i) : (dropI t b.its).length + 1 = b.its.length := by
  obtain ⟨h1, h2⟩ := meant_some h
  have := List.length_eraseP_of_mem (p := fun x : It => decide (x.tok = t)) h1 (by simp [h2])
  have h3 : 0 < b.its.length := List.length_pos_of_mem h1
  unfold dropI
  omega
set_option maxRecDepth 100000 in
theorem kept_len {id : Int} (h : ¬ keptB b id = none) : (dropK id b.kps).length + 1 = b.kps.length := by
  cases hx : keptB b id with
  | none => exact absurd hx h
  | some x =>
    obtain ⟨h1, h2⟩ := kept_some hx
    have := List.length_eraseP_of_mem (p := fun x : Kp => decide (x.id = id)) h1 (by simp [h2])
    have h3 : 0 < b.kps.length := List.length_pos_of_mem h1
    unfold dropK
    omega
set_option maxRecDepth 100000 in
theorem step_apply (b : Br) (k : Int) (l : List Int) : StepB k b (applyB b k l) := by
  have hs : ∀ {o : Br}, o.set = b.set → o.set = (b.set || o.set) := fun e => by rw [e]; cases b.set <;> rfl
  refine apply_cases (P := StepB k b) (fun _ hr => ?_) (fun hn _ _ => ?_) stepB_refl
  · unfold confB
    rw [if_pos hr]
    exact ⟨Int.le_refl _, Int.le_refl _, by simp, .inl rfl⟩
  · refine fit_cases (P := StepB k b) (fun _ => ?_) (fun e3 => ?_) (fun _ => ?_) (fun _ => ?_) (fun e7 => ?_) (fun e8 => ?_) (fun _ => ?_) (fun _ => ?_) (fun _ => ?_) (fun _ _ => ?_) stepB_refl
    · unfold bootB; split
      · exact ⟨Int.le_refl _, by show b.ep ≤ b.ep + 1; omega, hs rfl, .inl rfl⟩
      · exact stepB_refl
    · unfold intentB; split
      · exact ⟨by show b.sq ≤ b.sq + 1; omega, Int.le_refl _, hs rfl, .inr (.inl ⟨by simp; omega, .inl e3⟩)⟩
      · exact stepB_refl
    · unfold madeB; split
      · exact stepB_refl
      · rename_i i hi
        split
        · exact ⟨Int.le_refl _, Int.le_refl _, hs rfl, .inl (by have := meant_len hi; simp only [putK_len]; omega)⟩
        · exact stepB_refl
    · unfold phaseB; split
      · exact stepB_refl
      · split
        · exact ⟨Int.le_refl _, Int.le_refl _, hs rfl, .inl (by simp only [setK_len])⟩
        · exact stepB_refl
    · unfold goneB_; split
      · exact stepB_refl
      · rename_i e
        exact ⟨Int.le_refl _, Int.le_refl _, hs rfl, .inr (.inr ⟨by have := kept_len e; simp only; omega, e7⟩)⟩
    · unfold takeB; split
      · exact ⟨Int.le_refl _, Int.le_refl _, hs rfl, .inr (.inl ⟨by simp only [putK_len]; omega, .inr e8⟩)⟩
      · exact stepB_refl
    · unfold guardB; split
      · exact stepB_refl
      · split
        · exact ⟨Int.le_refl _, Int.le_refl _, hs rfl, .inl (by simp only [setK_len])⟩
        · exact stepB_refl
    · unfold doneB; split
      · exact stepB_refl
      · split
        · exact ⟨Int.le_refl _, Int.le_refl _, hs rfl, .inl (by simp only [setK_len])⟩
        · exact stepB_refl
    · unfold startB; split
      · exact ⟨Int.le_refl _, Int.le_refl _, hs rfl, .inl rfl⟩
      · exact stepB_refl
    · unfold refB
      repeat' split
      all_goals first
        | exact stepB_refl
        | exact ⟨Int.le_refl _, Int.le_refl _, hs rfl, .inl rfl⟩
set_option maxRecDepth 100000 in
/-- No longer than so many behind so many records. -/
theorem len_apply (b : Br) (k : Int) (l : List Int) : (applyB b k l).its.length + (applyB b k l).kps.length ≤ b.its.length + b.kps.length + 1 := by
  rcases (step_apply b k l).cnt with h | ⟨h, _⟩ | ⟨h, _⟩ <;> omega

set_option maxRecDepth 100000 in
theorem all_append (b : Br) (l m : List (Int × List Int)) : allB b (l ++ m) = allB (allB b l) m := by simp [allB]
set_option maxRecDepth 100000 in
theorem all_take {l : List (Int × List Int)} {j : Nat} {r : Int × List Int} (h : l[j]? = some r) : allB b (l.take (j + 1)) = applyB (allB b (l.take j)) r.1 r.2 := by
  have hj := List.getElem?_eq_some_iff.1 h
  rw [List.take_succ_eq_append_getElem hj.1, hj.2, all_append]
  rfl
set_option maxRecDepth 100000 in
theorem right_all (h : RightB b) (l : List (Int × List Int)) : RightB (allB b l) := by
  induction l generalizing b with
  | nil => exact h
  | cons r l ih => exact ih (right_apply h)
end

end Go.Proofs.YtplejbgecihnpaaDoor

/-
  Tokens that never come twice; what a record leaves as it was; brains that are the same. Plain. Conditions: those that each theorem names.
-/
namespace Go.Proofs.YtplejbgecihnpaaDoor
open Go.RowKit Go.Shelf

def sameB (a b : Br) : Bool :=
  (decide (a.ep = b.ep) && (decide (a.sq = b.sq) && decide (a.set = b.set))) && (sameC a.cf b.cf && (decide (a.rf = b.rf) && (decide (a.its = b.its) && decide (a.kps = b.kps))))
section
variable {a b o : Br} {k : Int} {l : List Int}
set_option maxRecDepth 100000 in
theorem sameB_iff : sameB a b = true ↔ a.ep = b.ep ∧ a.sq = b.sq ∧ a.set = b.set ∧ sameC a.cf b.cf = true ∧ a.rf = b.rf ∧ a.its = b.its ∧ a.kps = b.kps := by
  simp only [sameB, Bool.and_eq_true, decide_eq_true_eq]
  constructor
  · rintro ⟨⟨h1, h2, h3⟩, h4, h5, h6, h7⟩; exact ⟨h1, h2, h3, h4, h5, h6, h7⟩
  · rintro ⟨h1, h2, h3, h4, h5, h6, h7⟩; exact ⟨⟨h1, h2, h3⟩, h4, h5, h6, h7⟩
set_option maxRecDepth 100000 in
theorem sameB_refl (b : Br) : sameB b b = true := sameB_iff.2 ⟨rfl, rfl, rfl, sameC_refl _, rfl, rfl, rfl⟩
set_option maxRecDepth 100000 in
theorem sameB_eq (h : a = b) : sameB a b = true := by rw [h]; exact sameB_refl b

/-- What is true of tokens, from nothing on, with no stray one taken. -/
structure TkB (b : Br) : Prop where
  right : RightB b
  one : ∀ x ∈ b.kps, 1 ≤ x.tok ∧ x.tok ≤ b.sq
  pw : b.kps.Pairwise fun x y => x.tok ≠ y.tok
  ap : ∀ x ∈ b.kps, ∀ y ∈ b.its, x.tok ≠ y.tok
set_option maxRecDepth 100000 in
theorem tk_br0 : TkB br0 := ⟨right_br0, by simp [br0], by simp [br0], by simp [br0]⟩
set_option maxRecDepth 100000 in
theorem putK_perm (l : List Kp) (x : Kp) : (putK l x).Perm (x :: l) := by
  have h := List.perm_middle (a := x) (l₁ := l.takeWhile (fun y => decide (y.id ≤ x.id))) (l₂ := l.dropWhile (fun y => decide (y.id ≤ x.id)))
  rw [List.takeWhile_append_dropWhile] at h
  exact h
set_option maxRecDepth 100000 in
theorem putK_tok {l : List Kp} {x : Kp} (h : l.Pairwise fun x y => x.tok ≠ y.tok) (hn : ∀ y ∈ l, x.tok ≠ y.tok) : (putK l x).Pairwise fun x y => x.tok ≠ y.tok :=
  (List.Perm.pairwise_iff (fun {x y} (h : x.tok ≠ y.tok) => Ne.symm h) (putK_perm l x)).2 (List.pairwise_cons.2 ⟨hn, h⟩)
set_option maxRecDepth 100000 in
theorem setK_tok {id : Int} {f : Kp → Kp} (hf : ∀ x, (f x).tok = x.tok) {l : List Kp} (h : l.Pairwise fun x y => x.tok ≠ y.tok) : (setK id f l).Pairwise fun x y => x.tok ≠ y.tok := by
  induction l with
  | nil => simp [setK]
  | cons a l ih =>
    rw [List.pairwise_cons] at h
    unfold setK
    split
    · rw [List.pairwise_cons]
      exact ⟨fun y hy => by rw [hf]; exact h.1 y hy, h.2⟩
    · rw [List.pairwise_cons]
      refine ⟨fun y hy => ?_, ih h.2⟩
      rcases setK_mem hy with hy | ⟨x, hx, _, rfl⟩
      · exact h.1 y hy
      · rw [hf]; exact h.1 x hx
set_option maxRecDepth 100000 in
theorem setK_all {id : Int} {f : Kp → Kp} {P : Kp → Prop} (hf : ∀ x, P x → P (f x)) {l : List Kp} (h : ∀ x ∈ l, P x) : ∀ x ∈ setK id f l, P x := by
  intro y hy
  rcases setK_mem hy with hy | ⟨x, hx, _, rfl⟩
  · exact h y hy
  · exact hf x (h x hx)
set_option maxRecDepth 100000 in
/-- The one that was meant is not among those that are left. -/
theorem dropI_apart (h : b.its.Pairwise fun x y => x.tok < y.tok) {t : Int} {i : It} (hi : meantB b t = some i) : ∀ y ∈ dropI t b.its, i.tok ≠ y.tok := by
  obtain ⟨h1, h2⟩ := meant_some hi
  intro y hy e
  unfold dropI at hy
  generalize b.its = L at h h1 hy
  induction L with
  | nil => cases h1
  | cons a L ih =>
    rw [List.pairwise_cons] at h
    by_cases ha : a.tok = t
    · rw [List.eraseP_cons_of_pos (by simp [ha])] at hy
      have := h.1 y hy
      omega
    · rw [List.eraseP_cons_of_neg (by simp [ha])] at hy
      rcases List.mem_cons.1 hy with rfl | hy
      · omega
      · rcases List.mem_cons.1 h1 with rfl | h1
        · exact ha h2
        · exact ih h.2 h1 hy
set_option maxRecDepth 100000 in
theorem tk_apply (h : TkB b) (hk : k ≠ 8) : TkB (applyB b k l) := by
  suffices hh : ∀ o : Br, o = applyB b k l → ((∀ x ∈ o.kps, 1 ≤ x.tok ∧ x.tok ≤ o.sq) ∧ (o.kps.Pairwise fun x y => x.tok ≠ y.tok) ∧ ∀ x ∈ o.kps, ∀ y ∈ o.its, x.tok ≠ y.tok) by
    obtain ⟨h1, h2, h3⟩ := hh _ rfl
    exact ⟨right_apply h.right, h1, h2, h3⟩
  rintro o rfl
  have hb := And.intro h.one (And.intro h.pw h.ap)
  refine apply_cases (P := fun o : Br => (∀ x ∈ o.kps, 1 ≤ x.tok ∧ x.tok ≤ o.sq) ∧ (o.kps.Pairwise fun x y => x.tok ≠ y.tok) ∧ ∀ x ∈ o.kps, ∀ y ∈ o.its, x.tok ≠ y.tok) (fun _ hr => ?_) (fun hn _ _ => ?_) hb
  · unfold confB; rw [if_pos hr]; exact hb
  · refine fit_cases (P := fun o : Br => (∀ x ∈ o.kps, 1 ≤ x.tok ∧ x.tok ≤ o.sq) ∧ (o.kps.Pairwise fun x y => x.tok ≠ y.tok) ∧ ∀ x ∈ o.kps, ∀ y ∈ o.its, x.tok ≠ y.tok) (fun _ => ?_) (fun _ => ?_) (fun _ => ?_) (fun _ => ?_) (fun _ => ?_) (fun e => absurd e hk) (fun _ => ?_) (fun _ => ?_) (fun _ => ?_) (fun _ _ => ?_) hb
    · unfold bootB; split <;> exact hb
    · unfold intentB; split
      · refine ⟨fun x hx => ⟨(h.one x hx).1, by have := (h.one x hx).2; show x.tok ≤ b.sq + 1; omega⟩, h.pw, fun x hx y hy => ?_⟩
        simp only [List.mem_append, List.mem_singleton] at hy
        rcases hy with hy | rfl
        · exact h.ap x hx y hy
        · have := (h.one x hx).2
          show x.tok ≠ b.sq + 1
          omega
      · exact hb
    · unfold madeB; split
      · exact hb
      · rename_i i hi
        split
        · obtain ⟨m1, m2⟩ := meant_some hi
          have hb1 := h.right.its i m1
          refine ⟨fun x hx => ?_, putK_tok h.pw (fun y hy => Ne.symm (h.ap y hy i m1)), fun x hx y hy => ?_⟩
          · rcases putK_mem.1 hx with rfl | hx
            · exact hb1
            · exact h.one x hx
          · rcases putK_mem.1 hx with rfl | hx
            · exact dropI_apart h.right.itp hi y hy
            · exact h.ap x hx y (List.mem_of_mem_eraseP hy)
        · exact hb
    · unfold phaseB; split
      · exact hb
      · split
        · exact ⟨fun x hx => (by
            rcases setK_mem hx with hx | ⟨z, hz, _, rfl⟩
            · exact h.one x hx
            · exact h.one z hz), setK_tok (by simp) h.pw, fun x hx y hy => (by
            rcases setK_mem hx with hx | ⟨z, hz, _, rfl⟩
            · exact h.ap x hx y hy
            · exact h.ap z hz y hy)⟩
        · exact hb
    · unfold goneB_; split
      · exact hb
      · exact ⟨fun x hx => h.one x (List.mem_of_mem_eraseP hx), h.pw.sublist List.eraseP_sublist, fun x hx => h.ap x (List.mem_of_mem_eraseP hx)⟩
    · unfold guardB; split
      · exact hb
      · split
        · exact ⟨fun x hx => (by
            rcases setK_mem hx with hx | ⟨z, hz, _, rfl⟩
            · exact h.one x hx
            · exact h.one z hz), setK_tok (by simp) h.pw, fun x hx y hy => (by
            rcases setK_mem hx with hx | ⟨z, hz, _, rfl⟩
            · exact h.ap x hx y hy
            · exact h.ap z hz y hy)⟩
        · exact hb
    · unfold doneB; split
      · exact hb
      · split
        · exact ⟨fun x hx => (by
            rcases setK_mem hx with hx | ⟨z, hz, _, rfl⟩
            · exact h.one x hx
            · exact h.one z hz), setK_tok (by simp) h.pw, fun x hx y hy => (by
            rcases setK_mem hx with hx | ⟨z, hz, _, rfl⟩
            · exact h.ap x hx y hy
            · exact h.ap z hz y hy)⟩
        · exact hb
    · unfold startB; split <;> exact hb
    · unfold refB
      repeat' split
      all_goals exact hb
set_option maxRecDepth 100000 in
/-- Each that is meant was so, or has a token above all that there were. -/
theorem new_tok (b : Br) (k : Int) (l : List Int) : ∀ x ∈ (applyB b k l).its, x ∈ b.its ∨ b.sq < x.tok := by
  have hb : ∀ x ∈ b.its, x ∈ b.its ∨ b.sq < x.tok := fun x hx => .inl hx
  refine apply_cases (P := fun o : Br => ∀ x ∈ o.its, x ∈ b.its ∨ b.sq < x.tok) (fun _ hr => ?_) (fun hn _ _ => ?_) hb
  · unfold confB; rw [if_pos hr]; exact hb
  · refine fit_cases (P := fun o : Br => ∀ x ∈ o.its, x ∈ b.its ∨ b.sq < x.tok) (fun _ => ?_) (fun _ => ?_) (fun _ => ?_) (fun _ => ?_) (fun _ => ?_) (fun _ => ?_) (fun _ => ?_) (fun _ => ?_) (fun _ => ?_) (fun _ _ => ?_) hb
    · unfold bootB; split <;> exact hb
    · unfold intentB; split
      · intro x hx
        simp only [List.mem_append, List.mem_singleton] at hx
        rcases hx with hx | rfl
        · exact .inl hx
        · exact .inr (by show b.sq < b.sq + 1; omega)
      · exact hb
    · unfold madeB; split
      · exact hb
      · split
        · exact fun x hx => .inl (List.mem_of_mem_eraseP hx)
        · exact hb
    · unfold phaseB; split
      · exact hb
      · split <;> exact hb
    · unfold goneB_; split <;> exact hb
    · unfold takeB; split <;> exact hb
    · unfold guardB; split
      · exact hb
      · split <;> exact hb
    · unfold doneB; split
      · exact hb
      · split <;> exact hb
    · unfold startB; split <;> exact hb
    · unfold refB
      repeat' split
      all_goals exact hb

set_option maxRecDepth 100000 in
/-- A record with a number that may not be changes nothing. -/
theorem not_nums (h : numsB l = false) : applyB b k l = b := by simp [applyB, h]
set_option maxRecDepth 100000 in
theorem not_len (hk : k ≠ 2) (h : manyB k ≠ (l.length : Int)) : applyB b k l = b := by
  unfold applyB
  rw [if_neg hk, if_neg h]
  split <;> rfl
set_option maxRecDepth 100000 in
theorem not_kind (h : k = 0 ∨ 17 ≤ k) : applyB b k l = b := by
  refine not_len (by omega) ?_
  have : manyB k = -1 := by
    unfold manyB
    rw [if_neg (by omega), if_neg (by omega), if_neg (by omega), if_neg (by omega), if_neg (by omega)]
  omega
set_option maxRecDepth 100000 in
theorem fits_len (hk : k ≠ 2) (h : sameB (applyB b k l) b = false) : manyB k = (l.length : Int) := by
  by_cases e : manyB k = (l.length : Int)
  · exact e
  · rw [not_len hk e, sameB_refl] at h; cases h
set_option maxRecDepth 100000 in
theorem nums_set {at_ : Nat} (hat : at_ < l.length) {n : Int} (hn : isNum n = false) : numsB (l.set at_ n) = false := by
  rw [numsB, List.all_eq_false]
  exact ⟨n, List.mem_set hat n, by simp [hn]⟩

set_option maxRecDepth 100000 in
/-- A record of one instance turns no other one. -/
theorem setK_other {id : Int} {f : Kp → Kp} {y : Kp} : ∀ {l : List Kp}, y ∈ l → y.id ≠ id → y ∈ setK id f l
  | [], h, _ => by cases h
  | x :: l, h, hne => by
    unfold setK
    split
    · rename_i e
      rcases List.mem_cons.1 h with rfl | h
      · exact absurd e hne
      · exact List.mem_cons_of_mem _ h
    · rcases List.mem_cons.1 h with rfl | h
      · exact List.mem_cons_self ..
      · exact List.mem_cons_of_mem _ (setK_other h hne)
set_option maxRecDepth 100000 in
theorem dropK_other {id : Int} {y : Kp} {l : List Kp} (h : y ∈ l) (hne : y.id ≠ id) : y ∈ dropK id l := by
  unfold dropK
  exact (List.mem_eraseP_of_neg (by simp [hne])).2 h
set_option maxRecDepth 100000 in
theorem one_apply (b : Br) (l : List Int) (hk : k = 6 ∨ k = 7 ∨ k = 8 ∨ k = 9 ∨ k = 10) : { applyB b k l with kps := b.kps } = b ∧ ∀ x ∈ b.kps, x.id ≠ l.getD 0 0 → x ∈ (applyB b k l).kps := by
  have hb : { b with kps := b.kps } = b ∧ ∀ x ∈ b.kps, x.id ≠ l.getD 0 0 → x ∈ b.kps := ⟨rfl, fun x hx _ => hx⟩
  refine apply_cases (P := fun o : Br => { o with kps := b.kps } = b ∧ ∀ x ∈ b.kps, x.id ≠ l.getD 0 0 → x ∈ o.kps) (fun e _ => by omega) (fun hn _ _ => ?_) hb
  refine fit_cases (P := fun o : Br => { o with kps := b.kps } = b ∧ ∀ x ∈ b.kps, x.id ≠ l.getD 0 0 → x ∈ o.kps) (fun e => by omega) (fun e => by omega) (fun e => by omega) (fun _ => ?_) (fun _ => ?_) (fun _ => ?_) (fun _ => ?_) (fun _ => ?_) (fun e => by omega) (fun _ e => by omega) hb
  · unfold phaseB; split
    · exact hb
    · split
      · exact ⟨rfl, fun x hx hne => setK_other hx hne⟩
      · exact hb
  · unfold goneB_; split
    · exact hb
    · exact ⟨rfl, fun x hx hne => dropK_other hx hne⟩
  · unfold takeB; split
    · exact ⟨rfl, fun x hx _ => putK_mem.2 (.inr hx)⟩
    · exact hb
  · unfold guardB; split
    · exact hb
    · split
      · exact ⟨rfl, fun x hx hne => setK_other hx hne⟩
      · exact hb
  · unfold doneB; split
    · exact hb
    · split
      · exact ⟨rfl, fun x hx hne => setK_other hx hne⟩
      · exact hb
set_option maxRecDepth 100000 in
/-- Of what is meant, or made: no epoch, no group, no state, no target turns. -/
theorem two_apply (b : Br) (l : List Int) (hk : k = 3 ∨ k = 4) : (applyB b k l).ep = b.ep ∧ (applyB b k l).set = b.set ∧ (applyB b k l).cf = b.cf ∧ (applyB b k l).rf.st = b.rf.st ∧ (applyB b k l).rf.to_ = b.rf.to_ := by
  have hb : b.ep = b.ep ∧ b.set = b.set ∧ b.cf = b.cf ∧ b.rf.st = b.rf.st ∧ b.rf.to_ = b.rf.to_ := ⟨rfl, rfl, rfl, rfl, rfl⟩
  refine apply_cases (P := fun o : Br => o.ep = b.ep ∧ o.set = b.set ∧ o.cf = b.cf ∧ o.rf.st = b.rf.st ∧ o.rf.to_ = b.rf.to_) (fun e _ => by omega) (fun hn _ _ => ?_) hb
  refine fit_cases (P := fun o : Br => o.ep = b.ep ∧ o.set = b.set ∧ o.cf = b.cf ∧ o.rf.st = b.rf.st ∧ o.rf.to_ = b.rf.to_) (fun e => by omega) (fun _ => ?_) (fun _ => ?_) (fun e => by omega) (fun e => by omega) (fun e => by omega) (fun e => by omega) (fun e => by omega) (fun e => by omega) (fun _ e => by omega) hb
  · unfold intentB; split <;> exact hb
  · unfold madeB; split
    · exact hb
    · split
      · refine ⟨rfl, rfl, rfl, ?_, ?_⟩
        · show (if b.rf.st = 1 then _ else _ : Rf).st = _
          split <;> rfl
        · show (if b.rf.st = 1 then _ else _ : Rf).to_ = _
          split <;> rfl
      · exact hb
set_option maxRecDepth 100000 in
/-- A record of the refresh, of an epoch, of a group turns no instance, and nothing that is meant. -/
theorem rest_apply (b : Br) (l : List Int) (hk : (k ≠ 3 ∧ k ≠ 4 ∧ k ≠ 6 ∧ k ≠ 7 ∧ k ≠ 8 ∧ k ≠ 9 ∧ k ≠ 10) ∨ ((k = 6 ∨ k = 7 ∨ k = 8 ∨ k = 9 ∨ k = 10) ∧ l = [])) : (applyB b k l).kps = b.kps ∧ (applyB b k l).its = b.its ∧ (applyB b k l).sq = b.sq := by
  have hb : b.kps = b.kps ∧ b.its = b.its ∧ b.sq = b.sq := ⟨rfl, rfl, rfl⟩
  rcases hk with hk | ⟨hk, rfl⟩
  · refine apply_cases (P := fun o : Br => o.kps = b.kps ∧ o.its = b.its ∧ o.sq = b.sq) (fun _ hr => ?_) (fun hn _ _ => ?_) hb
    · unfold confB; rw [if_pos hr]; exact hb
    refine fit_cases (P := fun o : Br => o.kps = b.kps ∧ o.its = b.its ∧ o.sq = b.sq) (fun _ => ?_) (fun e => by omega) (fun e => by omega) (fun e => by omega) (fun e => by omega) (fun e => by omega) (fun e => by omega) (fun e => by omega) (fun _ => ?_) (fun _ _ => ?_) hb
    · unfold bootB; split <;> exact hb
    · unfold startB; split <;> exact hb
    · unfold refB
      repeat' split
      all_goals exact hb
  · have e : applyB b k [] = b := not_len (by omega) (by
      unfold manyB
      rcases hk with rfl | rfl | rfl | rfl | rfl <;> simp)
    rw [e]
    exact hb
set_option maxRecDepth 100000 in
/-- In a brain that may be, one that is kept is found at its place. -/
theorem find_at (h : RightB o) {x : Kp} (hx : x ∈ o.kps) : ∃ i : Nat, o.kps.findIdx? (fun y => decide (y.id = x.id)) = some i ∧ o.kps[i]? = some x := by
  have hp := h.kpp
  generalize o.kps = L at hp hx
  induction L with
  | nil => cases hx
  | cons a L ih =>
    rw [List.pairwise_cons] at hp
    rw [List.findIdx?_cons]
    rcases List.mem_cons.1 hx with rfl | hx
    · exact ⟨0, by simp, rfl⟩
    · have := hp.1 x hx
      obtain ⟨i, h1, h2⟩ := ih hp.2 hx
      refine ⟨i + 1, ?_, h2⟩
      rw [if_neg (by simp; omega), h1]
      rfl
end

end Go.Proofs.YtplejbgecihnpaaDoor

/-
  Instances that are kept, in memory: how they read; rows of one's own; what is the same. Conditions: those that each theorem names.
-/
namespace Go.Proofs.YtplejbgecihnpaaDoor
open Go.RowKit Go.Shelf

def Kp.vs (x : Kp) : List Value := [.int .i64 x.id, .int .i64 x.tok, .int .i64 x.ver, .int .i64 x.zone, .int .u8 x.phase, .int .i64 x.since, .bool x.guard, .bool x.done]
abbrev Kp.v (x : Kp) : Value := .agg #[.int .i64 x.id, .int .i64 x.tok, .int .i64 x.ver, .int .i64 x.zone, .int .u8 x.phase, .int .i64 x.since, .bool x.guard, .bool x.done]
abbrev Kp.cells (x : Kp) : Array Value := #[.int .i64 x.id, .int .i64 x.tok, .int .i64 x.ver, .int .i64 x.zone, .int .u8 x.phase, .int .i64 x.since, .bool x.guard, .bool x.done]
set_option maxRecDepth 100000 in
theorem Kp.vs_len (x : Kp) : x.vs.length = 8 := rfl
set_option maxRecDepth 100000 in
theorem Kp.vs_one (x : Kp) : ∀ u ∈ x.vs, u.oneCell' = true := by
  intro u hu
  simp only [Kp.vs, List.mem_cons, List.not_mem_nil, or_false] at hu
  rcases hu with rfl | rfl | rfl | rfl | rfl | rfl | rfl | rfl <;> rfl
set_option maxRecDepth 100000 in
theorem info_kp : (Tryd.prog.info? 32).map (fun i => (i.zero, i.size, i.bytes)) = some (some (.agg (Kp.vs ⟨0, 0, 0, 0, 0, 0, false, false⟩).toArray), 8, 56) := by kernel_rfl

structure KpAt (w : World) (b o : Nat) (x : Kp) : Prop where
  c0 : w.cell? ⟨b, o, none⟩ = some (.int .i64 x.id)
  c1 : w.cell? ⟨b, o + 1, none⟩ = some (.int .i64 x.tok)
  c2 : w.cell? ⟨b, o + 2, none⟩ = some (.int .i64 x.ver)
  c3 : w.cell? ⟨b, o + 3, none⟩ = some (.int .i64 x.zone)
  c4 : w.cell? ⟨b, o + 4, none⟩ = some (.int .u8 x.phase)
  c5 : w.cell? ⟨b, o + 5, none⟩ = some (.int .i64 x.since)
  c6 : w.cell? ⟨b, o + 6, none⟩ = some (.bool x.guard)
  c7 : w.cell? ⟨b, o + 7, none⟩ = some (.bool x.done)
abbrev RdK (w : World) (B : Nat) (A : Option Addr) (n : Nat) (l : List Kp) : Prop := RdF 8 Kp.vs w B A n l
set_option maxRecDepth 100000 in
theorem RdK.at_ {w : World} {B n : Nat} {A : Option Addr} {l : List Kp} (h : RdK w B A n l) (hn : 0 < n) : ∃ b off, A = some ⟨b, off, none⟩ ∧ b < B ∧ ∀ j x, l[j]? = some x → KpAt w b (off + j * 8) x := by
  obtain ⟨b, off, e, hlt, hc⟩ := h.2 hn
  exact ⟨b, off, e, hlt, fun j x hx => ⟨hc j x hx 0 (by omega), hc j x hx 1 (by omega), hc j x hx 2 (by omega), hc j x hx 3 (by omega), hc j x hx 4 (by omega), hc j x hx 5 (by omega), hc j x hx 6 (by omega), hc j x hx 7 (by omega)⟩⟩
/-- A row of one's own. -/
def KpsAt (base : Nat) (w : World) (v : Value) (l : List Kp) : Prop := w.ownsRow base 32 8 v l.length (l.flatMap Kp.vs)
section
variable {base base' : Nat} {w w' : World} {v : Value} {m : List Kp}
set_option maxRecDepth 100000 in
theorem KpsAt.nil_ (base : Nat) (w : World) : KpsAt base w (.slice none 0 0) [] := World.ownsRow_nil _ _ _ _
set_option maxRecDepth 100000 in
theorem KpsAt.form (h : KpsAt base w v m) : ∃ A c, v = .slice A m.length c := own_formF h
set_option maxRecDepth 100000 in
theorem KpsAt.under (h : KpsAt base w v m) (hb : Below w.heap.size w w') : KpsAt base w' v m := own_under h hb
set_option maxRecDepth 100000 in
theorem KpsAt.weaker (h : KpsAt base' w v m) (hb : base ≤ base') : KpsAt base w v m := own_weaker h hb
set_option maxRecDepth 100000 in
theorem KpsAt.only {g : Nat} {t : TypeId} {cs : Array Value} (h : KpsAt base w v m) (k : Only g w w') (hw : Whole w g t cs) (hne : 32 ≠ t) : KpsAt base w' v m := k.own h hw hne
set_option maxRecDepth 100000 in
theorem KpsAt.read {A : Option Addr} {c : Nat} (h : KpsAt base w (.slice A m.length c) m) : RdK w w.heap.size A m.length m := RdF.of_own Kp.vs_len (by omega) h
end
set_option maxRecDepth 100000 in
theorem kps_app (w : World) (base : Nat) (v : Value) (l : List Kp) (h : KpsAt base w v l) (B : Nat) (A : Option Addr) (m c : Nat) (l' : List Kp) (hr : RdK w B A m l') (hm : l.length + m ≤ 1000000) (hbase : base ≤ w.heap.size) :
    ∃ A' c' w', (Builtin.append_ #[26, 26] 26 #[v, .slice A m c]).run Tryd.prog w = .ok (.slice A' (l.length + m) c') w' ∧ KpsAt base w' (.slice A' (l.length + m) c') (l ++ l') ∧ w.grownBy w' v.ownBlock ∧ (∀ b t cs, Whole w b t cs → 32 ≠ t → Whole w' b t cs) := by
  obtain ⟨v', w', g1, g2, g3⟩ := run_appF Tryd.underlying26 info_kp rfl (by decide) Kp.vs_len Kp.vs_one w base v l.length _ h B A m c l' hr (by unfold maxLen; omega) (by omega) hbase
  obtain ⟨A', c', rfl⟩ := own_formF g2
  refine ⟨A', c', w', g1, ?_, g3, fun b t cs hw hne => hw.grown g3 (Ne.symm (own_apart_F hne h hw))⟩
  unfold KpsAt
  rw [List.length_append, hr.len, List.flatMap_append]
  exact g2
set_option maxRecDepth 100000 in
theorem run_neqKp (w : World) (x y : Kp) : (binOp .neq 32 (.agg #[.int .i64 x.id, .int .i64 x.tok, .int .i64 x.ver, .int .i64 x.zone, .int .u8 x.phase, .int .i64 x.since, .bool x.guard, .bool x.done]) (.agg #[.int .i64 y.id, .int .i64 y.tok, .int .i64 y.ver, .int .i64 y.zone, .int .u8 y.phase, .int .i64 y.since, .bool y.guard, .bool y.done])).run Tryd.prog w = .ok (.bool (!decide (x = y))) w := by
  go_simp
  by_cases h : x = y
  · subst h; simp
  · rw [decide_eq_false h]
    repeat' (first | rfl | split)
    exfalso
    apply h
    cases x
    cases y
    simp_all

set_option maxRecDepth 100000 in
theorem rdK_whole {W : World} {b : Nat} {x : Kp} (h : Whole W b 32 #[.int .i64 x.id, .int .i64 x.tok, .int .i64 x.ver, .int .i64 x.zone, .int .u8 x.phase, .int .i64 x.since, .bool x.guard, .bool x.done]) : RdK W (b + 1) (some ⟨b, 0, none⟩) 1 [x] := by
  refine ⟨rfl, fun _ => ⟨b, 0, rfl, by omega, ?_⟩⟩
  rintro (_ | j) y hy i hi
  · simp only [List.getElem?_cons_zero, Option.some.injEq] at hy
    subst hy
    simp only [Nat.zero_mul, Nat.zero_add]
    rcases (by omega : i = 0 ∨ i = 1 ∨ i = 2 ∨ i = 3 ∨ i = 4 ∨ i = 5 ∨ i = 6 ∨ i = 7) with rfl | rfl | rfl | rfl | rfl | rfl | rfl | rfl
    · exact h.cell 0
    · exact h.cell 1
    · exact h.cell 2
    · exact h.cell 3
    · exact h.cell 4
    · exact h.cell 5
    · exact h.cell 6
    · exact h.cell 7
  · simp at hy

end Go.Proofs.YtplejbgecihnpaaDoor

/-
  Brains in memory: rows of what is meant, of what is kept; how a brain's value lies; rows of its own. Conditions: those that each theorem names.
-/
namespace Go.Proofs.YtplejbgecihnpaaDoor
open Go.RowKit Go.Shelf

def It.vs (x : It) : List Value := [.int .i64 x.tok, .int .i64 x.ver, .int .i64 x.zone, .bool x.warm]
set_option maxRecDepth 100000 in
theorem It.vs_len (x : It) : x.vs.length = 4 := rfl
set_option maxRecDepth 100000 in
theorem It.vs_one (x : It) : ∀ u ∈ x.vs, u.oneCell' = true := by
  intro u hu
  simp only [It.vs, List.mem_cons, List.not_mem_nil, or_false] at hu
  rcases hu with rfl | rfl | rfl | rfl <;> rfl
set_option maxRecDepth 100000 in
theorem info_it : (Tryd.prog.info? 34).map (fun i => (i.zero, i.size, i.bytes)) = some (some (.agg (It.vs ⟨0, 0, 0, false⟩).toArray), 4, 32) := by kernel_rfl
structure ItAt (w : World) (b o : Nat) (x : It) : Prop where
  c0 : w.cell? ⟨b, o, none⟩ = some (.int .i64 x.tok)
  c1 : w.cell? ⟨b, o + 1, none⟩ = some (.int .i64 x.ver)
  c2 : w.cell? ⟨b, o + 2, none⟩ = some (.int .i64 x.zone)
  c3 : w.cell? ⟨b, o + 3, none⟩ = some (.bool x.warm)
abbrev RdI (w : World) (B : Nat) (A : Option Addr) (n : Nat) (l : List It) : Prop := RdF 4 It.vs w B A n l
set_option maxRecDepth 100000 in
theorem RdI.at_ {w : World} {B n : Nat} {A : Option Addr} {l : List It} (h : RdI w B A n l) (hn : 0 < n) : ∃ b off, A = some ⟨b, off, none⟩ ∧ b < B ∧ ∀ j x, l[j]? = some x → ItAt w b (off + j * 4) x := by
  obtain ⟨b, off, e, hlt, hc⟩ := h.2 hn
  exact ⟨b, off, e, hlt, fun j x hx => ⟨hc j x hx 0 (by omega), hc j x hx 1 (by omega), hc j x hx 2 (by omega), hc j x hx 3 (by omega)⟩⟩
/-- Rows of one's own. -/
def ItsAt (base : Nat) (w : World) (v : Value) (l : List It) : Prop := w.ownsRow base 34 4 v l.length (l.flatMap It.vs)
section
variable {base base' : Nat} {w w' : World} {v : Value} {l : List It}
set_option maxRecDepth 100000 in
theorem ItsAt.nil_ (base : Nat) (w : World) : ItsAt base w (.slice none 0 0) [] := World.ownsRow_nil _ _ _ _
set_option maxRecDepth 100000 in
theorem ItsAt.form (h : ItsAt base w v l) : ∃ A c, v = .slice A l.length c := own_formF h
set_option maxRecDepth 100000 in
theorem ItsAt.under (h : ItsAt base w v l) (hb : Below w.heap.size w w') : ItsAt base w' v l := own_under h hb
set_option maxRecDepth 100000 in
theorem ItsAt.weaker (h : ItsAt base' w v l) (hb : base ≤ base') : ItsAt base w v l := own_weaker h hb
set_option maxRecDepth 100000 in
theorem ItsAt.only {g : Nat} {t : TypeId} {cs : Array Value} (h : ItsAt base w v l) (k : Only g w w') (hw : Whole w g t cs) (hne : 34 ≠ t) : ItsAt base w' v l := k.own h hw hne
set_option maxRecDepth 100000 in
theorem ItsAt.read {A : Option Addr} {c : Nat} (h : ItsAt base w (.slice A l.length c) l) : RdI w w.heap.size A l.length l := RdF.of_own It.vs_len (by omega) h
end
set_option maxRecDepth 100000 in
/-- 'append(v, x...)' of what is meant. -/
theorem its_app (w : World) (base : Nat) (v : Value) (l : List It) (h : ItsAt base w v l) (B : Nat) (A : Option Addr) (m c : Nat) (l' : List It) (hr : RdI w B A m l') (hm : l.length + m ≤ 1000000) (hbase : base ≤ w.heap.size) :
    ∃ A' c' w', (Builtin.append_ #[25, 25] 25 #[v, .slice A m c]).run Tryd.prog w = .ok (.slice A' (l.length + m) c') w' ∧ ItsAt base w' (.slice A' (l.length + m) c') (l ++ l') ∧ w.grownBy w' v.ownBlock ∧ (∀ b t cs, Whole w b t cs → 34 ≠ t → Whole w' b t cs) := by
  obtain ⟨v', w', g1, g2, g3⟩ := run_appF Tryd.underlying25 info_it rfl (by decide) It.vs_len It.vs_one w base v l.length _ h B A m c l' hr (by unfold maxLen; omega) (by omega) hbase
  obtain ⟨A', c', rfl⟩ := own_formF g2
  refine ⟨A', c', w', g1, ?_, g3, fun b t cs hw hne => hw.grown g3 (Ne.symm (own_apart_F hne h hw))⟩
  unfold ItsAt
  rw [List.length_append, hr.len, List.flatMap_append]
  exact g2
set_option maxRecDepth 100000 in
theorem run_neqIt (w : World) (x y : It) : (binOp .neq 34 (.agg #[.int .i64 x.tok, .int .i64 x.ver, .int .i64 x.zone, .bool x.warm]) (.agg #[.int .i64 y.tok, .int .i64 y.ver, .int .i64 y.zone, .bool y.warm])).run Tryd.prog w = .ok (.bool (!decide (x = y))) w := by
  go_simp
  by_cases h : x = y
  · subst h; simp
  · rw [decide_eq_false h]
    repeat' (first | rfl | split)
    exfalso
    apply h
    cases x
    cases y
    simp_all
abbrev Rf.cells (r : Rf) : Array Value := #[.int .u8 r.st, .int .i64 r.fr, .int .i64 r.to_, .int .i64 r.step, .bool r.paused, .int .i64 r.since, .int .i64 r.fails]
set_option maxRecDepth 100000 in
theorem run_neqRf (w : World) (x y : Rf) : (binOp .neq 28 (.agg #[.int .u8 x.st, .int .i64 x.fr, .int .i64 x.to_, .int .i64 x.step, .bool x.paused, .int .i64 x.since, .int .i64 x.fails]) (.agg #[.int .u8 y.st, .int .i64 y.fr, .int .i64 y.to_, .int .i64 y.step, .bool y.paused, .int .i64 y.since, .int .i64 y.fails])).run Tryd.prog w = .ok (.bool (!decide (x = y))) w := by
  go_simp
  by_cases h : x = y
  · subst h; simp
  · rw [decide_eq_false h]
    repeat' (first | rfl | split)
    exfalso
    apply h
    cases x
    cases y
    simp_all

/-- Where a brain's rows lie: its marks, what is meant, what is kept. -/
structure Ad where
  C : Option Addr
  e : Nat
  A : Option Addr
  c : Nat
  B : Option Addr
  d : Nat
abbrev brC (p : Br) (a : Ad) : Array Value := #[.int .i64 p.ep, .int .i64 p.sq, .bool p.set, .int .i64 p.cf.f0, .int .i64 p.cf.f1, .int .i64 p.cf.f2, .int .i64 p.cf.f3, .int .i64 p.cf.f4, .int .i64 p.cf.f5, .int .i64 p.cf.f6, .int .i64 p.cf.f7, .int .i64 p.cf.f8, .int .i64 p.cf.f9, .int .i64 p.cf.f10, .int .i64 p.cf.f11, .int .i64 p.cf.f12, .bool p.cf.sk, .slice a.C p.cf.ms.length a.e, .slice a.A p.its.length a.c, .slice a.B p.kps.length a.d, .int .u8 p.rf.st, .int .i64 p.rf.fr, .int .i64 p.rf.to_, .int .i64 p.rf.step, .bool p.rf.paused, .int .i64 p.rf.since, .int .i64 p.rf.fails]
abbrev brV (p : Br) (a : Ad) : Value := .agg #[.int .i64 p.ep, .int .i64 p.sq, .bool p.set, .int .i64 p.cf.f0, .int .i64 p.cf.f1, .int .i64 p.cf.f2, .int .i64 p.cf.f3, .int .i64 p.cf.f4, .int .i64 p.cf.f5, .int .i64 p.cf.f6, .int .i64 p.cf.f7, .int .i64 p.cf.f8, .int .i64 p.cf.f9, .int .i64 p.cf.f10, .int .i64 p.cf.f11, .int .i64 p.cf.f12, .bool p.cf.sk, .slice a.C p.cf.ms.length a.e, .slice a.A p.its.length a.c, .slice a.B p.kps.length a.d, .int .u8 p.rf.st, .int .i64 p.rf.fr, .int .i64 p.rf.to_, .int .i64 p.rf.step, .bool p.rf.paused, .int .i64 p.rf.since, .int .i64 p.rf.fails]
/-- A brain's rows read below B. -/
structure RdB_ (w : World) (Z : Nat) (p : Br) (a : Ad) : Prop where
  ms : Rd w Z a.C p.cf.ms.length (iv p.cf.ms)
  its : RdI w Z a.A p.its.length p.its
  kps : RdK w Z a.B p.kps.length p.kps
  ce : p.cf.ms.length ≤ a.e
  em : a.e ≤ maxLen
  cc : p.its.length ≤ a.c
  cd : p.kps.length ≤ a.d
set_option maxRecDepth 100000 in
theorem RdB_.below {w w' : World} {Z : Nat} {p : Br} {a : Ad} (h : RdB_ w Z p a) (hb : Below Z w w') : RdB_ w' Z p a := ⟨h.ms.below hb, h.its.below hb, h.kps.below hb, h.ce, h.em, h.cc, h.cd⟩
set_option maxRecDepth 100000 in
theorem RdB_.more {w : World} {Z Z' : Nat} {p : Br} {a : Ad} (h : RdB_ w Z p a) (hZ : Z ≤ Z') : RdB_ w Z' p a := ⟨h.ms.more hZ, h.its.more hZ, h.kps.more hZ, h.ce, h.em, h.cc, h.cd⟩
set_option maxRecDepth 100000 in
theorem RdB_.up {w w' : World} {p : Br} {a : Ad} (h : RdB_ w w.heap.size p a) (hb : Below w.heap.size w w') : RdB_ w' w'.heap.size p a := (h.below hb).more hb.size
/-- A brain's rows are one's own, from base on. -/
structure OwB (base : Nat) (w : World) (p : Br) (a : Ad) : Prop where
  ms : w.ownsRow base 3 1 (.slice a.C p.cf.ms.length a.e) p.cf.ms.length (iv p.cf.ms)
  its : ItsAt base w (.slice a.A p.its.length a.c) p.its
  kps : KpsAt base w (.slice a.B p.kps.length a.d) p.kps
set_option maxRecDepth 100000 in
theorem OwB.under {base : Nat} {w w' : World} {p : Br} {a : Ad} (h : OwB base w p a) (hb : Below w.heap.size w w') : OwB base w' p a := ⟨own_under h.ms hb, h.its.under hb, h.kps.under hb⟩
set_option maxRecDepth 100000 in
theorem OwB.weaker {base base' : Nat} {w : World} {p : Br} {a : Ad} (h : OwB base' w p a) (hb : base ≤ base') : OwB base w p a := ⟨own_weaker h.ms hb, h.its.weaker hb, h.kps.weaker hb⟩
/-- A brain's group, as it lies. -/
abbrev cfM (p : Br) (a : Ad) : Cf := { p.cf with A := a.C, n := p.cf.ms.length, c := a.e }
set_option maxRecDepth 100000 in
theorem RdB_.lies {w : World} {Z : Nat} {p : Br} {a : Ad} (h : RdB_ w Z p a) : Lies (cfM p a) w Z := ⟨h.ms, h.ce, h.em⟩
/-- What comes of a call that tells a brain, whose own everything from base on is. -/
def BrPost (base : Nat) (p : Br) (w : World) (e : Ending) (w' : World) : Prop :=
  ∃ a, e = .returned (brV p a) ∧ OwB base w' p a ∧ Below base w w'

end Go.Proofs.YtplejbgecihnpaaDoor

/-
  The world named where a walk stands. Conditions: none.
-/
namespace Go.Proofs.YtplejbgecihnpaaDoor
open Go.RowKit

set_option maxRecDepth 100000 in
theorem wpV {P : Program} {c : Code} {Q : Exit → Act → World → Prop} {a : Act} {W : World} (h : ∀ V, W = V → c.wp P Q a V) : c.wp P Q a W := h W rfl
set_option maxRecDepth 100000 in
theorem callsV {P : Program} {f : FuncId} {args : Array Value} {W : World} {R : Ending → World → Prop} (h : ∀ V, W = V → Calls P f args V R) : Calls P f args W R := h W rfl
set_option maxRecDepth 100000 in
theorem qV {Q : Exit → Act → World → Prop} {e : Exit} {a : Act} {W : World} (h : ∀ V, W = V → Q e a V) : Q e a W := h W rfl
set_option maxRecDepth 100000 in
theorem below_drewB {B : Nat} {w w' : World} (h : Below B w w') (k : Nat) : Below B w (w'.drewN k) := ⟨h.os, h.tape, h.output, h.size, h.block⟩

end Go.Proofs.YtplejbgecihnpaaDoor
