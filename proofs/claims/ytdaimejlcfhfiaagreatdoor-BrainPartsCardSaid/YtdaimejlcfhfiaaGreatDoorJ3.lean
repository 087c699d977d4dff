/-
  Texts that the walks of the statements over logs lean on, joined (BrMore, BrRow, WalkAt, BrRefA, CfFloor). Conditions: those that each theorem names.
-/
import Derived.Test.YtdaimejlcfhfiaaGreatDoorJ0
import Derived.Test.YtdaimejlcfhfiaaGreatDoorJ2
import Derived.Laws.StructEq
import Derived.ProofKit
import Derived.Deep.DeepCutAuto
import Derived.WalkLawsBesides

/-
  Tokens that never come twice; what a record leaves as it was; brains that are the same. Plain. Conditions: those that each theorem names.
-/
namespace Go.Proofs.YtdaimejlcfhfiaaGreatDoor
open Go.RowKit Go.Shelf

def sameB (a b : Br) : Bool :=
  (decide (a.ep = b.ep) && (decide (a.sq = b.sq) && decide (a.set = b.set))) && (sameC a.cf b.cf && (decide (a.rf = b.rf) && (decide (a.its = b.its) && decide (a.kps = b.kps))))
section
variable {a b o : Br} {k : Int} {l : List Int}
set_option maxRecDepth 100000 in
theorem sameB_iff : sameB a b = true ↔ a.ep = b.ep ∧ a.sq = b.sq ∧ a.set = b.set ∧ sameC a.cf b.cf = true ∧ a.rf = b.rf ∧ a.its = b.its ∧ a.kps = b.kps := by
  simp only [sameB, Bool.and_eq_true, decide_eq_true_eq]
  constructor
  · rintro ⟨⟨h1, h2, h3⟩, h4, h5, h6, h7⟩; exact ⟨h1, h2, h3, h4, h5, h6, h7⟩
  · rintro ⟨h1, h2, h3, h4, h5, h6, h7⟩; exact ⟨⟨h1, h2, h3⟩, h4, h5, h6, h7⟩
set_option maxRecDepth 100000 in
theorem sameB_refl (b : Br) : sameB b b = true := sameB_iff.2 ⟨rfl, rfl, rfl, sameC_refl _, rfl, rfl, rfl⟩
set_option maxRecDepth 100000 in
theorem sameB_eq (h : a = b) : sameB a b = true := by rw [h]; exact sameB_refl b

/-- What is true of tokens, from nothing on, with no stray one taken. -/
structure TkB (b : Br) : Prop where
  right : RightB b
  one : ∀ x ∈ b.kps, 1 ≤ x.tok ∧ x.tok ≤ b.sq
  pw : b.kps.Pairwise fun x y => x.tok ≠ y.tok
  ap : ∀ x ∈ b.kps, ∀ y ∈ b.its, x.tok ≠ y.tok
set_option maxRecDepth 100000 in
theorem tk_br0 : TkB br0 := ⟨right_br0, by simp [br0], by simp [br0], by simp [br0]⟩
set_option maxRecDepth 100000 in
theorem putK_perm (l : List Kp) (x : Kp) : (putK l x).Perm (x :: l) := by
  have h := List.perm_middle (a := x) (l₁ := l.takeWhile (fun y => decide (y.id ≤ x.id))) (l₂ := l.dropWhile (fun y => decide (y.id ≤ x.id)))
  rw [List.takeWhile_append_dropWhile] at h
  exact h
set_option maxRecDepth 100000 in
theorem putK_tok {l : List Kp} {x : Kp} (h : l.Pairwise fun x y => x.tok ≠ y.tok) (hn : ∀ y ∈ l, x.tok ≠ y.tok) : (putK l x).Pairwise fun x y => x.tok ≠ y.tok :=
  (List.Perm.pairwise_iff (fun {x y} (h : x.tok ≠ y.tok) => Ne.symm h) (putK_perm l x)).2 (List.pairwise_cons.2 ⟨hn, h⟩)
set_option maxRecDepth 100000 in
theorem setK_tok {id : Int} {f : Kp → Kp} (hf : ∀ x, (f x).tok = x.tok) {l : List Kp} (h : l.Pairwise fun x y => x.tok ≠ y.tok) : (setK id f l).Pairwise fun x y => x.tok ≠ y.tok := by
  induction l with
  | nil => simp [setK]
  | cons a l ih =>
    rw [List.pairwise_cons] at h
    unfold setK
    split
    · rw [List.pairwise_cons]
      exact ⟨fun y hy => by rw [hf]; exact h.1 y hy, h.2⟩
    · rw [List.pairwise_cons]
      refine ⟨fun y hy => ?_, ih h.2⟩
      rcases setK_mem hy with hy | ⟨x, hx, _, rfl⟩
      · exact h.1 y hy
      · rw [hf]; exact h.1 x hx
set_option maxRecDepth 100000 in
theorem setK_all {id : Int} {f : Kp → Kp} {P : Kp → Prop} (hf : ∀ x, P x → P (f x)) {l : List Kp} (h : ∀ x ∈ l, P x) : ∀ x ∈ setK id f l, P x := by
  intro y hy
  rcases setK_mem hy with hy | ⟨x, hx, _, rfl⟩
  · exact h y hy
  · exact hf x (h x hx)
set_option maxRecDepth 100000 in
/-- The one that was meant is not among those that are left. -/
theorem dropI_apart (h : b.its.Pairwise fun x y => x.tok < y.tok) {t : Int} {i : It} (hi : meantB b t = some i) : ∀ y ∈ dropI t b.its, i.tok ≠ y.tok := by
  obtain ⟨h1, h2⟩ := meant_some hi
  intro y hy e
  unfold dropI at hy
  generalize b.its = L at h h1 hy
  induction L with
  | nil => cases h1
  | cons a L ih =>
    rw [List.pairwise_cons] at h
    by_cases ha : a.tok = t
    · rw [List.eraseP_cons_of_pos (by simp [ha])] at hy
      have := h.1 y hy
      omega
    · rw [List.eraseP_cons_of_neg (by simp [ha])] at hy
      rcases List.mem_cons.1 hy with rfl | hy
      · omega
      · rcases List.mem_cons.1 h1 with rfl | h1
        · exact ha h2
        · exact ih h.2 h1 hy
set_option maxRecDepth 100000 in
theorem tk_apply (h : TkB b) (hk : k ≠ 8) : TkB (applyB b k l) := by
  suffices hh : ∀ o : Br, o = applyB b k l → ((∀ x ∈ o.kps, 1 ≤ x.tok ∧ x.tok ≤ o.sq) ∧ (o.kps.Pairwise fun x y => x.tok ≠ y.tok) ∧ ∀ x ∈ o.kps, ∀ y ∈ o.its, x.tok ≠ y.tok) by
    obtain ⟨h1, h2, h3⟩ := hh _ rfl
    exact ⟨right_apply h.right, h1, h2, h3⟩
  rintro o rfl
  have hb := And.intro h.one (And.intro h.pw h.ap)
  refine apply_cases (P := fun o : Br => (∀ x ∈ o.kps, 1 ≤ x.tok ∧ x.tok ≤ o.sq) ∧ (o.kps.Pairwise fun x y => x.tok ≠ y.tok) ∧ ∀ x ∈ o.kps, ∀ y ∈ o.its, x.tok ≠ y.tok) (fun _ hr => ?_) (fun hn _ _ => ?_) hb
  · unfold confB; rw [if_pos hr]; exact hb
  · refine fit_cases (P := fun o : Br => (∀ x ∈ o.kps, 1 ≤ x.tok ∧ x.tok ≤ o.sq) ∧ (o.kps.Pairwise fun x y => x.tok ≠ y.tok) ∧ ∀ x ∈ o.kps, ∀ y ∈ o.its, x.tok ≠ y.tok) (fun _ => ?_) (fun _ => ?_) (fun _ => ?_) (fun _ => ?_) (fun _ => ?_) (fun e => absurd e hk) (fun _ => ?_) (fun _ => ?_) (fun _ => ?_) (fun _ _ => ?_) hb
    · unfold bootB; split <;> exact hb
    · unfold intentB; split
      · refine ⟨fun x hx => ⟨(h.one x hx).1, by have := (h.one x hx).2; show x.tok ≤ b.sq + 1; omega⟩, h.pw, fun x hx y hy => ?_⟩
        simp only [List.mem_append, List.mem_singleton] at hy
        rcases hy with hy | rfl
        · exact h.ap x hx y hy
        · have := (h.one x hx).2
          show x.tok ≠ b.sq + 1
          omega
      · exact hb
    · unfold madeB; split
      · exact hb
      · rename_i i hi
        split
        · obtain ⟨m1, m2⟩ := meant_some hi
          have hb1 := h.right.its i m1
          refine ⟨fun x hx => ?_, putK_tok h.pw (fun y hy => Ne.symm (h.ap y hy i m1)), fun x hx y hy => ?_⟩
          · rcases putK_mem.1 hx with rfl | hx
            · exact hb1
            · exact h.one x hx
          · rcases putK_mem.1 hx with rfl | hx
            · exact dropI_apart h.right.itp hi y hy
            · exact h.ap x hx y (List.mem_of_mem_eraseP hy)
        · exact hb
    · unfold phaseB; split
      · exact hb
      · split
        · exact ⟨fun x hx => (by
            rcases setK_mem hx with hx | ⟨z, hz, _, rfl⟩
            · exact h.one x hx
            · exact h.one z hz), setK_tok (by simp) h.pw, fun x hx y hy => (by
            rcases setK_mem hx with hx | ⟨z, hz, _, rfl⟩
            · exact h.ap x hx y hy
            · exact h.ap z hz y hy)⟩
        · exact hb
    · unfold goneB_; split
      · exact hb
      · exact ⟨fun x hx => h.one x (List.mem_of_mem_eraseP hx), h.pw.sublist List.eraseP_sublist, fun x hx => h.ap x (List.mem_of_mem_eraseP hx)⟩
    · unfold guardB; split
      · exact hb
      · split
        · exact ⟨fun x hx => (by
            rcases setK_mem hx with hx | ⟨z, hz, _, rfl⟩
            · exact h.one x hx
            · exact h.one z hz), setK_tok (by simp) h.pw, fun x hx y hy => (by
            rcases setK_mem hx with hx | ⟨z, hz, _, rfl⟩
            · exact h.ap x hx y hy
            · exact h.ap z hz y hy)⟩
        · exact hb
    · unfold doneB; split
      · exact hb
      · split
        · exact ⟨fun x hx => (by
            rcases setK_mem hx with hx | ⟨z, hz, _, rfl⟩
            · exact h.one x hx
            · exact h.one z hz), setK_tok (by simp) h.pw, fun x hx y hy => (by
            rcases setK_mem hx with hx | ⟨z, hz, _, rfl⟩
            · exact h.ap x hx y hy
            · exact h.ap z hz y hy)⟩
        · exact hb
    · unfold startB; split <;> exact hb
    · unfold refB
      repeat' split
      all_goals exact hb
set_option maxRecDepth 100000 in
/-- Each that is meant was so, or has a token above all that there were. -/
theorem new_tok (b : Br) (k : Int) (l : List Int) : ∀ x ∈ (applyB b k l).its, x ∈ b.its ∨ b.sq < x.tok := by
  have hb : ∀ x ∈ b.its, x ∈ b.its ∨ b.sq < x.tok := fun x hx => .inl hx
  refine apply_cases (P := fun o : Br => ∀ x ∈ o.its, x ∈ b.its ∨ b.sq < x.tok) (fun _ hr => ?_) (fun hn _ _ => ?_) hb
  · unfold confB; rw [if_pos hr]; exact hb
  · refine fit_cases (P := fun o : Br => ∀ x ∈ o.its, x ∈ b.its ∨ b.sq < x.tok) (fun _ => ?_) (fun _ => ?_) (fun _ => ?_) (fun _ => ?_) (fun _ => ?_) (fun _ => ?_) (fun _ => ?_) (fun _ => ?_) (fun _ => ?_) (fun _ _ => ?_) hb
    · unfold bootB; split <;> exact hb
    · unfold intentB; split
      · intro x hx
        simp only [List.mem_append, List.mem_singleton] at hx
        rcases hx with hx | rfl
        · exact .inl hx
        · exact .inr (by show b.sq < b.sq + 1; omega)
      · exact hb
    · unfold madeB; split
      · exact hb
      · split
        · exact fun x hx => .inl (List.mem_of_mem_eraseP hx)
        · exact hb
    · unfold phaseB; split
      · exact hb
      · split <;> exact hb
    · unfold goneB_; split <;> exact hb
    · unfold takeB; split <;> exact hb
    · unfold guardB; split
      · exact hb
      · split <;> exact hb
    · unfold doneB; split
      · exact hb
      · split <;> exact hb
    · unfold startB; split <;> exact hb
    · unfold refB
      repeat' split
      all_goals exact hb

set_option maxRecDepth 100000 in
/-- A record with a number that may not be changes nothing. -/
theorem not_nums (h : numsB l = false) : applyB b k l = b := by simp [applyB, h]
set_option maxRecDepth 100000 in
theorem not_len (hk : k ≠ 2) (h : manyB k ≠ (l.length : Int)) : applyB b k l = b := by
  unfold applyB
  rw [if_neg hk, if_neg h]
  split <;> rfl
set_option maxRecDepth 100000 in
theorem not_kind (h : k = 0 ∨ 17 ≤ k) : applyB b k l = b := by
  refine not_len (by omega) ?_
  have : manyB k = -1 := by
    unfold manyB
    rw [if_neg (by omega), if_neg (by omega), if_neg (by omega), if_neg (by omega), if_neg (by omega)]
  omega
set_option maxRecDepth 100000 in
theorem fits_len (hk : k ≠ 2) (h : sameB (applyB b k l) b = false) : manyB k = (l.length : Int) := by
  by_cases e : manyB k = (l.length : Int)
  · exact e
  · rw [not_len hk e, sameB_refl] at h; cases h
set_option maxRecDepth 100000 in
theorem nums_set {at_ : Nat} (hat : at_ < l.length) {n : Int} (hn : isNum n = false) : numsB (l.set at_ n) = false := by
  rw [numsB, List.all_eq_false]
  exact ⟨n, List.mem_set hat n, by simp [hn]⟩

set_option maxRecDepth 100000 in
/-- A record of one instance turns no other one. -/
theorem setK_other {id : Int} {f : Kp → Kp} {y : Kp} : ∀ {l : List Kp}, y ∈ l → y.id ≠ id → y ∈ setK id f l
  | [], h, _ => by cases h
  | x :: l, h, hne => by
    unfold setK
    split
    · rename_i e
      rcases List.mem_cons.1 h with rfl | h
      · exact absurd e hne
      · exact List.mem_cons_of_mem _ h
    · rcases List.mem_cons.1 h with rfl | h
      · exact List.mem_cons_self ..
      · exact List.mem_cons_of_mem _ (setK_other h hne)
set_option maxRecDepth 100000 in
theorem dropK_other {id : Int} {y : Kp} {l : List Kp} (h : y ∈ l) (hne : y.id ≠ id) : y ∈ dropK id l := by
  unfold dropK
  exact (List.mem_eraseP_of_neg (by simp [hne])).2 h
set_option maxRecDepth 100000 in
theorem one_apply (b : Br) (l : List Int) (hk : k = 6 ∨ k = 7 ∨ k = 8 ∨ k = 9 ∨ k = 10) : { applyB b k l with kps := b.kps } = b ∧ ∀ x ∈ b.kps, x.id ≠ l.getD 0 0 → x ∈ (applyB b k l).kps := by
  have hb : { b with kps := b.kps } = b ∧ ∀ x ∈ b.kps, x.id ≠ l.getD 0 0 → x ∈ b.kps := ⟨rfl, fun x hx _ => hx⟩
  refine apply_cases (P := fun o : Br => { o with kps := b.kps } = b ∧ ∀ x ∈ b.kps, x.id ≠ l.getD 0 0 → x ∈ o.kps) (fun e _ => by omega) (fun hn _ _ => ?_) hb
  refine fit_cases (P := fun o : Br => { o with kps := b.kps } = b ∧ ∀ x ∈ b.kps, x.id ≠ l.getD 0 0 → x ∈ o.kps) (fun e => by omega) (fun e => by omega) (fun e => by omega) (fun _ => ?_) (fun _ => ?_) (fun _ => ?_) (fun _ => ?_) (fun _ => ?_) (fun e => by omega) (fun _ e => by omega) hb
  · unfold phaseB; split
    · exact hb
    · split
      · exact ⟨rfl, fun x hx hne => setK_other hx hne⟩
      · exact hb
  · unfold goneB_; split
    · exact hb
    · exact ⟨rfl, fun x hx hne => dropK_other hx hne⟩
  · unfold takeB; split
    · exact ⟨rfl, fun x hx _ => putK_mem.2 (.inr hx)⟩
    · exact hb
  · unfold guardB; split
    · exact hb
    · split
      · exact ⟨rfl, fun x hx hne => setK_other hx hne⟩
      · exact hb
  · unfold doneB; split
    · exact hb
    · split
      · exact ⟨rfl, fun x hx hne => setK_other hx hne⟩
      · exact hb
set_option maxRecDepth 100000 in
/-- Of what is meant, or made: no epoch, no group, no state, no target turns. -/
theorem two_apply (b : Br) (l : List Int) (hk : k = 3 ∨ k = 4) : (applyB b k l).ep = b.ep ∧ (applyB b k l).set = b.set ∧ (applyB b k l).cf = b.cf ∧ (applyB b k l).rf.st = b.rf.st ∧ (applyB b k l).rf.to_ = b.rf.to_ := by
  have hb : b.ep = b.ep ∧ b.set = b.set ∧ b.cf = b.cf ∧ b.rf.st = b.rf.st ∧ b.rf.to_ = b.rf.to_ := ⟨rfl, rfl, rfl, rfl, rfl⟩
  refine apply_cases (P := fun o : Br => o.ep = b.ep ∧ o.set = b.set ∧ o.cf = b.cf ∧ o.rf.st = b.rf.st ∧ o.rf.to_ = b.rf.to_) (fun e _ => by omega) (fun hn _ _ => ?_) hb
  refine fit_cases (P := fun o : Br => o.ep = b.ep ∧ o.set = b.set ∧ o.cf = b.cf ∧ o.rf.st = b.rf.st ∧ o.rf.to_ = b.rf.to_) (fun e => by omega) (fun _ => ?_) (fun _ => ?_) (fun e => by omega) (fun e => by omega) (fun e => by omega) (fun e => by omega) (fun e => by omega) (fun e => by omega) (fun _ e => by omega) hb
  · unfold intentB; split <;> exact hb
  · unfold madeB; split
    · exact hb
    · split
      · refine ⟨rfl, rfl, rfl, ?_, ?_⟩
        · show (if b.rf.st = 1 then _ else _ : Rf).st = _
          split <;> rfl
        · show (if b.rf.st = 1 then _ else _ : Rf).to_ = _
          split <;> rfl
      · exact hb
set_option maxRecDepth 100000 in
/-- A record of the refresh, of an epoch, of a group turns no instance, and nothing that is meant. -/
theorem rest_apply (b : Br) (l : List Int) (hk : (k ≠ 3 ∧ k ≠ 4 ∧ k ≠ 6 ∧ k ≠ 7 ∧ k ≠ 8 ∧ k ≠ 9 ∧ k ≠ 10) ∨ ((k = 6 ∨ k = 7 ∨ k = 8 ∨ k = 9 ∨ k = 10) ∧ l = [])) : (applyB b k l).kps = b.kps ∧ (applyB b k l).its = b.its ∧ (applyB b k l).sq = b.sq := by
  have hb : b.kps = b.kps ∧ b.its = b.its ∧ b.sq = b.sq := ⟨rfl, rfl, rfl⟩
  rcases hk with hk | ⟨hk, rfl⟩
  · refine apply_cases (P := fun o : Br => o.kps = b.kps ∧ o.its = b.its ∧ o.sq = b.sq) (fun _ hr => ?_) (fun hn _ _ => ?_) hb
    · unfold confB; rw [if_pos hr]; exact hb
    refine fit_cases (P := fun o : Br => o.kps = b.kps ∧ o.its = b.its ∧ o.sq = b.sq) (fun _ => ?_) (fun e => by omega) (fun e => by omega) (fun e => by omega) (fun e => by omega) (fun e => by omega) (fun e => by omega) (fun e => by omega) (fun _ => ?_) (fun _ _ => ?_) hb
    · unfold bootB; split <;> exact hb
    · unfold startB; split <;> exact hb
    · unfold refB
      repeat' split
      all_goals exact hb
  · have e : applyB b k [] = b := not_len (by omega) (by
      unfold manyB
      rcases hk with rfl | rfl | rfl | rfl | rfl <;> simp)
    rw [e]
    exact hb
set_option maxRecDepth 100000 in
/-- In a brain that may be, one that is kept is found at its place. -/
theorem find_at (h : RightB o) {x : Kp} (hx : x ∈ o.kps) : ∃ i : Nat, o.kps.findIdx? (fun y => decide (y.id = x.id)) = some i ∧ o.kps[i]? = some x := by
  have hp := h.kpp
  generalize o.kps = L at hp hx
  induction L with
  | nil => cases hx
  | cons a L ih =>
    rw [List.pairwise_cons] at hp
    rw [List.findIdx?_cons]
    rcases List.mem_cons.1 hx with rfl | hx
    · exact ⟨0, by simp, rfl⟩
    · have := hp.1 x hx
      obtain ⟨i, h1, h2⟩ := ih hp.2 hx
      refine ⟨i + 1, ?_, h2⟩
      rw [if_neg (by simp; omega), h1]
      rfl
end

end Go.Proofs.YtdaimejlcfhfiaaGreatDoor

/-
  Brains in memory: rows of what is meant, of what is kept; how a brain's value lies; rows of its own. Conditions: those that each theorem names.
-/
namespace Go.Proofs.YtdaimejlcfhfiaaGreatDoor
open Go.RowKit Go.Shelf

def It.vs (x : It) : List Value := [.int .i64 x.tok, .int .i64 x.ver, .int .i64 x.zone, .bool x.warm]
set_option maxRecDepth 100000 in
theorem It.vs_len (x : It) : x.vs.length = 4 := rfl
set_option maxRecDepth 100000 in
theorem It.vs_one (x : It) : ∀ u ∈ x.vs, u.oneCell' = true := by
  intro u hu
  simp only [It.vs, List.mem_cons, List.not_mem_nil, or_false] at hu
  rcases hu with rfl | rfl | rfl | rfl <;> rfl
set_option maxRecDepth 100000 in
theorem info_it : (Tryz.prog.info? 45).map (fun i => (i.zero, i.size, i.bytes)) = some (some (.agg (It.vs ⟨0, 0, 0, false⟩).toArray), 4, 32) := by kernel_rfl
def Kp.vs (x : Kp) : List Value := [.int .i64 x.id, .int .i64 x.tok, .int .i64 x.ver, .int .i64 x.zone, .int .u8 x.phase, .int .i64 x.since, .bool x.guard, .bool x.done]
set_option maxRecDepth 100000 in
theorem Kp.vs_len (x : Kp) : x.vs.length = 8 := rfl
set_option maxRecDepth 100000 in
theorem Kp.vs_one (x : Kp) : ∀ u ∈ x.vs, u.oneCell' = true := by
  intro u hu
  simp only [Kp.vs, List.mem_cons, List.not_mem_nil, or_false] at hu
  rcases hu with rfl | rfl | rfl | rfl | rfl | rfl | rfl | rfl <;> rfl
set_option maxRecDepth 100000 in
theorem info_kp : (Tryz.prog.info? 47).map (fun i => (i.zero, i.size, i.bytes)) = some (some (.agg (Kp.vs ⟨0, 0, 0, 0, 0, 0, false, false⟩).toArray), 8, 56) := by kernel_rfl

structure ItAt (w : World) (b o : Nat) (x : It) : Prop where
  c0 : w.cell? ⟨b, o, none⟩ = some (.int .i64 x.tok)
  c1 : w.cell? ⟨b, o + 1, none⟩ = some (.int .i64 x.ver)
  c2 : w.cell? ⟨b, o + 2, none⟩ = some (.int .i64 x.zone)
  c3 : w.cell? ⟨b, o + 3, none⟩ = some (.bool x.warm)
structure KpAt (w : World) (b o : Nat) (x : Kp) : Prop where
  c0 : w.cell? ⟨b, o, none⟩ = some (.int .i64 x.id)
  c1 : w.cell? ⟨b, o + 1, none⟩ = some (.int .i64 x.tok)
  c2 : w.cell? ⟨b, o + 2, none⟩ = some (.int .i64 x.ver)
  c3 : w.cell? ⟨b, o + 3, none⟩ = some (.int .i64 x.zone)
  c4 : w.cell? ⟨b, o + 4, none⟩ = some (.int .u8 x.phase)
  c5 : w.cell? ⟨b, o + 5, none⟩ = some (.int .i64 x.since)
  c6 : w.cell? ⟨b, o + 6, none⟩ = some (.bool x.guard)
  c7 : w.cell? ⟨b, o + 7, none⟩ = some (.bool x.done)
abbrev RdI (w : World) (B : Nat) (A : Option Addr) (n : Nat) (l : List It) : Prop := RdF 4 It.vs w B A n l
abbrev RdK (w : World) (B : Nat) (A : Option Addr) (n : Nat) (l : List Kp) : Prop := RdF 8 Kp.vs w B A n l
set_option maxRecDepth 100000 in
theorem RdI.at_ {w : World} {B n : Nat} {A : Option Addr} {l : List It} (h : RdI w B A n l) (hn : 0 < n) : ∃ b off, A = some ⟨b, off, none⟩ ∧ b < B ∧ ∀ j x, l[j]? = some x → ItAt w b (off + j * 4) x := by
  obtain ⟨b, off, e, hlt, hc⟩ := h.2 hn
  exact ⟨b, off, e, hlt, fun j x hx => ⟨hc j x hx 0 (by omega), hc j x hx 1 (by omega), hc j x hx 2 (by omega), hc j x hx 3 (by omega)⟩⟩
set_option maxRecDepth 100000 in
theorem RdK.at_ {w : World} {B n : Nat} {A : Option Addr} {l : List Kp} (h : RdK w B A n l) (hn : 0 < n) : ∃ b off, A = some ⟨b, off, none⟩ ∧ b < B ∧ ∀ j x, l[j]? = some x → KpAt w b (off + j * 8) x := by
  obtain ⟨b, off, e, hlt, hc⟩ := h.2 hn
  exact ⟨b, off, e, hlt, fun j x hx => ⟨hc j x hx 0 (by omega), hc j x hx 1 (by omega), hc j x hx 2 (by omega), hc j x hx 3 (by omega), hc j x hx 4 (by omega), hc j x hx 5 (by omega), hc j x hx 6 (by omega), hc j x hx 7 (by omega)⟩⟩
/-- Rows of one's own. -/
def ItsAt (base : Nat) (w : World) (v : Value) (l : List It) : Prop := w.ownsRow base 45 4 v l.length (l.flatMap It.vs)
def KpsAt (base : Nat) (w : World) (v : Value) (l : List Kp) : Prop := w.ownsRow base 47 8 v l.length (l.flatMap Kp.vs)
section
variable {base base' : Nat} {w w' : World} {v : Value} {l : List It} {m : List Kp}
set_option maxRecDepth 100000 in
theorem ItsAt.nil_ (base : Nat) (w : World) : ItsAt base w (.slice none 0 0) [] := World.ownsRow_nil _ _ _ _
set_option maxRecDepth 100000 in
theorem ItsAt.form (h : ItsAt base w v l) : ∃ A c, v = .slice A l.length c := own_formF h
set_option maxRecDepth 100000 in
theorem ItsAt.under (h : ItsAt base w v l) (hb : Below w.heap.size w w') : ItsAt base w' v l := own_under h hb
set_option maxRecDepth 100000 in
theorem ItsAt.weaker (h : ItsAt base' w v l) (hb : base ≤ base') : ItsAt base w v l := own_weaker h hb
set_option maxRecDepth 100000 in
theorem ItsAt.only {g : Nat} {t : TypeId} {cs : Array Value} (h : ItsAt base w v l) (k : Only g w w') (hw : Whole w g t cs) (hne : 45 ≠ t) : ItsAt base w' v l := k.own h hw hne
set_option maxRecDepth 100000 in
theorem ItsAt.read {A : Option Addr} {c : Nat} (h : ItsAt base w (.slice A l.length c) l) : RdI w w.heap.size A l.length l := RdF.of_own It.vs_len (by omega) h
set_option maxRecDepth 100000 in
theorem KpsAt.nil_ (base : Nat) (w : World) : KpsAt base w (.slice none 0 0) [] := World.ownsRow_nil _ _ _ _
set_option maxRecDepth 100000 in
theorem KpsAt.form (h : KpsAt base w v m) : ∃ A c, v = .slice A m.length c := own_formF h
set_option maxRecDepth 100000 in
theorem KpsAt.under (h : KpsAt base w v m) (hb : Below w.heap.size w w') : KpsAt base w' v m := own_under h hb
set_option maxRecDepth 100000 in
theorem KpsAt.weaker (h : KpsAt base' w v m) (hb : base ≤ base') : KpsAt base w v m := own_weaker h hb
set_option maxRecDepth 100000 in
theorem KpsAt.only {g : Nat} {t : TypeId} {cs : Array Value} (h : KpsAt base w v m) (k : Only g w w') (hw : Whole w g t cs) (hne : 47 ≠ t) : KpsAt base w' v m := k.own h hw hne
set_option maxRecDepth 100000 in
theorem KpsAt.read {A : Option Addr} {c : Nat} (h : KpsAt base w (.slice A m.length c) m) : RdK w w.heap.size A m.length m := RdF.of_own Kp.vs_len (by omega) h
end
set_option maxRecDepth 100000 in
/-- 'append(v, x...)' of what is meant. -/
theorem its_app (w : World) (base : Nat) (v : Value) (l : List It) (h : ItsAt base w v l) (B : Nat) (A : Option Addr) (m c : Nat) (l' : List It) (hr : RdI w B A m l') (hm : l.length + m ≤ 1000000) (hbase : base ≤ w.heap.size) :
    ∃ A' c' w', (Builtin.append_ #[25, 25] 25 #[v, .slice A m c]).run Tryz.prog w = .ok (.slice A' (l.length + m) c') w' ∧ ItsAt base w' (.slice A' (l.length + m) c') (l ++ l') ∧ w.grownBy w' v.ownBlock ∧ (∀ b t cs, Whole w b t cs → 45 ≠ t → Whole w' b t cs) := by
  obtain ⟨v', w', g1, g2, g3⟩ := run_appF Tryz.underlying25 info_it rfl (by decide) It.vs_len It.vs_one w base v l.length _ h B A m c l' hr (by unfold maxLen; omega) (by omega) hbase
  obtain ⟨A', c', rfl⟩ := own_formF g2
  refine ⟨A', c', w', g1, ?_, g3, fun b t cs hw hne => hw.grown g3 (Ne.symm (own_apart_F hne h hw))⟩
  unfold ItsAt
  rw [List.length_append, hr.len, List.flatMap_append]
  exact g2
set_option maxRecDepth 100000 in
theorem kps_app (w : World) (base : Nat) (v : Value) (l : List Kp) (h : KpsAt base w v l) (B : Nat) (A : Option Addr) (m c : Nat) (l' : List Kp) (hr : RdK w B A m l') (hm : l.length + m ≤ 1000000) (hbase : base ≤ w.heap.size) :
    ∃ A' c' w', (Builtin.append_ #[26, 26] 26 #[v, .slice A m c]).run Tryz.prog w = .ok (.slice A' (l.length + m) c') w' ∧ KpsAt base w' (.slice A' (l.length + m) c') (l ++ l') ∧ w.grownBy w' v.ownBlock ∧ (∀ b t cs, Whole w b t cs → 47 ≠ t → Whole w' b t cs) := by
  obtain ⟨v', w', g1, g2, g3⟩ := run_appF Tryz.underlying26 info_kp rfl (by decide) Kp.vs_len Kp.vs_one w base v l.length _ h B A m c l' hr (by unfold maxLen; omega) (by omega) hbase
  obtain ⟨A', c', rfl⟩ := own_formF g2
  refine ⟨A', c', w', g1, ?_, g3, fun b t cs hw hne => hw.grown g3 (Ne.symm (own_apart_F hne h hw))⟩
  unfold KpsAt
  rw [List.length_append, hr.len, List.flatMap_append]
  exact g2

set_option maxRecDepth 100000 in
theorem run_neqIt (w : World) (x y : It) : (binOp .neq 45 (.agg #[.int .i64 x.tok, .int .i64 x.ver, .int .i64 x.zone, .bool x.warm]) (.agg #[.int .i64 y.tok, .int .i64 y.ver, .int .i64 y.zone, .bool y.warm])).run Tryz.prog w = .ok (.bool (!decide (x = y))) w := by
  go_simp
  by_cases h : x = y
  · subst h; simp
  · rw [decide_eq_false h]
    repeat' (first | rfl | split)
    exfalso
    apply h
    cases x
    cases y
    simp_all
set_option maxRecDepth 100000 in
theorem run_neqKp (w : World) (x y : Kp) : (binOp .neq 47 (.agg #[.int .i64 x.id, .int .i64 x.tok, .int .i64 x.ver, .int .i64 x.zone, .int .u8 x.phase, .int .i64 x.since, .bool x.guard, .bool x.done]) (.agg #[.int .i64 y.id, .int .i64 y.tok, .int .i64 y.ver, .int .i64 y.zone, .int .u8 y.phase, .int .i64 y.since, .bool y.guard, .bool y.done])).run Tryz.prog w = .ok (.bool (!decide (x = y))) w := by
  go_simp
  by_cases h : x = y
  · subst h; simp
  · rw [decide_eq_false h]
    repeat' (first | rfl | split)
    exfalso
    apply h
    cases x
    cases y
    simp_all
abbrev Rf.cells (r : Rf) : Array Value := #[.int .u8 r.st, .int .i64 r.fr, .int .i64 r.to_, .int .i64 r.step, .bool r.paused, .int .i64 r.since, .int .i64 r.fails]
set_option maxRecDepth 100000 in
theorem run_neqRf (w : World) (x y : Rf) : (binOp .neq 28 (.agg #[.int .u8 x.st, .int .i64 x.fr, .int .i64 x.to_, .int .i64 x.step, .bool x.paused, .int .i64 x.since, .int .i64 x.fails]) (.agg #[.int .u8 y.st, .int .i64 y.fr, .int .i64 y.to_, .int .i64 y.step, .bool y.paused, .int .i64 y.since, .int .i64 y.fails])).run Tryz.prog w = .ok (.bool (!decide (x = y))) w := by
  go_simp
  by_cases h : x = y
  · subst h; simp
  · rw [decide_eq_false h]
    repeat' (first | rfl | split)
    exfalso
    apply h
    cases x
    cases y
    simp_all

/-- Where a brain's rows lie: its marks, what is meant, what is kept. -/
structure Ad where
  C : Option Addr
  e : Nat
  A : Option Addr
  c : Nat
  B : Option Addr
  d : Nat
abbrev brC (p : Br) (a : Ad) : Array Value := #[.int .i64 p.ep, .int .i64 p.sq, .bool p.set, .int .i64 p.cf.f0, .int .i64 p.cf.f1, .int .i64 p.cf.f2, .int .i64 p.cf.f3, .int .i64 p.cf.f4, .int .i64 p.cf.f5, .int .i64 p.cf.f6, .int .i64 p.cf.f7, .int .i64 p.cf.f8, .int .i64 p.cf.f9, .int .i64 p.cf.f10, .int .i64 p.cf.f11, .int .i64 p.cf.f12, .bool p.cf.sk, .slice a.C p.cf.ms.length a.e, .slice a.A p.its.length a.c, .slice a.B p.kps.length a.d, .int .u8 p.rf.st, .int .i64 p.rf.fr, .int .i64 p.rf.to_, .int .i64 p.rf.step, .bool p.rf.paused, .int .i64 p.rf.since, .int .i64 p.rf.fails]
abbrev brV (p : Br) (a : Ad) : Value := .agg #[.int .i64 p.ep, .int .i64 p.sq, .bool p.set, .int .i64 p.cf.f0, .int .i64 p.cf.f1, .int .i64 p.cf.f2, .int .i64 p.cf.f3, .int .i64 p.cf.f4, .int .i64 p.cf.f5, .int .i64 p.cf.f6, .int .i64 p.cf.f7, .int .i64 p.cf.f8, .int .i64 p.cf.f9, .int .i64 p.cf.f10, .int .i64 p.cf.f11, .int .i64 p.cf.f12, .bool p.cf.sk, .slice a.C p.cf.ms.length a.e, .slice a.A p.its.length a.c, .slice a.B p.kps.length a.d, .int .u8 p.rf.st, .int .i64 p.rf.fr, .int .i64 p.rf.to_, .int .i64 p.rf.step, .bool p.rf.paused, .int .i64 p.rf.since, .int .i64 p.rf.fails]
/-- A brain's rows read below B. -/
structure RdB_ (w : World) (Z : Nat) (p : Br) (a : Ad) : Prop where
  ms : Rd w Z a.C p.cf.ms.length (iv p.cf.ms)
  its : RdI w Z a.A p.its.length p.its
  kps : RdK w Z a.B p.kps.length p.kps
  ce : p.cf.ms.length ≤ a.e
  em : a.e ≤ maxLen
  cc : p.its.length ≤ a.c
  cd : p.kps.length ≤ a.d
set_option maxRecDepth 100000 in
theorem RdB_.below {w w' : World} {Z : Nat} {p : Br} {a : Ad} (h : RdB_ w Z p a) (hb : Below Z w w') : RdB_ w' Z p a := ⟨h.ms.below hb, h.its.below hb, h.kps.below hb, h.ce, h.em, h.cc, h.cd⟩
set_option maxRecDepth 100000 in
theorem RdB_.more {w : World} {Z Z' : Nat} {p : Br} {a : Ad} (h : RdB_ w Z p a) (hZ : Z ≤ Z') : RdB_ w Z' p a := ⟨h.ms.more hZ, h.its.more hZ, h.kps.more hZ, h.ce, h.em, h.cc, h.cd⟩
set_option maxRecDepth 100000 in
theorem RdB_.up {w w' : World} {p : Br} {a : Ad} (h : RdB_ w w.heap.size p a) (hb : Below w.heap.size w w') : RdB_ w' w'.heap.size p a := (h.below hb).more hb.size
/-- A brain's rows are one's own, from base on. -/
structure OwB (base : Nat) (w : World) (p : Br) (a : Ad) : Prop where
  ms : w.ownsRow base 3 1 (.slice a.C p.cf.ms.length a.e) p.cf.ms.length (iv p.cf.ms)
  its : ItsAt base w (.slice a.A p.its.length a.c) p.its
  kps : KpsAt base w (.slice a.B p.kps.length a.d) p.kps
set_option maxRecDepth 100000 in
theorem OwB.under {base : Nat} {w w' : World} {p : Br} {a : Ad} (h : OwB base w p a) (hb : Below w.heap.size w w') : OwB base w' p a := ⟨own_under h.ms hb, h.its.under hb, h.kps.under hb⟩
set_option maxRecDepth 100000 in
theorem OwB.weaker {base base' : Nat} {w : World} {p : Br} {a : Ad} (h : OwB base' w p a) (hb : base ≤ base') : OwB base w p a := ⟨own_weaker h.ms hb, h.its.weaker hb, h.kps.weaker hb⟩
/-- A brain's group, as it lies. -/
abbrev cfM (p : Br) (a : Ad) : Cf := { p.cf with A := a.C, n := p.cf.ms.length, c := a.e }
set_option maxRecDepth 100000 in
theorem RdB_.lies {w : World} {Z : Nat} {p : Br} {a : Ad} (h : RdB_ w Z p a) : Lies (cfM p a) w Z := ⟨h.ms, h.ce, h.em⟩
/-- What comes of a call that tells a brain, whose own everything from base on is. -/
def BrPost (base : Nat) (p : Br) (w : World) (e : Ending) (w' : World) : Prop :=
  ∃ a, e = .returned (brV p a) ∧ OwB base w' p a ∧ Below base w w'

end Go.Proofs.YtdaimejlcfhfiaaGreatDoor

/-
  The world named where a walk stands. Conditions: none.
-/
namespace Go.Proofs.YtdaimejlcfhfiaaGreatDoor

set_option maxRecDepth 100000 in
theorem wpV {P : Program} {c : Code} {Q : Exit → Act → World → Prop} {a : Act} {W : World} (h : ∀ V, W = V → c.wp P Q a V) : c.wp P Q a W := h W rfl
set_option maxRecDepth 100000 in
theorem callsV {P : Program} {f : FuncId} {args : Array Value} {W : World} {R : Ending → World → Prop} (h : ∀ V, W = V → Calls P f args V R) : Calls P f args W R := h W rfl
set_option maxRecDepth 100000 in
theorem qV {Q : Exit → Act → World → Prop} {e : Exit} {a : Act} {W : World} (h : ∀ V, W = V → Q e a V) : Q e a W := h W rfl

end Go.Proofs.YtdaimejlcfhfiaaGreatDoor

/-
  The walks of the document's own words on brains: Find, Token, numbers, many, Legal. Conditions: those that each theorem names.
-/
namespace Go.Proofs.YtdaimejlcfhfiaaGreatDoor
open Go.RowKit Go.Shelf

set_option maxRecDepth 100000 in
theorem findIdx_first {α : Type} {l : List α} {p : α → Bool} {j : Nat} {x : α} (hx : l[j]? = some x) (hp : p x = true) (hno : ∀ y ∈ l.take j, p y = false) : l.findIdx? p = some j := by
  induction l generalizing j with
  | nil => simp at hx
  | cons a l ih =>
    rw [List.findIdx?_cons]
    cases j with
    | zero =>
      simp only [List.getElem?_cons_zero, Option.some.injEq] at hx
      subst hx
      simp [hp]
    | succ j =>
      have ha := hno a (by simp)
      rw [ha, ih (by simpa using hx) (fun y hy => hno y (by simp [hy]))]
      rfl

set_option maxRecDepth 100000 in
set_option maxHeartbeats 1000000 in
theorem rfindB_any (p : Br) (a : Ad) (id : Int) (Z : Nat) (w : World) (hr : RdB_ w Z p a) (hZ : Z ≤ w.heap.size) (hn : p.kps.length ≤ 1000) :
    Calls Tryz.prog 18 #[brV p a, .int .i64 id] w fun e w' => e = .returned (.int .i64 (findB p id)) ∧ Below w.heap.size w w' := by
  have hb : Below w.heap.size w (w.alloc (.cells (brC p a) 30)) := (Below.refl _ _).alloc (Nat.le_refl _) _
  have w0 := Whole.new w 30 (brC p a)
  obtain ⟨V, hV⟩ : ∃ V, w.alloc (.cells (brC p a) 30) = V := ⟨_, rfl⟩
  rw [hV] at hb w0
  have c0 : V.cell? ⟨w.heap.size, 19, none⟩ = some (.slice a.B p.kps.length a.d) := w0.cell 19
  have HR := Lib.hid (show RdK V Z a.B p.kps.length p.kps from hr.kps.below (hb.mono hZ))
  have HB := Lib.hid hb
  obtain ⟨n, hn2⟩ : ∃ n, p.kps.length = n := ⟨_, rfl⟩
  obtain ⟨l, hl⟩ : ∃ l, p.kps = l := ⟨_, rfl⟩
  have hspec : findB p id = match l.findIdx? (fun x => decide (x.id = id)) with | some i => (i : Int) | none => -1 := by rw [← hl]; rfl
  obtain ⟨v, hv⟩ : ∃ v, findB p id = v := ⟨_, rfl⟩
  have HS := Lib.hid (hv.symm.trans hspec)
  rw [hv]
  have HL := Lib.hid (show l.length = n by rw [← hl]; exact hn2)
  have HV := Lib.hid hV
  rw [hn2] at c0 hn HR
  rw [hl] at HR
  clear w0 hb hr hZ hV hspec hl hv hn2
  go_enter Tryz.func18, Tryz.ntmps18
  go_upto_region 1 with fail
  refine wpV (fun V2 hV2 => ?_)
  obtain rfl : V = V2 := HV.out.symm.trans hV2
  clear HV hV2
  go_wp2_with fail
  go_loopw [5] (fun i wr => ∃ j : Nat, i = .int .i64 (j : Int) ∧ j ≤ n ∧ (∀ y ∈ l.take j, decide (y.id = id) = false) ∧ wr = V) (fun i _ => n - (intOf i).toNat)
  case atStart => exact ⟨0, rfl, Nat.zero_le _, by simp, rfl⟩
  case round =>
    obtain ⟨j, rfl, hj, hT, rfl⟩ := hrel
    have HT := Lib.hid hT
    clear hT
    by_cases hlt : j < n
    · obtain ⟨b, off, hA, _, hc⟩ := RdK.at_ HR.out (by omega)
      rw [hA] at c0
      obtain ⟨x, hx⟩ : ∃ x, l[j]? = some x := ⟨_, List.getElem?_eq_getElem (by rw [HL.out]; exact hlt)⟩
      obtain ⟨g0, g1, g2, g3, g4, g5, g6, g7⟩ := hc j x hx
      have hI : (j : Int) < (n : Int) := by omega
      have HX := Lib.hid hx
      clear hc hx hA
      by_cases h1 : x.id = id
      · have q0 : (x.id == id) = true := by simp [h1]
        have HF := Lib.hid (show l.findIdx? (fun x => decide (x.id = id)) = some j from findIdx_first HX.out (by simp [h1]) HT.out)
        clear h1
        go_wp2_with fail
        go_ret
        exact ⟨by rw [HS.out, HF.out]; rfl, HB.out⟩
      · have q0 : (x.id == id) = false := by simp [h1]
        have HN : Hid (∀ y ∈ l.take (j + 1), decide (y.id = id) = false) := Lib.hid (fun y hy => by
          rw [List.take_succ_eq_append_getElem (List.getElem?_eq_some_iff.1 HX.out).1, (List.getElem?_eq_some_iff.1 HX.out).2, List.mem_append, List.mem_singleton] at hy
          rcases hy with hy | rfl
          · exact HT.out y hy
          · exact decide_eq_false h1)
        clear h1
        go_wp2_with fail
        go_roundw
        case rel => exact ⟨j + 1, by go_num, by omega, HN.out, by first | rfl | trivial⟩
        case measure => simp [intOf]; omega
    · have HF := Lib.hid (show l.findIdx? (fun x => decide (x.id = id)) = none from by
        rw [List.findIdx?_eq_none_iff]
        intro y hy
        exact HT.out y (by rw [List.take_of_length_le (by have := HL.out; omega)]; exact hy))
      go_wp2_with fail
      go_ret
      exact ⟨by rw [HS.out, HF.out]; rfl, HB.out⟩

set_option maxRecDepth 100000 in
set_option maxHeartbeats 1000000 in
theorem rtokenB_any (p : Br) (a : Ad) (id : Int) (Z : Nat) (w : World) (hr : RdB_ w Z p a) (hZ : Z ≤ w.heap.size) (hn : p.its.length ≤ 1000) :
    Calls Tryz.prog 20 #[brV p a, .int .i64 id] w fun e w' => e = .returned (.int .i64 (tokenB p id)) ∧ Below w.heap.size w w' := by
  have hb : Below w.heap.size w (w.alloc (.cells (brC p a) 30)) := (Below.refl _ _).alloc (Nat.le_refl _) _
  have w0 := Whole.new w 30 (brC p a)
  obtain ⟨V, hV⟩ : ∃ V, w.alloc (.cells (brC p a) 30) = V := ⟨_, rfl⟩
  rw [hV] at hb w0
  have c0 : V.cell? ⟨w.heap.size, 18, none⟩ = some (.slice a.A p.its.length a.c) := w0.cell 18
  have HR := Lib.hid (show RdI V Z a.A p.its.length p.its from hr.its.below (hb.mono hZ))
  have HB := Lib.hid hb
  obtain ⟨n, hn2⟩ : ∃ n, p.its.length = n := ⟨_, rfl⟩
  obtain ⟨l, hl⟩ : ∃ l, p.its = l := ⟨_, rfl⟩
  have hspec : tokenB p id = match l.findIdx? (fun x => decide (x.tok = id)) with | some i => (i : Int) | none => -1 := by rw [← hl]; rfl
  obtain ⟨v, hv⟩ : ∃ v, tokenB p id = v := ⟨_, rfl⟩
  have HS := Lib.hid (hv.symm.trans hspec)
  rw [hv]
  have HL := Lib.hid (show l.length = n by rw [← hl]; exact hn2)
  have HV := Lib.hid hV
  rw [hn2] at c0 hn HR
  rw [hl] at HR
  clear w0 hb hr hZ hV hspec hl hv hn2
  go_enter Tryz.func20, Tryz.ntmps20
  go_upto_region 1 with fail
  refine wpV (fun V2 hV2 => ?_)
  obtain rfl : V = V2 := HV.out.symm.trans hV2
  clear HV hV2
  go_wp2_with fail
  go_loopw [5] (fun i wr => ∃ j : Nat, i = .int .i64 (j : Int) ∧ j ≤ n ∧ (∀ y ∈ l.take j, decide (y.tok = id) = false) ∧ wr = V) (fun i _ => n - (intOf i).toNat)
  case atStart => exact ⟨0, rfl, Nat.zero_le _, by simp, rfl⟩
  case round =>
    obtain ⟨j, rfl, hj, hT, rfl⟩ := hrel
    have HT := Lib.hid hT
    clear hT
    by_cases hlt : j < n
    · obtain ⟨b, off, hA, _, hc⟩ := RdI.at_ HR.out (by omega)
      rw [hA] at c0
      obtain ⟨x, hx⟩ : ∃ x, l[j]? = some x := ⟨_, List.getElem?_eq_getElem (by rw [HL.out]; exact hlt)⟩
      obtain ⟨g0, g1, g2, g3⟩ := hc j x hx
      have hI : (j : Int) < (n : Int) := by omega
      have HX := Lib.hid hx
      clear hc hx hA
      by_cases h1 : x.tok = id
      · have q0 : (x.tok == id) = true := by simp [h1]
        have HF := Lib.hid (show l.findIdx? (fun x => decide (x.tok = id)) = some j from findIdx_first HX.out (by simp [h1]) HT.out)
        clear h1
        go_wp2_with fail
        go_ret
        exact ⟨by rw [HS.out, HF.out]; rfl, HB.out⟩
      · have q0 : (x.tok == id) = false := by simp [h1]
        have HN : Hid (∀ y ∈ l.take (j + 1), decide (y.tok = id) = false) := Lib.hid (fun y hy => by
          rw [List.take_succ_eq_append_getElem (List.getElem?_eq_some_iff.1 HX.out).1, (List.getElem?_eq_some_iff.1 HX.out).2, List.mem_append, List.mem_singleton] at hy
          rcases hy with hy | rfl
          · exact HT.out y hy
          · exact decide_eq_false h1)
        clear h1
        go_wp2_with fail
        go_roundw
        case rel => exact ⟨j + 1, by go_num, by omega, HN.out, by first | rfl | trivial⟩
        case measure => simp [intOf]; omega
    · have HF := Lib.hid (show l.findIdx? (fun x => decide (x.tok = id)) = none from by
        rw [List.findIdx?_eq_none_iff]
        intro y hy
        exact HT.out y (by rw [List.take_of_length_le (by have := HL.out; omega)]; exact hy))
      go_wp2_with fail
      go_ret
      exact ⟨by rw [HS.out, HF.out]; rfl, HB.out⟩

set_option maxRecDepth 100000 in
theorem rmany_any (k : Int) (w : World) : Calls Tryz.prog 31 #[.int .u8 k] w fun e w' => e = .returned (.int .i64 (manyB k)) ∧ w' = w := by
  unfold manyB
  by_cases h : k = 1 ∨ k = 2 ∨ k = 3 ∨ k = 4 ∨ k = 5 ∨ k = 6 ∨ k = 7 ∨ k = 8 ∨ k = 9 ∨ k = 10 ∨ k = 11 ∨ k = 12 ∨ k = 13 ∨ k = 14 ∨ k = 15 ∨ k = 16
  · rcases h with rfl | rfl | rfl | rfl | rfl | rfl | rfl | rfl | rfl | rfl | rfl | rfl | rfl | rfl | rfl | rfl
    all_goals
      go_enter Tryz.func31, Tryz.ntmps31
      go_wp2_with fail
      go_ret
      exact ⟨by rfl, rfl⟩
  · have h1 : (k == 1) = false := by simp; omega
    have h2 : (k == 2) = false := by simp; omega
    have h3 : (k == 3) = false := by simp; omega
    have h4 : (k == 4) = false := by simp; omega
    have h5 : (k == 5) = false := by simp; omega
    have h6 : (k == 6) = false := by simp; omega
    have h7 : (k == 7) = false := by simp; omega
    have h8 : (k == 8) = false := by simp; omega
    have h9 : (k == 9) = false := by simp; omega
    have h10 : (k == 10) = false := by simp; omega
    have h11 : (k == 11) = false := by simp; omega
    have h12 : (k == 12) = false := by simp; omega
    have h13 : (k == 13) = false := by simp; omega
    have h14 : (k == 14) = false := by simp; omega
    have h15 : (k == 15) = false := by simp; omega
    have h16 : (k == 16) = false := by simp; omega
    have e : (if k = 1 ∨ k = 12 ∨ k = 13 ∨ k = 15 ∨ k = 16 then (0 : Int) else if k = 5 ∨ k = 7 ∨ k = 10 ∨ k = 14 then 1 else if k = 9 ∨ k = 11 then 2 else if k = 3 ∨ k = 4 ∨ k = 6 then 3 else if k = 8 then 5 else -1) = -1 := by
      rw [if_neg (by omega), if_neg (by omega), if_neg (by omega), if_neg (by omega), if_neg (by omega)]
    rw [e]
    clear e h
    go_enter Tryz.func31, Tryz.ntmps31
    go_wp2_with fail
    go_ret
    exact ⟨rfl, rfl⟩

set_option linter.unusedSimpArgs false in
set_option maxRecDepth 100000 in
set_option maxHeartbeats 2000000 in
theorem rlegal_any (a b : Int) (w : World) : Calls Tryz.prog 54 #[.int .u8 a, .int .u8 b] w fun e w' => e = .returned (.bool (legalB a b)) ∧ w' = w := by
  unfold legalB
  by_cases h : a = 1 ∨ a = 2 ∨ a = 3 ∨ a = 4 ∨ a = 5 ∨ a = 6 ∨ a = 7 ∨ a = 9 ∨ a = 10
  · rcases h with rfl | rfl | rfl | rfl | rfl | rfl | rfl | rfl | rfl
    · by_cases h2 : b = 2
      · subst h2
        go_enter Tryz.func54, Tryz.ntmps54
        go_wp2_with fail
        go_ret
        exact ⟨by rfl, rfl⟩
      have q2 : (b == 2) = false := by simp [h2]
      by_cases h8 : b = 8
      · subst h8
        go_enter Tryz.func54, Tryz.ntmps54
        go_wp2_with fail
        go_ret
        exact ⟨by rfl, rfl⟩
      have q8 : (b == 8) = false := by simp [h8]
      go_enter Tryz.func54, Tryz.ntmps54
      go_wp2_with fail
      go_ret
      exact ⟨by simp [h2, h8], rfl⟩
    · by_cases h3 : b = 3
      · subst h3
        go_enter Tryz.func54, Tryz.ntmps54
        go_wp2_with fail
        go_ret
        exact ⟨by rfl, rfl⟩
      have q3 : (b == 3) = false := by simp [h3]
      by_cases h8 : b = 8
      · subst h8
        go_enter Tryz.func54, Tryz.ntmps54
        go_wp2_with fail
        go_ret
        exact ⟨by rfl, rfl⟩
      have q8 : (b == 8) = false := by simp [h8]
      go_enter Tryz.func54, Tryz.ntmps54
      go_wp2_with fail
      go_ret
      exact ⟨by simp [h3, h8], rfl⟩
    · by_cases h4 : b = 4
      · subst h4
        go_enter Tryz.func54, Tryz.ntmps54
        go_wp2_with fail
        go_ret
        exact ⟨by rfl, rfl⟩
      have q4 : (b == 4) = false := by simp [h4]
      go_enter Tryz.func54, Tryz.ntmps54
      go_wp2_with fail
      go_ret
      exact ⟨by simp [h4], rfl⟩
    · by_cases h5 : b = 5
      · subst h5
        go_enter Tryz.func54, Tryz.ntmps54
        go_wp2_with fail
        go_ret
        exact ⟨by rfl, rfl⟩
      have q5 : (b == 5) = false := by simp [h5]
      by_cases h3 : b = 3
      · subst h3
        go_enter Tryz.func54, Tryz.ntmps54
        go_wp2_with fail
        go_ret
        exact ⟨by rfl, rfl⟩
      have q3 : (b == 3) = false := by simp [h3]
      go_enter Tryz.func54, Tryz.ntmps54
      go_wp2_with fail
      go_ret
      exact ⟨by simp [h5, h3], rfl⟩
    · by_cases h6 : b = 6
      · subst h6
        go_enter Tryz.func54, Tryz.ntmps54
        go_wp2_with fail
        go_ret
        exact ⟨by rfl, rfl⟩
      have q6 : (b == 6) = false := by simp [h6]
      by_cases h4 : b = 4
      · subst h4
        go_enter Tryz.func54, Tryz.ntmps54
        go_wp2_with fail
        go_ret
        exact ⟨by rfl, rfl⟩
      have q4 : (b == 4) = false := by simp [h4]
      go_enter Tryz.func54, Tryz.ntmps54
      go_wp2_with fail
      go_ret
      exact ⟨by simp [h6, h4], rfl⟩
    · by_cases h7 : b = 7
      · subst h7
        go_enter Tryz.func54, Tryz.ntmps54
        go_wp2_with fail
        go_ret
        exact ⟨by rfl, rfl⟩
      have q7 : (b == 7) = false := by simp [h7]
      go_enter Tryz.func54, Tryz.ntmps54
      go_wp2_with fail
      go_ret
      exact ⟨by simp [h7], rfl⟩
    · by_cases h8 : b = 8
      · subst h8
        go_enter Tryz.func54, Tryz.ntmps54
        go_wp2_with fail
        go_ret
        exact ⟨by rfl, rfl⟩
      have q8 : (b == 8) = false := by simp [h8]
      go_enter Tryz.func54, Tryz.ntmps54
      go_wp2_with fail
      go_ret
      exact ⟨by simp [h8], rfl⟩
    · by_cases h10 : b = 10
      · subst h10
        go_enter Tryz.func54, Tryz.ntmps54
        go_wp2_with fail
        go_ret
        exact ⟨by rfl, rfl⟩
      have q10 : (b == 10) = false := by simp [h10]
      by_cases h8 : b = 8
      · subst h8
        go_enter Tryz.func54, Tryz.ntmps54
        go_wp2_with fail
        go_ret
        exact ⟨by rfl, rfl⟩
      have q8 : (b == 8) = false := by simp [h8]
      go_enter Tryz.func54, Tryz.ntmps54
      go_wp2_with fail
      go_ret
      exact ⟨by simp [h10, h8], rfl⟩
    · by_cases h1 : b = 1
      · subst h1
        go_enter Tryz.func54, Tryz.ntmps54
        go_wp2_with fail
        go_ret
        exact ⟨by rfl, rfl⟩
      have q1 : (b == 1) = false := by simp [h1]
      go_enter Tryz.func54, Tryz.ntmps54
      go_wp2_with fail
      go_ret
      exact ⟨by simp [h1], rfl⟩
  · have h1 : (a == 1) = false := by simp; omega
    have h2 : (a == 2) = false := by simp; omega
    have h3 : (a == 3) = false := by simp; omega
    have h4 : (a == 4) = false := by simp; omega
    have h5 : (a == 5) = false := by simp; omega
    have h6 : (a == 6) = false := by simp; omega
    have h7 : (a == 7) = false := by simp; omega
    have h9 : (a == 9) = false := by simp; omega
    have h10 : (a == 10) = false := by simp; omega
    have e : ∀ x1 x2 x3 x4 x5 x6 x7 x9 x10 : Bool, (if a = 1 then x1 else if a = 2 then x2 else if a = 3 then x3 else if a = 4 then x4 else if a = 5 then x5 else if a = 6 then x6 else if a = 7 then x7 else if a = 9 then x9 else if a = 10 then x10 else false) = false := by
      intros
      rw [if_neg (by omega), if_neg (by omega), if_neg (by omega), if_neg (by omega), if_neg (by omega), if_neg (by omega), if_neg (by omega), if_neg (by omega), if_neg (by omega)]
    rw [e]
    clear e h
    go_enter Tryz.func54, Tryz.ntmps54
    go_wp2_with fail
    go_ret
    exact ⟨rfl, rfl⟩

end Go.Proofs.YtdaimejlcfhfiaaGreatDoor

/-
  The walks of 'floor', 'roomy', 'marked' of package conf, and of 'floor', 'within' of the document's own. Conditions: those that each theorem names.
-/
namespace Go.Proofs.YtdaimejlcfhfiaaGreatDoor
open Go.RowKit Go.Shelf

def IntPost (v : Int) (w : World) (e : Ending) (w' : World) : Prop := e = .returned (.int .i64 v) ∧ Below w.heap.size w w'

set_option maxRecDepth 100000 in
/-- A group in a box. -/
theorem Whole.conf {w : World} {b : Nat} {x : Cf} (h : Whole w b 24 x.cells) :
    w.cell? ⟨b, 0, none⟩ = some (.int .i64 x.f0) ∧ w.cell? ⟨b, 1, none⟩ = some (.int .i64 x.f1) ∧ w.cell? ⟨b, 2, none⟩ = some (.int .i64 x.f2) ∧ w.cell? ⟨b, 3, none⟩ = some (.int .i64 x.f3) ∧ w.cell? ⟨b, 4, none⟩ = some (.int .i64 x.f4) ∧ w.cell? ⟨b, 5, none⟩ = some (.int .i64 x.f5) ∧ w.cell? ⟨b, 6, none⟩ = some (.int .i64 x.f6) ∧ w.cell? ⟨b, 7, none⟩ = some (.int .i64 x.f7) ∧ w.cell? ⟨b, 8, none⟩ = some (.int .i64 x.f8) ∧ w.cell? ⟨b, 9, none⟩ = some (.int .i64 x.f9) ∧ w.cell? ⟨b, 10, none⟩ = some (.int .i64 x.f10) ∧ w.cell? ⟨b, 11, none⟩ = some (.int .i64 x.f11) ∧ w.cell? ⟨b, 12, none⟩ = some (.int .i64 x.f12) ∧ w.cell? ⟨b, 13, none⟩ = some (.bool x.sk) ∧ w.cell? ⟨b, 14, none⟩ = some (.slice x.A x.n x.c) :=
  ⟨h.cell 0, h.cell 1, h.cell 2, h.cell 3, h.cell 4, h.cell 5, h.cell 6, h.cell 7, h.cell 8, h.cell 9, h.cell 10, h.cell 11, h.cell 12, h.cell 13, h.cell 14⟩
set_option maxRecDepth 100000 in
theorem Whole.confK {w : World} {b : Nat} {x : Cf} (h : Whole w b 24 x.cells) {k : Nat} (hk : k < 13) : w.cell? ⟨b, k, none⟩ = some (.int .i64 (x.at k)) := by
  rcases (by omega : k = 0 ∨ k = 1 ∨ k = 2 ∨ k = 3 ∨ k = 4 ∨ k = 5 ∨ k = 6 ∨ k = 7 ∨ k = 8 ∨ k = 9 ∨ k = 10 ∨ k = 11 ∨ k = 12) with rfl | rfl | rfl | rfl | rfl | rfl | rfl | rfl | rfl | rfl | rfl | rfl | rfl
  all_goals exact h.cell _

set_option maxRecDepth 100000 in
set_option maxHeartbeats 1000000 in
theorem floor_any (x : Cf) (hx : inB x = true) (w : World) : Calls Tryz.prog 128 #[x.v] w (IntPost (fl x) w) := by
  obtain ⟨h0, h1, h2, h3⟩ := fl_bd hx
  have e1 : fl x = (x.f0 * x.f1 + 99) / 100 := rfl
  generalize hP : x.f0 * x.f1 = p at *
  go_enter Tryz.func128, Tryz.ntmps128
  go_wp2_with fail
  go_ret
  exact ⟨by show Ending.returned (.int .i64 ((p + 100 - 1) / 100)) = _; rw [e1, show p + 100 - 1 = p + 99 by omega], (Below.refl _ w).alloc (Nat.le_refl _) _⟩

set_option maxRecDepth 100000 in
set_option maxHeartbeats 1000000 in
theorem refFloor_any (x : Cf) (hx : inB x = true) (w : World) : Calls Tryz.prog 68 #[x.v] w (IntPost (fl x) w) := by
  obtain ⟨h0, h1, h2, h3⟩ := fl_bd hx
  have e1 : fl x = (x.f0 * x.f1 + 99) / 100 := rfl
  generalize hP : x.f0 * x.f1 = p at *
  go_enter Tryz.func68, Tryz.ntmps68
  go_wp2_with fail
  go_ret
  exact ⟨by show Ending.returned (.int .i64 ((p + 99) / 100)) = _; rw [e1], (Below.refl _ w).alloc (Nat.le_refl _) _⟩

set_option maxRecDepth 100000 in
theorem within_any (n a b : Int) (w : World) : Calls Tryz.prog 67 #[.int .i64 n, .int .i64 a, .int .i64 b] w fun e w' => e = .returned (.bool (decide (a ≤ n) && decide (n ≤ b))) ∧ w' = w := by
  by_cases h : a ≤ n
  · have HH := Lib.hid (decide_eq_true h)
    go_enter Tryz.func67, Tryz.ntmps67
    go_wp2_with fail
    go_ret
    exact ⟨by rw [HH.out]; simp, rfl⟩
  · have HH := Lib.hid (decide_eq_false h)
    go_enter Tryz.func67, Tryz.ntmps67
    go_wp2_with fail
    go_ret
    exact ⟨by rw [HH.out]; simp, rfl⟩

/-- What a box of a group gives. -/
def InBox (x : Cf) (w W : World) : Prop := Whole W w.heap.size 24 x.cells ∧ Below w.heap.size w W
set_option maxRecDepth 100000 in
theorem InBox.new (x : Cf) (w : World) : InBox x w (w.alloc (.cells x.cells 24)) := ⟨Whole.new w _ _, (Below.refl _ w).alloc (Nat.le_refl _) _⟩
set_option maxRecDepth 100000 in
theorem InBox.drew {x : Cf} {w W : World} (h : InBox x w W) : InBox x w W.drew := ⟨h.1, h.2.drew⟩
set_option maxRecDepth 100000 in
theorem InBox.under {x : Cf} {w W W' : World} (h : InBox x w W) (hb : Below W.heap.size W W') : InBox x w W' := ⟨h.1.under hb, h.2.trans (hb.mono h.2.size)⟩

set_option maxRecDepth 100000 in
set_option maxHeartbeats 1000000 in
theorem roomy_any (x : Cf) (hx : inB x = true) (w : World) : Calls Tryz.prog 123 #[x.v] w (BoolPost (roomB x) w) := by
  obtain ⟨p0, p1, p2, p3⟩ := fl_bd hx
  obtain ⟨⟨⟨a0, a1⟩, ⟨b0, b1⟩, ⟨c0, c1⟩, _⟩, _⟩ := inB_iff.1 hx
  have HX := Lib.hid hx
  clear hx p0 p1 b0 b1
  by_cases h0 : x.f0 = 0
  · have e0 : (x.f0 == 0) = true := by simp [h0]
    have HR : Hid (roomB x = true) := by unfold roomB; rw [decide_eq_true h0]; rfl
    go_enter Tryz.func123, Tryz.ntmps123
    go_wp2_with fail
    go_quiet (fail)
    go_wp2_with fail
    go_ret
    exact ⟨by rw [HR.out]; rfl, below_drewN ((Below.refl _ w).alloc (Nat.le_refl _) _) _⟩
  · have e0 : (x.f0 == 0) = false := by rw [beq_eq_false_iff_ne]; exact h0
    have HR : Hid (roomB x = decide (1 ≤ IntKind.i64.wrap (IntKind.i64.wrap (x.f2 + x.f0) - fl x))) := by unfold roomB; rw [decide_eq_false h0, show IntKind.i64.wrap (x.f2 + x.f0) = x.f2 + x.f0 by rw [IntKind.wrap_i64]; omega, show IntKind.i64.wrap (x.f2 + x.f0 - fl x) = x.f2 + x.f0 - fl x by rw [IntKind.wrap_i64]; omega]; rfl
    have HF := Lib.hid (floor_any x HX.out)
    go_enter Tryz.func123, Tryz.ntmps123
    go_wp2_with fail
    have HC := Lib.hid (InBox.new x w).drew
    have HL := Lib.hid (fun W (hW : InBox x w W) => hW.1.conf)
    refine wp_region_held_drew (S := InBox x w) (by kernel_rfl) HC.out (fun _ => ?_)
    refine takeH (i := 0) (v := ?_) rfl (by kernel_rfl) (by kernel_rfl) (by kernel_rfl) (fun _ _ _ h => h) (by rfl) ?_ HC.out ?_
    rotate_left
    · intro W hW; obtain ⟨c0, c1, c2, c3, c4, c5, c6, c7, c8, c9, c10, c11, c12, c13, c14⟩ := HL.out W hW; go_simp <;> with_reducible rfl
    simp only [Act.put, List.setIfInBounds_toArray, List.set_cons_zero, List.set_cons_succ]
    refine takeH (i := 1) (v := ?_) rfl (by kernel_rfl) (by kernel_rfl) (by kernel_rfl) (fun _ _ _ h => h) (by rfl) ?_ HC.out ?_
    rotate_left
    · intro W hW; obtain ⟨c0, c1, c2, c3, c4, c5, c6, c7, c8, c9, c10, c11, c12, c13, c14⟩ := HL.out W hW; go_simp <;> with_reducible rfl
    simp only [Act.put, List.setIfInBounds_toArray, List.set_cons_zero, List.set_cons_succ]
    refine takeH (i := 2) (v := ?_) rfl (by kernel_rfl) (by kernel_rfl) (by kernel_rfl) (fun _ _ _ h => h) (by rfl) ?_ HC.out ?_
    rotate_left
    · intro W hW; obtain ⟨c0, c1, c2, c3, c4, c5, c6, c7, c8, c9, c10, c11, c12, c13, c14⟩ := HL.out W hW; go_simp <;> with_reducible rfl
    simp only [Act.put, List.setIfInBounds_toArray, List.set_cons_zero, List.set_cons_succ]
    refine takeH (i := 3) (v := ?_) rfl (by kernel_rfl) (by kernel_rfl) (by kernel_rfl) (fun _ _ _ h => h) (by rfl) ?_ HC.out ?_
    rotate_left
    · intro W hW; obtain ⟨c0, c1, c2, c3, c4, c5, c6, c7, c8, c9, c10, c11, c12, c13, c14⟩ := HL.out W hW; go_simp <;> with_reducible rfl
    simp only [Act.put, List.setIfInBounds_toArray, List.set_cons_zero, List.set_cons_succ]
    refine takeH (i := 4) (v := ?_) rfl (by kernel_rfl) (by kernel_rfl) (by kernel_rfl) (fun _ _ _ h => h) (by rfl) ?_ HC.out ?_
    rotate_left
    · intro W hW; obtain ⟨c0, c1, c2, c3, c4, c5, c6, c7, c8, c9, c10, c11, c12, c13, c14⟩ := HL.out W hW; go_simp <;> with_reducible rfl
    simp only [Act.put, List.setIfInBounds_toArray, List.set_cons_zero, List.set_cons_succ]
    refine takeH (i := 5) (v := ?_) rfl (by kernel_rfl) (by kernel_rfl) (by kernel_rfl) (fun _ _ _ h => h) (by rfl) ?_ HC.out ?_
    rotate_left
    · intro W hW; obtain ⟨c0, c1, c2, c3, c4, c5, c6, c7, c8, c9, c10, c11, c12, c13, c14⟩ := HL.out W hW; go_simp <;> with_reducible rfl
    simp only [Act.put, List.setIfInBounds_toArray, List.set_cons_zero, List.set_cons_succ]
    refine takeH (i := 6) (v := ?_) rfl (by kernel_rfl) (by kernel_rfl) (by kernel_rfl) (fun _ _ _ h => h) (by rfl) ?_ HC.out ?_
    rotate_left
    · intro W hW; obtain ⟨c0, c1, c2, c3, c4, c5, c6, c7, c8, c9, c10, c11, c12, c13, c14⟩ := HL.out W hW; go_simp <;> with_reducible rfl
    simp only [Act.put, List.setIfInBounds_toArray, List.set_cons_zero, List.set_cons_succ]
    refine takeH (i := 7) (v := ?_) rfl (by kernel_rfl) (by kernel_rfl) (by kernel_rfl) (fun _ _ _ h => h) (by rfl) ?_ HC.out ?_
    rotate_left
    · intro W hW; obtain ⟨c0, c1, c2, c3, c4, c5, c6, c7, c8, c9, c10, c11, c12, c13, c14⟩ := HL.out W hW; go_simp <;> with_reducible rfl
    simp only [Act.put, List.setIfInBounds_toArray, List.set_cons_zero, List.set_cons_succ]
    refine takeH (i := 8) (v := ?_) rfl (by kernel_rfl) (by kernel_rfl) (by kernel_rfl) (fun _ _ _ h => h) (by rfl) ?_ HC.out ?_
    rotate_left
    · intro W hW; obtain ⟨c0, c1, c2, c3, c4, c5, c6, c7, c8, c9, c10, c11, c12, c13, c14⟩ := HL.out W hW; go_simp <;> with_reducible rfl
    simp only [Act.put, List.setIfInBounds_toArray, List.set_cons_zero, List.set_cons_succ]
    refine takeH (i := 9) (v := ?_) rfl (by kernel_rfl) (by kernel_rfl) (by kernel_rfl) (fun _ _ _ h => h) (by rfl) ?_ HC.out ?_
    rotate_left
    · intro W hW; obtain ⟨c0, c1, c2, c3, c4, c5, c6, c7, c8, c9, c10, c11, c12, c13, c14⟩ := HL.out W hW; go_simp <;> with_reducible rfl
    simp only [Act.put, List.setIfInBounds_toArray, List.set_cons_zero, List.set_cons_succ]
    refine oneH (i := 10) rfl (by kernel_rfl) (by rfl) (fun K hK => ?_)
    go_simp
    go_at_call 128
    refine (HF.out _).mono ?_
    rintro e w1 ⟨rfl, b1⟩
    have HC2 := Lib.hid (HC.out.under b1)
    clear HC
    have HC := HC2
    clear HC2 b1
    refine hK.out _ _ HC.out (fun _ => ?_)
    clear hK K
    refine takeH (i := 11) (v := ?_) rfl (by kernel_rfl) (by kernel_rfl) (by kernel_rfl) (fun _ _ _ h => h) (by rfl) ?_ HC.out ?_
    rotate_left
    · intro W hW; obtain ⟨c0, c1, c2, c3, c4, c5, c6, c7, c8, c9, c10, c11, c12, c13, c14⟩ := HL.out W hW; go_simp <;> with_reducible rfl
    simp only [Act.put, List.setIfInBounds_toArray, List.set_cons_zero, List.set_cons_succ]
    refine takeH (i := 12) (v := ?_) rfl (by kernel_rfl) (by kernel_rfl) (by kernel_rfl) (fun _ _ _ h => h) (by rfl) ?_ HC.out ?_
    rotate_left
    · intro W hW; obtain ⟨c0, c1, c2, c3, c4, c5, c6, c7, c8, c9, c10, c11, c12, c13, c14⟩ := HL.out W hW; go_simp <;> with_reducible rfl
    simp only [Act.put, List.setIfInBounds_toArray, List.set_cons_zero, List.set_cons_succ]
    refine takeH (i := 13) (v := ?_) rfl (by kernel_rfl) (by kernel_rfl) (by kernel_rfl) (fun _ _ _ h => h) (by rfl) ?_ HC.out ?_
    rotate_left
    · intro W hW; obtain ⟨c0, c1, c2, c3, c4, c5, c6, c7, c8, c9, c10, c11, c12, c13, c14⟩ := HL.out W hW; go_simp <;> with_reducible rfl
    simp only [Act.put, List.setIfInBounds_toArray, List.set_cons_zero, List.set_cons_succ]
    refine takeH (i := 14) (v := ?_) rfl (by kernel_rfl) (by kernel_rfl) (by kernel_rfl) (fun _ _ _ h => h) (by rfl) ?_ HC.out ?_
    rotate_left
    · intro W hW; obtain ⟨c0, c1, c2, c3, c4, c5, c6, c7, c8, c9, c10, c11, c12, c13, c14⟩ := HL.out W hW; go_simp <;> with_reducible rfl
    simp only [Act.put, List.setIfInBounds_toArray, List.set_cons_zero, List.set_cons_succ]
    refine wpAnyH_done (by kernel_rfl) ?_ _
    go_wp2_with fail
    go_ret
    exact ⟨by rw [HR.out]; rfl, HC.out.2⟩

end Go.Proofs.YtdaimejlcfhfiaaGreatDoor
