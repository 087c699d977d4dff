/-
  Texts that the walks of the statements over logs lean on, joined (BrOwnP, ScopeIn, BrAll, BrApply, BrKit, BrOps). Conditions: those that each theorem names.
-/
import Derived.Test.YtplejbgecihnpaaDoorJ4
import Derived.Test.YtplejbgecihnpaaDoorJ6
import Derived.Test.YtplejbgecihnpaaDoorJ8
import Derived.Test.YtplejbgecihnpaaDoorJ11
import Derived.ScopeJumps

/-
  The walk of 'Own' of package brain. Conditions: those that each theorem names.
-/
namespace Go.Proofs.YtplejbgecihnpaaDoor
open Go.RowKit Go.Shelf

set_option maxRecDepth 100000 in
/-- 'append([]int(nil), l...)'. -/
theorem nil_ms (V : World) (Z : Nat) (A : Option Addr) (n c : Nat) (ms : List Int) (hr : Rd V Z A n (iv ms)) (_ : Z ≤ V.heap.size) (hn : n ≤ 1000) :
    ∃ A' c' W1, (Builtin.append_ #[22, 22] 22 #[.slice none 0 0, .slice A n c]).run Tryd.prog V = .ok (.slice A' n c') W1 ∧ W1.ownsRow V.heap.size 3 1 (.slice A' n c') n (iv ms) ∧ Below V.heap.size V W1 := by
  obtain ⟨v', W1, h1, h2, h3⟩ := run_appI V V.heap.size _ 0 [] (World.ownsRow_nil _ _ _ _) Z A n c ms hr (by omega) (Nat.le_refl _)
  rw [Nat.zero_add, List.nil_append] at h2
  obtain ⟨A', c', rfl⟩ := own_form h2
  exact ⟨A', c', W1, h1, h2, (Below.refl _ V).grown h3 (Nat.le_refl _) (by simp [Value.ownBlock])⟩
set_option maxRecDepth 100000 in
theorem nil_its (V : World) (Z : Nat) (A : Option Addr) (c : Nat) (l : List It) (hr : RdI V Z A l.length l) (_ : Z ≤ V.heap.size) (hn : l.length ≤ 1000) :
    ∃ A' c' W1, (Builtin.append_ #[25, 25] 25 #[.slice none 0 0, .slice A l.length c]).run Tryd.prog V = .ok (.slice A' l.length c') W1 ∧ ItsAt V.heap.size W1 (.slice A' l.length c') l ∧ Below V.heap.size V W1 := by
  obtain ⟨A', c', W1, h1, h2, h3, _⟩ := its_app V V.heap.size _ [] (ItsAt.nil_ _ _) Z A l.length c l hr (by simp; omega) (Nat.le_refl _)
  simp only [List.length_nil, Nat.zero_add, List.nil_append] at h1 h2
  exact ⟨A', c', W1, h1, h2, (Below.refl _ V).grown h3 (Nat.le_refl _) (by simp [Value.ownBlock])⟩
set_option maxRecDepth 100000 in
theorem nil_kps (V : World) (Z : Nat) (A : Option Addr) (c : Nat) (l : List Kp) (hr : RdK V Z A l.length l) (_ : Z ≤ V.heap.size) (hn : l.length ≤ 1000) :
    ∃ A' c' W1, (Builtin.append_ #[26, 26] 26 #[.slice none 0 0, .slice A l.length c]).run Tryd.prog V = .ok (.slice A' l.length c') W1 ∧ KpsAt V.heap.size W1 (.slice A' l.length c') l ∧ Below V.heap.size V W1 := by
  obtain ⟨A', c', W1, h1, h2, h3, _⟩ := kps_app V V.heap.size _ [] (KpsAt.nil_ _ _) Z A l.length c l hr (by simp; omega) (Nat.le_refl _)
  simp only [List.length_nil, Nat.zero_add, List.nil_append] at h1 h2
  exact ⟨A', c', W1, h1, h2, (Below.refl _ V).grown h3 (Nat.le_refl _) (by simp [Value.ownBlock])⟩

end Go.Proofs.YtplejbgecihnpaaDoor

/-
  A scope in which the run jumps ahead to one label, inside a fence, and in a round. Conditions: those that each theorem names.
-/
namespace Go.Proofs.YtplejbgecihnpaaDoor
open Go.RowKit Go.Shelf

section
variable {P : Program} {b : Frame} {a : Act} {k : List Item} {cs : List Frame} {w : World}
set_option maxRecDepth 100000 in
theorem stepR_scope {c : Code} : step P (lone (b.atR a (.code (.scope c) :: k)) cs w) = .next (lone (b.atR a (.code c :: .inScope c :: k)) cs w) :=
  step_lone_go (by simp [stepG, stepG.exec, Frame.atR])
set_option maxRecDepth 100000 in
theorem stepR_inScope {c : Code} : step P (lone (b.atR a (.inScope c :: k)) cs w) = .next (lone (b.atR a k) cs w) :=
  step_lone_go (by simp [stepG, stepG.exec, Frame.atR])
end
set_option maxRecDepth 100000 in
theorem wpIn_scope_fwd {F : Fence} {n : Nat} {P : Program} {a : Act} {w : World} {Q : Exit → Act → World → Prop} {c rest : Code} (l : Nat) (J : Act → World → Prop) (hf : findLabel c l = some rest)
    (first : c.wpIn F n P (Exit.jump l J Q) a w) (tail : ∀ a w, J a w → rest.wpIn F n P (Exit.noGoto Q) a w) : (Code.scope c).wpIn F n P Q a w := by
  intro b k cs hro hb hr
  have h0 : (lone (b.atR a (.code (.scope c) :: k)) cs w).fenced P F := fenced_calm hb hr rfl
  have hg : gotoIn l (.inScope c :: k) = some (.code rest :: .inScope c :: k) := by simp [gotoIn, hf]
  have hx : ∀ id, exitTo id (.inScope c :: k) = exitTo id k := fun id => by simp [exitTo]
  have fin : ∀ a w, J a w → ∃ e a' w', Q e a' w' ∧ ArrivesIn (Machine.fenced P F) P (lone (b.atR a (.code rest :: .inScope c :: k)) cs w) b k cs e a' w' := by
    intro a w hJ
    obtain ⟨e, a₁, w₁, hq, harr⟩ := tail a w hJ b (.inScope c :: k) cs hro hb hr
    cases e with
    | normal => exact ⟨.normal, a₁, w₁, hq, StepsIn.trans harr (.one (fenced_calm hb hr rfl) stepR_inScope)⟩
    | exit id => exact ⟨.exit id, a₁, w₁, hq, fun k' hk => harr.1 k' (by rw [hx]; exact hk), fun hr' hk => harr.2 hr' (by rw [hx]; exact hk)⟩
    | goto l' => exact hq.elim
    | ret => exact ⟨_, a₁, w₁, hq, harr⟩
    | panic ch => exact ⟨_, a₁, w₁, hq, harr⟩
    | outgrown => exact ⟨_, a₁, w₁, hq, harr⟩
  obtain ⟨e, a₁, w₁, hq, harr⟩ := first b (.inScope c :: k) cs hro hb hr
  cases e with
  | normal => exact ⟨.normal, a₁, w₁, hq, .head h0 stepR_scope (StepsIn.trans harr (.one (fenced_calm hb hr rfl) stepR_inScope))⟩
  | exit id => exact ⟨.exit id, a₁, w₁, hq, fun k' hk => .head h0 stepR_scope (harr.1 k' (by rw [hx]; exact hk)), fun hr' hk => let ⟨k₁, h1, h2⟩ := harr.2 hr' (by rw [hx]; exact hk); ⟨k₁, h1, .head h0 stepR_scope h2⟩⟩
  | goto l' =>
    obtain ⟨rfl, hJ'⟩ := hq
    obtain ⟨e₂, a₂, w₂, hq₂, harr₂⟩ := fin a₁ w₁ hJ'
    exact ⟨e₂, a₂, w₂, hq₂, .of_steps (.head h0 stepR_scope (harr.1 _ hg)) harr₂⟩
  | ret => exact ⟨_, a₁, w₁, hq, .of_steps (.one h0 stepR_scope) harr⟩
  | panic ch => exact ⟨_, a₁, w₁, hq, .of_steps (.one h0 stepR_scope) harr⟩
  | outgrown => exact ⟨_, a₁, w₁, hq, .of_steps (.one h0 stepR_scope) harr⟩

end Go.Proofs.YtplejbgecihnpaaDoor

/-
  The walks of 'All' and of 'Apply' of package brain. Conditions: those that each theorem names.
-/
namespace Go.Proofs.YtplejbgecihnpaaDoor
open Go.RowKit Go.Shelf Go.Maps
attribute [local go_sem] Oper.semAt_some

def recsB (xs : List RE) : List (Int × List Int) := xs.map fun x => ((x.k : Int), x.zs)
def AllPost (p : Br) (xs : List RE) (w : World) (e : Ending) (w' : World) : Prop :=
  ∃ a, e = .returned (brV (allB p (recsB xs)) a) ∧ OwB w.heap.size w' (allB p (recsB xs)) a ∧ Below w.heap.size w w'

set_option maxRecDepth 100000 in
/-- A brain into its box. -/
theorem wpList_storeB {ops : Array Oper} {rest : List Oper} {o : Oper} {a : Act} {w : World} {Q : Exit → Act → World → Prop} (hgd : o.guard = none) (x y : Operand) (ho : o.op = .store 30 x y) (g : Nat) (p : Br) (ad : Ad) (old : Array Value) (hs : old.size = 27)
    (hx : a.eval x = .pointer (some ⟨g, 0, none⟩)) (hy : a.eval y = brV p ad) (hW : Whole w g 30 old)
    (h : ∀ W2, W2 = w.setRow g (brC p ad) → wpList Tryd.prog ops Q rest (a.put o.dst undef) W2) : wpList Tryd.prog ops Q (o :: rest) a w := by
  refine wpList_store_at hgd 30 x y ho g 0 (brC p ad) hx hy 30 old hW (by kernel_rfl) (by rw [hs]; exact Nat.le_refl _) (by simp [Value.oneCell']) (h _ ?_)
  have e : old.toList.drop (0 + (brC p ad).size) = [] := List.drop_of_length_le (by rw [Array.length_toList, hs]; exact Nat.le_refl _)
  rw [e]
  simp

section
variable {g m tb : Nat} {sl : Value} {w : World} {x : Bx} {p : Br} {pre : List RE} {W W' : World}
set_option maxRecDepth 100000 in
theorem OwB.turn {base : Nat} {a : Ad} {row : Option Nat} (h : OwB base W p a) (hg : W.grownBy W' row) (hr : ∀ r, row = some r → ∃ o : Obj, W.heap[r]? = some o ∧ o.isCells = false) : OwB base W' p a :=
  ⟨own_turn h.ms hg hr, own_turn h.its hg hr, own_turn h.kps hg hr⟩
end

set_option maxRecDepth 100000 in
theorem good_mono {m m' : Nat} {p : Br} (h : Good m p) (hm : m ≤ m') : Good m' p := ⟨Nat.le_trans h.len hm, h.ep, h.sq, h.ph⟩
set_option maxRecDepth 100000 in
theorem recs_snoc (p : Br) (pre : List RE) (x : RE) : allB p (recsB (pre ++ [x])) = applyB (allB p (recsB pre)) (x.k : Int) x.zs := by simp [recsB, allB]
set_option maxRecDepth 100000 in
theorem good_all {m : Nat} {p : Br} (h : Good m p) (xs : List RE) : Good (m + xs.length) (allB p (recsB xs)) := by
  induction xs generalizing m p with
  | nil => exact h
  | cons x l ih =>
    have h1 := ih (good_apply h (x.k : Int) x.zs)
    rw [List.length_cons, show m + (l.length + 1) = m + 1 + l.length by omega]
    exact h1
def zeroD : Value := .agg #[.nilFunc, .nilFunc]
set_option maxRecDepth 100000 in
theorem deedR_held {v : Value} {y : DataW Value} {ps : List MemPlace} (h : deedR v = some (y, ps)) : y = .held v := by
  cases v with
  | agg cs =>
    simp only [deedR] at h
    split at h
    · cases h; rfl
    · cases h
  | _ => cases h
def knownB (k : Nat) : Bool := decide (1 ≤ k ∧ k ≤ 16)
set_option maxRecDepth 100000 in
theorem known_may {k : Nat} {zs : List Int} (h : mayB k zs = true) : knownB k = true := by
  have := mayB_kind h
  simp only [knownB, decide_eq_true_eq]
  omega
set_option maxRecDepth 100000 in
theorem keepsFrom_alloc (B : Nat) (W : World) (o : Obj) : KeepsFrom B W (W.alloc o) := (keeps_under ((Below.refl _ W).alloc (Nat.le_refl _) o)).from _
set_option maxRecDepth 100000 in
theorem kpB_under {n₀ Bn : Nat} {W W' : World} (h : Below W.heap.size W W') (h0 : n₀ ≤ W.heap.size) (h1 : Bn < W.heap.size) : KpB n₀ Bn W W' := ⟨h.mono h0, h.block _ h1⟩
set_option maxRecDepth 100000 in
theorem kpB_stp {g Bn : Nat} {W W' : World} {t : TypeId} {cs : Array Value} (hs : Stp g W W') (hw : Whole W Bn t cs) (ht : mutT t = false) : KpB g Bn W W' := ⟨hs.below, by
  have h2 := hs.whole hw ht
  unfold Whole at h2 hw
  rw [h2, hw]⟩
set_option maxRecDepth 100000 in
theorem keepsFrom_stp {g B : Nat} {W W' : World} (hs : Stp g W W') : KeepsFrom B W W' := ⟨hs.size, fun k o _ ho hc => hs.keeps k o ho (by cases o <;> first | rfl | cases hc)⟩

set_option maxRecDepth 100000 in
theorem all_end {fn : Func} {k b : Nat} (hres : fn.results = #[.cell k 30]) {tm : Array Value} {n : Nat} {F : Fence} {W : World} {cs : Array Value} {R : Ending → World → Prop} (D : Nat) (h2 : tm[k]? = some (.pointer (some ⟨b, 0, none⟩))) (hW : Whole W b 30 cs) (hc : cs.size = 27) (hK : W.heap[D]? = some (.deferred (some [])))
    (h : R (.returned (.agg cs)) (W.putObj D (.deferred none))) : bodyPostM F n Tryd.prog fn R .ret { tmps := tm, defers := [{ target := .collected D, args := #[] }] } W := by
  have hg' := grownBy_putObj' W D (.deferred none)
  have hr' : ∀ q, (some D) = some q → ∃ o : Obj, W.heap[q]? = some o ∧ o.isCells = false := fun q e => by cases e; exact ⟨_, hK, rfl⟩
  have hW' := hW.turn hg' hr'
  refine ⟨by simp, .inl ⟨_, _, rfl, run_takeDeferred hK, ?_⟩⟩
  have hl := run_loadVar_row (P := Tryd.prog) (W.putObj D (.deferred none)) b 30 30 cs (0, 0) _ hW' Tryd.underlying30 rfl (by rw [hc]; kernel_rfl)
  refine ⟨.agg cs, ?_, h⟩
  simp [results, hres, h2, hl, asAddr]

end Go.Proofs.YtplejbgecihnpaaDoor

/-
  The walk of 'Apply' of package brain. Conditions: those that each theorem names.
-/
namespace Go.Proofs.YtplejbgecihnpaaDoor
open Go.RowKit Go.Shelf Go.Maps

/-- A brain is handed back, in memory of its own. -/
def ApPost (q : Br) (w : World) (e : Ending) (w' : World) : Prop :=
  ∃ a, e = .returned (brV q a) ∧ OwB w.heap.size w' q a ∧ Below w.heap.size w w'

end Go.Proofs.YtplejbgecihnpaaDoor

/-
  What the statements over brains share: records, a group's record, what is too great. Conditions: those that each theorem names.
-/
namespace Go.Proofs.YtplejbgecihnpaaDoor
open Go.RowKit Go.Shelf

/-- A record that reads; a row of numbers that reads. -/
def RecIs (k : Nat) (zs : List Int) (v : Value) (w : World) : Prop :=
  ∃ A c, v = .agg #[.int .u8 (k : Int), .slice A zs.length c] ∧ Rd w w.heap.size A zs.length (iv zs) ∧ zs.length ≤ c ∧ c ≤ maxLen
def SlIs (zs : List Int) (v : Value) (w : World) : Prop :=
  ∃ A c, v = .slice A zs.length c ∧ Rd w w.heap.size A zs.length (iv zs) ∧ zs.length ≤ c ∧ c ≤ maxLen
set_option maxRecDepth 100000 in
theorem RecIs.under {k : Nat} {zs : List Int} {v : Value} {w w' : World} (hb : Below w.heap.size w w') (h : RecIs k zs v w) : RecIs k zs v w' := by
  obtain ⟨A, c, h1, h2, h3⟩ := h
  exact ⟨A, c, h1, (h2.below hb).more hb.size, h3⟩
set_option maxRecDepth 100000 in
theorem SlIs.under {zs : List Int} {v : Value} {w w' : World} (hb : Below w.heap.size w w') (h : SlIs zs v w) : SlIs zs v w' := by
  obtain ⟨A, c, h1, h2, h3⟩ := h
  exact ⟨A, c, h1, (h2.below hb).more hb.size, h3⟩

set_option maxRecDepth 100000 in
theorem own_maxB {w : World} {base n c : Nat} {A : Option Addr} {e : TypeId} {size : Nat} {xs : List Value} (h : w.ownsRow base e size (.slice A n c) n xs) : c ≤ maxLen := by
  rcases h.2 with ⟨h1, h2⟩ | ⟨g, cap, cur, h1, _, _, _, h3, _⟩
  · injection h1 with _ _ h4
    subst h4
    exact Nat.zero_le _
  · injection h1 with _ _ h4
    subst h4
    exact h3
/-- The group of the statements' own. -/
def gC : Cf := ⟨2, 50, 1, 0, 0, 0, 0, 0, 3, 2, 2, 0, 4, false, none, 0, 0, []⟩
def gZ : List Int := [2, 50, 1, 0, 0, 0, 0, 0, 3, 2, 2, 0, 4, 0]
set_option maxRecDepth 100000 in
theorem gC_row : (if may gC = true then rowOf gC else []) = gZ := by kernel_rfl
def gB (p : Br) : Bool := decide (40 < p.its.length) || (decide (40 < p.kps.length) || decide (40 < p.cf.ms.length))
set_option maxRecDepth 100000 in
theorem gB_no {p : Br} (h : gB p = false) : p.its.length ≤ 40 ∧ p.kps.length ≤ 40 ∧ p.cf.ms.length ≤ 40 := by
  simp only [gB, Bool.or_eq_false_iff, decide_eq_false_iff_not] at h
  omega
set_option maxRecDepth 100000 in
set_option maxHeartbeats 1000000 in
theorem greatB_any (p : Br) (a : Ad) (w : World) : Calls Tryd.prog 8 #[brV p a] w (BoolPost (gB p) w) := by
  obtain ⟨V, hV⟩ : ∃ V, w.alloc (.cells (brC p a) 30) = V := ⟨_, rfl⟩
  have hw : Whole V w.heap.size 30 (brC p a) := by rw [← hV]; exact Whole.new _ _ _
  have hb : Below w.heap.size w V := by rw [← hV]; exact (Below.refl _ _).alloc (Nat.le_refl _) _
  have c17 := hw.cell 17
  have c18 := hw.cell 18
  have c19 := hw.cell 19
  simp only [List.getElem?_toArray, List.getElem?_cons_zero, List.getElem?_cons_succ] at c17 c18 c19
  have HB := Lib.hid hb
  have HV := Lib.hid hV
  clear hb hw hV
  unfold gB
  have e1 : ∀ n : Nat, decide ((40 : Int) < (n : Int)) = decide (40 < n) := fun n => by
    by_cases h : 40 < n
    · rw [decide_eq_true h, decide_eq_true (by omega)]
    · rw [decide_eq_false h, decide_eq_false (by omega)]
  cases h1 : decide (40 < p.its.length) with
  | true =>
    have d1 : decide ((40 : Int) < (p.its.length : Int)) = true := by rw [e1]; exact h1
    clear h1 e1
    go_enter Tryd.func8, Tryd.ntmps8
    go_upto_region 1 with fail
    rw [HV.out]
    go_wp2_with fail
    go_ret
    exact ⟨rfl, HB.out⟩
  | false =>
    have d1 : decide ((40 : Int) < (p.its.length : Int)) = false := by rw [e1]; exact h1
    cases h2 : decide (40 < p.kps.length) with
    | true =>
      have d2 : decide ((40 : Int) < (p.kps.length : Int)) = true := by rw [e1]; exact h2
      clear h1 h2 e1
      go_enter Tryd.func8, Tryd.ntmps8
      go_upto_region 1 with fail
      rw [HV.out]
      go_wp2_with fail
      go_ret
      exact ⟨rfl, HB.out⟩
    | false =>
      have d2 : decide ((40 : Int) < (p.kps.length : Int)) = false := by rw [e1]; exact h2
      have d3 := e1 p.cf.ms.length
      clear h1 h2 e1
      go_enter Tryd.func8, Tryd.ntmps8
      go_upto_region 1 with fail
      rw [HV.out]
      go_wp2_with fail
      go_ret
      exact ⟨by simp, HB.out⟩

/-- Too great to be asked. -/
def gR (xs : List RE) : Bool := (xs.take 61).any (fun x => decide (40 < x.n)) || decide (60 < xs.length)
set_option maxRecDepth 100000 in
theorem gR_no {xs : List RE} (h : gR xs = false) : xs.length ≤ 60 ∧ ∀ x ∈ xs, x.n ≤ 40 := by
  simp only [gR, Bool.or_eq_false_iff, decide_eq_false_iff_not, List.any_eq_false] at h
  refine ⟨by omega, fun x hx => ?_⟩
  have := h.1 x (by rw [List.take_of_length_le (by omega)]; exact hx)
  simpa using this

set_option maxRecDepth 100000 in
theorem gR_yes {xs : List RE} {j : Nat} {x : RE} (hx : xs[j]? = some x) (hj : j ≤ 60) (h : 40 < x.n) : gR xs = true := by
  have : (xs.take 61).any (fun x => decide (40 < x.n)) = true := by
    rw [List.any_eq_true]
    refine ⟨x, ?_, by simpa using h⟩
    refine List.mem_of_getElem? (i := j) ?_
    rw [List.getElem?_take, if_pos (by omega)]
    exact hx
  simp [gR, this]
set_option maxRecDepth 100000 in
theorem gR_end {xs : List RE} {j : Nat} (h : ∀ x ∈ xs.take j, ¬ 40 < x.n) (hj : j = xs.length ∨ j = 61) : gR xs = decide (60 < xs.length) := by
  have : (xs.take 61).any (fun x => decide (40 < x.n)) = false := by
    rw [List.any_eq_false]
    intro x hx
    have hm : x ∈ xs.take j := by
      rcases hj with rfl | rfl
      · rw [List.take_of_length_le (Nat.le_refl _)]
        exact List.mem_of_mem_take hx
      · exact hx
    simpa using h x hm
  simp [gR, this]

end Go.Proofs.YtplejbgecihnpaaDoor

/-
  Operations of a drawn region in the statements over brains, one by one. Conditions: those that each theorem names.
-/
namespace Go.Proofs.YtplejbgecihnpaaDoor
open Go.RowKit Go.Shelf

/-- A row of records that reads; a brain that reads; a box with a brain of nothing. -/
def RecsIs (ks : List (Int × List Int)) (v : Value) (w : World) : Prop :=
  ∃ A c xs, v = .slice A xs.length c ∧ RdR w w.heap.size A xs.length xs ∧ recsB xs = ks ∧ ∀ x ∈ xs, x.n ≤ x.c ∧ x.c ≤ maxLen
def BrIs (q : Br) (v : Value) (w : World) : Prop := ∃ a, v = brV q a ∧ OwB 0 w q a
def BoxIs (lo : Nat) (v : Value) (w : World) : Prop := ∃ b, v = .pointer (some ⟨b, 0, none⟩) ∧ lo ≤ b ∧ Whole w b 30 (brC br0 ad0)
section
variable {v : Value} {w w' : World}
set_option maxRecDepth 100000 in
theorem RecsIs.under {ks : List (Int × List Int)} (hb : Below w.heap.size w w') (h : RecsIs ks v w) : RecsIs ks v w' := by
  obtain ⟨A, c, xs, h1, h2, h3⟩ := h
  exact ⟨A, c, xs, h1, (h2.below hb).more hb.size, h3⟩
set_option maxRecDepth 100000 in
theorem BrIs.under {q : Br} (hb : Below w.heap.size w w') (h : BrIs q v w) : BrIs q v w' := by
  obtain ⟨a, h1, h2⟩ := h
  exact ⟨a, h1, h2.under hb⟩
set_option maxRecDepth 100000 in
theorem BoxIs.under {lo : Nat} (hb : Below w.heap.size w w') (h : BoxIs lo v w) : BoxIs lo v w' := by
  obtain ⟨b, h1, h2, h3⟩ := h
  exact ⟨b, h1, h2, h3.under hb⟩
end
def recF (x : RE) : List Value := [.int .u8 (x.k : Int), .slice x.A x.n x.c]
set_option maxRecDepth 100000 in
theorem recF_len (x : RE) : (recF x).length = 2 := rfl
set_option maxRecDepth 100000 in
/-- Records in one row of one's own making. -/
theorem recs_new (w : World) (xs : List RE) (h : ∀ x ∈ xs, x.k < 256 ∧ Rd w w.heap.size x.A x.n (iv x.zs)) : RdR (w.alloc (.cells (xs.flatMap recF).toArray 50)) (w.alloc (.cells (xs.flatMap recF).toArray 50)).heap.size (some ⟨w.heap.size, 0, none⟩) xs.length xs := by
  refine ⟨rfl, fun _ => ⟨w.heap.size, 0, rfl, by simp, fun j x hx => ?_⟩, fun x hx => ⟨(h x hx).1, ((h x hx).2.alloc (Nat.le_refl _) _).more (by simp)⟩⟩
  have e0 := flatF_at recF_len hx (i := 0) (by omega)
  have e1 := flatF_at recF_len hx (i := 1) (by omega)
  refine ⟨?_, ?_⟩
  · rw [Nat.zero_add, cell_new, List.getElem?_toArray]
    exact e0
  · rw [Nat.zero_add, cell_new, List.getElem?_toArray]
    exact e1
set_option maxRecDepth 100000 in
theorem recIs_RE {k : Nat} {zs : List Int} {v : Value} {w : World} (hk : k < 256) (h : RecIs k zs v w) : ∃ x : RE, v = .agg (recF x).toArray ∧ x.k = k ∧ x.zs = zs ∧ (x.k < 256 ∧ Rd w w.heap.size x.A x.n (iv x.zs)) ∧ x.n ≤ x.c ∧ x.c ≤ maxLen := by
  obtain ⟨A, c, h1, h2, h3⟩ := h
  exact ⟨⟨k, A, zs.length, c, zs⟩, h1, rfl, rfl, ⟨hk, h2⟩, h3⟩

section
variable {K : Act → World → Prop} {Q : Exit → Act → World → Prop} {a : Act} {w : World} {d : Tmp} {t : TypeId} {pos : String} {after : Array Edge} {x y : Operand}
set_option maxRecDepth 100000 in
set_option maxHeartbeats 2000000 in
theorem opB_load {b : Nat} {p : Br} {ad : Ad} (hx : a.eval x = .pointer (some ⟨b, 0, none⟩)) (hW : Whole w b 30 (brC p ad)) (h : K (a.put (some d) (brV p ad)) w) :
    ({ dst := some d, op := .load 30 x, type := t, pos := pos, after := after, guard := none } : Oper).wp Tryd.prog a w K Q := by
  unfold Oper.wp execOp
  simp only [hx, Instr.loadAt, Instr.sureAddr, Sem.run_bind, Sem.run_pure, Result.andThen_ok, run_loadVar_row (P := Tryd.prog) w b 30 30 (brC p ad) (0, 0) _ hW Tryd.underlying30 rfl (by kernel_rfl)]
  exact h
set_option maxRecDepth 100000 in
set_option maxRecDepth 100000 in
set_option maxHeartbeats 2000000 in
theorem opB_alloc {lo : Nat} (hlo : lo ≤ w.heap.size) (h : ∀ v w', Below w.heap.size w w' → BoxIs lo v w' → K (a.put (some d) v) w') :
    ({ dst := some d, op := .alloc 30, type := t, pos := pos, after := after, guard := none } : Oper).wp Tryd.prog a w K Q := by
  have hw := Whole.new w 30 (brC br0 ad0)
  have hb : Below w.heap.size w (w.alloc (.cells (brC br0 ad0) 30)) := (Below.refl _ _).alloc (Nat.le_refl _) _
  have HW := Lib.hid hw
  have HB := Lib.hid hb
  clear hw hb
  unfold Oper.wp execOp
  go_simp
  exact h _ _ HB.out ⟨_, rfl, hlo, HW.out⟩
set_option maxRecDepth 100000 in
set_option maxHeartbeats 2000000 in
theorem opB_ints3 (z0 z1 z2 : Int) (h : ∀ v w', Below w.heap.size w w' → SlIs [z0, z1, z2] v w' → K (a.put (some d) v) w') :
    ({ dst := some d, op := .buildSlice 22 3 #[(0, .const (.int .i64 z0)), (1, .const (.int .i64 z1)), (2, .const (.int .i64 z2))], type := t, pos := pos, after := after, guard := none } : Oper).wp Tryd.prog a w K Q := by
  have hb : Below w.heap.size w (w.alloc (.cells #[.int .i64 z0, .int .i64 z1, .int .i64 z2] 3)) := (Below.refl _ _).alloc (Nat.le_refl _) _
  have hr := (rd_lit w [.int .i64 z0, .int .i64 z1, .int .i64 z2] 3 3 rfl)
  have HB := Lib.hid hb
  have HR := Lib.hid hr
  clear hb hr
  unfold Oper.wp execOp
  go_simp
  exact h _ _ HB.out ⟨_, 3, rfl, HR.out.more (by simp), Nat.le_refl _, by unfold maxLen; omega⟩
set_option maxRecDepth 100000 in
set_option maxHeartbeats 2000000 in
theorem opB_ints5 (z0 z1 z2 z3 z4 : Int) (h : ∀ v w', Below w.heap.size w w' → SlIs [z0, z1, z2, z3, z4] v w' → K (a.put (some d) v) w') :
    ({ dst := some d, op := .buildSlice 22 5 #[(0, .const (.int .i64 z0)), (1, .const (.int .i64 z1)), (2, .const (.int .i64 z2)), (3, .const (.int .i64 z3)), (4, .const (.int .i64 z4))], type := t, pos := pos, after := after, guard := none } : Oper).wp Tryd.prog a w K Q := by
  have hb : Below w.heap.size w (w.alloc (.cells #[.int .i64 z0, .int .i64 z1, .int .i64 z2, .int .i64 z3, .int .i64 z4] 3)) := (Below.refl _ _).alloc (Nat.le_refl _) _
  have hr := (rd_lit w [.int .i64 z0, .int .i64 z1, .int .i64 z2, .int .i64 z3, .int .i64 z4] 3 5 rfl)
  have HB := Lib.hid hb
  have HR := Lib.hid hr
  clear hb hr
  unfold Oper.wp execOp
  go_simp
  exact h _ _ HB.out ⟨_, 5, rfl, HR.out.more (by simp), Nat.le_refl _, by unfold maxLen; omega⟩
end

end Go.Proofs.YtplejbgecihnpaaDoor
