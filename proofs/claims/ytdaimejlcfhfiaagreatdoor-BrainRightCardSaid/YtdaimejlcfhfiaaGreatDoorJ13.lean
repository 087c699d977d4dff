/-
  Texts that the walks of the statements over logs lean on, joined (BrAll, BrApply, RefCheck, RefCf, RegGrow, BrKit). Conditions: those that each theorem names.
-/
import Derived.Test.YtdaimejlcfhfiaaGreatDoorJ0
import Derived.Test.YtdaimejlcfhfiaaGreatDoorJ2
import Derived.Test.YtdaimejlcfhfiaaGreatDoorJ3
import Derived.Test.YtdaimejlcfhfiaaGreatDoorJ4
import Derived.Test.YtdaimejlcfhfiaaGreatDoorJ9
import Derived.Test.YtdaimejlcfhfiaaGreatDoorJ12

/-
  The walks of 'All' and of 'Apply' of package brain. Conditions: those that each theorem names.
-/
namespace Go.Proofs.YtdaimejlcfhfiaaGreatDoor
open Go.RowKit Go.Shelf Go.Maps
attribute [local go_sem] Oper.semAt_some

def recsB (xs : List RE) : List (Int × List Int) := xs.map fun x => ((x.k : Int), x.zs)
def AllPost (p : Br) (xs : List RE) (w : World) (e : Ending) (w' : World) : Prop :=
  ∃ a, e = .returned (brV (allB p (recsB xs)) a) ∧ OwB w.heap.size w' (allB p (recsB xs)) a ∧ Below w.heap.size w w'

/-- A brain into its box. -/
theorem wpList_storeB {ops : Array Oper} {rest : List Oper} {o : Oper} {a : Act} {w : World} {Q : Exit → Act → World → Prop} (hgd : o.guard = none) (x y : Operand) (ho : o.op = .store 30 x y) (g : Nat) (p : Br) (ad : Ad) (old : Array Value) (hs : old.size = 27)
    (hx : a.eval x = .pointer (some ⟨g, 0, none⟩)) (hy : a.eval y = brV p ad) (hW : Whole w g 30 old)
    (h : ∀ W2, W2 = w.setRow g (brC p ad) → wpList Tryz.prog ops Q rest (a.put o.dst undef) W2) : wpList Tryz.prog ops Q (o :: rest) a w := by
  refine wpList_store_at hgd 30 x y ho g 0 (brC p ad) hx hy 30 old hW (by kernel_rfl) (by rw [hs]; exact Nat.le_refl _) (by simp [Value.oneCell']) (h _ ?_)
  have e : old.toList.drop (0 + (brC p ad).size) = [] := List.drop_of_length_le (by rw [Array.length_toList, hs]; exact Nat.le_refl _)
  rw [e]
  simp

/-- What holds between two rounds. -/
structure AlAt (g m tb : Nat) (sl : Value) (w : World) (x : Bx) (p : Br) (pre : List RE) (W : World) : Prop where
  br : ∃ a', BrIn g g W (allB p (recsB pre)) a'
  d : DBox W g x
  mp : deedM W m 16 (deedL x allK)
  mb : Whole W tb 63 #[.map (some m)]
  bn : Whole W (tb + 1) 33 #[sl]
  rs : ∃ cs, Whole W (g + 1) 30 cs ∧ cs.size = 27
  below : Below g w W
section
variable {g m tb : Nat} {sl : Value} {w : World} {x : Bx} {p : Br} {pre : List RE} {W W' : World}
theorem OwB.turn {base : Nat} {a : Ad} {row : Option Nat} (h : OwB base W p a) (hg : W.grownBy W' row) (hr : ∀ r, row = some r → ∃ o : Obj, W.heap[r]? = some o ∧ o.isCells = false) : OwB base W' p a :=
  ⟨own_turn h.ms hg hr, own_turn h.its hg hr, own_turn h.kps hg hr⟩
theorem DBox.turn {row : Option Nat} (h : DBox W g x) (hg : W.grownBy W' row) (hr : ∀ r, row = some r → ∃ o : Obj, W.heap[r]? = some o ∧ o.isCells = false) : DBox W' g x :=
  ⟨h.e1.turn hg hr, ⟨h.k.1.turn hg hr, h.k.2.1.turn hg hr, h.k.2.2.1.turn hg hr, h.k.2.2.2.turn hg hr⟩, ⟨h.r.1.turn hg hr, h.r.2.1.turn hg hr, h.r.2.2.turn hg hr⟩⟩
theorem AlAt.turn {row : Option Nat} {B : Nat} (h : AlAt g m tb sl w x p pre W) (hB : w.heap.size ≤ B) (hmB : m < B) (hgw : g = w.heap.size) (hg : W.grownBy W' row) (hr : ∀ r, row = some r → B ≤ r ∧ ∃ o : Obj, W.heap[r]? = some o ∧ o.isCells = false) : AlAt g m tb sl w x p pre W' := by
  have hr' : ∀ r, row = some r → ∃ o : Obj, W.heap[r]? = some o ∧ o.isCells = false := fun r e => (hr r e).2
  obtain ⟨a', ha⟩ := h.br
  obtain ⟨cs, h1, h2⟩ := h.rs
  refine ⟨⟨a', ha.box.turn hg hr', ha.own.turn hg hr', ha.ge⟩, h.d.turn hg hr', h.mp.kept hg (fun e => ?_), h.mb.turn hg hr', h.bn.turn hg hr', ⟨cs, h1.turn hg hr', h2⟩, h.below.grown hg (by have := h.below.size; omega) (fun k e => by have := (hr k e).1; omega)⟩
  have := (hr m e.symm).1
  omega
theorem AlAt.under (h : AlAt g m tb sl w x p pre W) (hgw : g ≤ W.heap.size) (hb : Below W.heap.size W W') : AlAt g m tb sl w x p pre W' := by
  obtain ⟨a', ha⟩ := h.br
  obtain ⟨cs, h1, h2⟩ := h.rs
  exact ⟨⟨a', ha.under hb⟩, h.d.under hb, World.ownsMap.kept h.mp (row := none) ⟨hb.os, hb.tape, hb.output, hb.size, fun i hi _ => hb.block i hi⟩ (by simp), h.mb.under hb, h.bn.under hb, ⟨cs, h1.under hb, h2⟩, h.below.trans (hb.mono hgw)⟩
/-- Behind a deed. -/
theorem AlAt.stp {q : Br} {pre' : List RE} (h : AlAt g m tb sl w x p pre W) (hs : Stp g W W') (hq : q = allB p (recsB pre')) {a' : Ad} (hb : BrIn g g W' q a') : AlAt g m tb sl w x p pre' W' := by
  obtain ⟨cs, h1, h2⟩ := h.rs
  obtain ⟨cs', h3, h4⟩ := hs.brn (g + 1) cs h1
  refine ⟨⟨a', by rw [← hq]; exact hb⟩, h.d.stp hs, ?_, hs.whole h.mb (by decide), hs.whole h.bn (by decide), ⟨cs', h3, h4.trans h2⟩, h.below.trans hs.below⟩
  obtain ⟨es, clock, e1, e2, e3, e4⟩ := h.mp
  exact ⟨es, clock, hs.keeps m _ e1 rfl, e2, e3, e4⟩
end

theorem good_mono {m m' : Nat} {p : Br} (h : Good m p) (hm : m ≤ m') : Good m' p := ⟨Nat.le_trans h.len hm, h.ep, h.sq, h.ph⟩
theorem recs_snoc (p : Br) (pre : List RE) (x : RE) : allB p (recsB (pre ++ [x])) = applyB (allB p (recsB pre)) (x.k : Int) x.zs := by simp [recsB, allB]
theorem good_all {m : Nat} {p : Br} (h : Good m p) (xs : List RE) : Good (m + xs.length) (allB p (recsB xs)) := by
  induction xs generalizing m p with
  | nil => exact h
  | cons x l ih =>
    have h1 := ih (good_apply h (x.k : Int) x.zs)
    rw [List.length_cons, show m + (l.length + 1) = m + 1 + l.length by omega]
    exact h1
def zeroD : Value := .agg #[.nilFunc, .nilFunc]
theorem deedR_held {v : Value} {y : DataW Value} {ps : List MemPlace} (h : deedR v = some (y, ps)) : y = .held v := by
  cases v with
  | agg cs =>
    simp only [deedR] at h
    split at h
    · cases h; rfl
    · cases h
  | _ => cases h
def knownB (k : Nat) : Bool := decide (1 ≤ k ∧ k ≤ 16)
theorem atKey_yes (x : Bx) (z : DataW Value) (k : Nat) (h : knownB k = true) : (deedL x allK).atKey (.int .u8 (k : Int)) z = .held (deedV x k) ∧ Maps.has (deedL x allK) (.int .u8 (k : Int)) = true := by
  have h1 : 1 ≤ k ∧ k ≤ 16 := by simpa [knownB] using h
  rcases kind_cases (show k < 17 by omega) with rfl | rfl | rfl | rfl | rfl | rfl | rfl | rfl | rfl | rfl | rfl | rfl | rfl | rfl | rfl | rfl | rfl
  · omega
  all_goals exact ⟨by kernel_rfl, by kernel_rfl⟩
theorem atKey_no (x : Bx) (z : DataW Value) (k : Nat) (h : knownB k = false) : (deedL x allK).atKey (.int .u8 (k : Int)) z = z ∧ Maps.has (deedL x allK) (.int .u8 (k : Int)) = false := by
  have h1 : ¬ (1 ≤ k ∧ k ≤ 16) := by simpa [knownB] using h
  have hk : ∀ q : Nat, 1 ≤ q → q ≤ 16 → (q : Int) ≠ (k : Int) := fun q h2 h3 e => by omega
  have hf : ((allK.map fun k => (k, deedV x k)).map fun y => ((.int .u8 (y.1 : Int) : Lit), (DataW.held y.2 : DataW Value))).find? (fun p => p.1.sameKey (.int .u8 (k : Int))) = none := by
    rw [List.find?_eq_none]
    intro q hq
    simp only [List.mem_map, allK] at hq
    obtain ⟨y, ⟨c, hc, rfl⟩, rfl⟩ := hq
    have h5 : 1 ≤ c ∧ c ≤ 16 := by
      simp only [List.mem_cons, List.not_mem_nil, or_false] at hc
      omega
    simp only [Lit.sameKey, true_and, decide_eq_true_eq]
    exact hk c h5.1 h5.2
  refine ⟨?_, ?_⟩
  · simp only [deedL, mapD, DataW.atKey, hf]
  · simp only [deedL, mapD, Maps.has]
    rw [List.find?_eq_none] at hf
    rw [List.any_eq_false]
    exact hf
theorem look_deed {W : World} {m : Nat} {x : Bx} (h : deedM W m 16 (deedL x allK)) (k : Nat) (hk : k < 256) :
    (Instr.lookup 63 (.map (some m)) (.int .u8 (k : Int)) true).run Tryz.prog W = .ok (.tuple #[if knownB k then deedV x k else zeroD, .bool (knownB k)]) W := by
  obtain ⟨v, ps, hrun, hv⟩ := h.look_ok (int_keyed Tryz.underlying5) Tryz.underlying63 (z := zeroD) (by kernel_rfl) (zd := .held zeroD) (zp := []) rfl (keyOf_int_mk (q := .u8) (a := (k : Int)) Tryz.underlying5 (by
    have h1 : IntKind.u8.min = 0 := rfl
    have h2 : IntKind.u8.max = 255 := rfl
    simp [Lit.wf, h1, h2]; omega))
  have hh := deedR_held hv
  rw [hrun]
  cases hb : knownB k with
  | true =>
    obtain ⟨e1, e2⟩ := atKey_yes x (.held zeroD) k hb
    rw [e1] at hh
    rw [e2]
    cases hh
    rfl
  | false =>
    obtain ⟨e1, e2⟩ := atKey_no x (.held zeroD) k hb
    rw [e1] at hh
    rw [e2]
    cases hh
    rfl
theorem deedV_shape (x : Bx) (k : Nat) (h : knownB k = true) : ∃ (f1 f2 : Nat) (c1 c2 : Array Value), deedV x k = .agg #[clo f1 c1, clo f2 c2] := by
  have h1 : 1 ≤ k ∧ k ≤ 16 := by simpa [knownB] using h
  rcases kind_cases (show k < 17 by omega) with rfl | rfl | rfl | rfl | rfl | rfl | rfl | rfl | rfl | rfl | rfl | rfl | rfl | rfl | rfl | rfl | rfl
  · omega
  all_goals exact ⟨_, _, _, _, rfl⟩
theorem known_may {k : Nat} {zs : List Int} (h : mayB k zs = true) : knownB k = true := by
  have := mayB_kind h
  simp only [knownB, decide_eq_true_eq]
  omega
theorem keepsFrom_alloc (B : Nat) (W : World) (o : Obj) : KeepsFrom B W (W.alloc o) := (keeps_under ((Below.refl _ W).alloc (Nat.le_refl _) o)).from _
theorem kpB_under {n₀ Bn : Nat} {W W' : World} (h : Below W.heap.size W W') (h0 : n₀ ≤ W.heap.size) (h1 : Bn < W.heap.size) : KpB n₀ Bn W W' := ⟨h.mono h0, h.block _ h1⟩
theorem kpB_stp {g Bn : Nat} {W W' : World} {t : TypeId} {cs : Array Value} (hs : Stp g W W') (hw : Whole W Bn t cs) (ht : mutT t = false) : KpB g Bn W W' := ⟨hs.below, by
  have h2 := hs.whole hw ht
  unfold Whole at h2 hw
  rw [h2, hw]⟩
theorem keepsFrom_stp {g B : Nat} {W W' : World} (hs : Stp g W W') : KeepsFrom B W W' := ⟨hs.size, fun k o _ ho hc => hs.keeps k o ho (by cases o <;> first | rfl | cases hc)⟩

theorem all_end {fn : Func} {k b : Nat} (hres : fn.results = #[.cell k 30]) {tm : Array Value} {n : Nat} {F : Fence} {W : World} {cs : Array Value} {R : Ending → World → Prop} (D : Nat) (h2 : tm[k]? = some (.pointer (some ⟨b, 0, none⟩))) (hW : Whole W b 30 cs) (hc : cs.size = 27) (hK : W.heap[D]? = some (.deferred (some [])))
    (h : R (.returned (.agg cs)) (W.putObj D (.deferred none))) : bodyPostM F n Tryz.prog fn R .ret { tmps := tm, defers := [{ target := .collected D, args := #[] }] } W := by
  have hg' := grownBy_putObj' W D (.deferred none)
  have hr' : ∀ q, (some D) = some q → ∃ o : Obj, W.heap[q]? = some o ∧ o.isCells = false := fun q e => by cases e; exact ⟨_, hK, rfl⟩
  have hW' := hW.turn hg' hr'
  refine ⟨by simp, .inl ⟨_, _, rfl, run_takeDeferred hK, ?_⟩⟩
  have hl := run_loadVar_row (P := Tryz.prog) (W.putObj D (.deferred none)) b 30 30 cs (0, 0) _ hW' Tryz.underlying30 rfl (by rw [hc]; kernel_rfl)
  refine ⟨.agg cs, ?_, h⟩
  simp [results, hres, h2, hl, asAddr]

set_option maxRecDepth 100000 in
set_option maxHeartbeats 4000000 in
theorem all_any (p : Br) (a : Ad) (A : Option Addr) (n c : Nat) (xs : List RE) (Z : Nat) (w : World) (hr : RdB_ w Z p a) (hZ : Z ≤ w.heap.size) (hx : RdR w Z A n xs) (hm : p.cf.ms.length ≤ 1000) (hcap : ∀ x ∈ xs, x.n ≤ x.c ∧ x.c ≤ maxLen) (hn : n ≤ 300) (hg : Good 400 p) (hT : Tab w) (hH : TabH w) :
    Calls Tryz.prog 14 #[brV p a, .slice A n c] w (AllPost p xs w) := by
  obtain ⟨hb0, w0, w1⟩ := two_new w 30 30 (brC p a) (brC br0 ad0)
  obtain ⟨V, hV⟩ : ∃ V, (w.alloc (.cells (brC p a) 30)).alloc (.cells (brC br0 ad0) 30) = V := ⟨_, rfl⟩
  rw [hV] at hb0 w0 w1
  have HV := Lib.hid hV
  have X0 := Lib.hid w0
  have X1 := Lib.hid w1
  have HB0 := Lib.hid hb0
  have hown := bownB_any p a Z V (hr.below (hb0.mono hZ)) (Nat.le_trans hZ hb0.size) hm (by have := hg.len; omega) (by have := hg.len; omega)
  have HOwn := Lib.hid hown
  have HX := Lib.hid hx
  have HZ := Lib.hid hZ
  have HG := Lib.hid hg
  have HT := Lib.hid hT
  have HH := Lib.hid hH
  have HN := Lib.hid hn
  have HCap := Lib.hid hcap
  clear hV w0 w1 hb0 hown hx hZ hg hT hH hr hm hn hcap
  refine (callsIn_wide (n := 6)).1 ?_
  refine callsIn_of_wp_marks Tryz.func14 rfl trivial ?_ rfl
  simp only [Tryz.ntmps14, List.size_toArray, List.length_cons, List.length_nil, Nat.reduceAdd, Nat.reduceSub, Array.replicate_succ, Array.replicate_zero, List.push_toArray, List.append_toArray, List.nil_append, List.cons_append]
  refine wpIn_wide.2 ?_
  go_upto_region 1 with fail
  refine wpV (fun V2 hV2 => ?_)
  obtain rfl : V = V2 := HV.out.symm.trans hV2
  clear HV hV2
  go_wp2_with (refine wpList_loadB (by rfl) _ rfl w.heap.size p a (by rfl) X0.out ?_)
  refine HOwn.out.mono ?_
  rintro e V1 ⟨a1, rfl, ho1, hb1⟩
  have Y0 := Lib.hid (X0.out.under hb1)
  have Y1 := Lib.hid (X1.out.under hb1)
  have HB1 := Lib.hid (HB0.out.trans (hb1.mono HB0.out.size))
  have HO1 := Lib.hid (ho1.weaker HB0.out.size)
  clear ho1 hb1 X0 X1 HOwn HB0
  go_upto_region 2 with (refine wpList_storeB rfl _ _ rfl w.heap.size p a1 _ (by rfl) (by rfl) (by rfl) Y0.out ?_; intro W2 hW2)
  have X0 : Whole W2 w.heap.size 30 (brC p a1) := by rw [hW2]; exact setRow_heap _ _ _ _ _ _ Y0.out
  have X1 : Whole W2 (w.heap.size + 1) 30 (brC br0 ad0) := by rw [hW2]; exact (setRow_other _ _ _ _ (by omega)).trans Y1.out
  have hB2 : Below w.heap.size w W2 := by rw [hW2]; exact below_rowsetB HB1.out (Nat.le_refl _) _
  have hO2 : OwB w.heap.size W2 p a1 := by rw [hW2]; exact HO1.out.rowset Y0.out (by decide) (by decide) (by decide) _
  have HIn := Lib.hid (show BrIn w.heap.size w.heap.size W2 p a1 from ⟨X0, hO2, Nat.le_refl _⟩)
  have HX1 := Lib.hid X1
  have HB2 := Lib.hid hB2
  clear X0 X1 hB2 hO2 hW2 Y0 Y1 HB1 HO1
  go_wp2_with fail
  refine (deeds_any w.heap.size w.heap.size W2 HIn.out).mono ?_
  rintro e W3 ⟨m, x, rfl, hm, hb, hd, hmap⟩
  have HM := Lib.hid hm
  have hml := Lib.hid hmap.lt
  have hs3 := Lib.hid hb.size
  have HL := Lib.hid (HIn.out.lt)
  have HB3 := Lib.hid (HB2.out.trans (hb.mono HB2.out.size))
  have HIn3 := Lib.hid (HIn.out.under hb)
  have HX3 := Lib.hid (HX1.out.under hb)
  have HD3 := Lib.hid hd
  have HMap3 := Lib.hid hmap
  clear hm hb hd hmap HIn HX1 HB2
  go_wp2_with fail
  refine (vals_any A n c _).mono ?_
  rintro e W5 ⟨rfl, hW5⟩
  obtain ⟨hb5, e0, e1⟩ := two_new W3 63 33 #[.map (some m)] #[.slice A n c]
  rw [← hW5] at hb5 e0 e1
  have hs5 : W5.heap.size = W3.heap.size + 1 + 1 := by rw [hW5]; simp
  have hinv : AlAt w.heap.size m W3.heap.size (.slice A n c) w x p [] W5 :=
    ⟨⟨a1, HIn3.out.under hb5⟩, HD3.out.under hb5, World.ownsMap.kept HMap3.out (row := none) ⟨hb5.os, hb5.tape, hb5.output, hb5.size, fun i hi _ => hb5.block i hi⟩ (by simp), e0, e1, ⟨_, HX3.out.under hb5, rfl⟩, HB3.out.trans (hb5.mono (by have := HL.out; have := hs3.out; omega))⟩
  have HInv := Lib.hid hinv
  have HS5 := Lib.hid hs5
  have hgw : w.heap.size < W3.heap.size := Nat.lt_of_lt_of_le HL.out hs3.out
  have HGw := Lib.hid hgw
  have HRR := Lib.hid (show RdR W5 w.heap.size A n xs from (HX.out.more HZ.out).below hinv.below)
  clear hW5 hb5 e0 e1 hs5 hinv hgw HIn3 HX3 HD3 HMap3 HB3
  go_wp2_with fail
  refine (wpIn_wide (n := 6)).1 ?_
  refine wpIn_range_mem (by omega) (gf := 59) (lb := #[.pointer (some ⟨W3.heap.size + 1, 0, none⟩)]) rfl (enters_of Tryz.func59 (by kernel_rfl) rfl) (encs := encRE)
    (vals_mem 5 (W3.heap.size + 1) w.heap.size A n c xs (by have := HN.out; omega) W5 (by have := HS5.out; have := HGw.out; omega) HInv.out.bn HRR.out)
    (fun h k => kpB_t h k) (kpB_b (by have := HS5.out; have := HGw.out; omega) (by have := HS5.out; omega)) (Below.refl _ _) (fun _ => rfl)
    (AlAt w.heap.size m W3.heap.size (.slice A n c) w x p) (fun _ _ => False)
    (fun pre W W' row h hg hr => h.turn (by have := HS5.out; have := HGw.out; omega) (by have := HS5.out; have := hml.out; omega) rfl hg hr) (fun _ _ _ _ h _ _ => h.elim) HInv.out
    (fun pre y a' W => OkRE xs pre y W ∧ ∃ gb, a' = { tmps := #[brV p a, .slice A n c, .pointer (some ⟨w.heap.size, 0, none⟩), undef, .pointer (some ⟨w.heap.size + 1, 0, none⟩), .pointer (some ⟨W3.heap.size, 0, none⟩), .pointer (some ⟨gb, 0, none⟩), undef, undef, brV p a, brV p a1, .map (some m), .slice A n c, .func (.func 59) #[] #[.pointer (some ⟨W3.heap.size + 1, 0, none⟩)], .agg #[.int .u8 (y.k : Int), .slice y.A y.n y.c], undef, undef, undef, undef, undef, undef, undef, undef, undef, undef, undef, undef, undef, undef, undef, undef, undef, undef, undef, undef, undef, undef, undef, undef, undef, undef], defers := [] } ∧ Whole W gb 32 #[.int .u8 (y.k : Int), .slice y.A y.n y.c])
    (fun a' p X Y row hs hg hr => ⟨hs.1, by obtain ⟨g, e, hb⟩ := hs.2; exact ⟨g, e, Whole.turn hb hg (fun r e => (hr r e).2)⟩⟩) ?assign ?body ?done ?stop
  case assign =>
    rintro lp pre y W K hI hOk hK
    have HOk := Lib.hid hOk
    have HI := Lib.hid hI
    clear hOk hI
    unfold encRE
    gi_wp2
    have hbu : Below W.heap.size W (W.alloc (.cells #[.int .u8 (y.k : Int), .slice y.A y.n y.c] 32)) := (Below.refl _ _).alloc (Nat.le_refl _) _
    exact hK _ _ (keepsFrom_alloc _ _ _) (kpB_under hbu HI.out.below.size HI.out.bn.lt) (HI.out.under HI.out.below.size hbu) ⟨HOk.out, _, rfl, Whole.new _ _ _⟩
  case stop =>
    rintro D c W hD h hK
    exact h.elim
  case body =>
    rintro lp pre y a' W hlp hI ⟨hOk, gb, rfl, hbx⟩
    have HI := Lib.hid hI
    have HOk := Lib.hid hOk
    have HBX := Lib.hid hbx
    clear hI hOk hbx
    obtain ⟨j, hj, hy⟩ := HOk.out
    have hym : y ∈ xs := List.mem_of_getElem? hy
    have hjn : j < n := by
      have := (List.getElem?_eq_some_iff.1 hy).1
      have := HX.out.1
      omega
    have hk256 : y.k < 256 := (HX.out.2.2 y hym).1
    have HGood := Lib.hid (good_mono (good_all HG.out pre) (show 400 + pre.length ≤ 800 by
      have := HN.out
      rw [hj, List.length_take]
      omega))
    have HRow := Lib.hid ((HX.out.2.2 y hym).2)
    have HCp := Lib.hid (HCap.out y hym)
    have HK256 := Lib.hid hk256
    clear hj hy hym hjn hk256 j HOk
    refine wpIn_block ?_
    refine wpIn_scope_fwd 0 (fun _ W' => Stp w.heap.size W W' ∧ ∃ a'', BrIn w.heap.size w.heap.size W' (allB p (recsB (pre ++ [y]))) a'') rfl ?first ?tail
    case tail =>
      rintro a' W' ⟨hs, a'', hb⟩
      have HS := Lib.hid hs
      have HBr := Lib.hid hb
      clear hs hb
      refine wpIn_skip ?_
      exact ⟨keepsFrom_stp HS.out, kpB_stp HS.out HI.out.bn (by decide), HI.out.stp HS.out rfl HBr.out⟩
    case first =>
      have c5 := HI.out.mb.cell 0
      have k0 := HBX.out.cell 0
      have k1 := HBX.out.cell 1
      simp only [List.getElem?_toArray, List.getElem?_cons_zero, List.getElem?_cons_succ] at c5 k0 k1
      have hl := look_deed HI.out.mp y.k HK256.out
      cases hkb : knownB y.k with
      | false =>
        rw [hkb] at hl
        simp only [Bool.false_eq_true, if_false, zeroD] at hl
        gi_wp2_with fail
        refine ⟨trivial, ?_⟩
        gi_wp2_with fail
        refine wpIn_goto ?_
        have hap : applyB (allB p (recsB pre)) (y.k : Int) y.zs = allB p (recsB pre) := apply_not (by
          cases hmy : mayB y.k y.zs with
          | true => rw [known_may hmy] at hkb; cases hkb
          | false => rfl)
        obtain ⟨a1', hbr⟩ := HI.out.br
        have hbu : Below W.heap.size W (W.alloc (.cells #[.nilFunc, .nilFunc] 71)) := (Below.refl _ W).alloc (Nat.le_refl _) _
        refine ⟨rfl, Stp.of_below hbu HI.out.below.size, a1', ?_⟩
        rw [recs_snoc, hap]
        exact hbr.under hbu
      | true =>
        obtain ⟨f1, f2, q1, q2, hsh⟩ := deedV_shape x y.k hkb
        rw [hkb] at hl
        simp only [if_true, hsh] at hl
        have HSh := Lib.hid hsh
        have HRt := Lib.hid (fun W' (hB : Z ≤ W'.heap.size) (h : Below Z w W') => right_rec y.k HK256.out y.A y.n y.c y.zs Z W' (HRow.out.below h) hB)
        clear hsh
        have hB1 : Below W.heap.size W (W.alloc (.cells #[.func (.func f1) #[] q1, .func (.func f2) #[] q2] 71)) := (Below.refl _ W).alloc (Nat.le_refl _) _
        have hZ1 : Z ≤ (W.alloc (.cells #[.func (.func f1) #[] q1, .func (.func f2) #[] q2] 71)).heap.size := Nat.le_trans HZ.out (Nat.le_trans HI.out.below.size hB1.size)
        have hZ2 := HI.out.below.trans (hB1.mono HI.out.below.size)
        have k0' := (HBX.out.under hB1).cell 0
        have k1' := (HBX.out.under hB1).cell 1
        simp only [List.getElem?_toArray, List.getElem?_cons_zero, List.getElem?_cons_succ] at k0' k1'
        have HR1 := Lib.hid (HRt.out _ hZ1 (hZ2.mono HZ.out))
        have HB1 := Lib.hid hB1
        have HDb := Lib.hid (Whole.new W 71 #[.func (.func f1) #[] q1, .func (.func f2) #[] q2])
        clear hB1 hZ1 hZ2 HRt
        cases hmy : mayB y.k y.zs with
        | false =>
          rw [hmy] at HR1
          have HMy := Lib.hid hmy
          clear hmy hkb
          gi_wp2_with fail
          refine ⟨trivial, (CallsIn.inRound lp (callsIn_wide.2 HR1.out)).mono ?_⟩
          rintro e W2 ⟨rfl, b2⟩
          have HB2 := Lib.hid (HB1.out.trans (b2.mono HB1.out.size))
          clear b2 HR1
          gi_wp2_with fail
          refine wpIn_goto ?_
          obtain ⟨a1', hbr⟩ := HI.out.br
          refine ⟨rfl, Stp.of_below HB2.out HI.out.below.size, a1', ?_⟩
          rw [recs_snoc, apply_not HMy.out]
          exact hbr.under HB2.out
        | true =>
          rw [hmy] at HR1
          have HMy := Lib.hid hmy
          clear hmy hkb
          gi_wp2_with fail
          refine ⟨trivial, (CallsIn.inRound lp (callsIn_wide.2 HR1.out)).mono ?_⟩
          rintro e W2 ⟨rfl, b2⟩
          have HDb2 := Lib.hid (HDb.out.under b2)
          have HB2 := Lib.hid (HB1.out.trans (b2.mono HB1.out.size))
          clear b2 HR1 k0' k1' k0 k1 c5 hl HDb HB1
          obtain ⟨a1', hbr⟩ := HI.out.br
          have hbw := HI.out.below.trans (HB2.out.mono HI.out.below.size)
          have E : DEnv w.heap.size w.heap.size Z W2 (allB p (recsB pre)) a1' x := ⟨hbr.under HB2.out, HI.out.d.under HB2.out, HT.out.bel HT.out.1 hbw, HH.out.below HH.out.1 hbw, HGood.out, HZ.out⟩
          obtain ⟨g1, g2, u1, u2, fit, hsh', en1, en2, hf, hno, hyes⟩ := deed_any E (HRow.out.below (hbw.mono HZ.out)) HCp.out.1 HCp.out.2 HMy.out
          cases HSh.out.symm.trans hsh'
          have HF := Lib.hid hf
          have HNo := Lib.hid hno
          have HYes := Lib.hid hyes
          have HBr := Lib.hid hbr
          clear hf hno hyes hsh' E hbw hbr HSh
          have k0 := (HBX.out.under HB2.out).cell 0
          have k1 := (HBX.out.under HB2.out).cell 1
          have d0 := HDb2.out.cell 0
          simp only [List.getElem?_toArray, List.getElem?_cons_zero, List.getElem?_cons_succ] at k0 k1 d0
          cases hfit : fit with
          | false =>
            rw [hfit] at HF HNo
            clear hfit
            gi_wp2_with fail
            refine ⟨trivial, (CallsIn.inRound lp (callsIn_wide.2 HF.out)).mono ?_⟩
            rintro e W4 ⟨rfl, b4⟩
            have HB4 := Lib.hid (HB2.out.trans (b4.mono HB2.out.size))
            clear b4 HF k0 k1 d0
            gi_wp2_with fail
            refine wpIn_goto ?_
            refine ⟨rfl, Stp.of_below HB4.out HI.out.below.size, a1', ?_⟩
            rw [recs_snoc, HNo.out trivial]
            exact HBr.out.under HB4.out
          | true =>
            rw [hfit] at HF HYes
            clear hfit
            gi_wp2_with fail
            refine ⟨trivial, (CallsIn.inRound lp (callsIn_wide.2 HF.out)).mono ?_⟩
            rintro e W4 ⟨rfl, b4⟩
            have HB4 := Lib.hid (HB2.out.trans (b4.mono HB2.out.size))
            have HD := Lib.hid (HYes.out trivial W4 b4)
            have k0 := (HBX.out.under HB4.out).cell 0
            have k1 := (HBX.out.under HB4.out).cell 1
            have d1 := (HDb2.out.under b4).cell 1
            simp only [List.getElem?_toArray, List.getElem?_cons_zero, List.getElem?_cons_succ] at k0 k1 d1
            clear b4 HF d0 en1
            gi_wp2_with fail
            refine ⟨trivial, (CallsIn.inRound lp (callsIn_wide.2 HD.out)).mono ?_⟩
            rintro e W6 ⟨rfl, hs6, a6, h6⟩
            have HS6 := Lib.hid ((Stp.of_below HB4.out HI.out.below.size).trans hs6)
            have H6 := Lib.hid h6
            clear hs6 h6 k0 k1 d1 HD
            gi_wp2_with fail
            refine wpIn_label ?_
            exact ⟨keepsFrom_stp HS6.out, kpB_stp HS6.out HI.out.bn (by decide), HI.out.stp HS6.out (recs_snoc p pre y).symm H6.out⟩
  case done =>
    rintro D ys W hD rfl hI hK
    have HK := Lib.hid hK
    have HI := Lib.hid hI
    clear hI hK
    obtain ⟨a', hbr⟩ := HI.out.br
    obtain ⟨cs, hr1, hr2⟩ := HI.out.rs
    obtain ⟨q, hq⟩ : ∃ q, allB p (recsB ys) = q := ⟨_, rfl⟩
    have HQ := Lib.hid hq
    rw [hq] at hbr
    have HBr := Lib.hid hbr
    have HR1 := Lib.hid hr1
    have HBel := Lib.hid HI.out.below
    clear hq hbr hr1
    go_wp2_with (first | (refine wpList_loadB (by rfl) _ rfl w.heap.size q a' (by rfl) HBr.out.box ?_) | (refine wpList_storeB rfl _ _ rfl (w.heap.size + 1) q a' cs hr2 (by rfl) (by rfl) HR1.out ?_; intro W7 hW7))
    have e7 : Whole W7 (w.heap.size + 1) 30 (brC q a') := by rw [hW7]; exact setRow_heap _ _ _ _ _ _ HR1.out
    have o7 : OwB w.heap.size W7 q a' := by rw [hW7]; exact HBr.out.own.rowset HR1.out (by decide) (by decide) (by decide) _
    have b7 : Below w.heap.size w W7 := by rw [hW7]; exact below_rowsetB HBel.out (Nat.le_succ _) _
    have k7 : W7.heap[D]? = some (.deferred (some [])) := by
      rw [hW7]
      refine (setRow_other _ _ _ _ ?_).trans HK.out
      have := HS5.out
      have := HGw.out
      omega
    have hr7 : ∀ r, (some D) = some r → ∃ o : Obj, W7.heap[r]? = some o ∧ o.isCells = false := fun r e => by cases e; exact ⟨_, k7, rfl⟩
    refine all_end rfl D (by rfl) e7 rfl k7 ⟨a', by rw [HQ.out], ?_, ?_⟩
    · rw [HQ.out]; exact o7.turn (grownBy_putObj' W7 D (.deferred none)) hr7
    · exact b7.trans ((Below.refl _ _).grown (grownBy_putObj' W7 D (.deferred none)) b7.size (fun k e => by cases e; have := HS5.out; have := HGw.out; omega))

end Go.Proofs.YtdaimejlcfhfiaaGreatDoor

/-
  The walk of 'Apply' of package brain. Conditions: those that each theorem names.
-/
namespace Go.Proofs.YtdaimejlcfhfiaaGreatDoor
open Go.RowKit Go.Shelf Go.Maps

/-- A brain is handed back, in memory of its own. -/
def ApPost (q : Br) (w : World) (e : Ending) (w' : World) : Prop :=
  ∃ a, e = .returned (brV q a) ∧ OwB w.heap.size w' q a ∧ Below w.heap.size w w'

set_option maxRecDepth 100000 in
set_option maxHeartbeats 4000000 in
theorem apply_any (p : Br) (a : Ad) (y : RE) (Z : Nat) (w : World) (hr : RdB_ w Z p a) (hZ : Z ≤ w.heap.size) (hk : y.k < 256) (hy : Rd w Z y.A y.n (iv y.zs)) (hcap : y.n ≤ y.c ∧ y.c ≤ maxLen) (hm : p.cf.ms.length ≤ 1000) (hg : Good 400 p) (hT : Tab w) (hH : TabH w) :
    Calls Tryz.prog 12 #[brV p a, .agg #[.int .u8 (y.k : Int), .slice y.A y.n y.c]] w (ApPost (applyB p (y.k : Int) y.zs) w) := by
  obtain ⟨hb0, w0, w1, w2⟩ := three_new w 30 32 30 (brC p a) #[.int .u8 (y.k : Int), .slice y.A y.n y.c] (brC br0 ad0)
  obtain ⟨V, hV⟩ : ∃ V, ((w.alloc (.cells (brC p a) 30)).alloc (.cells #[.int .u8 (y.k : Int), .slice y.A y.n y.c] 32)).alloc (.cells (brC br0 ad0) 30) = V := ⟨_, rfl⟩
  have hsV : V.heap.size = w.heap.size + 1 + 1 + 1 := by rw [← hV]; simp
  rw [hV] at hb0 w0 w1 w2
  have k0 := w1.cell 0
  have k1 := w1.cell 1
  simp only [List.getElem?_toArray, List.getElem?_cons_zero, List.getElem?_cons_succ] at k0 k1
  obtain ⟨V1, hV1⟩ : ∃ V1, V.alloc (.cells #[.int .u8 (y.k : Int), .slice y.A y.n y.c] 32) = V1 := ⟨_, rfl⟩
  have hb1 : Below V.heap.size V V1 := by rw [← hV1]; exact (Below.refl _ _).alloc (Nat.le_refl _) _
  have hb2 := hb0.trans (hb1.mono hb0.size)
  have hrow : RdR V1 (V.heap.size + 1) (some ⟨V.heap.size, 0, none⟩) 1 [y] := by
    rw [← hV1]
    exact rdR_one V y Z (Nat.le_trans hZ hb0.size) hk (hy.below (hb0.mono hZ)) V.heap.size rfl
  have hsz1 : V1.heap.size = V.heap.size + 1 := by rw [← hV1]; simp
  have hall := all_any p a (some ⟨V.heap.size, 0, none⟩) 1 1 [y] (V.heap.size + 1) V1 ((hr.below (hb2.mono hZ)).more (by have := hb0.size; omega)) (by omega) hrow hm (fun x hx => by simp only [List.mem_singleton] at hx; rw [hx]; exact hcap) (by omega) hg (hT.under hb2) (hH.under hb2)
  rw [hsV] at hall
  have HV := Lib.hid hV
  have HV1 := Lib.hid hV1
  have X0 := Lib.hid w0
  have X2 := Lib.hid (w2.under hb1)
  have HB := Lib.hid hb2
  have HAll := Lib.hid hall
  have HSz := Lib.hid hsz1
  clear hb0 w0 w1 w2 hV hV1 hb1 hb2 hrow hall hr hZ hy hcap hm hg hT hH hsz1
  go_enter Tryz.func12, Tryz.ntmps12
  go_upto_region 1 with fail
  refine wpV (fun V2 hV2 => ?_)
  obtain rfl : V = V2 := HV.out.symm.trans hV2
  clear HV hV2
  go_wp2_with (refine wpList_loadB (by rfl) _ rfl w.heap.size p a (by rfl) X0.out ?_)
  refine ((by rw [HV1.out]; exact HAll.out) : Calls Tryz.prog 14 #[brV p a, .slice (some ⟨w.heap.size + 1 + 1 + 1, 0, none⟩) 1 1] (V.alloc (.cells #[.int .u8 (y.k : Int), .slice y.A y.n y.c] 32)) (AllPost p [y] V1)).mono ?_
  rintro e W1 ⟨a1, rfl, ho1, hb1⟩
  have hq : allB p (recsB [y]) = applyB p (y.k : Int) y.zs := by simp [recsB, allB]
  rw [hq] at ho1 ⊢
  have X3 := Lib.hid (X2.out.under hb1)
  have hle : w.heap.size ≤ V1.heap.size := HB.out.size
  have HO := Lib.hid (ho1.weaker hle)
  have HB1 := Lib.hid (HB.out.trans (hb1.mono hle))
  clear ho1 hb1 X2 hq
  go_wp2_with (refine wpList_storeB rfl _ _ rfl (w.heap.size + 1 + 1) _ a1 _ (by rfl) (by rfl) (by rfl) X3.out ?_; intro W7 hW7)
  have e7 : Whole W7 (w.heap.size + 1 + 1) 30 (brC (applyB p (y.k : Int) y.zs) a1) := by rw [hW7]; exact setRow_heap _ _ _ _ _ _ X3.out
  refine brain_end (k := 4) rfl (by rfl) e7 rfl ⟨a1, rfl, ?_, ?_⟩
  · rw [hW7]; exact HO.out.rowset X3.out (by decide) (by decide) (by decide) _
  · rw [hW7]; exact below_rowsetB HB1.out (by omega) _

end Go.Proofs.YtdaimejlcfhfiaaGreatDoor

/-
  The walk of 'Check' of the document's own answer (layer 7): which groups may be. Conditions: those that each theorem names.
-/
namespace Go.Proofs.YtdaimejlcfhfiaaGreatDoor
open Go.RowKit Go.Shelf

/-- The five waits that may be nought. -/
def wt (x : Cf) (j : Nat) : Int := [x.f4, x.f5, x.f6, x.f7, x.f11].getD j 0
set_option maxRecDepth 100000 in
theorem within_is {n a b : Int} {v : Bool} (h : (decide (a ≤ n) && decide (n ≤ b)) = v) (w : World) : Calls Tryz.prog 67 #[.int .i64 n, .int .i64 a, .int .i64 b] w fun e w' => e = .returned (.bool v) ∧ w' = w := by
  subst h; exact within_any n a b w
set_option maxRecDepth 100000 in
theorem in_no {n a b : Int} (h : (decide (a ≤ n) && decide (n ≤ b)) = false) : n < a ∨ b < n := by
  by_cases h1 : a ≤ n
  · by_cases h2 : n ≤ b
    · simp [h1, h2] at h
    · omega
  · omega
set_option maxRecDepth 100000 in
theorem in_yes {n a b : Int} (h : (decide (a ≤ n) && decide (n ≤ b)) = true) : a ≤ n ∧ n ≤ b := by simpa using h
set_option maxRecDepth 100000 in
theorem not_wt {x : Cf} {j : Nat} (hj : j < 5) (h : wt x j < 0 ∨ 20 < wt x j) : may x = false := by
  rcases (by omega : j = 0 ∨ j = 1 ∨ j = 2 ∨ j = 3 ∨ j = 4) with rfl | rfl | rfl | rfl | rfl
  · exact not_inB (k := 4) (by omega) h
  · exact not_inB (k := 5) (by omega) h
  · exact not_inB (k := 6) (by omega) h
  · exact not_inB (k := 7) (by omega) h
  · exact not_inB (k := 11) (by omega) h
set_option maxRecDepth 100000 in
theorem may_no_marks {x : Cf} (h : marksB x.ms = false) : may x = false := by unfold may; rw [h]; simp
set_option maxRecDepth 100000 in
theorem may_no_room {x : Cf} (h : roomB x = false) : may x = false := by unfold may; rw [h]; simp

/-- What holds in the loops: the group in its box, the waits in their array. -/
structure ChkAt (x : Cf) (w W : World) : Prop where
  box : InBox x w W
  row : Whole W (w.heap.size + 1) 100 #[.int .i64 x.f4, .int .i64 x.f5, .int .i64 x.f6, .int .i64 x.f7, .int .i64 x.f11]
set_option maxRecDepth 100000 in
theorem ChkAt.drewN {x : Cf} {w W : World} (h : ChkAt x w W) (k : Nat) : ChkAt x w (W.drewN k) := ⟨⟨h.box.1, below_drewN h.box.2 k⟩, h.row⟩
set_option maxRecDepth 100000 in
theorem wt_cell {x : Cf} {w W : World} (h : ChkAt x w W) {j : Nat} (hj : j < 5) : W.cell? ⟨w.heap.size + 1, j, none⟩ = some (.int .i64 (wt x j)) := by
  rcases (by omega : j = 0 ∨ j = 1 ∨ j = 2 ∨ j = 3 ∨ j = 4) with rfl | rfl | rfl | rfl | rfl
  all_goals exact h.row.cell _

set_option maxRecDepth 100000 in
set_option maxHeartbeats 1000000 in
theorem refCheck_no0 (x : Cf) (w : World) (b0 : (decide ((0 : Int) ≤ x.f0) && decide (x.f0 ≤ 6)) = false) : Calls Tryz.prog 48 #[x.v] w (IntPost 70 w) := by
  have HB0 := Lib.hid (InBox.new x w)
  have hw0 := within_is b0
  clear b0
  go_enter Tryz.func48, Tryz.ntmps48
  go_wp2_with fail
  refine (hw0 _).mono ?_
  rintro e w' ⟨rfl, rfl⟩
  clear hw0
  go_wp2_with fail
  go_ret
  exact ⟨rfl, HB0.out.2⟩

set_option maxRecDepth 100000 in
set_option maxHeartbeats 1000000 in
theorem refCheck_no1 (x : Cf) (w : World) (b0 : (decide ((0 : Int) ≤ x.f0) && decide (x.f0 ≤ 6)) = true) (b1 : (decide ((0 : Int) ≤ x.f1) && decide (x.f1 ≤ 100)) = false) : Calls Tryz.prog 48 #[x.v] w (IntPost 70 w) := by
  have HB0 := Lib.hid (InBox.new x w)
  have hw0 := within_is b0
  have hw1 := within_is b1
  clear b0 b1
  go_enter Tryz.func48, Tryz.ntmps48
  go_wp2_with fail
  refine (hw0 _).mono ?_
  rintro e w' ⟨rfl, rfl⟩
  clear hw0
  go_wp2_with fail
  refine (hw1 _).mono ?_
  rintro e w' ⟨rfl, rfl⟩
  clear hw1
  go_wp2_with fail
  go_ret
  exact ⟨rfl, HB0.out.2⟩

set_option maxRecDepth 100000 in
set_option maxHeartbeats 1000000 in
theorem refCheck_no2 (x : Cf) (w : World) (b0 : (decide ((0 : Int) ≤ x.f0) && decide (x.f0 ≤ 6)) = true)  (b1 : (decide ((0 : Int) ≤ x.f1) && decide (x.f1 ≤ 100)) = true) (b2 : (decide ((0 : Int) ≤ x.f2) && decide (x.f2 ≤ 3)) = false) : Calls Tryz.prog 48 #[x.v] w (IntPost 70 w) := by
  have HB0 := Lib.hid (InBox.new x w)
  have hw0 := within_is b0
  have hw1 := within_is b1
  have hw2 := within_is b2
  clear b0 b1 b2
  go_enter Tryz.func48, Tryz.ntmps48
  go_wp2_with fail
  refine (hw0 _).mono ?_
  rintro e w' ⟨rfl, rfl⟩
  clear hw0
  go_wp2_with fail
  refine (hw1 _).mono ?_
  rintro e w' ⟨rfl, rfl⟩
  clear hw1
  go_wp2_with fail
  refine (hw2 _).mono ?_
  rintro e w' ⟨rfl, rfl⟩
  clear hw2
  go_wp2_with fail
  go_ret
  exact ⟨rfl, HB0.out.2⟩

set_option maxRecDepth 100000 in
set_option maxHeartbeats 1000000 in
theorem refCheck_no3 (x : Cf) (w : World) (b0 : (decide ((0 : Int) ≤ x.f0) && decide (x.f0 ≤ 6)) = true)  (b1 : (decide ((0 : Int) ≤ x.f1) && decide (x.f1 ≤ 100)) = true)  (b2 : (decide ((0 : Int) ≤ x.f2) && decide (x.f2 ≤ 3)) = true) (b3 : (decide ((0 : Int) ≤ x.f3) && decide (x.f3 ≤ 3)) = false) : Calls Tryz.prog 48 #[x.v] w (IntPost 70 w) := by
  have HB0 := Lib.hid (InBox.new x w)
  have hw0 := within_is b0
  have hw1 := within_is b1
  have hw2 := within_is b2
  have hw3 := within_is b3
  clear b0 b1 b2 b3
  go_enter Tryz.func48, Tryz.ntmps48
  go_wp2_with fail
  refine (hw0 _).mono ?_
  rintro e w' ⟨rfl, rfl⟩
  clear hw0
  go_wp2_with fail
  refine (hw1 _).mono ?_
  rintro e w' ⟨rfl, rfl⟩
  clear hw1
  go_wp2_with fail
  refine (hw2 _).mono ?_
  rintro e w' ⟨rfl, rfl⟩
  clear hw2
  go_wp2_with fail
  refine (hw3 _).mono ?_
  rintro e w' ⟨rfl, rfl⟩
  clear hw3
  go_wp2_with fail
  go_ret
  exact ⟨rfl, HB0.out.2⟩

set_option maxRecDepth 100000 in
set_option maxHeartbeats 4000000 in
theorem refCheck_on (x : Cf) (w : World) (hx : Lies x w w.heap.size) (hn : x.n ≤ 1000) (b0 : (decide ((0 : Int) ≤ x.f0) && decide (x.f0 ≤ 6)) = true)  (b1 : (decide ((0 : Int) ≤ x.f1) && decide (x.f1 ≤ 100)) = true)  (b2 : (decide ((0 : Int) ≤ x.f2) && decide (x.f2 ≤ 3)) = true)  (b3 : (decide ((0 : Int) ≤ x.f3) && decide (x.f3 ≤ 3)) = true) : Calls Tryz.prog 48 #[x.v] w (IntPost (er (may x)) w) := by
  have HX := Lib.hid hx
  have HB0 := Lib.hid (InBox.new x w)
  have hw0 := within_is b0
  have hw1 := within_is b1
  have hw2 := within_is b2
  have hw3 := within_is b3
  clear hx
  have HY0 := Lib.hid (in_yes b0)
  have HY1 := Lib.hid (in_yes b1)
  have HY2 := Lib.hid (in_yes b2)
  have HY3 := Lib.hid (in_yes b3)
  clear b0 b1 b2 b3
  go_enter Tryz.func48, Tryz.ntmps48
  go_wp2_with fail
  refine (hw0 _).mono ?_
  rintro e w' ⟨rfl, rfl⟩
  clear hw0
  go_wp2_with fail
  refine (hw1 _).mono ?_
  rintro e w' ⟨rfl, rfl⟩
  clear hw1
  go_wp2_with fail
  refine (hw2 _).mono ?_
  rintro e w' ⟨rfl, rfl⟩
  clear hw2
  go_wp2_with fail
  refine (hw3 _).mono ?_
  rintro e w' ⟨rfl, rfl⟩
  clear hw3
  go_wp2_with fail
  have hC0 : ChkAt x w ((w.alloc (.cells x.cells 24)).alloc (.cells #[.int .i64 x.f4, .int .i64 x.f5, .int .i64 x.f6, .int .i64 x.f7, .int .i64 x.f11] 100)) := by
    refine ⟨HB0.out.under ((Below.refl _ _).alloc (Nat.le_refl _) _), ?_⟩
    have := Whole.new (w.alloc (.cells x.cells 24)) 100 #[.int .i64 x.f4, .int .i64 x.f5, .int .i64 x.f6, .int .i64 x.f7, .int .i64 x.f11]
    rwa [World.size_alloc] at this
  have HC0 := Lib.hid hC0
  clear hC0 HB0
  go_loopw [4] (fun i wr => ∃ j : Nat, i = .int .i64 (j : Int) ∧ j ≤ 5 ∧ (∀ q, q < j → 0 ≤ wt x q ∧ wt x q ≤ 20) ∧ ChkAt x w wr) (fun i _ => 5 - (intOf i).toNat)
  case atStart => exact ⟨0, rfl, by omega, fun q h => absurd h (by omega), HC0.out⟩
  case round =>
    obtain ⟨j, rfl, hj, hall, hC⟩ := hrel
    clear HC0
    have HAll := Lib.hid hall
    have HC := Lib.hid hC
    clear hall hC
    by_cases hlt : j < 5
    · have hcell := wt_cell HC.out hlt
      have hji : (j : Int) < 5 := by omega
      have HN := Lib.hid (not_wt (x := x) hlt)
      obtain ⟨z, hz⟩ : ∃ z, wt x j = z := ⟨_, rfl⟩
      rw [hz] at hcell HN
      have HZ := Lib.hid hz
      clear hz
      by_cases bz : (decide ((0 : Int) ≤ z) && decide (z ≤ 20)) = true
      · have hwz := within_is bz
        have HBz := Lib.hid (in_yes bz)
        clear bz
        go_wp2_with fail
        refine (hwz _).mono ?_
        rintro e w' ⟨rfl, rfl⟩
        go_wp2_with fail
        go_roundw
        case rel =>
          refine ⟨j + 1, by go_num, by omega, fun q hq => ?_, HC.out⟩
          rcases (by omega : q < j ∨ q = j) with h | rfl
          · exact HAll.out q h
          · rw [HZ.out]; exact HBz.out
        case measure => simp [intOf]; omega
      · have bz' : (decide ((0 : Int) ≤ z) && decide (z ≤ 20)) = false := by simpa using bz
        have hwz := within_is bz'
        have HM := Lib.hid (HN.out (in_no bz'))
        clear bz bz'
        go_wp2_with fail
        refine (hwz _).mono ?_
        rintro e w' ⟨rfl, rfl⟩
        go_wp2_with fail
        go_ret
        exact ⟨by rw [HM.out]; rfl, HC.out.box.2⟩
    · obtain rfl : j = 5 := by omega
      clear hlt hj
      obtain ⟨c0, c1, c2, c3, c4, c5, c6, c7, c8, c9, c10, c11, c12, c13, c14⟩ := HC.out.box.1.conf
      by_cases b8 : (decide ((1 : Int) ≤ x.f8) && decide (x.f8 ≤ 20)) = true
      rotate_left
      · have b8' : (decide ((1 : Int) ≤ x.f8) && decide (x.f8 ≤ 20)) = false := by simpa using b8
        have HM := Lib.hid (not_inB (x := x) (k := 8) (by omega) (in_no b8'))
        have hw8 := within_is b8'
        clear b8 b8'
        go_wp2_with fail
        refine (hw8 _).mono ?_
        rintro e w' ⟨rfl, rfl⟩
        clear hw8
        go_wp2_with fail
        go_ret
        exact ⟨by rw [HM.out]; rfl, HC.out.box.2⟩
      by_cases b9 : (decide ((1 : Int) ≤ x.f9) && decide (x.f9 ≤ 20)) = true
      rotate_left
      · have b9' : (decide ((1 : Int) ≤ x.f9) && decide (x.f9 ≤ 20)) = false := by simpa using b9
        have HM := Lib.hid (not_inB (x := x) (k := 9) (by omega) (in_no b9'))
        have hw8 := within_is b8
        have hw9 := within_is b9'
        clear b8 b9 b9'
        go_wp2_with fail
        refine (hw8 _).mono ?_
        rintro e w' ⟨rfl, rfl⟩
        clear hw8
        go_wp2_with fail
        refine (hw9 _).mono ?_
        rintro e w' ⟨rfl, rfl⟩
        clear hw9
        go_wp2_with fail
        go_ret
        exact ⟨by rw [HM.out]; rfl, HC.out.box.2⟩
      by_cases b10 : (decide ((1 : Int) ≤ x.f10) && decide (x.f10 ≤ 20)) = true
      rotate_left
      · have b10' : (decide ((1 : Int) ≤ x.f10) && decide (x.f10 ≤ 20)) = false := by simpa using b10
        have HM := Lib.hid (not_inB (x := x) (k := 10) (by omega) (in_no b10'))
        have hw8 := within_is b8
        have hw9 := within_is b9
        have hw10 := within_is b10'
        clear b8 b9 b10 b10'
        go_wp2_with fail
        refine (hw8 _).mono ?_
        rintro e w' ⟨rfl, rfl⟩
        clear hw8
        go_wp2_with fail
        refine (hw9 _).mono ?_
        rintro e w' ⟨rfl, rfl⟩
        clear hw9
        go_wp2_with fail
        refine (hw10 _).mono ?_
        rintro e w' ⟨rfl, rfl⟩
        clear hw10
        go_wp2_with fail
        go_ret
        exact ⟨by rw [HM.out]; rfl, HC.out.box.2⟩
      by_cases b12 : (decide ((1 : Int) ≤ x.f12) && decide (x.f12 ≤ 1099511627776)) = true
      rotate_left
      · have b12' : (decide ((1 : Int) ≤ x.f12) && decide (x.f12 ≤ 1099511627776)) = false := by simpa using b12
        have HM := Lib.hid (not_inB (x := x) (k := 12) (by omega) (in_no b12'))
        have hw8 := within_is b8
        have hw9 := within_is b9
        have hw10 := within_is b10
        have hw12 := within_is b12'
        clear b8 b9 b10 b12 b12'
        go_wp2_with fail
        refine (hw8 _).mono ?_
        rintro e w' ⟨rfl, rfl⟩
        clear hw8
        go_wp2_with fail
        refine (hw9 _).mono ?_
        rintro e w' ⟨rfl, rfl⟩
        clear hw9
        go_wp2_with fail
        refine (hw10 _).mono ?_
        rintro e w' ⟨rfl, rfl⟩
        clear hw10
        go_wp2_with fail
        refine (hw12 _).mono ?_
        rintro e w' ⟨rfl, rfl⟩
        clear hw12
        go_wp2_with fail
        go_ret
        exact ⟨by rw [HM.out]; rfl, HC.out.box.2⟩
      have hw8 := within_is b8
      have hw9 := within_is b9
      have hw10 := within_is b10
      have hw12 := within_is b12
      have HY8 := Lib.hid (in_yes b8)
      have HY9 := Lib.hid (in_yes b9)
      have HY10 := Lib.hid (in_yes b10)
      have HY12 := Lib.hid (in_yes b12)
      clear b8 b9 b10 b12
      have hall := HAll.out
      have HIn := Lib.hid (show inB x = true from inB_iff.2 ⟨⟨HY0.out, HY1.out, HY2.out, HY3.out⟩, ⟨hall 0 (by omega), hall 1 (by omega), hall 2 (by omega), hall 3 (by omega)⟩, HY8.out, HY9.out, HY10.out, hall 4 (by omega), HY12.out⟩)
      clear hall HAll HY0 HY1 HY2 HY3 HY8 HY9 HY10 HY12
      by_cases h4 : x.n ≤ 4
      rotate_left
      · have h4i : (4 : Int) < (x.n : Int) := by omega
        have HM : Hid (may x = false) := Lib.hid (may_no_marks (by unfold marksB; rw [decide_eq_false (by rw [HX.out.len]; exact h4)]; rfl))
        go_wp2_with fail
        refine (hw8 _).mono ?_
        rintro e w' ⟨rfl, rfl⟩
        clear hw8
        go_wp2_with fail
        refine (hw9 _).mono ?_
        rintro e w' ⟨rfl, rfl⟩
        clear hw9
        go_wp2_with fail
        refine (hw10 _).mono ?_
        rintro e w' ⟨rfl, rfl⟩
        clear hw10
        go_wp2_with fail
        refine (hw12 _).mono ?_
        rintro e w' ⟨rfl, rfl⟩
        clear hw12
        go_wp2_with fail
        go_ret
        exact ⟨by rw [HM.out]; rfl, HC.out.box.2⟩
      have h4i : ¬ (4 : Int) < (x.n : Int) := by omega
      go_wp2_with fail
      refine (hw8 _).mono ?_
      rintro e w' ⟨rfl, rfl⟩
      clear hw8
      go_wp2_with fail
      refine (hw9 _).mono ?_
      rintro e w' ⟨rfl, rfl⟩
      clear hw9
      go_wp2_with fail
      refine (hw10 _).mono ?_
      rintro e w' ⟨rfl, rfl⟩
      clear hw10
      go_wp2_with fail
      refine (hw12 _).mono ?_
      rintro e w' ⟨rfl, rfl⟩
      clear hw12
      go_wp2_with fail
      clear c0 c1 c2 c3 c4 c5 c6 c7 c8 c9 c10 c11 c12 c13 c14
      have HC1 := Lib.hid HC.out.box
      clear HC
      go_loopw [5] (fun i wr => ∃ (j : Nat) (last : Int) (rest : List Int), i = .int .i64 (j : Int) ∧ j ≤ x.n ∧ rest = x.ms.drop j ∧ upB 0 x.ms = upB last rest ∧ 0 ≤ last ∧ (j = 0 → last = 0) ∧ (∀ q, j = q + 1 → x.ms[q]? = some last) ∧ InBox x w wr) (fun i _ => x.n - (intOf i).toNat)
      case atStart => exact ⟨0, 0, x.ms, rfl, Nat.zero_le _, rfl, rfl, Int.le_refl _, fun _ => rfl, fun q h => absurd h (by omega), HC1.out⟩
      case round =>
        obtain ⟨j, last, rest, rfl, hj, hrest, hup, hl0, hlz, hlast, hbx⟩ := hrel
        clear HC1
        have HRs := Lib.hid hrest
        have HU := Lib.hid hup
        have HLz := Lib.hid hlz
        have HLa := Lib.hid hlast
        have HBx := Lib.hid hbx
        have HMk : Hid (marksB x.ms = upB 0 x.ms) := Lib.hid (by unfold marksB; rw [decide_eq_true (by rw [HX.out.len]; exact h4)]; rfl)
        have k14 := HBx.out.1.cell 14
        simp only [List.getElem?_toArray, List.getElem?_cons_zero, List.getElem?_cons_succ] at k14
        clear hrest hup hlz hlast hbx
        by_cases hlt : j < x.n
        · have hji : (j : Int) < (x.n : Int) := by omega
          have hjl : j < x.ms.length := by rw [HX.out.len]; exact hlt
          obtain ⟨m, hm⟩ : ∃ m, x.ms[j]? = some m := ⟨_, List.getElem?_eq_getElem hjl⟩
          have hrd := (HX.out.below HBx.out.2).rd
          obtain ⟨b, off, hA, _, hc⟩ := hrd.2 (by omega)
          have hcell := hc j hlt
          rw [show (iv x.ms)[j]? = some (.int .i64 m) by simp [iv, hm]] at hcell
          have hd : x.ms.drop j = m :: x.ms.drop (j + 1) := by
            rw [List.drop_eq_getElem_cons hjl]
            rw [List.getElem?_eq_getElem hjl] at hm
            rw [Option.some.inj hm]
          have HD := Lib.hid (HRs.out.trans hd)
          have HM0 := Lib.hid hm
          have HRd := Lib.hid hc
          rw [hA] at k14
          clear hm hd hrd hc hjl hA
          by_cases bz : (decide ((1 : Int) ≤ m) && decide (m ≤ 100)) = true
          rotate_left
          · have bz' : (decide ((1 : Int) ≤ m) && decide (m ≤ 100)) = false := by simpa using bz
            have hwz := within_is bz'
            have HMay : Hid (may x = false) := Lib.hid (may_no_marks (by
              rw [HMk.out, HU.out, HD.out]
              rcases in_no bz' with h | h
              · exact upB_last (by omega)
              · exact upB_big h))
            clear bz bz'
            go_wp2_with fail
            go_quiet ((go_at_call 67; exact (hwz _).mono (by rintro e w1 ⟨rfl, rfl⟩; exact ⟨rfl, _, rfl⟩)))
            go_wp2_with fail
            go_ret
            exact ⟨by rw [HMay.out]; rfl, below_drewN HBx.out.2 _⟩
          have hwz := within_is bz
          have HBz := Lib.hid (in_yes bz)
          clear bz
          cases j with
          | zero =>
            have hlast0 : last = 0 := HLz.out rfl
            have HQ : Hid (∀ q, 0 + 1 = q + 1 → x.ms[q]? = some m) := Lib.hid (fun q hq => by
              have e : q = 0 := by omega
              rw [e]; exact HM0.out)
            rw [Nat.add_zero] at hcell
            have h0n : (0 : Int) < (x.n : Int) := by omega
            have HUn := Lib.hid (HU.out.trans ((congrArg (upB last) HD.out).trans (upB_next (r := x.ms.drop (0 + 1)) (by have := HBz.out.1; omega) HBz.out.2)))
            go_wp2_with fail
            go_quiet ((go_at_call 67; exact (hwz _).mono (by rintro e w1 ⟨rfl, rfl⟩; exact ⟨rfl, _, rfl⟩)))
            go_wp2_with fail
            go_roundw
            case rel => exact ⟨1, m, _, by go_num, by omega, rfl, HUn.out, by have := HBz.out.1; omega, fun h => absurd h (by omega), HQ.out, ⟨HBx.out.1, below_drewN HBx.out.2 _⟩⟩
            case measure => simp [intOf]; omega
          | succ i =>
            have hli := HLa.out i rfl
            have HQ : Hid (∀ q, i + 1 + 1 = q + 1 → x.ms[q]? = some m) := Lib.hid (fun q hq => by
              have e : q = i + 1 := by omega
              rw [e]; exact HM0.out)
            have hcell2 := HRd.out i (by omega)
            rw [show (iv x.ms)[i]? = some (.int .i64 last) by simp [iv, hli]] at hcell2
            have hii : (i : Int) < (x.n : Int) := by omega
            have hwr : IntKind.i64.wrap (i : Int) = (i : Int) := by rw [IntKind.wrap_i64]; omega
            have hpos : (0 : Int) < (i : Int) + 1 := by omega
            have hI1 : (i : Int) + 1 < (x.n : Int) := by omega
            have hI0 : (0 : Int) ≤ (i : Int) + 1 := by omega
            clear hli
            by_cases hge : m ≤ last
            · have HMay : Hid (may x = false) := Lib.hid (may_no_marks (by rw [HMk.out, HU.out, HD.out]; exact upB_last hge))
              have hgd : decide (m ≤ last) = true := decide_eq_true hge
              go_wp2_with fail
              go_quiet ((go_at_call 67; exact (hwz _).mono (by rintro e w1 ⟨rfl, rfl⟩; exact ⟨rfl, _, rfl⟩)))
              go_wp2_with fail
              go_ret
              exact ⟨by rw [HMay.out]; rfl, below_drewN HBx.out.2 _⟩
            · have HUn := Lib.hid (HU.out.trans ((congrArg (upB last) HD.out).trans (upB_next (r := x.ms.drop (i + 1 + 1)) (by omega) HBz.out.2)))
              have hgd : decide (m ≤ last) = false := decide_eq_false hge
              go_wp2_with fail
              go_quiet ((go_at_call 67; exact (hwz _).mono (by rintro e w1 ⟨rfl, rfl⟩; exact ⟨rfl, _, rfl⟩)))
              go_wp2_with fail
              go_roundw
              case rel => exact ⟨i + 1 + 1, m, _, by go_num, by omega, rfl, HUn.out, by have := HBz.out.1; omega, fun h => absurd h (by omega), HQ.out, ⟨HBx.out.1, below_drewN HBx.out.2 _⟩⟩
              case measure => simp [intOf]; omega
        · have hji : ¬ (j : Int) < (x.n : Int) := by omega
          have HMy : Hid (may x = roomB x) := Lib.hid (by
            unfold may
            rw [HIn.out, HMk.out, HU.out, HRs.out, List.drop_of_length_le (by rw [HX.out.len]; omega)]
            rfl)
          obtain ⟨p0, p1, p2, p3⟩ := fl_bd HIn.out
          obtain ⟨⟨⟨a0, a1⟩, _, ⟨g0, g1⟩, _⟩, _⟩ := inB_iff.1 HIn.out
          clear p0 p1
          have HF := Lib.hid (refFloor_any x HIn.out)
          obtain ⟨c0, c1, c2, c3, c4, c5, c6, c7, c8, c9, c10, c11, c12, c13, c14⟩ := HBx.out.1.conf
          by_cases h0 : x.f0 = 0
          · have h0i : ¬ (0 : Int) < x.f0 := by omega
            have h0d : decide ((0 : Int) < x.f0) = false := decide_eq_false h0i
            have HR : Hid (may x = true) := Lib.hid (by rw [HMy.out]; unfold roomB; rw [decide_eq_true h0]; rfl)
            go_wp2_with fail
            go_quiet (fail)
            go_wp2_with fail
            go_ret
            exact ⟨by rw [HR.out]; rfl, below_drewN HBx.out.2 _⟩
          · have h0i : (0 : Int) < x.f0 := by omega
            have h0d : decide ((0 : Int) < x.f0) = true := decide_eq_true h0i
            have HR : Hid (may x = decide (1 ≤ x.f2 + x.f0 - fl x)) := Lib.hid (by rw [HMy.out]; unfold roomB; rw [decide_eq_false h0]; rfl)
            have hw1 : IntKind.i64.wrap (x.f2 + x.f0) = x.f2 + x.f0 := by rw [IntKind.wrap_i64]; omega
            have hw2 : IntKind.i64.wrap (x.f2 + x.f0 - fl x) = x.f2 + x.f0 - fl x := by rw [IntKind.wrap_i64]; omega
            have HCd : Hid (InBox x w wr.drew) := Lib.hid HBx.out.drew
            clear k14 c0 c1 c2 c3 c4 c5 c6 c7 c8 c9 c10 c11 c12 c13 c14
            by_cases hr : 1 ≤ x.f2 + x.f0 - fl x
            · have hrd : decide (x.f2 + x.f0 - fl x < 1) = false := decide_eq_false (by omega)
              have HRt := Lib.hid (HR.out.trans (decide_eq_true hr))
              obtain ⟨c0, c1, c2, c3, c4, c5, c6, c7, c8, c9, c10, c11, c12, c13, c14⟩ := HBx.out.1.conf
              go_wp2_with fail
              clear c0 c1 c2 c3 c4 c5 c6 c7 c8 c9 c10 c11 c12 c13 c14
              have HC := HCd
              have HL := Lib.hid (fun W' (hW : InBox x w W') => hW.1.conf)
              refine wp_region_held_drew (S := InBox x w) (by kernel_rfl) HC.out (fun _ => ?_)
              refine takeH (i := 0) (v := ?_) rfl (by kernel_rfl) (by kernel_rfl) (by kernel_rfl) (fun _ _ _ h => by first | exact h | exact h.elim | exact nomatch h.1) (by rfl) ?_ HC.out ?_
              rotate_left
              · intro W' hW; obtain ⟨c0, c1, c2, c3, c4, c5, c6, c7, c8, c9, c10, c11, c12, c13, c14⟩ := HL.out W' hW; go_simp <;> with_reducible rfl
              simp only [Act.put, List.setIfInBounds_toArray, List.set_cons_zero, List.set_cons_succ]
              refine takeH (i := 1) (v := ?_) rfl (by kernel_rfl) (by kernel_rfl) (by kernel_rfl) (fun _ _ _ h => by first | exact h | exact h.elim | exact nomatch h.1) (by rfl) ?_ HC.out ?_
              rotate_left
              · intro W' hW; obtain ⟨c0, c1, c2, c3, c4, c5, c6, c7, c8, c9, c10, c11, c12, c13, c14⟩ := HL.out W' hW; go_simp <;> with_reducible rfl
              simp only [Act.put, List.setIfInBounds_toArray, List.set_cons_zero, List.set_cons_succ]
              refine takeH (i := 2) (v := ?_) rfl (by kernel_rfl) (by kernel_rfl) (by kernel_rfl) (fun _ _ _ h => by first | exact h | exact h.elim | exact nomatch h.1) (by rfl) ?_ HC.out ?_
              rotate_left
              · intro W' hW; obtain ⟨c0, c1, c2, c3, c4, c5, c6, c7, c8, c9, c10, c11, c12, c13, c14⟩ := HL.out W' hW; go_simp <;> with_reducible rfl
              simp only [Act.put, List.setIfInBounds_toArray, List.set_cons_zero, List.set_cons_succ]
              refine takeH (i := 3) (v := ?_) rfl (by kernel_rfl) (by kernel_rfl) (by kernel_rfl) (fun _ _ _ h => by first | exact h | exact h.elim | exact nomatch h.1) (by rfl) ?_ HC.out ?_
              rotate_left
              · intro W' hW; obtain ⟨c0, c1, c2, c3, c4, c5, c6, c7, c8, c9, c10, c11, c12, c13, c14⟩ := HL.out W' hW; go_simp <;> with_reducible rfl
              simp only [Act.put, List.setIfInBounds_toArray, List.set_cons_zero, List.set_cons_succ]
              refine takeH (i := 4) (v := ?_) rfl (by kernel_rfl) (by kernel_rfl) (by kernel_rfl) (fun _ _ _ h => by first | exact h | exact h.elim | exact nomatch h.1) (by rfl) ?_ HC.out ?_
              rotate_left
              · intro W' hW; obtain ⟨c0, c1, c2, c3, c4, c5, c6, c7, c8, c9, c10, c11, c12, c13, c14⟩ := HL.out W' hW; go_simp <;> with_reducible rfl
              simp only [Act.put, List.setIfInBounds_toArray, List.set_cons_zero, List.set_cons_succ]
              refine takeH (i := 5) (v := ?_) rfl (by kernel_rfl) (by kernel_rfl) (by kernel_rfl) (fun _ _ _ h => by first | exact h | exact h.elim | exact nomatch h.1) (by rfl) ?_ HC.out ?_
              rotate_left
              · intro W' hW; obtain ⟨c0, c1, c2, c3, c4, c5, c6, c7, c8, c9, c10, c11, c12, c13, c14⟩ := HL.out W' hW; go_simp <;> with_reducible rfl
              simp only [Act.put, List.setIfInBounds_toArray, List.set_cons_zero, List.set_cons_succ]
              refine takeH (i := 6) (v := ?_) rfl (by kernel_rfl) (by kernel_rfl) (by kernel_rfl) (fun _ _ _ h => by first | exact h | exact h.elim | exact nomatch h.1) (by rfl) ?_ HC.out ?_
              rotate_left
              · intro W' hW; obtain ⟨c0, c1, c2, c3, c4, c5, c6, c7, c8, c9, c10, c11, c12, c13, c14⟩ := HL.out W' hW; go_simp <;> with_reducible rfl
              simp only [Act.put, List.setIfInBounds_toArray, List.set_cons_zero, List.set_cons_succ]
              refine takeH (i := 7) (v := ?_) rfl (by kernel_rfl) (by kernel_rfl) (by kernel_rfl) (fun _ _ _ h => by first | exact h | exact h.elim | exact nomatch h.1) (by rfl) ?_ HC.out ?_
              rotate_left
              · intro W' hW; obtain ⟨c0, c1, c2, c3, c4, c5, c6, c7, c8, c9, c10, c11, c12, c13, c14⟩ := HL.out W' hW; go_simp <;> with_reducible rfl
              simp only [Act.put, List.setIfInBounds_toArray, List.set_cons_zero, List.set_cons_succ]
              refine takeH (i := 8) (v := ?_) rfl (by kernel_rfl) (by kernel_rfl) (by kernel_rfl) (fun _ _ _ h => by first | exact h | exact h.elim | exact nomatch h.1) (by rfl) ?_ HC.out ?_
              rotate_left
              · intro W' hW; obtain ⟨c0, c1, c2, c3, c4, c5, c6, c7, c8, c9, c10, c11, c12, c13, c14⟩ := HL.out W' hW; go_simp <;> with_reducible rfl
              simp only [Act.put, List.setIfInBounds_toArray, List.set_cons_zero, List.set_cons_succ]
              refine takeH (i := 9) (v := ?_) rfl (by kernel_rfl) (by kernel_rfl) (by kernel_rfl) (fun _ _ _ h => by first | exact h | exact h.elim | exact nomatch h.1) (by rfl) ?_ HC.out ?_
              rotate_left
              · intro W' hW; obtain ⟨c0, c1, c2, c3, c4, c5, c6, c7, c8, c9, c10, c11, c12, c13, c14⟩ := HL.out W' hW; go_simp <;> with_reducible rfl
              simp only [Act.put, List.setIfInBounds_toArray, List.set_cons_zero, List.set_cons_succ]
              refine oneH (i := 10) rfl (by kernel_rfl) (by rfl) (fun K hK => ?_)
              go_simp
              go_at_call 68
              refine (HF.out _).mono ?_
              rintro e w1 ⟨rfl, b1⟩
              have HC2 := Lib.hid (HC.out.under b1)
              clear HC
              have HC := HC2
              clear HC2 b1
              refine hK.out _ _ HC.out (fun _ => ?_)
              clear hK K
              refine takeH (i := 11) (v := ?_) rfl (by kernel_rfl) (by kernel_rfl) (by kernel_rfl) (fun _ _ _ h => by first | exact h | exact h.elim | exact nomatch h.1) (by rfl) ?_ HC.out ?_
              rotate_left
              · intro W' hW; obtain ⟨c0, c1, c2, c3, c4, c5, c6, c7, c8, c9, c10, c11, c12, c13, c14⟩ := HL.out W' hW; go_simp <;> with_reducible rfl
              simp only [Act.put, List.setIfInBounds_toArray, List.set_cons_zero, List.set_cons_succ]
              refine takeH (i := 12) (v := ?_) rfl (by kernel_rfl) (by kernel_rfl) (by kernel_rfl) (fun _ _ _ h => by first | exact h | exact h.elim | exact nomatch h.1) (by rfl) ?_ HC.out ?_
              rotate_left
              · intro W' hW; obtain ⟨c0, c1, c2, c3, c4, c5, c6, c7, c8, c9, c10, c11, c12, c13, c14⟩ := HL.out W' hW; go_simp <;> with_reducible rfl
              simp only [Act.put, List.setIfInBounds_toArray, List.set_cons_zero, List.set_cons_succ]
              refine takeH (i := 13) (v := ?_) rfl (by kernel_rfl) (by kernel_rfl) (by kernel_rfl) (fun _ _ _ h => by first | exact h | exact h.elim | exact nomatch h.1) (by rfl) ?_ HC.out ?_
              rotate_left
              · intro W' hW; obtain ⟨c0, c1, c2, c3, c4, c5, c6, c7, c8, c9, c10, c11, c12, c13, c14⟩ := HL.out W' hW; go_simp <;> with_reducible rfl
              simp only [Act.put, List.setIfInBounds_toArray, List.set_cons_zero, List.set_cons_succ]
              refine wpAnyH_done (by kernel_rfl) ?_ _
              go_wp2_with fail
              go_ret
              exact ⟨by rw [HRt.out]; rfl, HC.out.2⟩
            · have hrd : decide (x.f2 + x.f0 - fl x < 1) = true := decide_eq_true (by omega)
              have HRt := Lib.hid (HR.out.trans (decide_eq_false hr))
              obtain ⟨c0, c1, c2, c3, c4, c5, c6, c7, c8, c9, c10, c11, c12, c13, c14⟩ := HBx.out.1.conf
              go_wp2_with fail
              clear c0 c1 c2 c3 c4 c5 c6 c7 c8 c9 c10 c11 c12 c13 c14
              have HC := HCd
              have HL := Lib.hid (fun W' (hW : InBox x w W') => hW.1.conf)
              refine wp_region_held_drew (S := InBox x w) (by kernel_rfl) HC.out (fun _ => ?_)
              refine takeH (i := 0) (v := ?_) rfl (by kernel_rfl) (by kernel_rfl) (by kernel_rfl) (fun _ _ _ h => by first | exact h | exact h.elim | exact nomatch h.1) (by rfl) ?_ HC.out ?_
              rotate_left
              · intro W' hW; obtain ⟨c0, c1, c2, c3, c4, c5, c6, c7, c8, c9, c10, c11, c12, c13, c14⟩ := HL.out W' hW; go_simp <;> with_reducible rfl
              simp only [Act.put, List.setIfInBounds_toArray, List.set_cons_zero, List.set_cons_succ]
              refine takeH (i := 1) (v := ?_) rfl (by kernel_rfl) (by kernel_rfl) (by kernel_rfl) (fun _ _ _ h => by first | exact h | exact h.elim | exact nomatch h.1) (by rfl) ?_ HC.out ?_
              rotate_left
              · intro W' hW; obtain ⟨c0, c1, c2, c3, c4, c5, c6, c7, c8, c9, c10, c11, c12, c13, c14⟩ := HL.out W' hW; go_simp <;> with_reducible rfl
              simp only [Act.put, List.setIfInBounds_toArray, List.set_cons_zero, List.set_cons_succ]
              refine takeH (i := 2) (v := ?_) rfl (by kernel_rfl) (by kernel_rfl) (by kernel_rfl) (fun _ _ _ h => by first | exact h | exact h.elim | exact nomatch h.1) (by rfl) ?_ HC.out ?_
              rotate_left
              · intro W' hW; obtain ⟨c0, c1, c2, c3, c4, c5, c6, c7, c8, c9, c10, c11, c12, c13, c14⟩ := HL.out W' hW; go_simp <;> with_reducible rfl
              simp only [Act.put, List.setIfInBounds_toArray, List.set_cons_zero, List.set_cons_succ]
              refine takeH (i := 3) (v := ?_) rfl (by kernel_rfl) (by kernel_rfl) (by kernel_rfl) (fun _ _ _ h => by first | exact h | exact h.elim | exact nomatch h.1) (by rfl) ?_ HC.out ?_
              rotate_left
              · intro W' hW; obtain ⟨c0, c1, c2, c3, c4, c5, c6, c7, c8, c9, c10, c11, c12, c13, c14⟩ := HL.out W' hW; go_simp <;> with_reducible rfl
              simp only [Act.put, List.setIfInBounds_toArray, List.set_cons_zero, List.set_cons_succ]
              refine takeH (i := 4) (v := ?_) rfl (by kernel_rfl) (by kernel_rfl) (by kernel_rfl) (fun _ _ _ h => by first | exact h | exact h.elim | exact nomatch h.1) (by rfl) ?_ HC.out ?_
              rotate_left
              · intro W' hW; obtain ⟨c0, c1, c2, c3, c4, c5, c6, c7, c8, c9, c10, c11, c12, c13, c14⟩ := HL.out W' hW; go_simp <;> with_reducible rfl
              simp only [Act.put, List.setIfInBounds_toArray, List.set_cons_zero, List.set_cons_succ]
              refine takeH (i := 5) (v := ?_) rfl (by kernel_rfl) (by kernel_rfl) (by kernel_rfl) (fun _ _ _ h => by first | exact h | exact h.elim | exact nomatch h.1) (by rfl) ?_ HC.out ?_
              rotate_left
              · intro W' hW; obtain ⟨c0, c1, c2, c3, c4, c5, c6, c7, c8, c9, c10, c11, c12, c13, c14⟩ := HL.out W' hW; go_simp <;> with_reducible rfl
              simp only [Act.put, List.setIfInBounds_toArray, List.set_cons_zero, List.set_cons_succ]
              refine takeH (i := 6) (v := ?_) rfl (by kernel_rfl) (by kernel_rfl) (by kernel_rfl) (fun _ _ _ h => by first | exact h | exact h.elim | exact nomatch h.1) (by rfl) ?_ HC.out ?_
              rotate_left
              · intro W' hW; obtain ⟨c0, c1, c2, c3, c4, c5, c6, c7, c8, c9, c10, c11, c12, c13, c14⟩ := HL.out W' hW; go_simp <;> with_reducible rfl
              simp only [Act.put, List.setIfInBounds_toArray, List.set_cons_zero, List.set_cons_succ]
              refine takeH (i := 7) (v := ?_) rfl (by kernel_rfl) (by kernel_rfl) (by kernel_rfl) (fun _ _ _ h => by first | exact h | exact h.elim | exact nomatch h.1) (by rfl) ?_ HC.out ?_
              rotate_left
              · intro W' hW; obtain ⟨c0, c1, c2, c3, c4, c5, c6, c7, c8, c9, c10, c11, c12, c13, c14⟩ := HL.out W' hW; go_simp <;> with_reducible rfl
              simp only [Act.put, List.setIfInBounds_toArray, List.set_cons_zero, List.set_cons_succ]
              refine takeH (i := 8) (v := ?_) rfl (by kernel_rfl) (by kernel_rfl) (by kernel_rfl) (fun _ _ _ h => by first | exact h | exact h.elim | exact nomatch h.1) (by rfl) ?_ HC.out ?_
              rotate_left
              · intro W' hW; obtain ⟨c0, c1, c2, c3, c4, c5, c6, c7, c8, c9, c10, c11, c12, c13, c14⟩ := HL.out W' hW; go_simp <;> with_reducible rfl
              simp only [Act.put, List.setIfInBounds_toArray, List.set_cons_zero, List.set_cons_succ]
              refine takeH (i := 9) (v := ?_) rfl (by kernel_rfl) (by kernel_rfl) (by kernel_rfl) (fun _ _ _ h => by first | exact h | exact h.elim | exact nomatch h.1) (by rfl) ?_ HC.out ?_
              rotate_left
              · intro W' hW; obtain ⟨c0, c1, c2, c3, c4, c5, c6, c7, c8, c9, c10, c11, c12, c13, c14⟩ := HL.out W' hW; go_simp <;> with_reducible rfl
              simp only [Act.put, List.setIfInBounds_toArray, List.set_cons_zero, List.set_cons_succ]
              refine oneH (i := 10) rfl (by kernel_rfl) (by rfl) (fun K hK => ?_)
              go_simp
              go_at_call 68
              refine (HF.out _).mono ?_
              rintro e w1 ⟨rfl, b1⟩
              have HC2 := Lib.hid (HC.out.under b1)
              clear HC
              have HC := HC2
              clear HC2 b1
              refine hK.out _ _ HC.out (fun _ => ?_)
              clear hK K
              refine takeH (i := 11) (v := ?_) rfl (by kernel_rfl) (by kernel_rfl) (by kernel_rfl) (fun _ _ _ h => by first | exact h | exact h.elim | exact nomatch h.1) (by rfl) ?_ HC.out ?_
              rotate_left
              · intro W' hW; obtain ⟨c0, c1, c2, c3, c4, c5, c6, c7, c8, c9, c10, c11, c12, c13, c14⟩ := HL.out W' hW; go_simp <;> with_reducible rfl
              simp only [Act.put, List.setIfInBounds_toArray, List.set_cons_zero, List.set_cons_succ]
              refine takeH (i := 12) (v := ?_) rfl (by kernel_rfl) (by kernel_rfl) (by kernel_rfl) (fun _ _ _ h => by first | exact h | exact h.elim | exact nomatch h.1) (by rfl) ?_ HC.out ?_
              rotate_left
              · intro W' hW; obtain ⟨c0, c1, c2, c3, c4, c5, c6, c7, c8, c9, c10, c11, c12, c13, c14⟩ := HL.out W' hW; go_simp <;> with_reducible rfl
              simp only [Act.put, List.setIfInBounds_toArray, List.set_cons_zero, List.set_cons_succ]
              refine takeH (i := 13) (v := ?_) rfl (by kernel_rfl) (by kernel_rfl) (by kernel_rfl) (fun _ _ _ h => by first | exact h | exact h.elim | exact nomatch h.1) (by rfl) ?_ HC.out ?_
              rotate_left
              · intro W' hW; obtain ⟨c0, c1, c2, c3, c4, c5, c6, c7, c8, c9, c10, c11, c12, c13, c14⟩ := HL.out W' hW; go_simp <;> with_reducible rfl
              simp only [Act.put, List.setIfInBounds_toArray, List.set_cons_zero, List.set_cons_succ]
              refine wpAnyH_done (by kernel_rfl) ?_ _
              go_wp2_with fail
              go_ret
              exact ⟨by rw [HRt.out]; rfl, HC.out.2⟩

set_option maxRecDepth 100000 in
/-- Which groups may be. -/
theorem refCheck_any (x : Cf) (B : Nat) (w : World) (hx : Lies x w B) (hB : B ≤ w.heap.size) (hn : x.n ≤ 1000) : Calls Tryz.prog 48 #[x.v] w (IntPost (er (may x)) w) := by
  have no : ∀ k, k < 13 → (decide (loB k ≤ x.at k) && decide (x.at k ≤ hiB k)) = false → may x = false := fun k hk h => not_inB hk (in_no h)
  by_cases b0 : (decide ((0 : Int) ≤ x.f0) && decide (x.f0 ≤ 6)) = true
  · by_cases b1 : (decide ((0 : Int) ≤ x.f1) && decide (x.f1 ≤ 100)) = true
    · by_cases b2 : (decide ((0 : Int) ≤ x.f2) && decide (x.f2 ≤ 3)) = true
      · by_cases b3 : (decide ((0 : Int) ≤ x.f3) && decide (x.f3 ≤ 3)) = true
        · exact refCheck_on x w (hx.more hB) hn b0 b1 b2 b3
        · have b := Bool.eq_false_iff.2 b3
          rw [no 3 (by omega) b]
          exact refCheck_no3 x w b0 b1 b2 b
      · have b := Bool.eq_false_iff.2 b2
        rw [no 2 (by omega) b]
        exact refCheck_no2 x w b0 b1 b
    · have b := Bool.eq_false_iff.2 b1
      rw [no 1 (by omega) b]
      exact refCheck_no1 x w b0 b
  · have b := Bool.eq_false_iff.2 b0
    rw [no 0 (by omega) b]
    exact refCheck_no0 x w b

end Go.Proofs.YtdaimejlcfhfiaaGreatDoor

/-
  The walks of 'Floor', 'Bound', 'Row', 'Same' of the document's own answer (layer 7). Conditions: those that each theorem names.
-/
namespace Go.Proofs.YtdaimejlcfhfiaaGreatDoor
open Go.RowKit Go.Shelf

/-- The literal of the numbers and Skip. -/
def row14 (x : Cf) (s : Int) : Array Value := #[.int .i64 x.f0, .int .i64 x.f1, .int .i64 x.f2, .int .i64 x.f3, .int .i64 x.f4, .int .i64 x.f5, .int .i64 x.f6, .int .i64 x.f7, .int .i64 x.f8, .int .i64 x.f9, .int .i64 x.f10, .int .i64 x.f11, .int .i64 x.f12, .int .i64 s]
set_option maxRecDepth 100000 in
theorem row14_app (x : Cf) (w W : World) (s : Int) (hn : x.n ≤ 1000) (hx : Lies x W w.heap.size) (hb : Below w.heap.size w W) :
    ∃ A c W3, (Builtin.append_ #[22, 22] 22 #[.slice (some ⟨W.heap.size, 0, none⟩) 14 14, .slice x.A x.n x.c]).run Tryz.prog (W.alloc (.cells (row14 x s) 3)) = .ok (.slice A (14 + x.n) c) W3 ∧
      W3.ownsRow w.heap.size 3 1 (.slice A (14 + x.n) c) (14 + x.n) (iv (x.fs ++ s :: x.ms)) ∧ Below w.heap.size w W3 := by
  have hb1 : Below w.heap.size w (W.alloc (.cells (row14 x s) 3)) := hb.alloc hb.size _
  have hown : (W.alloc (.cells (row14 x s) 3)).ownsRow w.heap.size 3 1 (.slice (some ⟨W.heap.size, 0, none⟩) 14 14) 14 (iv (x.fs ++ [s])) :=
    ⟨by simp [iv, Cf.fs], .inr ⟨W.heap.size, 14, row14 x s, rfl, hb.size, heap_alloc_new W _, by omega, by unfold maxLen; omega, rfl, rfl⟩⟩
  obtain ⟨v, W3, r, o3, g⟩ := run_appI _ w.heap.size _ 14 _ hown w.heap.size x.A x.n x.c x.ms (hx.on hb.size ((Below.refl _ W).alloc (Nat.le_refl _) _)).rd (by omega) hb1.size
  obtain ⟨A, c, rfl⟩ := own_form o3
  refine ⟨A, c, W3, r, ?_, hb1.trans (below_row hown g hb1.size)⟩
  have e : iv (x.fs ++ [s]) ++ iv x.ms = iv (x.fs ++ s :: x.ms) := by simp [iv]
  rw [← e]
  exact o3

set_option maxRecDepth 100000 in
set_option maxHeartbeats 2000000 in
theorem refRow_any (x : Cf) (w : World) (h : Lies x w w.heap.size) (hn : x.n ≤ 1000) : Calls Tryz.prog 52 #[x.v] w (RowIs x w) := by
  have hb : Below w.heap.size w (w.alloc (.cells x.cells 24)) := (Below.refl _ w).alloc (Nat.le_refl _) _
  have HR := Lib.hid (refCheck_any x w.heap.size _ (h.below hb) hb.size hn)
  have HB := Lib.hid hb
  have HX := Lib.hid (InBox.new x w)
  have HLi := Lib.hid h
  clear h hb
  by_cases hm : may x = true
  · rw [hm] at HR
    have HM := Lib.hid hm
    have he : er true = 0 := rfl
    rw [he] at HR
    clear hm he
    go_enter Tryz.func52, Tryz.ntmps52
    go_wp2_with fail
    refine (HR.out).mono ?_
    rintro e w1 ⟨rfl, b1⟩
    have HX1 := Lib.hid (HX.out.under b1)
    clear b1 HR HX HB
    obtain ⟨c0, c1, c2, c3, c4, c5, c6, c7, c8, c9, c10, c11, c12, c13, c14⟩ := HX1.out.1.conf
    have hs1 : w.heap.size ≠ w1.heap.size := by have := HX1.out.1.lt; omega
    by_cases hs : x.sk = true
    · rw [hs] at c13
      have HE : Hid (rowOf x = x.fs ++ 1 :: x.ms) := Lib.hid (by unfold rowOf; rw [hs]; rfl)
      obtain ⟨A, c, W3, hrun, o3, b3⟩ := row14_app x w w1 1 hn (HLi.out.below HX1.out.2) HX1.out.2
      have HRun := Lib.hid hrun
      have HO := Lib.hid o3
      have HB3 := Lib.hid b3
      have hcm : (w1.alloc (.cells (row14 x 1) 3)).cell? ⟨w.heap.size, 14, none⟩ = some (.slice x.A x.n x.c) := (HX1.out.1.alloc _).cell 14
      unfold row14 at HRun hcm
      clear hrun o3 b3 hs
      go_wp2_with (at_builtin; refine wpList_app (by rfl) _ _ _ rfl _ _ _ _ rfl rfl HRun.out ?_; clear HRun)
      go_ret2
      exact ⟨A, _, c, by rw [HM.out]; rfl, by rw [if_pos HM.out, HE.out]; exact HO.out, HB3.out⟩
    · have hs' : x.sk = false := by simpa using hs
      rw [hs'] at c13
      have HE : Hid (rowOf x = x.fs ++ 0 :: x.ms) := Lib.hid (by unfold rowOf; rw [hs']; rfl)
      obtain ⟨A, c, W3, hrun, o3, b3⟩ := row14_app x w w1 0 hn (HLi.out.below HX1.out.2) HX1.out.2
      have HRun := Lib.hid hrun
      have HO := Lib.hid o3
      have HB3 := Lib.hid b3
      have hcm : (w1.alloc (.cells (row14 x 0) 3)).cell? ⟨w.heap.size, 14, none⟩ = some (.slice x.A x.n x.c) := (HX1.out.1.alloc _).cell 14
      unfold row14 at HRun hcm
      clear hrun o3 b3 hs hs'
      go_wp2_with (at_builtin; refine wpList_app (by rfl) _ _ _ rfl _ _ _ _ rfl rfl HRun.out ?_; clear HRun)
      go_ret2
      exact ⟨A, _, c, by rw [HM.out]; rfl, by rw [if_pos HM.out, HE.out]; exact HO.out, HB3.out⟩
  · have hm : may x = false := by simpa using hm
    rw [hm] at HR
    have HM := Lib.hid hm
    have he : er false = 70 := rfl
    rw [he] at HR
    clear hm he
    go_enter Tryz.func52, Tryz.ntmps52
    go_wp2_with fail
    refine (HR.out).mono ?_
    rintro e w1 ⟨rfl, b1⟩
    have HB1 := Lib.hid (HB.out.trans (b1.mono HB.out.size))
    clear b1 HR
    go_wp2_with fail
    go_ret2
    refine ⟨none, 0, 0, by rw [HM.out]; rfl, ?_, HB1.out⟩
    rw [HM.out]
    exact World.ownsRow_nil _ _ _ _

end Go.Proofs.YtdaimejlcfhfiaaGreatDoor

/-
  A region that draws its order, whose operations but the last one lay new memory at most: what each yields stands, whatever the order; the last one waits for all. Conditions: those that each theorem names.
-/
namespace Go.Proofs.YtdaimejlcfhfiaaGreatDoor
open Go.RowKit Go.Shelf

section
variable {P : Program} {ops : Array Oper} {Q : Exit → Act → World → Prop}
def dstAt (ops : Array Oper) (i : Nat) : Option Tmp := (ops[i]?).bind (·.dst)
/-- Each but the last one has no guard and yields into a slot of its own, one of ds. -/
def growOk (ops : Array Oper) (n : Nat) (ds : List Nat) : Bool :=
  ((List.range n).all fun i => match dstAt ops i with
    | some d => ds.contains d && (List.range n).all fun j => i == j || dstAt ops j != some d
    | none => false) &&
  (((List.range (n + 1)).all fun i => match ops[i]? with
    | some o => o.guard.isNone
    | none => false) &&
  ((match ops[n]? with
    | some o => o.dst.isNone && (List.range n).all fun j => o.after.any fun e => Region.binds .any e && e.on == j
    | none => false) && ops.size == n + 1))
def waits (o : Oper) (j : Nat) : Bool := o.after.any fun e => Region.binds .any e && e.on == j

theorem region_grow {id : Nat} {a0 : Act} {W : World} (hm : P.follows .mixedOrders = true) (hl : lowOnly ops = true) (n : Nat) (ds : List Nat) (hk : growOk ops n ds = true) (hds : ∀ d ∈ ds, d < a0.tmps.size)
    (R : Nat → Value → World → Prop) (hR : ∀ i v w w', Below w.heap.size w w' → R i v w → R i v w')
    (step : ∀ i o d a w, i < n → ops[i]? = some o → o.dst = some d → Agree ds a0 a → Below W.heap.size W w → (∀ j d', waits o j = true → dstAt ops j = some d' → R j (a.eval (.tmp d')) w) → ∀ K : Act → World → Prop, (∀ v w', Below w.heap.size w w' → R i v w' → K (a.put (some d) v) w') → o.wp P a w K Q)
    (last : ∀ o a w, ops[n]? = some o → Agree ds a0 a → Below W.heap.size W w → (∀ i d, i < n → dstAt ops i = some d → R i (a.eval (.tmp d)) w) → ∀ K : Act → World → Prop, (∀ a' w', Q .normal a' w' → K a' w') → o.wp P a w K Q) : (Code.region id ops true).wp P Q a0 W := by
  unfold growOk at hk
  simp only [Bool.and_eq_true, List.all_eq_true, List.mem_range, beq_iff_eq] at hk
  obtain ⟨h1, h2, h3, hsz⟩ := hk
  have hd : ∀ i, i < n → ∃ d, dstAt ops i = some d ∧ d ∈ ds ∧ ∀ j, j < n → j ≠ i → dstAt ops j ≠ some d := by
    intro i hi
    have := h1 i hi
    split at this
    · rename_i d e
      simp only [Bool.and_eq_true, List.all_eq_true, List.mem_range, Bool.or_eq_true, beq_iff_eq, bne_iff_ne] at this
      refine ⟨d, e, by simpa using this.1, fun j hj hne => ?_⟩
      rcases this.2 j hj with h | h
      · exact absurd h.symm hne
      · exact h
    · cases this
  have hgd : ∀ (i : Nat) (o : Oper), ops[i]? = some o → o.guard = none := by
    intro i o ho
    have hlt := (Array.getElem?_eq_some_iff.1 ho).1
    have := h2 i (by omega)
    rw [ho] at this
    simpa using this
  obtain ⟨ol, hol⟩ : ∃ o : Oper, ops[n]? = some o := ⟨_, Array.getElem?_eq_getElem (by omega)⟩
  rw [hol] at h3
  simp only [Bool.and_eq_true, List.all_eq_true, List.mem_range] at h3
  have run : ∀ {i : Nat} {o : Oper} {K : Act → World → Prop} {a : Act} {w : World}, ops[i]? = some o → o.wp P a w K Q → wpOp P ops Q i K a w := by
    intro i o K a w ho h
    unfold wpOp
    rw [ho]
    dsimp only
    rw [if_pos (by unfold Region.wanted; rw [hgd i o ho])]
    exact .inl h
  refine region_clo hm hl (fun L a w => (L n = true → Q .normal a w) ∧ (L n = false → Agree ds a0 a ∧ Below W.heap.size W w ∧ ∀ i d, i < n → L i = true → dstAt ops i = some d → R i (a.eval (.tmp d)) w)) ⟨fun h => (by cases h), fun _ => ⟨Agree.refl _ _, ⟨rfl, rfl, rfl, Nat.le_refl _, fun _ _ => rfl⟩, fun _ _ _ h => (by cases h)⟩⟩ ?_ (fun L a w hall h => h.1 (hall n (by omega)))
  intro i o L a w ho hi hclo hall h
  have hlt : i < n + 1 := by have := (Array.getElem?_eq_some_iff.1 ho).1; omega
  have hLn : L n = false ∨ L n = true := by cases L n <;> simp
  rcases Nat.lt_or_ge i n with hin | hin
  · have hn0 : L n = false := by
      rcases hLn with h0 | h0
      · exact h0
      · have h4 := h3.2 i hin
        rw [Array.any_eq_true'] at h4
        obtain ⟨e, he, h5⟩ := h4
        simp only [Bool.and_eq_true, beq_iff_eq] at h5
        have := hclo n ol hol h0 e he h5.1
        rw [h5.2, hi] at this
        cases this
    obtain ⟨hag, hbel, hgot⟩ := h.2 hn0
    obtain ⟨d, hdi, hdm, hdne⟩ := hd i hin
    have hdo : o.dst = some d := by unfold dstAt at hdi; rw [ho] at hdi; exact hdi
    refine run ho (step i o d a w hin ho hdo hag hbel (fun j d' hw hj => ?_) _ (fun v w' hb hv => ⟨fun h0 => ?_, fun _ => ⟨hag.put hdm v, hbel.trans (hb.mono hbel.size), fun j d' hj hLj hdj => ?_⟩⟩))
    · unfold waits at hw
      rw [Array.any_eq_true'] at hw
      obtain ⟨e, he, h5⟩ := hw
      simp only [Bool.and_eq_true, beq_iff_eq] at h5
      have h6 := hall e he h5.1
      rw [h5.2] at h6
      have h7 := lowOnly_at hl ho e he h5.1
      exact hgot j d' (by omega) h6 hj
    · replace h0 : (if n = i then true else L n) = true := h0
      rw [if_neg (by omega)] at h0
      rw [hn0] at h0; cases h0
    · by_cases hji : j = i
      · subst hji
        rw [hdi] at hdj
        cases hdj
        rw [eval_new (by rw [hag.size]; exact hds d hdm)]
        exact hv
      · replace hLj : (if j = i then true else L j) = true := hLj
        rw [if_neg hji] at hLj
        rw [eval_old (fun e => hdne j hj hji (by rw [hdj, e]))]
        exact hR j _ _ _ hb (hgot j d' hj hLj hdj)
  · have hin' : i = n := by omega
    subst hin'
    obtain ⟨hag, hbel, hgot⟩ := h.2 hi
    rw [hol] at ho
    cases ho
    refine run hol (last ol a w hol hag hbel (fun j d hj hdj => hgot j d hj ?_ hdj) _ (fun a' w' hq => ⟨fun _ => hq, fun h0 => (by simp at h0)⟩))
    have h4 := h3.2 j hj
    rw [Array.any_eq_true'] at h4
    obtain ⟨e, he, h5⟩ := h4
    simp only [Bool.and_eq_true, beq_iff_eq] at h5
    have := hall e he h5.1
    rw [h5.2] at this
    exact this
end

end Go.Proofs.YtdaimejlcfhfiaaGreatDoor

/-
  What the statements over brains share: records, a group's record, what is too great. Conditions: those that each theorem names.
-/
namespace Go.Proofs.YtdaimejlcfhfiaaGreatDoor
open Go.RowKit Go.Shelf

/-- A record that reads; a row of numbers that reads. -/
def RecIs (k : Nat) (zs : List Int) (v : Value) (w : World) : Prop :=
  ∃ A c, v = .agg #[.int .u8 (k : Int), .slice A zs.length c] ∧ Rd w w.heap.size A zs.length (iv zs) ∧ zs.length ≤ c ∧ c ≤ maxLen
def SlIs (zs : List Int) (v : Value) (w : World) : Prop :=
  ∃ A c, v = .slice A zs.length c ∧ Rd w w.heap.size A zs.length (iv zs) ∧ zs.length ≤ c ∧ c ≤ maxLen
theorem RecIs.under {k : Nat} {zs : List Int} {v : Value} {w w' : World} (hb : Below w.heap.size w w') (h : RecIs k zs v w) : RecIs k zs v w' := by
  obtain ⟨A, c, h1, h2, h3⟩ := h
  exact ⟨A, c, h1, (h2.below hb).more hb.size, h3⟩
theorem SlIs.under {zs : List Int} {v : Value} {w w' : World} (hb : Below w.heap.size w w') (h : SlIs zs v w) : SlIs zs v w' := by
  obtain ⟨A, c, h1, h2, h3⟩ := h
  exact ⟨A, c, h1, (h2.below hb).more hb.size, h3⟩

set_option maxRecDepth 100000 in
set_option maxHeartbeats 400000 in
theorem rec_any (k : Nat) (A : Option Addr) (n c : Nat) (w : World) : Calls Tryz.prog 27 #[.int .u8 (k : Int), .slice A n c] w fun e w' => e = .returned (.agg #[.int .u8 (k : Int), .slice A n c]) ∧ Below w.heap.size w w' := by
  go_enter Tryz.func27, Tryz.ntmps27
  go_wp2_with fail
  refine bodyPost_ret (v := .agg #[.int .u8 (k : Int), .slice A n c]) (by simp [results, Tryz.results27, go_sem]) rfl ⟨rfl, ?_⟩
  exact (Below.refl _ w).alloc (Nat.le_refl _) _

theorem own_maxB {w : World} {base n c : Nat} {A : Option Addr} {e : TypeId} {size : Nat} {xs : List Value} (h : w.ownsRow base e size (.slice A n c) n xs) : c ≤ maxLen := by
  rcases h.2 with ⟨h1, h2⟩ | ⟨g, cap, cur, h1, _, _, _, h3, _⟩
  · injection h1 with _ _ h4
    subst h4
    exact Nat.zero_le _
  · injection h1 with _ _ h4
    subst h4
    exact h3
/-- The group of the statements' own. -/
def gC : Cf := ⟨2, 50, 1, 0, 0, 0, 0, 0, 3, 2, 2, 0, 4, false, none, 0, 0, []⟩
def gZ : List Int := [2, 50, 1, 0, 0, 0, 0, 0, 3, 2, 2, 0, 4, 0]
theorem gC_row : (if may gC = true then rowOf gC else []) = gZ := by kernel_rfl
set_option maxRecDepth 100000 in
set_option maxHeartbeats 1000000 in
theorem group_any (w : World) : Calls Tryz.prog 28 #[] w fun e w' => ∃ v, e = .returned v ∧ RecIs 2 gZ v w' ∧ Below w.heap.size w w' := by
  obtain ⟨V, hV⟩ : ∃ V, w.alloc (.cells #[.int .u8 0, .slice none 0 0] 32) = V := ⟨_, rfl⟩
  have hw : Whole V w.heap.size 32 #[.int .u8 0, .slice none 0 0] := by rw [← hV]; exact Whole.new _ _ _
  have hb : Below w.heap.size w V := by rw [← hV]; exact (Below.refl _ _).alloc (Nat.le_refl _) _
  have HW := Lib.hid hw
  have HB := Lib.hid hb
  have HV := Lib.hid hV
  have HR := Lib.hid (refRow_any gC V ⟨Rd.nil_ _ _ _, Nat.le_refl _, Nat.zero_le _⟩ (by decide))
  clear hw hb hV
  go_enter Tryz.func28, Tryz.ntmps28
  go_upto_region 1 with fail
  rw [HV.out]
  go_wp2_with fail
  refine HR.out.mono ?_
  rintro e w1 ⟨A, n, c, rfl, ho, b1⟩
  rw [gC_row] at ho
  have hn : n = 14 := by have := ho.1; simp [gZ, iv] at this; omega
  subst hn
  have hc := own_cap ho
  have hmx := own_maxB ho
  have he : er (may gC) = 0 := by kernel_rfl
  rw [he]
  have HW1 := Lib.hid (HW.out.under b1)
  have HO := Lib.hid ho
  have HB1 := Lib.hid (HB.out.trans (b1.mono HB.out.size))
  have HL := Lib.hid (show w.heap.size < V.heap.size from HW.out.lt)
  have k0 := HW1.out.cell 0
  have k1 := HW1.out.cell 1
  have f0 := HW1.out.frozen 0
  have f1 := HW1.out.frozen 1
  simp only [List.getElem?_toArray, List.getElem?_cons_zero, List.getElem?_cons_succ] at k0 k1
  clear ho b1 HR HV HW HB he
  go_wp2_with fail
  obtain ⟨e2, k2⟩ := put2 HW1.out (.int .u8 2) (.slice A 14 c)
  have q0 := e2.cell 0
  have q1 := e2.cell 1
  simp only [List.getElem?_toArray, List.getElem?_cons_zero, List.getElem?_cons_succ] at q0 q1
  refine bodyPost_ret (v := .agg #[.int .u8 2, .slice A 14 c]) (by simp [results, Tryz.results28, go_sem, q0, q1]) rfl ⟨_, rfl, ⟨A, c, rfl, ?_, hc, hmx⟩, k2.bel HB1.out (Nat.le_refl _)⟩
  exact Rd.of_own (k2.ownB HO.out HL.out)

def gB (p : Br) : Bool := decide (40 < p.its.length) || (decide (40 < p.kps.length) || decide (40 < p.cf.ms.length))
theorem gB_no {p : Br} (h : gB p = false) : p.its.length ≤ 40 ∧ p.kps.length ≤ 40 ∧ p.cf.ms.length ≤ 40 := by
  simp only [gB, Bool.or_eq_false_iff, decide_eq_false_iff_not] at h
  omega
set_option maxRecDepth 100000 in
set_option maxHeartbeats 1000000 in
theorem greatB_any (p : Br) (a : Ad) (w : World) : Calls Tryz.prog 26 #[brV p a] w (BoolPost (gB p) w) := by
  obtain ⟨V, hV⟩ : ∃ V, w.alloc (.cells (brC p a) 30) = V := ⟨_, rfl⟩
  have hw : Whole V w.heap.size 30 (brC p a) := by rw [← hV]; exact Whole.new _ _ _
  have hb : Below w.heap.size w V := by rw [← hV]; exact (Below.refl _ _).alloc (Nat.le_refl _) _
  have c17 := hw.cell 17
  have c18 := hw.cell 18
  have c19 := hw.cell 19
  simp only [List.getElem?_toArray, List.getElem?_cons_zero, List.getElem?_cons_succ] at c17 c18 c19
  have HB := Lib.hid hb
  have HV := Lib.hid hV
  clear hb hw hV
  unfold gB
  have e1 : ∀ n : Nat, decide ((40 : Int) < (n : Int)) = decide (40 < n) := fun n => by
    by_cases h : 40 < n
    · rw [decide_eq_true h, decide_eq_true (by omega)]
    · rw [decide_eq_false h, decide_eq_false (by omega)]
  cases h1 : decide (40 < p.its.length) with
  | true =>
    have d1 : decide ((40 : Int) < (p.its.length : Int)) = true := by rw [e1]; exact h1
    clear h1 e1
    go_enter Tryz.func26, Tryz.ntmps26
    go_upto_region 1 with fail
    rw [HV.out]
    go_wp2_with fail
    go_ret
    exact ⟨rfl, HB.out⟩
  | false =>
    have d1 : decide ((40 : Int) < (p.its.length : Int)) = false := by rw [e1]; exact h1
    cases h2 : decide (40 < p.kps.length) with
    | true =>
      have d2 : decide ((40 : Int) < (p.kps.length : Int)) = true := by rw [e1]; exact h2
      clear h1 h2 e1
      go_enter Tryz.func26, Tryz.ntmps26
      go_upto_region 1 with fail
      rw [HV.out]
      go_wp2_with fail
      go_ret
      exact ⟨rfl, HB.out⟩
    | false =>
      have d2 : decide ((40 : Int) < (p.kps.length : Int)) = false := by rw [e1]; exact h2
      have d3 := e1 p.cf.ms.length
      clear h1 h2 e1
      go_enter Tryz.func26, Tryz.ntmps26
      go_upto_region 1 with fail
      rw [HV.out]
      go_wp2_with fail
      go_ret
      exact ⟨by simp, HB.out⟩

/-- Too great to be asked. -/
def gR (xs : List RE) : Bool := (xs.take 61).any (fun x => decide (40 < x.n)) || decide (60 < xs.length)
theorem gR_no {xs : List RE} (h : gR xs = false) : xs.length ≤ 60 ∧ ∀ x ∈ xs, x.n ≤ 40 := by
  simp only [gR, Bool.or_eq_false_iff, decide_eq_false_iff_not, List.any_eq_false] at h
  refine ⟨by omega, fun x hx => ?_⟩
  have := h.1 x (by rw [List.take_of_length_le (by omega)]; exact hx)
  simpa using this

theorem gR_yes {xs : List RE} {j : Nat} {x : RE} (hx : xs[j]? = some x) (hj : j ≤ 60) (h : 40 < x.n) : gR xs = true := by
  have : (xs.take 61).any (fun x => decide (40 < x.n)) = true := by
    rw [List.any_eq_true]
    refine ⟨x, ?_, by simpa using h⟩
    refine List.mem_of_getElem? (i := j) ?_
    rw [List.getElem?_take, if_pos (by omega)]
    exact hx
  simp [gR, this]
theorem gR_end {xs : List RE} {j : Nat} (h : ∀ x ∈ xs.take j, ¬ 40 < x.n) (hj : j = xs.length ∨ j = 61) : gR xs = decide (60 < xs.length) := by
  have : (xs.take 61).any (fun x => decide (40 < x.n)) = false := by
    rw [List.any_eq_false]
    intro x hx
    have hm : x ∈ xs.take j := by
      rcases hj with rfl | rfl
      · rw [List.take_of_length_le (Nat.le_refl _)]
        exact List.mem_of_mem_take hx
      · exact hx
    simpa using h x hm
  simp [gR, this]

set_option maxRecDepth 100000 in
set_option maxHeartbeats 2000000 in
theorem great0_any (A : Option Addr) (n c : Nat) (xs : List RE) (Z : Nat) (w : World) (hx : RdR w Z A n xs) : Calls Tryz.prog 9 #[.slice A n c, .slice none 0 0] w (BoolPost (gR xs) w) := by
  have hl := hx.1
  have HX := Lib.hid hx
  have HB := Lib.hid (Below.refl w.heap.size w)
  obtain ⟨V, hV⟩ : ∃ V, w = V := ⟨_, rfl⟩
  rw [hV] at HX HB ⊢
  clear hx hV
  go_enter Tryz.func9, Tryz.ntmps9
  go_wp2_with fail
  refine wp_loop_rounds 1 ?_
  rw [rounds_succ]
  go_wp2_with fail
  go_loopw [6] (fun i wr => ∃ j : Nat, i = .int .i64 (j : Int) ∧ j ≤ n ∧ j ≤ 61 ∧ (∀ x ∈ xs.take j, ¬ 40 < x.n) ∧ wr = V) (fun i _ => n - (intOf i).toNat)
  case atStart => exact ⟨0, rfl, Nat.zero_le _, Nat.zero_le _, by simp, rfl⟩
  case round =>
    obtain ⟨j, rfl, hj, hj6, hno, rfl⟩ := hrel
    by_cases hin : j < n ∧ j ≤ 60
    rotate_left
    · have HE := Lib.hid (show gR xs = decide ((60 : Int) < (n : Int)) by
        rw [gR_end hno (by omega : j = xs.length ∨ j = 61), hl]
        by_cases h : 60 < n
        · rw [decide_eq_true h, decide_eq_true (by omega)]
        · rw [decide_eq_false h, decide_eq_false (by omega)])
      by_cases hjn : j < n
      · have d1 : decide (j < n) = true := by simp; omega
        have d2 : decide ((j : Int) ≤ 60) = false := by simp; omega
        clear hno hin hjn hj hj6
        go_wp2_with fail
        go_ret
        exact ⟨by rw [HE.out]; rfl, HB.out⟩
      · have d1 : decide (j < n) = false := by simp; omega
        clear hno hin hjn hj hj6
        go_wp2_with fail
        go_ret
        exact ⟨by rw [HE.out]; rfl, HB.out⟩
    · have d1 : decide (j < n) = true := by simp; omega
      have d2 : decide ((j : Int) ≤ 60) = true := by simp; omega
      have hlt : (j : Int) < (n : Int) := by omega
      obtain ⟨x, hx⟩ : ∃ x, xs[j]? = some x := ⟨_, List.getElem?_eq_getElem (by omega)⟩
      obtain ⟨b, off, rfl, hb, hc⟩ := HX.out.2.1 (by omega)
      have c1 := (hc j x hx).2
      by_cases h40 : 40 < x.n
      · have d3 : decide ((40 : Int) < (x.n : Int)) = true := by simp; omega
        have HY := Lib.hid (gR_yes hx hin.2 h40)
        clear hno hin hj hj6 hc h40 hx hb
        go_wp2_with fail
        go_ret
        exact ⟨by rw [HY.out]; rfl, HB.out⟩
      · have d3 : decide ((40 : Int) < (x.n : Int)) = false := by simp; omega
        have HNo := Lib.hid (show ∀ y ∈ xs.take (j + 1), ¬ 40 < y.n by
          intro y hy
          rw [List.take_add_one, hx, List.mem_append] at hy
          rcases hy with hy | hy
          · exact hno y hy
          · simp only [Option.toList_some, List.mem_singleton] at hy
            rw [hy]; exact h40)
        have hj61 : j < 61 := by omega
        have HIn := Lib.hid hin
        clear hno hin hj hj6 hc h40 hx hb
        go_wp2_with fail
        go_roundw
        case rel => exact ⟨j + 1, by simp, by have := HIn.out.1; omega, by have := HIn.out.2; omega, HNo.out, trivial⟩
        case measure => have := HIn.out.1; simp [intOf]; omega

set_option maxRecDepth 100000 in
set_option maxHeartbeats 2000000 in
theorem great1_any (A : Option Addr) (n c : Nat) (xs : List RE) (Z : Nat) (p : Br) (a : Ad) (bb : Nat) (w : World) (hx : RdR w Z A n xs) (hZ : Z ≤ w.heap.size) (hb : Whole w bb 30 (brC p a)) : Calls Tryz.prog 9 #[.slice A n c, .slice (some ⟨bb, 0, none⟩) 1 1] w (BoolPost (gB p || gR xs) w) := by
  have hl := hx.1
  have HX0 := Lib.hid hx
  have HG := Lib.hid (greatB_any p a w)
  have HBB := Lib.hid hb
  have HZ := Lib.hid hZ
  cases hg : gB p with
  | true =>
    rw [hg] at HG
    clear hx hb hg hZ
    go_enter Tryz.func9, Tryz.ntmps9
    go_wp2_with fail
    refine wp_loop_rounds 2 ?_
    rw [rounds_succ]
    go_wp2_with (refine wpList_loadB (by rfl) _ rfl bb p a (by rfl) HBB.out ?_)
    refine HG.out.mono ?_
    rintro e V ⟨rfl, hb1⟩
    have HB := Lib.hid hb1
    clear hb1 HG
    go_wp2_with fail
    go_ret
    exact ⟨by simp, HB.out⟩
  | false =>
    rw [hg] at HG
    rw [Bool.false_or]
    clear hx hb hg hZ
    go_enter Tryz.func9, Tryz.ntmps9
    go_wp2_with fail
    refine wp_loop_rounds 2 ?_
    rw [rounds_succ]
    go_wp2_with (refine wpList_loadB (by rfl) _ rfl bb p a (by rfl) HBB.out ?_)
    refine HG.out.mono ?_
    rintro e V ⟨rfl, hb1⟩
    have HB := Lib.hid hb1
    have HX := Lib.hid (HX0.out.below (hb1.mono HZ.out))
    clear hb1 HG HX0
    go_wp2_with fail
    rw [rounds_succ]
    go_wp2_with fail
    go_loopw [6] (fun i wr => ∃ j : Nat, i = .int .i64 (j : Int) ∧ j ≤ n ∧ j ≤ 61 ∧ (∀ x ∈ xs.take j, ¬ 40 < x.n) ∧ wr = V) (fun i _ => n - (intOf i).toNat)
    case atStart => exact ⟨0, rfl, Nat.zero_le _, Nat.zero_le _, by simp, rfl⟩
    case round =>
      obtain ⟨j, rfl, hj, hj6, hno, rfl⟩ := hrel
      by_cases hin : j < n ∧ j ≤ 60
      rotate_left
      · have HE := Lib.hid (show gR xs = decide ((60 : Int) < (n : Int)) by
          rw [gR_end hno (by omega : j = xs.length ∨ j = 61), hl]
          by_cases h : 60 < n
          · rw [decide_eq_true h, decide_eq_true (by omega)]
          · rw [decide_eq_false h, decide_eq_false (by omega)])
        by_cases hjn : j < n
        · have d1 : decide (j < n) = true := by simp; omega
          have d2 : decide ((j : Int) ≤ 60) = false := by simp; omega
          clear hno hin hjn hj hj6
          go_wp2_with fail
          go_ret
          exact ⟨by rw [HE.out]; rfl, HB.out⟩
        · have d1 : decide (j < n) = false := by simp; omega
          clear hno hin hjn hj hj6
          go_wp2_with fail
          go_ret
          exact ⟨by rw [HE.out]; rfl, HB.out⟩
      · have d1 : decide (j < n) = true := by simp; omega
        have d2 : decide ((j : Int) ≤ 60) = true := by simp; omega
        have hlt : (j : Int) < (n : Int) := by omega
        obtain ⟨x, hx⟩ : ∃ x, xs[j]? = some x := ⟨_, List.getElem?_eq_getElem (by omega)⟩
        obtain ⟨b, off, rfl, hb, hc⟩ := HX.out.2.1 (by omega)
        have c1 := (hc j x hx).2
        by_cases h40 : 40 < x.n
        · have d3 : decide ((40 : Int) < (x.n : Int)) = true := by simp; omega
          have HY := Lib.hid (gR_yes hx hin.2 h40)
          clear hno hin hj hj6 hc h40 hx hb
          go_wp2_with fail
          go_ret
          exact ⟨by rw [HY.out]; rfl, HB.out⟩
        · have d3 : decide ((40 : Int) < (x.n : Int)) = false := by simp; omega
          have HNo := Lib.hid (show ∀ y ∈ xs.take (j + 1), ¬ 40 < y.n by
            intro y hy
            rw [List.take_add_one, hx, List.mem_append] at hy
            rcases hy with hy | hy
            · exact hno y hy
            · simp only [Option.toList_some, List.mem_singleton] at hy
              rw [hy]; exact h40)
          have hj61 : j < 61 := by omega
          have HIn := Lib.hid hin
          clear hno hin hj hj6 hc h40 hx hb
          go_wp2_with fail
          go_roundw
          case rel => exact ⟨j + 1, by simp, by have := HIn.out.1; omega, by have := HIn.out.2; omega, HNo.out, trivial⟩
          case measure => have := HIn.out.1; simp [intOf]; omega

end Go.Proofs.YtdaimejlcfhfiaaGreatDoor
