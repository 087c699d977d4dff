/-
  The walks of 'toFound' and 'happenings' of package event: what happens by each kind of event. Conditions: those that each theorem names.
-/
import Derived.Test.YtoiegffnmjlkdaaEvStray
import Derived.Test.YtoiegffnmjlkdaaEvTick
import Derived.Maps.OwnOps
namespace Go.Proofs.Ytoiegffnmjlkdaa
open Go.RowKit Go.Shelf
open Go.Maps (Keyed int_keyed keyOf_int_mk)

/-- A function's value, without what it captured; with a box. -/
def hf0 (f : Nat) : Value := .func (.func f) #[] #[]
def hf1 (f b : Nat) : Value := .func (.func f) #[] #[.pointer (some ⟨b, 0, none⟩)]

set_option maxHeartbeats 400000 in
theorem evToFound_any (f : Nat) (lb : Array Value) (w : World) : Calls Try.prog 29 #[.func (.func f) #[] lb] w fun e w' => e = .returned (hf1 39 w.heap.size) ∧ w' = w.alloc (.cells #[.func (.func f) #[] lb] 53) := by
  go_enter Try.func29, Try.ntmps29
  go_wp2
  go_ret
  exact ⟨rfl, rfl⟩

/-- A happening, as a value of the map. -/
def hapR : Value → Option (DataW Value × List MemPlace) := fun v => some (.held v, [])
def HpMap (W : World) (b n : Nat) (D : DataW Value) : Prop := W.ownsMap Try.prog 5 hapR b n D

theorem wpList_hap {W : World} {ops : Array Oper} {rest : List Oper} {o : Oper} {a : Act} {Q : Exit → Act → World → Prop} {b n : Nat} {D : DataW Value} (h : HpMap W b n D) (hn : n < 10) (hg : o.guard = none) (m x v : Operand) (k : Int) (hk : (Lit.int .u8 k).wf = true) (vv : Value)
    (hop : o.op = Op.insert 47 m x v) (hm : a.eval m = .map (some b)) (hx : a.eval x = .int .u8 k) (hv : a.eval v = vv)
    (hK : ∀ W', HpMap W' b (n + 1) (D.put (.int .u8 k) (.held vv)) → W.grownBy W' (some b) → wpList Try.prog ops Q rest (a.put o.dst undef) W') : wpList Try.prog ops Q (o :: rest) a W := by
  refine wpList_plain hg fun K' hK' => ?_
  obtain ⟨w', hrun, r1, r2⟩ := World.ownsMap.update h (int_keyed Try.underlying5) Try.underlying47 (by unfold maxLen; omega) (keyOf_int_mk (q := .u8) (a := k) Try.underlying5 hk) (val := vv) (d := .held vv) (ps := []) rfl
  unfold Oper.wp
  simp [execOp, hop, hm, hx, hv, hrun, Result.andThen]
  exact hK' _ _ (hK w' r1 r2)

/-- The map of all that happens. -/
def hpD (b1 b2 : Nat) : DataW Value := .map [(.int .u8 1, .held (hf1 39 b1)), (.int .u8 2, .held (hf1 39 b2)), (.int .u8 3, .held (hf0 32)), (.int .u8 4, .held (hf0 33)), (.int .u8 5, .held (hf0 34)), (.int .u8 6, .held (hf0 35))]
/-- What happens by a kind. -/
def hapV (b1 b2 : Nat) (k : Int) : Value :=
  if k = 1 then hf1 39 b1 else if k = 2 then hf1 39 b2 else if k = 3 then hf0 32 else if k = 4 then hf0 33 else if k = 5 then hf0 34 else if k = 6 then hf0 35 else .nilFunc
theorem hpD_at (b1 b2 : Nat) (k : Int) : (hpD b1 b2).atKey (.int .u8 k) (.held .nilFunc) = .held (hapV b1 b2 k) := by
  unfold hapV
  by_cases h1 : k = 1
  · subst h1; rfl
  by_cases h2 : k = 2
  · subst h2; rfl
  by_cases h3 : k = 3
  · subst h3; rfl
  by_cases h4 : k = 4
  · subst h4; rfl
  by_cases h5 : k = 5
  · subst h5; rfl
  by_cases h6 : k = 6
  · subst h6; rfl
  rw [if_neg h1, if_neg h2, if_neg h3, if_neg h4, if_neg h5, if_neg h6]
  have e1 : (1 : Int) ≠ k := fun e => h1 e.symm
  have e2 : (2 : Int) ≠ k := fun e => h2 e.symm
  have e3 : (3 : Int) ≠ k := fun e => h3 e.symm
  have e4 : (4 : Int) ≠ k := fun e => h4 e.symm
  have e5 : (5 : Int) ≠ k := fun e => h5 e.symm
  have e6 : (6 : Int) ≠ k := fun e => h6 e.symm
  simp [hpD, DataW.atKey, Lit.sameKey, e1, e2, e3, e4, e5, e6]

/-- What the happenings captured. -/
structure HpFns (lo b1 b2 : Nat) (W : World) : Prop where
  f1 : Whole W b1 53 #[hf0 30]
  f2 : Whole W b2 53 #[hf0 31]
  lo_ : lo ≤ b1 ∧ lo ≤ b2
theorem HpFns.under {lo b1 b2 : Nat} {W W' : World} (h : HpFns lo b1 b2 W) (hb : Below W.heap.size W W') : HpFns lo b1 b2 W' := ⟨h.f1.under hb, h.f2.under hb, h.lo_⟩

def HapsPost (w : World) (e : Ending) (w' : World) : Prop :=
  e = .returned (.map (some w.heap.size)) ∧ ∃ b1 b2, HpMap w' w.heap.size 6 (hpD b1 b2) ∧ HpFns w.heap.size b1 b2 w' ∧ Below w.heap.size w w'

set_option maxRecDepth 100000 in
set_option maxHeartbeats 2000000 in
theorem happenings_any (w : World) : Calls Try.prog 23 #[] w (HapsPost w) := by
  have hmm := @run_makeMap Try.prog
  have H0 : HpMap (w.alloc (.map #[] 0)) w.heap.size 0 (.map []) := World.ownsMap_made w _ _ _
  have B0 := Lib.hid ((Below.refl _ w).alloc (Nat.le_refl _) (.map #[] 0))
  go_enter Try.func23, Try.ntmps23
  go_wp2_with (first | (refine wpList_hap (World.ownsMap.alloc H0 _) (by omega) rfl _ _ _ 1 (by decide) _ rfl rfl rfl rfl ?_; clear H0; intro w1 H1 g1) | (refine wpList_hap (World.ownsMap.alloc H1 _) (by omega) rfl _ _ _ 2 (by decide) _ rfl rfl rfl rfl ?_; clear H1; intro w2 H2 g2) | (refine wpList_hap H2 (by omega) rfl _ _ _ 3 (by decide) _ rfl rfl rfl rfl ?_; clear H2; intro w3 H3 g3) | (refine wpList_hap H3 (by omega) rfl _ _ _ 4 (by decide) _ rfl rfl rfl rfl ?_; clear H3; intro w4 H4 g4) | (refine wpList_hap H4 (by omega) rfl _ _ _ 5 (by decide) _ rfl rfl rfl rfl ?_; clear H4; intro w5 H5 g5) | (refine wpList_hap H5 (by omega) rfl _ _ _ 6 (by decide) _ rfl rfl rfl rfl ?_; clear H5; intro w6 H6 g6) | (go_at_call 29; refine (evToFound_any _ _ _).mono ?_; rintro e w9 ⟨rfl, rfl⟩))
  have s0 : (w.alloc (.map #[] 0)).heap.size = w.heap.size + 1 := by simp
  have s1 : w.heap.size + 1 < w1.heap.size := by have := g1.size; rw [World.size_alloc, World.size_alloc] at this; omega
  have H7 : HpMap w6 w.heap.size 6 (hpD (w.heap.size + 1) w1.heap.size) := H6
  have hk : ∀ k, some w.heap.size = some k → w.heap.size ≤ k := fun k e => by cases e; exact Nat.le_refl _
  have f1 := ((Whole.new (w.alloc (.map #[] 0)) 53 #[hf0 30]).grown g1 (by simp)).alloc (.cells #[hf0 31] 53)
  rw [s0] at f1
  have f1' := ((((f1.grown g2 (by simp)).grown g3 (by simp)).grown g4 (by simp)).grown g5 (by simp)).grown g6 (by simp)
  have f2 := (((((Whole.new w1 53 #[hf0 31]).grown g2 (by simp; omega)).grown g3 (by simp; omega)).grown g4 (by simp; omega)).grown g5 (by simp; omega)).grown g6 (by simp; omega)
  have q0 := B0.out.alloc B0.out.size (.cells #[hf0 30] 53)
  have q1 := q0.grown g1 q0.size hk
  have q1' := q1.alloc q1.size (.cells #[hf0 31] 53)
  have q2 := q1'.grown g2 q1'.size hk
  have q3 := q2.grown g3 q2.size hk
  have q4 := q3.grown g4 q3.size hk
  have q5 := q4.grown g5 q4.size hk
  have q6 := q5.grown g6 q5.size hk
  have HF := Lib.hid (HpFns.mk (lo := w.heap.size) f1' f2 ⟨by omega, by omega⟩)
  have HQ := Lib.hid q6
  have HD := Lib.hid H7
  clear f1 f1' f2 q0 q1 q1' q2 q3 q4 q5 q6 H6 H7 hk
  go_ret
  exact ⟨rfl, _, _, HD.out, HF.out, HQ.out⟩

/-- What happens by a kind, done. -/
theorem hap_fun {b1 b2 base Cb n c : Nat} {A : Option Addr} {x : Cw} {e : Ev} {W : World} (hk : e.kind = 1 ∨ e.kind = 2 ∨ e.kind = 3 ∨ e.kind = 4 ∨ e.kind = 5 ∨ e.kind = 6) (h : Clu W base Cb A n c x) (hn : n ≤ 1000) (h0 : 0 ≤ x.nw) {lo : Nat} (hF : HpFns lo b1 b2 W) (hb1 : b1 < base) (hb2 : b2 < base) :
    ∃ f lb, hapV b1 b2 e.kind = .func (.func f) #[] lb ∧ (∀ args w, (callFunc f args).run Try.prog w = .ok (.enter f args) w) ∧
      Calls Try.prog f (#[.pointer (some ⟨Cb, 0, none⟩), .agg #[.int .u8 e.kind, .int .i64 e.a, .int .i64 e.b]] ++ lb) W (HapPost base Cb (evK x e) W) := by
  rcases hk with k | k | k | k | k | k
  · refine ⟨39, #[.pointer (some ⟨b1, 0, none⟩)], by rw [k]; rfl, enters_of Try.func39 (by kernel_rfl) rfl, ?_⟩
    have e1 : evK x e = { x with l := atB x.l e.a goneB } := by simp [evK, k]
    rw [e1]
    exact evFound_any goneB h hn (hF.f1.cell 0) hb1 (enters_of Try.func30 (by kernel_rfl) rfl) fun g j y V hV hy => die_any hV hy rfl
  · refine ⟨39, #[.pointer (some ⟨b2, 0, none⟩)], by rw [k]; rfl, enters_of Try.func39 (by kernel_rfl) rfl, ?_⟩
    have e1 : evK x e = { x with l := atB x.l e.a flipB } := by simp [evK, k]
    rw [e1]
    exact evFound_any flipB h hn (hF.f2.cell 0) hb2 (enters_of Try.func31 (by kernel_rfl) rfl) fun g j y V hV hy => flip_any hV hy rfl
  · refine ⟨32, #[], by rw [k]; rfl, enters_of Try.func32 (by kernel_rfl) rfl, ?_⟩
    have e1 : evK x e = strayC x e.a (e.b != 0) := by simp [evK, k]
    rw [e1]
    exact stray_any h
  · refine ⟨33, #[], by rw [k]; rfl, enters_of Try.func33 (by kernel_rfl) rfl, ?_⟩
    have e1 : evK x e = { x with tg := !x.tg } := by simp [evK, k]
    rw [e1]
    exact tight_any h e
  · refine ⟨34, #[], by rw [k]; rfl, enters_of Try.func34 (by kernel_rfl) rfl, ?_⟩
    have e1 : evK x e = tickC x := by simp [evK, k]
    rw [e1]
    exact tick_any h hn h0
  · refine ⟨35, #[], by rw [k]; rfl, enters_of Try.func35 (by kernel_rfl) rfl, ?_⟩
    have e1 : evK x e = floorC x e.a e.b := by simp [evK, k]
    rw [e1]
    exact floor_any h e
theorem hap_nil {b1 b2 : Nat} {k : Int} (hk : ¬ (k = 1 ∨ k = 2 ∨ k = 3 ∨ k = 4 ∨ k = 5 ∨ k = 6)) : hapV b1 b2 k = .nilFunc := by
  unfold hapV
  rw [if_neg (by omega), if_neg (by omega), if_neg (by omega), if_neg (by omega), if_neg (by omega), if_neg (by omega)]
theorem evK_none {x : Cw} {e : Ev} (hk : ¬ (e.kind = 1 ∨ e.kind = 2 ∨ e.kind = 3 ∨ e.kind = 4 ∨ e.kind = 5 ∨ e.kind = 6)) : evK x e = x := by
  unfold evK
  rw [if_neg (by omega), if_neg (by omega), if_neg (by omega), if_neg (by omega), if_neg (by omega), if_neg (by omega)]

end Go.Proofs.Ytoiegffnmjlkdaa
