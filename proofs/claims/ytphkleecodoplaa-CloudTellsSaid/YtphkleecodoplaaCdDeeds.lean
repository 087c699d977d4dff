/-
  The walks of 'launch' as a whole and of 'deeds' (package cloud): which deed each kind of ask has. Conditions: those that each theorem names.
-/
import Derived.Test.YtphkleecodoplaaCdLaunch2
import Derived.Test.YtphkleecodoplaaCdLaunch3
import Derived.Test.YtphkleecodoplaaCdLaunch4
import Derived.Maps.OwnOps
namespace Go.Proofs.Ytphkleecodoplaa
open Go.RowKit Go.Shelf
open Go.Maps (Keyed int_keyed keyOf_int_mk)

set_option maxRecDepth 100000 in
theorem launch_any {base Cb n c : Nat} {A : Option Addr} {x : Cw} {q : Ak} {W0 : World} (h : Clu W0 base Cb A n c x) (hn : n ≤ 1000) :
    Calls Try.prog 35 #[.pointer (some ⟨Cb, 0, none⟩), .agg #[.int .u8 q.kind, .int .i64 q.call, .int .i64 q.a, .int .i64 q.b, .int .i64 q.c, .int .i64 q.d]] W0 (DeedPost base Cb x (launchP x q).1 (launchP x q).2.1 (launchP x q).2.2 W0) := by
  obtain ⟨p, hp⟩ : ∃ p, firstAt (fun y => y.tok == q.a) x.l = p := ⟨_, rfl⟩
  by_cases h1 : q.a < 1
  · have e : launchP x q = (x.l, 3, 0) := by simp [launchP, h1]
    rw [e]
    exact launch_refA h hn hp h1
  · cases h2 : (isNum q.a && isNum q.b && isNum q.c) with
    | false =>
      have e : launchP x q = (x.l, 3, 0) := by simp only [launchP, h2, Bool.not_false, Bool.or_true, Bool.true_or, if_true]
      rw [e]
      exact launch_refN h hn hp h1 h2
    | true =>
      by_cases h3 : q.d < 0
      · have e : launchP x q = (x.l, 3, 0) := by simp [launchP, h3]
        rw [e]
        exact launch_refD h hn hp h1 h2 h3
      · have e0 : (decide (q.a < 1) || !(isNum q.a && isNum q.b && isNum q.c) || decide (q.d < 0)) = false := by simp only [h2, decide_eq_false h1, decide_eq_false h3, Bool.not_true, Bool.or_false]
        cases p with
        | some j =>
          obtain ⟨y, hx, _⟩ := firstAt_some hp
          have e : launchP x q = (x.l, 1, y.id) := by simp only [launchP, e0, hp, hx, Bool.false_eq_true, if_false]
          rw [e]
          exact launch_there h hn hp h1 h2 h3 hx
        | none =>
          have hl := h.len
          cases h4 : x.tg with
          | true =>
            have e : launchP x q = (x.l, 4, 0) := by simp only [launchP, e0, hp, h4, Bool.true_or, Bool.false_eq_true, if_false, if_true]
            rw [e]
            exact launch_tight h hn hp h1 h2 h3 h4
          | false =>
            by_cases h5 : 60 ≤ n
            · have e : launchP x q = (x.l, 4, 0) := by simp only [launchP, e0, hp, h4, hl, decide_eq_true h5, Bool.or_true, Bool.false_eq_true, if_false, if_true]
              rw [e]
              exact launch_full h hn hp h1 h2 h3 h4 h5
            · have e : launchP x q = (x.l ++ [madeB ((x.l.length : Int) + 1) q], 1, (x.l.length : Int) + 1) := by simp only [launchP, e0, hp, h4, hl, decide_eq_false h5, Bool.or_false, Bool.false_eq_true, if_false]
              rw [e]
              exact launch_new h hn hp h1 h2 h3 h4 (by omega)

/-- A function's value, without what it captured; with a box. -/
def fn0 (f : Nat) : Value := .func (.func f) #[] #[]
def fn1 (f b : Nat) : Value := .func (.func f) #[] #[.pointer (some ⟨b, 0, none⟩)]

set_option maxRecDepth 100000 in
set_option maxHeartbeats 400000 in
theorem toFound_any (f : Nat) (lb : Array Value) (w : World) : Calls Try.prog 36 #[.func (.func f) #[] lb] w fun e w' => e = .returned (fn1 47 w.heap.size) ∧ w' = w.alloc (.cells #[.func (.func f) #[] lb] 71) := by
  go_enter Try.func36, Try.ntmps36
  go_wp2
  go_ret
  exact ⟨rfl, rfl⟩
set_option maxRecDepth 100000 in
set_option maxHeartbeats 400000 in
theorem taking_any (f : Nat) (lb : Array Value) (w : World) : Calls Try.prog 38 #[.func (.func f) #[] lb] w fun e w' => e = .returned (fn1 49 w.heap.size) ∧ w' = w.alloc (.cells #[.func (.func f) #[] lb] 71) := by
  go_enter Try.func38, Try.ntmps38
  go_wp2
  go_ret
  exact ⟨rfl, rfl⟩

/-- A deed, as a value of the map. -/
def deedR : Value → Option (DataW Value × List MemPlace) := fun v => some (.held v, [])
def DsMap (W : World) (b n : Nat) (D : DataW Value) : Prop := W.ownsMap Try.prog 5 deedR b n D

set_option maxRecDepth 100000 in
theorem wpList_deed {W : World} {ops : Array Oper} {rest : List Oper} {o : Oper} {a : Act} {Q : Exit → Act → World → Prop} {b n : Nat} {D : DataW Value} (h : DsMap W b n D) (hn : n < 10) (hg : o.guard = none) (m x v : Operand) (k : Int) (hk : (Lit.int .u8 k).wf = true) (vv : Value)
    (hop : o.op = Op.insert 50 m x v) (hm : a.eval m = .map (some b)) (hx : a.eval x = .int .u8 k) (hv : a.eval v = vv)
    (hK : ∀ W', DsMap W' b (n + 1) (D.put (.int .u8 k) (.held vv)) → W.grownBy W' (some b) → wpList Try.prog ops Q rest (a.put o.dst undef) W') : wpList Try.prog ops Q (o :: rest) a W := by
  refine wpList_plain hg fun K' hK' => ?_
  obtain ⟨w', hrun, r1, r2⟩ := World.ownsMap.update h (int_keyed Try.underlying5) Try.underlying50 (by unfold maxLen; omega) (keyOf_int_mk (q := .u8) (a := k) Try.underlying5 hk) (val := vv) (d := .held vv) (ps := []) rfl
  unfold Oper.wp
  simp [execOp, hop, hm, hx, hv, hrun, Result.andThen]
  exact hK' _ _ (hK w' r1 r2)

/-- The map of all deeds. -/
def dsD (b1 b3 b4 b6 b8 : Nat) : DataW Value := .map [(.int .u8 1, .held (fn0 35)), (.int .u8 2, .held (fn1 47 b1)), (.int .u8 3, .held (fn1 47 b3)), (.int .u8 4, .held (fn1 47 b4)), (.int .u8 5, .held (fn1 47 b6)), (.int .u8 6, .held (fn1 47 b8))]
/-- The deed of a kind. -/
def deedV (b1 b3 b4 b6 b8 : Nat) (k : Int) : Value :=
  if k = 1 then fn0 35 else if k = 2 then fn1 47 b1 else if k = 3 then fn1 47 b3 else if k = 4 then fn1 47 b4 else if k = 5 then fn1 47 b6 else if k = 6 then fn1 47 b8 else .nilFunc
set_option maxRecDepth 100000 in
theorem dsD_at (b1 b3 b4 b6 b8 : Nat) (k : Int) : (dsD b1 b3 b4 b6 b8).atKey (.int .u8 k) (.held .nilFunc) = .held (deedV b1 b3 b4 b6 b8 k) := by
  unfold deedV
  by_cases h1 : k = 1
  · subst h1; rfl
  by_cases h2 : k = 2
  · subst h2; rfl
  by_cases h3 : k = 3
  · subst h3; rfl
  by_cases h4 : k = 4
  · subst h4; rfl
  by_cases h5 : k = 5
  · subst h5; rfl
  by_cases h6 : k = 6
  · subst h6; rfl
  rw [if_neg h1, if_neg h2, if_neg h3, if_neg h4, if_neg h5, if_neg h6]
  have e1 : (1 : Int) ≠ k := fun e => h1 e.symm
  have e2 : (2 : Int) ≠ k := fun e => h2 e.symm
  have e3 : (3 : Int) ≠ k := fun e => h3 e.symm
  have e4 : (4 : Int) ≠ k := fun e => h4 e.symm
  have e5 : (5 : Int) ≠ k := fun e => h5 e.symm
  have e6 : (6 : Int) ≠ k := fun e => h6 e.symm
  simp [dsD, DataW.atKey, Lit.sameKey, e1, e2, e3, e4, e5, e6]

/-- What the deeds captured. -/
structure DeedFns (lo b1 b2 b3 b4 b5 b6 b7 b8 : Nat) (W : World) : Prop where
  f1 : Whole W b1 71 #[fn0 37]
  f2 : Whole W b2 71 #[fn0 39]
  f3 : Whole W b3 71 #[fn1 49 b2]
  f4 : Whole W b4 71 #[fn0 40]
  f5 : Whole W b5 71 #[fn0 41]
  f6 : Whole W b6 71 #[fn1 49 b5]
  f7 : Whole W b7 71 #[fn0 42]
  f8 : Whole W b8 71 #[fn1 49 b7]
  lo_ : lo ≤ b1 ∧ lo ≤ b2 ∧ lo ≤ b3 ∧ lo ≤ b4 ∧ lo ≤ b5 ∧ lo ≤ b6 ∧ lo ≤ b7 ∧ lo ≤ b8
section
variable {lo b1 b2 b3 b4 b5 b6 b7 b8 : Nat} {W W' : World}
set_option maxRecDepth 100000 in
theorem DeedFns.under (h : DeedFns lo b1 b2 b3 b4 b5 b6 b7 b8 W) (hb : Below W.heap.size W W') : DeedFns lo b1 b2 b3 b4 b5 b6 b7 b8 W' :=
  ⟨h.f1.under hb, h.f2.under hb, h.f3.under hb, h.f4.under hb, h.f5.under hb, h.f6.under hb, h.f7.under hb, h.f8.under hb, h.lo_⟩
set_option maxRecDepth 100000 in
theorem DeedFns.far (h : DeedFns lo b1 b2 b3 b4 b5 b6 b7 b8 W) {p : Addr} (hp : p.block < lo) (u : Value) : DeedFns lo b1 b2 b3 b4 b5 b6 b7 b8 (W.setCell p u) := by
  obtain ⟨l1, l2, l3, l4, l5, l6, l7, l8⟩ := h.lo_
  exact ⟨h.f1.far (by omega) u, h.f2.far (by omega) u, h.f3.far (by omega) u, h.f4.far (by omega) u, h.f5.far (by omega) u, h.f6.far (by omega) u, h.f7.far (by omega) u, h.f8.far (by omega) u, h.lo_⟩
end

def DeedsPost (w : World) (e : Ending) (w' : World) : Prop :=
  e = .returned (.map (some w.heap.size)) ∧ ∃ b1 b2 b3 b4 b5 b6 b7 b8, DsMap w' w.heap.size 6 (dsD b1 b3 b4 b6 b8) ∧ DeedFns w.heap.size b1 b2 b3 b4 b5 b6 b7 b8 w' ∧ Below w.heap.size w w'

set_option maxRecDepth 100000 in
set_option maxHeartbeats 2000000 in
theorem deeds_any (w : World) : Calls Try.prog 24 #[] w (DeedsPost w) := by
  have hmm := @run_makeMap Try.prog
  have H0 : DsMap (w.alloc (.map #[] 0)) w.heap.size 0 (.map []) := World.ownsMap_made w _ _ _
  have B0 := Lib.hid ((Below.refl _ w).alloc (Nat.le_refl _) (.map #[] 0))
  go_enter Try.func24, Try.ntmps24
  go_wp2_with (first | (refine wpList_deed H0 (by omega) rfl _ _ _ 1 (by decide) _ rfl rfl rfl rfl ?_; clear H0; intro w1 H1 g1) | (refine wpList_deed (World.ownsMap.alloc H1 _) (by omega) rfl _ _ _ 2 (by decide) _ rfl rfl rfl rfl ?_; clear H1; intro w2 H2 g2) | (refine wpList_deed (World.ownsMap.alloc (World.ownsMap.alloc H2 _) _) (by omega) rfl _ _ _ 3 (by decide) _ rfl rfl rfl rfl ?_; clear H2; intro w3 H3 g3) | (refine wpList_deed (World.ownsMap.alloc H3 _) (by omega) rfl _ _ _ 4 (by decide) _ rfl rfl rfl rfl ?_; clear H3; intro w4 H4 g4) | (refine wpList_deed (World.ownsMap.alloc (World.ownsMap.alloc H4 _) _) (by omega) rfl _ _ _ 5 (by decide) _ rfl rfl rfl rfl ?_; clear H4; intro w5 H5 g5) | (refine wpList_deed (World.ownsMap.alloc (World.ownsMap.alloc H5 _) _) (by omega) rfl _ _ _ 6 (by decide) _ rfl rfl rfl rfl ?_; clear H5; intro w6 H6 g6) | (go_at_call 36; refine (toFound_any _ _ _).mono ?_; rintro e w9 ⟨rfl, rfl⟩) | (go_at_call 38; refine (taking_any _ _ _).mono ?_; rintro e w9 ⟨rfl, rfl⟩))
  have s1 : w.heap.size < w1.heap.size := by have := g1.size; rw [World.size_alloc] at this; omega
  have s2 : w.heap.size < w2.heap.size := by have := g2.size; rw [World.size_alloc] at this; omega
  have s3 : w.heap.size < w3.heap.size := by have := g3.size; rw [World.size_alloc, World.size_alloc] at this; omega
  have s4 : w.heap.size < w4.heap.size := by have := g4.size; rw [World.size_alloc] at this; omega
  have s5 : w.heap.size < w5.heap.size := by have := g5.size; rw [World.size_alloc, World.size_alloc] at this; omega
  have H7 : DsMap w6 w.heap.size 6 (dsD w1.heap.size (w2.heap.size + 1) w3.heap.size (w4.heap.size + 1) (w5.heap.size + 1)) := H6
  have two : ∀ {W : World} {v u : Value}, Whole ((W.alloc (.cells #[v] 71)).alloc (.cells #[u] 71)) W.heap.size 71 #[v] ∧ Whole ((W.alloc (.cells #[v] 71)).alloc (.cells #[u] 71)) (W.heap.size + 1) 71 #[u] := fun {W v u} => ⟨(Whole.new W _ _).alloc _, by have := Whole.new (W.alloc (.cells #[v] 71)) 71 #[u]; rwa [World.size_alloc] at this⟩
  have f1 := ((((((((Whole.new w1 71 #[fn0 37]).grown g2 (by simp; omega)).alloc _).alloc _).grown g3 (by simp; omega)).alloc _).grown g4 (by simp; omega)).alloc _).alloc _ |>.grown g5 (by simp; omega)
  have f1' := ((f1.alloc _).alloc _).grown g6 (by simp; omega)
  have f2 := ((((((two (W := w2)).1.grown g3 (by simp; omega)).alloc _).grown g4 (by simp; omega)).alloc _).alloc _).grown g5 (by simp; omega)
  have f2' := ((f2.alloc _).alloc _).grown g6 (by simp; omega)
  have f3 := ((((((two (W := w2)).2.grown g3 (by simp; omega)).alloc _).grown g4 (by simp; omega)).alloc _).alloc _).grown g5 (by simp; omega)
  have f3' := ((f3.alloc _).alloc _).grown g6 (by simp; omega)
  have f4 := ((((Whole.new w3 71 #[fn0 40]).grown g4 (by simp; omega)).alloc _).alloc _).grown g5 (by simp; omega)
  have f4' := ((f4.alloc _).alloc _).grown g6 (by simp; omega)
  have f5 := ((((two (W := w4)).1.grown g5 (by simp; omega)).alloc _).alloc _).grown g6 (by simp; omega)
  have f6 := ((((two (W := w4)).2.grown g5 (by simp; omega)).alloc _).alloc _).grown g6 (by simp; omega)
  have f7 := (two (W := w5)).1.grown g6 (by simp; omega)
  have f8 := (two (W := w5)).2.grown g6 (by simp; omega)
  have hk : ∀ k, some w.heap.size = some k → w.heap.size ≤ k := fun k e => by cases e; exact Nat.le_refl _
  have q1 := B0.out.grown g1 B0.out.size hk
  have q2 := (q1.alloc q1.size _).grown g2 (q1.alloc q1.size _).size hk
  have q3' := (q2.alloc q2.size (.cells #[fn0 39] 71)).alloc (q2.alloc q2.size (.cells #[fn0 39] 71)).size (.cells #[fn1 49 w2.heap.size] 71)
  have q3 := q3'.grown g3 q3'.size hk
  have q4 := (q3.alloc q3.size _).grown g4 (q3.alloc q3.size _).size hk
  have q5' := (q4.alloc q4.size (.cells #[fn0 41] 71)).alloc (q4.alloc q4.size (.cells #[fn0 41] 71)).size (.cells #[fn1 49 w4.heap.size] 71)
  have q5 := q5'.grown g5 q5'.size hk
  have q6' := (q5.alloc q5.size (.cells #[fn0 42] 71)).alloc (q5.alloc q5.size (.cells #[fn0 42] 71)).size (.cells #[fn1 49 w5.heap.size] 71)
  have q6 := q6'.grown g6 q6'.size hk
  have HF := Lib.hid (DeedFns.mk (lo := w.heap.size) f1' f2' f3' f4' f5 f6 f7 f8 ⟨by omega, by omega, by omega, by omega, by omega, by omega, by omega, by omega⟩)
  have HQ := Lib.hid q6
  have HD := Lib.hid H7
  clear f1 f2 f3 f4 f1' f2' f3' f4' f5 f6 f7 f8 q1 q2 q3' q3 q4 q5' q5 q6' q6 H6 H7 two hk
  go_ret
  exact ⟨rfl, _, _, _, _, _, _, _, _, HD.out, HF.out, HQ.out⟩

end Go.Proofs.Ytphkleecodoplaa
