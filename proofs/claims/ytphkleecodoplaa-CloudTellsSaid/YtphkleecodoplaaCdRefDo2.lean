/-
  The walk of the document's own launch (layer 8). Conditions: those that each theorem names.
-/
import Derived.Test.YtphkleecodoplaaCdRefDo1
import Derived.Test.YtphkleecodoplaaCdApartReg
import Derived.Deep.DeepCutAuto
namespace Go.Proofs.Ytphkleecodoplaa
open Go.RowKit Go.Shelf

theorem own_apartX {base n c g : Nat} {A : Option Addr} {xs : List Value} {W : World} {t : TypeId} {cs : Array Value} (hne : 40 ≠ t) (ho : W.ownsRow base 40 11 (.slice A n c) n xs) (hw : Whole W g t cs) : (Value.slice A n c).ownBlock ≠ some g := by
  intro e
  rcases ho.2 with ⟨h1, _⟩ | ⟨g', cap, cur, h1, _, h3, _⟩
  · rw [h1] at e
    cases e
  · rw [h1] at e
    have h4 : g' = g := Option.some.inj e
    subst h4
    have h5 := h3.symm.trans hw
    injection h5 with h5
    injection h5 with _ h6
    exact hne h6
theorem own_off {base g n c : Nat} {A : Option Addr} {xs : List Value} {W : World} (ho : W.ownsRow base 40 11 (.slice A n c) n xs) (hne : ∀ k, (Value.slice A n c).ownBlock = some k → k ≠ g) (i : Nat) (v : Value) : (W.setCell ⟨g, i, none⟩ v).ownsRow base 40 11 (.slice A n c) n xs :=
  ownsRow_setCell_other (a := ⟨g, i, none⟩) ho (fun e => hne _ e rfl) v
/-- Every block that holds no boxes stays. -/
def Frz (w w' : World) : Prop := ∀ (b : Nat) (t : TypeId) (xs : Array Value), 40 ≠ t → Whole w b t xs → Whole w' b t xs
theorem frz_below {w w' : World} (h : Below w.heap.size w w') : Frz w w' := fun _ _ _ _ hw => hw.under h
theorem Frz.trans {w w' w'' : World} (h : Frz w w') (k : Frz w' w'') : Frz w w'' := fun b t xs ht hw => k b t xs ht (h b t xs ht hw)
theorem Frz.kept {base n c g : Nat} {xs : List Value} {w w' w'' : World} (h : Frz w w') (k : KeptB g w' w'') (ho : w'.ownsRow base 40 11 (.slice (some ⟨g, 0, none⟩) n c) n xs) : Frz w w'' := fun b t xs ht hw =>
  k.far b t xs (fun e => own_apartX ht ho (h b t xs ht hw) (by rw [e]; rfl)) (h b t xs ht hw)
theorem Frz.fresh {g : Nat} {w w' w'' : World} (h : Frz w w') (k : KeptB g w' w'') (hg : w.heap.size ≤ g) : Frz w w'' := fun b t xs ht hw => k.far b t xs (by have := hw.ltS; omega) (h b t xs ht hw)
theorem frz_grown {w w' : World} {base n c : Nat} {A : Option Addr} {xs : List Value} (ho : w.ownsRow base 40 11 (.slice A n c) n xs) (hg : w.grownBy w' (Value.slice A n c).ownBlock) : Frz w w' := fun _ _ _ ht hw => hw.grown hg (fun e => own_apartX ht ho hw e.symm)
/-- The cloud is laid into the result's box. -/
theorem rl_fin {base g n c : Nat} {A : Option Addr} {l : List Bx} {fl dr nw : Int} {tg : Bool} {w W : World} (hZ : Whole W g 24 #[.slice none 0 0, .int .i64 0, .int .i64 0, .int .i64 0, .bool false]) (ho : W.ownsRow base 40 11 (.slice A n c) n (flat l)) (hne : ∀ k, (Value.slice A n c).ownBlock = some k → k ≠ g) (hg : base ≤ g) (hb : Below base w W) (hF : Frz w W) (hgw : w.heap.size ≤ g) :
    ∃ W', (((((W.setCell ⟨g, 0, none⟩ (.slice A n c)).setCell ⟨g, 1, none⟩ (.int .i64 fl)).setCell ⟨g, 2, none⟩ (.int .i64 dr)).setCell ⟨g, 3, none⟩ (.int .i64 nw)).setCell ⟨g, 4, none⟩ (.bool tg)) = W' ∧ Whole W' g 24 #[.slice A n c, .int .i64 fl, .int .i64 dr, .int .i64 nw, .bool tg] ∧ W'.ownsRow base 40 11 (.slice A n c) n (flat l) ∧ Below base w W' ∧ Frz w W' :=
  have kp := kept5 hZ (.slice A n c) (.int .i64 fl) (.int .i64 dr) (.int .i64 nw) (.bool tg)
  ⟨_, rfl, kp.1, own_off (own_off (own_off (own_off (own_off ho hne _ _) hne _ _) hne _ _) hne _ _) hne _ _, kp.2.bel _ _ hg hb, fun b t xs ht hw => kp.2.far b t xs (by have := hw.ltS; omega) (hF b t xs ht hw)⟩
/-- What is told, and the cloud in memory of its own. -/
def RL (base : Nat) (x : Cw) (l : List Bx) (k i : Int) (w : World) (e : Ending) (w' : World) : Prop :=
  ∃ A n c, e = .returned (.tuple #[.agg #[.slice A n c, .int .i64 x.fl, .int .i64 x.dr, .int .i64 x.nw, .bool x.tg], .int .u8 k, .int .i64 i]) ∧ w'.ownsRow base 40 11 (.slice A n c) n (flat l) ∧ Below base w w' ∧ Frz w w'

section
variable {x : Cw} {q : Ak} {A : Option Addr} {n c base : Nat} {w : World}
set_option maxRecDepth 100000 in
set_option maxHeartbeats 4000000 in
theorem rl_refa (ho : w.ownsRow base 40 11 (.slice A n c) n (flat x.l)) (hb : base ≤ w.heap.size) (h : q.a < 1) :
    Calls Try.prog 25 #[.agg #[.slice A n c, .int .i64 x.fl, .int .i64 x.dr, .int .i64 x.nw, .bool x.tg], .agg #[.int .u8 q.kind, .int .i64 q.call, .int .i64 q.a, .int .i64 q.b, .int .i64 q.c, .int .i64 q.d]] w (RL base x x.l 3 0 w) := by
  have three := whole_three (W := w) (t := 24) (u := 26) (v := 24) (x := #[.slice A n c, .int .i64 x.fl, .int .i64 x.dr, .int .i64 x.nw, .bool x.tg]) (y := #[.int .u8 q.kind, .int .i64 q.call, .int .i64 q.a, .int .i64 q.b, .int .i64 q.c, .int .i64 q.d]) (z := #[.slice none 0 0, .int .i64 0, .int .i64 0, .int .i64 0, .bool false])
  have hlt : ∀ k, (Value.slice A n c).ownBlock = some k → k < w.heap.size := fun k e => (ho.lt k e).2
  obtain ⟨V, hV⟩ : ∃ V, ((w.alloc (.cells #[.slice A n c, .int .i64 x.fl, .int .i64 x.dr, .int .i64 x.nw, .bool x.tg] 24)).alloc (.cells #[.int .u8 q.kind, .int .i64 q.call, .int .i64 q.a, .int .i64 q.b, .int .i64 q.c, .int .i64 q.d] 26)).alloc (.cells #[.slice none 0 0, .int .i64 0, .int .i64 0, .int .i64 0, .bool false] 24) = V := ⟨_, rfl⟩
  rw [hV] at three
  have C := Lib.hid three.1
  have Q := Lib.hid three.2.1
  have Z := Lib.hid three.2.2.1
  have O := Lib.hid (own_under ho three.2.2.2)
  have B := Lib.hid (three.2.2.2.mono hb)
  have BS := Lib.hid three.2.2.2
  have HLt := Lib.hid hlt
  have Hb := Lib.hid hb
  have hl := (RdX.of_own ho).len
  clear three ho hb hlt
  obtain ⟨a0, a1, a2, a3, a4⟩ := cells5 C.out
  obtain ⟨q0, q1, q2, q3, q4, q5⟩ := cells6 Q.out
  obtain ⟨z0, z1, z2, z3, z4⟩ := cells5 Z.out
  have f0 := Z.out.frozen 0
  have f1 := Z.out.frozen 1
  have f2 := Z.out.frozen 2
  have f3 := Z.out.frozen 3
  have f4 := Z.out.frozen 4
  have d1 : decide (q.a < 1) = true := decide_eq_true h
  clear h hl
  go_enter Try.func25, Try.ntmps25
  go_wp2_with fail
  clear hV
  obtain ⟨W9, hW9, p1, p2, p3, p4⟩ := rl_fin (fl := x.fl) (dr := x.dr) (nw := x.nw) (tg := x.tg) Z.out O.out (fun k e => by have h1 := HLt.out k e; have h2 := Hb.out; omega) (by have := Hb.out; omega) B.out (frz_below BS.out) (by omega)
  rw [hW9]
  clear hW9
  obtain ⟨y0, y1, y2, y3, y4⟩ := cells5 p1
  refine bodyPost_ret (v := .tuple #[.agg #[.slice A n c, .int .i64 x.fl, .int .i64 x.dr, .int .i64 x.nw, .bool x.tg], .int .u8 3, .int .i64 0]) (by simp [results, Try.results25, go_sem, y0, y1, y2, y3, y4]) rfl ⟨A, n, c, rfl, p2, p3, p4⟩
set_option maxRecDepth 100000 in
set_option maxHeartbeats 4000000 in
theorem rl_refm (ho : w.ownsRow base 40 11 (.slice A n c) n (flat x.l)) (hb : base ≤ w.heap.size) (h1 : ¬ q.a < 1) (h : 1099511627776 < q.a) :
    Calls Try.prog 25 #[.agg #[.slice A n c, .int .i64 x.fl, .int .i64 x.dr, .int .i64 x.nw, .bool x.tg], .agg #[.int .u8 q.kind, .int .i64 q.call, .int .i64 q.a, .int .i64 q.b, .int .i64 q.c, .int .i64 q.d]] w (RL base x x.l 3 0 w) := by
  have three := whole_three (W := w) (t := 24) (u := 26) (v := 24) (x := #[.slice A n c, .int .i64 x.fl, .int .i64 x.dr, .int .i64 x.nw, .bool x.tg]) (y := #[.int .u8 q.kind, .int .i64 q.call, .int .i64 q.a, .int .i64 q.b, .int .i64 q.c, .int .i64 q.d]) (z := #[.slice none 0 0, .int .i64 0, .int .i64 0, .int .i64 0, .bool false])
  have hlt : ∀ k, (Value.slice A n c).ownBlock = some k → k < w.heap.size := fun k e => (ho.lt k e).2
  obtain ⟨V, hV⟩ : ∃ V, ((w.alloc (.cells #[.slice A n c, .int .i64 x.fl, .int .i64 x.dr, .int .i64 x.nw, .bool x.tg] 24)).alloc (.cells #[.int .u8 q.kind, .int .i64 q.call, .int .i64 q.a, .int .i64 q.b, .int .i64 q.c, .int .i64 q.d] 26)).alloc (.cells #[.slice none 0 0, .int .i64 0, .int .i64 0, .int .i64 0, .bool false] 24) = V := ⟨_, rfl⟩
  rw [hV] at three
  have C := Lib.hid three.1
  have Q := Lib.hid three.2.1
  have Z := Lib.hid three.2.2.1
  have O := Lib.hid (own_under ho three.2.2.2)
  have B := Lib.hid (three.2.2.2.mono hb)
  have BS := Lib.hid three.2.2.2
  have HLt := Lib.hid hlt
  have Hb := Lib.hid hb
  have hl := (RdX.of_own ho).len
  clear three ho hb hlt
  obtain ⟨a0, a1, a2, a3, a4⟩ := cells5 C.out
  obtain ⟨q0, q1, q2, q3, q4, q5⟩ := cells6 Q.out
  obtain ⟨z0, z1, z2, z3, z4⟩ := cells5 Z.out
  have f0 := Z.out.frozen 0
  have f1 := Z.out.frozen 1
  have f2 := Z.out.frozen 2
  have f3 := Z.out.frozen 3
  have f4 := Z.out.frozen 4
  have d1 : decide (q.a < 1) = false := decide_eq_false h1
  have d2 : decide (1099511627776 < q.a) = true := decide_eq_true h
  clear h1
  clear h hl
  go_enter Try.func25, Try.ntmps25
  go_wp2_with fail
  clear hV
  obtain ⟨W9, hW9, p1, p2, p3, p4⟩ := rl_fin (fl := x.fl) (dr := x.dr) (nw := x.nw) (tg := x.tg) Z.out O.out (fun k e => by have h1 := HLt.out k e; have h2 := Hb.out; omega) (by have := Hb.out; omega) B.out (frz_below BS.out) (by omega)
  rw [hW9]
  clear hW9
  obtain ⟨y0, y1, y2, y3, y4⟩ := cells5 p1
  refine bodyPost_ret (v := .tuple #[.agg #[.slice A n c, .int .i64 x.fl, .int .i64 x.dr, .int .i64 x.nw, .bool x.tg], .int .u8 3, .int .i64 0]) (by simp [results, Try.results25, go_sem, y0, y1, y2, y3, y4]) rfl ⟨A, n, c, rfl, p2, p3, p4⟩
set_option maxRecDepth 100000 in
set_option maxHeartbeats 4000000 in
theorem rl_refb (ho : w.ownsRow base 40 11 (.slice A n c) n (flat x.l)) (hb : base ≤ w.heap.size) (h1 : ¬ q.a < 1) (h2 : ¬ 1099511627776 < q.a) (h : isNum q.b = false) :
    Calls Try.prog 25 #[.agg #[.slice A n c, .int .i64 x.fl, .int .i64 x.dr, .int .i64 x.nw, .bool x.tg], .agg #[.int .u8 q.kind, .int .i64 q.call, .int .i64 q.a, .int .i64 q.b, .int .i64 q.c, .int .i64 q.d]] w (RL base x x.l 3 0 w) := by
  have three := whole_three (W := w) (t := 24) (u := 26) (v := 24) (x := #[.slice A n c, .int .i64 x.fl, .int .i64 x.dr, .int .i64 x.nw, .bool x.tg]) (y := #[.int .u8 q.kind, .int .i64 q.call, .int .i64 q.a, .int .i64 q.b, .int .i64 q.c, .int .i64 q.d]) (z := #[.slice none 0 0, .int .i64 0, .int .i64 0, .int .i64 0, .bool false])
  have hlt : ∀ k, (Value.slice A n c).ownBlock = some k → k < w.heap.size := fun k e => (ho.lt k e).2
  obtain ⟨V, hV⟩ : ∃ V, ((w.alloc (.cells #[.slice A n c, .int .i64 x.fl, .int .i64 x.dr, .int .i64 x.nw, .bool x.tg] 24)).alloc (.cells #[.int .u8 q.kind, .int .i64 q.call, .int .i64 q.a, .int .i64 q.b, .int .i64 q.c, .int .i64 q.d] 26)).alloc (.cells #[.slice none 0 0, .int .i64 0, .int .i64 0, .int .i64 0, .bool false] 24) = V := ⟨_, rfl⟩
  rw [hV] at three
  have C := Lib.hid three.1
  have Q := Lib.hid three.2.1
  have Z := Lib.hid three.2.2.1
  have O := Lib.hid (own_under ho three.2.2.2)
  have B := Lib.hid (three.2.2.2.mono hb)
  have BS := Lib.hid three.2.2.2
  have HLt := Lib.hid hlt
  have Hb := Lib.hid hb
  have hl := (RdX.of_own ho).len
  clear three ho hb hlt
  obtain ⟨a0, a1, a2, a3, a4⟩ := cells5 C.out
  obtain ⟨q0, q1, q2, q3, q4, q5⟩ := cells6 Q.out
  obtain ⟨z0, z1, z2, z3, z4⟩ := cells5 Z.out
  have f0 := Z.out.frozen 0
  have f1 := Z.out.frozen 1
  have f2 := Z.out.frozen 2
  have f3 := Z.out.frozen 3
  have f4 := Z.out.frozen 4
  have d1 : decide (q.a < 1) = false := decide_eq_false h1
  have d2 : decide (1099511627776 < q.a) = false := decide_eq_false h2
  clear h1 h2
  have HB := Lib.hid (fun W => rnumber_any q.b W)
  rw [h] at HB
  clear h hl
  go_enter Try.func25, Try.ntmps25
  go_wp2_with fail
  refine (HB.out _).mono ?_
  rintro e w1 ⟨rfl, rfl⟩
  clear HB
  go_wp2_with fail
  clear hV
  obtain ⟨W9, hW9, p1, p2, p3, p4⟩ := rl_fin (fl := x.fl) (dr := x.dr) (nw := x.nw) (tg := x.tg) Z.out O.out (fun k e => by have h1 := HLt.out k e; have h2 := Hb.out; omega) (by have := Hb.out; omega) B.out (frz_below BS.out) (by omega)
  rw [hW9]
  clear hW9
  obtain ⟨y0, y1, y2, y3, y4⟩ := cells5 p1
  refine bodyPost_ret (v := .tuple #[.agg #[.slice A n c, .int .i64 x.fl, .int .i64 x.dr, .int .i64 x.nw, .bool x.tg], .int .u8 3, .int .i64 0]) (by simp [results, Try.results25, go_sem, y0, y1, y2, y3, y4]) rfl ⟨A, n, c, rfl, p2, p3, p4⟩
set_option maxRecDepth 100000 in
set_option maxHeartbeats 4000000 in
theorem rl_refc (ho : w.ownsRow base 40 11 (.slice A n c) n (flat x.l)) (hb : base ≤ w.heap.size) (h1 : ¬ q.a < 1) (h2 : ¬ 1099511627776 < q.a) (h3 : isNum q.b = true) (h : isNum q.c = false) :
    Calls Try.prog 25 #[.agg #[.slice A n c, .int .i64 x.fl, .int .i64 x.dr, .int .i64 x.nw, .bool x.tg], .agg #[.int .u8 q.kind, .int .i64 q.call, .int .i64 q.a, .int .i64 q.b, .int .i64 q.c, .int .i64 q.d]] w (RL base x x.l 3 0 w) := by
  have three := whole_three (W := w) (t := 24) (u := 26) (v := 24) (x := #[.slice A n c, .int .i64 x.fl, .int .i64 x.dr, .int .i64 x.nw, .bool x.tg]) (y := #[.int .u8 q.kind, .int .i64 q.call, .int .i64 q.a, .int .i64 q.b, .int .i64 q.c, .int .i64 q.d]) (z := #[.slice none 0 0, .int .i64 0, .int .i64 0, .int .i64 0, .bool false])
  have hlt : ∀ k, (Value.slice A n c).ownBlock = some k → k < w.heap.size := fun k e => (ho.lt k e).2
  obtain ⟨V, hV⟩ : ∃ V, ((w.alloc (.cells #[.slice A n c, .int .i64 x.fl, .int .i64 x.dr, .int .i64 x.nw, .bool x.tg] 24)).alloc (.cells #[.int .u8 q.kind, .int .i64 q.call, .int .i64 q.a, .int .i64 q.b, .int .i64 q.c, .int .i64 q.d] 26)).alloc (.cells #[.slice none 0 0, .int .i64 0, .int .i64 0, .int .i64 0, .bool false] 24) = V := ⟨_, rfl⟩
  rw [hV] at three
  have C := Lib.hid three.1
  have Q := Lib.hid three.2.1
  have Z := Lib.hid three.2.2.1
  have O := Lib.hid (own_under ho three.2.2.2)
  have B := Lib.hid (three.2.2.2.mono hb)
  have BS := Lib.hid three.2.2.2
  have HLt := Lib.hid hlt
  have Hb := Lib.hid hb
  have hl := (RdX.of_own ho).len
  clear three ho hb hlt
  obtain ⟨a0, a1, a2, a3, a4⟩ := cells5 C.out
  obtain ⟨q0, q1, q2, q3, q4, q5⟩ := cells6 Q.out
  obtain ⟨z0, z1, z2, z3, z4⟩ := cells5 Z.out
  have f0 := Z.out.frozen 0
  have f1 := Z.out.frozen 1
  have f2 := Z.out.frozen 2
  have f3 := Z.out.frozen 3
  have f4 := Z.out.frozen 4
  have d1 : decide (q.a < 1) = false := decide_eq_false h1
  have d2 : decide (1099511627776 < q.a) = false := decide_eq_false h2
  clear h1 h2
  have HB := Lib.hid (fun W => rnumber_any q.b W)
  rw [h3] at HB
  have HC := Lib.hid (fun W => rnumber_any q.c W)
  rw [h] at HC
  clear h3
  clear h hl
  go_enter Try.func25, Try.ntmps25
  go_wp2_with fail
  refine (HB.out _).mono ?_
  rintro e w1 ⟨rfl, rfl⟩
  clear HB
  go_wp2_with fail
  refine (HC.out _).mono ?_
  rintro e w1 ⟨rfl, rfl⟩
  clear HC
  go_wp2_with fail
  clear hV
  obtain ⟨W9, hW9, p1, p2, p3, p4⟩ := rl_fin (fl := x.fl) (dr := x.dr) (nw := x.nw) (tg := x.tg) Z.out O.out (fun k e => by have h1 := HLt.out k e; have h2 := Hb.out; omega) (by have := Hb.out; omega) B.out (frz_below BS.out) (by omega)
  rw [hW9]
  clear hW9
  obtain ⟨y0, y1, y2, y3, y4⟩ := cells5 p1
  refine bodyPost_ret (v := .tuple #[.agg #[.slice A n c, .int .i64 x.fl, .int .i64 x.dr, .int .i64 x.nw, .bool x.tg], .int .u8 3, .int .i64 0]) (by simp [results, Try.results25, go_sem, y0, y1, y2, y3, y4]) rfl ⟨A, n, c, rfl, p2, p3, p4⟩
set_option maxRecDepth 100000 in
set_option maxHeartbeats 4000000 in
theorem rl_refd (ho : w.ownsRow base 40 11 (.slice A n c) n (flat x.l)) (hb : base ≤ w.heap.size) (h1 : ¬ q.a < 1) (h2 : ¬ 1099511627776 < q.a) (h3 : isNum q.b = true) (h4 : isNum q.c = true) (h : q.d < 0) :
    Calls Try.prog 25 #[.agg #[.slice A n c, .int .i64 x.fl, .int .i64 x.dr, .int .i64 x.nw, .bool x.tg], .agg #[.int .u8 q.kind, .int .i64 q.call, .int .i64 q.a, .int .i64 q.b, .int .i64 q.c, .int .i64 q.d]] w (RL base x x.l 3 0 w) := by
  have three := whole_three (W := w) (t := 24) (u := 26) (v := 24) (x := #[.slice A n c, .int .i64 x.fl, .int .i64 x.dr, .int .i64 x.nw, .bool x.tg]) (y := #[.int .u8 q.kind, .int .i64 q.call, .int .i64 q.a, .int .i64 q.b, .int .i64 q.c, .int .i64 q.d]) (z := #[.slice none 0 0, .int .i64 0, .int .i64 0, .int .i64 0, .bool false])
  have hlt : ∀ k, (Value.slice A n c).ownBlock = some k → k < w.heap.size := fun k e => (ho.lt k e).2
  obtain ⟨V, hV⟩ : ∃ V, ((w.alloc (.cells #[.slice A n c, .int .i64 x.fl, .int .i64 x.dr, .int .i64 x.nw, .bool x.tg] 24)).alloc (.cells #[.int .u8 q.kind, .int .i64 q.call, .int .i64 q.a, .int .i64 q.b, .int .i64 q.c, .int .i64 q.d] 26)).alloc (.cells #[.slice none 0 0, .int .i64 0, .int .i64 0, .int .i64 0, .bool false] 24) = V := ⟨_, rfl⟩
  rw [hV] at three
  have C := Lib.hid three.1
  have Q := Lib.hid three.2.1
  have Z := Lib.hid three.2.2.1
  have O := Lib.hid (own_under ho three.2.2.2)
  have B := Lib.hid (three.2.2.2.mono hb)
  have BS := Lib.hid three.2.2.2
  have HLt := Lib.hid hlt
  have Hb := Lib.hid hb
  have hl := (RdX.of_own ho).len
  clear three ho hb hlt
  obtain ⟨a0, a1, a2, a3, a4⟩ := cells5 C.out
  obtain ⟨q0, q1, q2, q3, q4, q5⟩ := cells6 Q.out
  obtain ⟨z0, z1, z2, z3, z4⟩ := cells5 Z.out
  have f0 := Z.out.frozen 0
  have f1 := Z.out.frozen 1
  have f2 := Z.out.frozen 2
  have f3 := Z.out.frozen 3
  have f4 := Z.out.frozen 4
  have d1 : decide (q.a < 1) = false := decide_eq_false h1
  have d2 : decide (1099511627776 < q.a) = false := decide_eq_false h2
  clear h1 h2
  have HB := Lib.hid (fun W => rnumber_any q.b W)
  rw [h3] at HB
  have HC := Lib.hid (fun W => rnumber_any q.c W)
  rw [h4] at HC
  clear h3 h4
  have d5 : decide (q.d < 0) = true := decide_eq_true h
  clear h hl
  go_enter Try.func25, Try.ntmps25
  go_wp2_with fail
  refine (HB.out _).mono ?_
  rintro e w1 ⟨rfl, rfl⟩
  clear HB
  go_wp2_with fail
  refine (HC.out _).mono ?_
  rintro e w1 ⟨rfl, rfl⟩
  clear HC
  go_wp2_with fail
  clear hV
  obtain ⟨W9, hW9, p1, p2, p3, p4⟩ := rl_fin (fl := x.fl) (dr := x.dr) (nw := x.nw) (tg := x.tg) Z.out O.out (fun k e => by have h1 := HLt.out k e; have h2 := Hb.out; omega) (by have := Hb.out; omega) B.out (frz_below BS.out) (by omega)
  rw [hW9]
  clear hW9
  obtain ⟨y0, y1, y2, y3, y4⟩ := cells5 p1
  refine bodyPost_ret (v := .tuple #[.agg #[.slice A n c, .int .i64 x.fl, .int .i64 x.dr, .int .i64 x.nw, .bool x.tg], .int .u8 3, .int .i64 0]) (by simp [results, Try.results25, go_sem, y0, y1, y2, y3, y4]) rfl ⟨A, n, c, rfl, p2, p3, p4⟩
theorem firstAt_of {l : List Bx} {a : Int} {j : Nat} {u : Bx} (h : ∀ k y, k < j → l[k]? = some y → (y.tok == a) = false) (hu : l[j]? = some u) (ht : u.tok = a) : firstAt (fun y => y.tok == a) l = some j :=
  firstAt_is hu (by simp [ht]) h
theorem firstAt_no {l : List Bx} {a : Int} {j : Nat} (h : ∀ k y, k < j → l[k]? = some y → (y.tok == a) = false) (hj : l.length ≤ j) : firstAt (fun y => y.tok == a) l = none :=
  firstAt_none.2 fun y hy => by
    obtain ⟨k, hk⟩ := List.getElem?_of_mem hy
    exact h k y (by have := (List.getElem?_eq_some_iff.1 hk).1; omega) hk

set_option maxRecDepth 100000 in
set_option maxHeartbeats 4000000 in
theorem rl_there (ho : w.ownsRow base 40 11 (.slice A n c) n (flat x.l)) (hb : base ≤ w.heap.size) (hn : n ≤ 1000) (h1 : ¬ q.a < 1) (h2 : ¬ 1099511627776 < q.a) (h3 : isNum q.b = true) (h4 : isNum q.c = true) (h5 : ¬ q.d < 0) {i : Nat} {y : Bx} (hp : firstAt (fun y => y.tok == q.a) x.l = some i) (hy : x.l[i]? = some y) :
    Calls Try.prog 25 #[.agg #[.slice A n c, .int .i64 x.fl, .int .i64 x.dr, .int .i64 x.nw, .bool x.tg], .agg #[.int .u8 q.kind, .int .i64 q.call, .int .i64 q.a, .int .i64 q.b, .int .i64 q.c, .int .i64 q.d]] w (RL base x x.l 1 y.id w) := by
  have three := whole_three (W := w) (t := 24) (u := 26) (v := 24) (x := #[.slice A n c, .int .i64 x.fl, .int .i64 x.dr, .int .i64 x.nw, .bool x.tg]) (y := #[.int .u8 q.kind, .int .i64 q.call, .int .i64 q.a, .int .i64 q.b, .int .i64 q.c, .int .i64 q.d]) (z := #[.slice none 0 0, .int .i64 0, .int .i64 0, .int .i64 0, .bool false])
  have hlt : ∀ k, (Value.slice A n c).ownBlock = some k → k < w.heap.size := fun k e => (ho.lt k e).2
  obtain ⟨V, hV⟩ : ∃ V, ((w.alloc (.cells #[.slice A n c, .int .i64 x.fl, .int .i64 x.dr, .int .i64 x.nw, .bool x.tg] 24)).alloc (.cells #[.int .u8 q.kind, .int .i64 q.call, .int .i64 q.a, .int .i64 q.b, .int .i64 q.c, .int .i64 q.d] 26)).alloc (.cells #[.slice none 0 0, .int .i64 0, .int .i64 0, .int .i64 0, .bool false] 24) = V := ⟨_, rfl⟩
  rw [hV] at three
  have C := Lib.hid three.1
  have Q := Lib.hid three.2.1
  have Z := Lib.hid three.2.2.1
  have O := Lib.hid (own_under ho three.2.2.2)
  have B := Lib.hid (three.2.2.2.mono hb)
  have BS := Lib.hid three.2.2.2
  have HLt := Lib.hid hlt
  have Hb := Lib.hid hb
  have hl := (RdX.of_own ho).len
  clear three ho hb hlt
  obtain ⟨a0, a1, a2, a3, a4⟩ := cells5 C.out
  obtain ⟨q0, q1, q2, q3, q4, q5⟩ := cells6 Q.out
  obtain ⟨z0, z1, z2, z3, z4⟩ := cells5 Z.out
  have f0 := Z.out.frozen 0
  have f1 := Z.out.frozen 1
  have f2 := Z.out.frozen 2
  have f3 := Z.out.frozen 3
  have f4 := Z.out.frozen 4
  have d1 : decide (q.a < 1) = false := decide_eq_false h1
  have d2 : decide (1099511627776 < q.a) = false := decide_eq_false h2
  clear h1 h2
  have HB := Lib.hid (fun W => rnumber_any q.b W)
  rw [h3] at HB
  have HC := Lib.hid (fun W => rnumber_any q.c W)
  rw [h4] at HC
  clear h3 h4
  have d5 : decide (q.d < 0) = false := decide_eq_false h5
  clear h5
  go_enter Try.func25, Try.ntmps25
  go_wp2_with fail
  refine (HB.out _).mono ?_
  rintro e w1 ⟨rfl, rfl⟩
  clear HB
  go_wp2_with fail
  refine (HC.out _).mono ?_
  rintro e w1 ⟨rfl, rfl⟩
  clear HC
  go_wp2_with fail
  clear hV d1 d2 d5 q0 q1 q2 q3 q4 q5 a0 a1 a2 a3 a4 z0 z1 z2 z3 z4 f0 f1 f2 f3 f4
  go_loopw [7] (fun i wr => ∃ j : Nat, i = .int .i64 (j : Int) ∧ j ≤ n ∧ (∀ k y, k < j → x.l[k]? = some y → (y.tok == q.a) = false) ∧ Below V.heap.size V wr) (fun i _ => n - (intOf i).toNat)
  case atStart => exact ⟨0, rfl, Nat.zero_le _, fun k y hk => by omega, Below.refl _ _⟩
  case round =>
    obtain ⟨j, rfl, hj, hT, hW⟩ := hrel
    have HT := Lib.hid hT
    have C2 := Lib.hid (C.out.under hW)
    have Q2 := Lib.hid (Q.out.under hW)
    have Z2 := Lib.hid (Z.out.under hW)
    have O2 := Lib.hid (own_under O.out hW)
    have B2 := Lib.hid (B.out.trans (hW.mono (Nat.le_trans Hb.out BS.out.size)))
    have HW := Lib.hid hW
    have F2 := Lib.hid (frz_below (BS.out.trans (hW.mono BS.out.size)))
    clear hT hW
    obtain ⟨a0, a1, a2, a3, a4⟩ := cells5 C2.out
    obtain ⟨q0, q1, q2, q3, q4, q5⟩ := cells6 Q2.out
    by_cases hlt : j < n
    · have hji : (j : Int) < (n : Int) := by omega
      obtain ⟨u, hu⟩ : ∃ u, x.l[j]? = some u := ⟨_, List.getElem?_eq_getElem (by omega)⟩
      obtain ⟨b, off, e1, hbl, hc⟩ := (RdX.of_own O2.out).2 (by omega)
      subst e1
      obtain ⟨c0, c1, c2, c3, c4, c5, c6, c7, c8, c9, c10⟩ := hc j u hu
      have HU := Lib.hid hu
      have HJ := Lib.hid hlt
      clear hc hbl hu hlt hj
      by_cases ht : u.tok = q.a
      · have dt : (u.tok == q.a) = true := by simp [ht]
        have hf := firstAt_of HT.out HU.out ht
        rw [hf] at hp
        cases hp
        have hx := HU.out
        rw [hx] at hy
        cases hy
        obtain ⟨z0, z1, z2, z3, z4⟩ := cells5 Z2.out
        have f0 := Z2.out.frozen 0
        have f1 := Z2.out.frozen 1
        have f2 := Z2.out.frozen 2
        have f3 := Z2.out.frozen 3
        have f4 := Z2.out.frozen 4
        clear ht hf hx
        go_wp2_with fail
        go_quiet (fail)
        go_wp2_with fail
        have C3 := Lib.hid (C2.out.under (below_drewN (Below.refl _ wr) nq))
        have Z3 := Lib.hid (Z2.out.under (below_drewN (Below.refl _ wr) (nq + 1)))
        have O3 := Lib.hid (own_under O2.out (below_drewN (Below.refl _ wr) (nq + 1)))
        have B3 := Lib.hid (below_drewN B2.out (nq + 1))
        have F3 := Lib.hid (F2.out.trans (frz_below (below_drewN (Below.refl _ wr) (nq + 1))))
        have kp := kept5 (Z2.out.under (below_drewN (Below.refl _ wr) (nq + 1))) (.slice (some ⟨b, off, none⟩) n c) (.int .i64 x.fl) (.int .i64 x.dr) (.int .i64 x.nw) (.bool x.tg)
        have bel := kp.2.bel w.heap.size wr (by omega) (below_drewN (Below.refl w.heap.size wr) (nq + 1))
        have c0' := (bel.cell (HLt.out b rfl)).trans c0
        clear kp bel
        go_region
        obtain ⟨W9, hW9, p1, p2, p3, p4⟩ := rl_fin (fl := x.fl) (dr := x.dr) (nw := x.nw) (tg := x.tg) Z3.out O3.out (fun k e => by have h1 := HLt.out k e; have h2 := Hb.out; omega) (by have := Hb.out; omega) B3.out F3.out (by omega)
        rw [hW9]
        clear hW9
        obtain ⟨y0, y1, y2, y3, y4⟩ := cells5 p1
        go_wp2_with fail
        refine bodyPost_ret (v := .tuple #[.agg #[.slice _ n c, .int .i64 x.fl, .int .i64 x.dr, .int .i64 x.nw, .bool x.tg], .int .u8 1, .int .i64 y.id]) (by simp [results, Try.results25, go_sem, y0, y1, y2, y3, y4]) rfl ⟨_, n, c, rfl, p2, p3, p4⟩
      · have dt : (u.tok == q.a) = false := by simp [ht]
        have HN : Hid (∀ k y, k < j + 1 → x.l[k]? = some y → (y.tok == q.a) = false) := Lib.hid (fun k y hk hy => by
          rcases Nat.lt_or_eq_of_le (Nat.le_of_lt_succ hk) with h1 | h1
          · exact HT.out k y h1 hy
          · rw [h1, HU.out] at hy
            rw [← Option.some.inj hy]
            simp [ht])
        clear ht
        go_wp2_with fail
        go_quiet (fail)
        go_wp2_with fail
        go_roundw
        case rel => exact ⟨j + 1, by go_num, by have := HJ.out; omega, HN.out, below_drewN HW.out _⟩
        case measure => have := HJ.out; simp [intOf]; omega
    · have dj : decide (j < n) = false := decide_eq_false hlt
      exact absurd hp (by rw [firstAt_no HT.out (by omega)]; simp)
set_option maxRecDepth 100000 in
set_option maxHeartbeats 4000000 in
theorem rl_tight (ho : w.ownsRow base 40 11 (.slice A n c) n (flat x.l)) (hb : base ≤ w.heap.size) (hn : n ≤ 1000) (h1 : ¬ q.a < 1) (h2 : ¬ 1099511627776 < q.a) (h3 : isNum q.b = true) (h4 : isNum q.c = true) (h5 : ¬ q.d < 0) (hp : firstAt (fun y => y.tok == q.a) x.l = none) (ht : x.tg = true) :
    Calls Try.prog 25 #[.agg #[.slice A n c, .int .i64 x.fl, .int .i64 x.dr, .int .i64 x.nw, .bool x.tg], .agg #[.int .u8 q.kind, .int .i64 q.call, .int .i64 q.a, .int .i64 q.b, .int .i64 q.c, .int .i64 q.d]] w (RL base x x.l 4 0 w) := by
  have three := whole_three (W := w) (t := 24) (u := 26) (v := 24) (x := #[.slice A n c, .int .i64 x.fl, .int .i64 x.dr, .int .i64 x.nw, .bool x.tg]) (y := #[.int .u8 q.kind, .int .i64 q.call, .int .i64 q.a, .int .i64 q.b, .int .i64 q.c, .int .i64 q.d]) (z := #[.slice none 0 0, .int .i64 0, .int .i64 0, .int .i64 0, .bool false])
  have hlt : ∀ k, (Value.slice A n c).ownBlock = some k → k < w.heap.size := fun k e => (ho.lt k e).2
  obtain ⟨V, hV⟩ : ∃ V, ((w.alloc (.cells #[.slice A n c, .int .i64 x.fl, .int .i64 x.dr, .int .i64 x.nw, .bool x.tg] 24)).alloc (.cells #[.int .u8 q.kind, .int .i64 q.call, .int .i64 q.a, .int .i64 q.b, .int .i64 q.c, .int .i64 q.d] 26)).alloc (.cells #[.slice none 0 0, .int .i64 0, .int .i64 0, .int .i64 0, .bool false] 24) = V := ⟨_, rfl⟩
  rw [hV] at three
  have C := Lib.hid three.1
  have Q := Lib.hid three.2.1
  have Z := Lib.hid three.2.2.1
  have O := Lib.hid (own_under ho three.2.2.2)
  have B := Lib.hid (three.2.2.2.mono hb)
  have BS := Lib.hid three.2.2.2
  have HLt := Lib.hid hlt
  have Hb := Lib.hid hb
  have hl := (RdX.of_own ho).len
  clear three ho hb hlt
  obtain ⟨a0, a1, a2, a3, a4⟩ := cells5 C.out
  obtain ⟨q0, q1, q2, q3, q4, q5⟩ := cells6 Q.out
  obtain ⟨z0, z1, z2, z3, z4⟩ := cells5 Z.out
  have f0 := Z.out.frozen 0
  have f1 := Z.out.frozen 1
  have f2 := Z.out.frozen 2
  have f3 := Z.out.frozen 3
  have f4 := Z.out.frozen 4
  have HTg := Lib.hid ht
  clear ht
  have d1 : decide (q.a < 1) = false := decide_eq_false h1
  have d2 : decide (1099511627776 < q.a) = false := decide_eq_false h2
  clear h1 h2
  have HB := Lib.hid (fun W => rnumber_any q.b W)
  rw [h3] at HB
  have HC := Lib.hid (fun W => rnumber_any q.c W)
  rw [h4] at HC
  clear h3 h4
  have d5 : decide (q.d < 0) = false := decide_eq_false h5
  clear h5
  go_enter Try.func25, Try.ntmps25
  go_wp2_with fail
  refine (HB.out _).mono ?_
  rintro e w1 ⟨rfl, rfl⟩
  clear HB
  go_wp2_with fail
  refine (HC.out _).mono ?_
  rintro e w1 ⟨rfl, rfl⟩
  clear HC
  go_wp2_with fail
  clear hV d1 d2 d5 q0 q1 q2 q3 q4 q5 a0 a1 a2 a3 a4 z0 z1 z2 z3 z4 f0 f1 f2 f3 f4
  go_loopw [7] (fun i wr => ∃ j : Nat, i = .int .i64 (j : Int) ∧ j ≤ n ∧ (∀ k y, k < j → x.l[k]? = some y → (y.tok == q.a) = false) ∧ Below V.heap.size V wr) (fun i _ => n - (intOf i).toNat)
  case atStart => exact ⟨0, rfl, Nat.zero_le _, fun k y hk => by omega, Below.refl _ _⟩
  case round =>
    obtain ⟨j, rfl, hj, hT, hW⟩ := hrel
    have HT := Lib.hid hT
    have C2 := Lib.hid (C.out.under hW)
    have Q2 := Lib.hid (Q.out.under hW)
    have Z2 := Lib.hid (Z.out.under hW)
    have O2 := Lib.hid (own_under O.out hW)
    have B2 := Lib.hid (B.out.trans (hW.mono (Nat.le_trans Hb.out BS.out.size)))
    have HW := Lib.hid hW
    have F2 := Lib.hid (frz_below (BS.out.trans (hW.mono BS.out.size)))
    clear hT hW
    obtain ⟨a0, a1, a2, a3, a4⟩ := cells5 C2.out
    obtain ⟨q0, q1, q2, q3, q4, q5⟩ := cells6 Q2.out
    by_cases hlt : j < n
    · have hji : (j : Int) < (n : Int) := by omega
      obtain ⟨u, hu⟩ : ∃ u, x.l[j]? = some u := ⟨_, List.getElem?_eq_getElem (by omega)⟩
      obtain ⟨b, off, e1, hbl, hc⟩ := (RdX.of_own O2.out).2 (by omega)
      subst e1
      obtain ⟨c0, c1, c2, c3, c4, c5, c6, c7, c8, c9, c10⟩ := hc j u hu
      have HU := Lib.hid hu
      have HJ := Lib.hid hlt
      clear hc hbl hu hlt hj
      by_cases ht : u.tok = q.a
      · have dt : (u.tok == q.a) = true := by simp [ht]
        exact absurd hp (by rw [firstAt_of HT.out HU.out ht]; simp)
      · have dt : (u.tok == q.a) = false := by simp [ht]
        have HN : Hid (∀ k y, k < j + 1 → x.l[k]? = some y → (y.tok == q.a) = false) := Lib.hid (fun k y hk hy => by
          rcases Nat.lt_or_eq_of_le (Nat.le_of_lt_succ hk) with h1 | h1
          · exact HT.out k y h1 hy
          · rw [h1, HU.out] at hy
            rw [← Option.some.inj hy]
            simp [ht])
        clear ht
        go_wp2_with fail
        go_quiet (fail)
        go_wp2_with fail
        go_roundw
        case rel => exact ⟨j + 1, by go_num, by have := HJ.out; omega, HN.out, below_drewN HW.out _⟩
        case measure => have := HJ.out; simp [intOf]; omega
    · have dj : decide (j < n) = false := decide_eq_false hlt
      skip
      skip
      rw [HTg.out] at a4
      obtain ⟨z0, z1, z2, z3, z4⟩ := cells5 Z2.out
      have f0 := Z2.out.frozen 0
      have f1 := Z2.out.frozen 1
      have f2 := Z2.out.frozen 2
      have f3 := Z2.out.frozen 3
      have f4 := Z2.out.frozen 4
      clear hlt hj
      go_wp2_with fail
      obtain ⟨W9, hW9, p1, p2, p3, p4⟩ := rl_fin (fl := x.fl) (dr := x.dr) (nw := x.nw) (tg := true) Z2.out O2.out (fun k e => by have h1 := HLt.out k e; have h2 := Hb.out; omega) (by have := Hb.out; omega) B2.out F2.out (by omega)
      rw [hW9]
      clear hW9
      obtain ⟨y0, y1, y2, y3, y4⟩ := cells5 p1
      refine bodyPost_ret (v := .tuple #[.agg #[.slice A n c, .int .i64 x.fl, .int .i64 x.dr, .int .i64 x.nw, .bool true], .int .u8 4, .int .i64 0]) (by simp [results, Try.results25, go_sem, y0, y1, y2, y3, y4]) rfl ⟨A, n, c, by rw [HTg.out], p2, p3, p4⟩
set_option maxRecDepth 100000 in
set_option maxHeartbeats 4000000 in
theorem rl_full (ho : w.ownsRow base 40 11 (.slice A n c) n (flat x.l)) (hb : base ≤ w.heap.size) (hn : n ≤ 1000) (h1 : ¬ q.a < 1) (h2 : ¬ 1099511627776 < q.a) (h3 : isNum q.b = true) (h4 : isNum q.c = true) (h5 : ¬ q.d < 0) (hp : firstAt (fun y => y.tok == q.a) x.l = none) (ht : x.tg = false) (h6 : 60 ≤ n) :
    Calls Try.prog 25 #[.agg #[.slice A n c, .int .i64 x.fl, .int .i64 x.dr, .int .i64 x.nw, .bool x.tg], .agg #[.int .u8 q.kind, .int .i64 q.call, .int .i64 q.a, .int .i64 q.b, .int .i64 q.c, .int .i64 q.d]] w (RL base x x.l 4 0 w) := by
  have three := whole_three (W := w) (t := 24) (u := 26) (v := 24) (x := #[.slice A n c, .int .i64 x.fl, .int .i64 x.dr, .int .i64 x.nw, .bool x.tg]) (y := #[.int .u8 q.kind, .int .i64 q.call, .int .i64 q.a, .int .i64 q.b, .int .i64 q.c, .int .i64 q.d]) (z := #[.slice none 0 0, .int .i64 0, .int .i64 0, .int .i64 0, .bool false])
  have hlt : ∀ k, (Value.slice A n c).ownBlock = some k → k < w.heap.size := fun k e => (ho.lt k e).2
  obtain ⟨V, hV⟩ : ∃ V, ((w.alloc (.cells #[.slice A n c, .int .i64 x.fl, .int .i64 x.dr, .int .i64 x.nw, .bool x.tg] 24)).alloc (.cells #[.int .u8 q.kind, .int .i64 q.call, .int .i64 q.a, .int .i64 q.b, .int .i64 q.c, .int .i64 q.d] 26)).alloc (.cells #[.slice none 0 0, .int .i64 0, .int .i64 0, .int .i64 0, .bool false] 24) = V := ⟨_, rfl⟩
  rw [hV] at three
  have C := Lib.hid three.1
  have Q := Lib.hid three.2.1
  have Z := Lib.hid three.2.2.1
  have O := Lib.hid (own_under ho three.2.2.2)
  have B := Lib.hid (three.2.2.2.mono hb)
  have BS := Lib.hid three.2.2.2
  have HLt := Lib.hid hlt
  have Hb := Lib.hid hb
  have hl := (RdX.of_own ho).len
  clear three ho hb hlt
  obtain ⟨a0, a1, a2, a3, a4⟩ := cells5 C.out
  obtain ⟨q0, q1, q2, q3, q4, q5⟩ := cells6 Q.out
  obtain ⟨z0, z1, z2, z3, z4⟩ := cells5 Z.out
  have f0 := Z.out.frozen 0
  have f1 := Z.out.frozen 1
  have f2 := Z.out.frozen 2
  have f3 := Z.out.frozen 3
  have f4 := Z.out.frozen 4
  have HTg := Lib.hid ht
  clear ht
  have d1 : decide (q.a < 1) = false := decide_eq_false h1
  have d2 : decide (1099511627776 < q.a) = false := decide_eq_false h2
  clear h1 h2
  have HB := Lib.hid (fun W => rnumber_any q.b W)
  rw [h3] at HB
  have HC := Lib.hid (fun W => rnumber_any q.c W)
  rw [h4] at HC
  clear h3 h4
  have d5 : decide (q.d < 0) = false := decide_eq_false h5
  clear h5
  go_enter Try.func25, Try.ntmps25
  go_wp2_with fail
  refine (HB.out _).mono ?_
  rintro e w1 ⟨rfl, rfl⟩
  clear HB
  go_wp2_with fail
  refine (HC.out _).mono ?_
  rintro e w1 ⟨rfl, rfl⟩
  clear HC
  go_wp2_with fail
  clear hV d1 d2 d5 q0 q1 q2 q3 q4 q5 a0 a1 a2 a3 a4 z0 z1 z2 z3 z4 f0 f1 f2 f3 f4
  go_loopw [7] (fun i wr => ∃ j : Nat, i = .int .i64 (j : Int) ∧ j ≤ n ∧ (∀ k y, k < j → x.l[k]? = some y → (y.tok == q.a) = false) ∧ Below V.heap.size V wr) (fun i _ => n - (intOf i).toNat)
  case atStart => exact ⟨0, rfl, Nat.zero_le _, fun k y hk => by omega, Below.refl _ _⟩
  case round =>
    obtain ⟨j, rfl, hj, hT, hW⟩ := hrel
    have HT := Lib.hid hT
    have C2 := Lib.hid (C.out.under hW)
    have Q2 := Lib.hid (Q.out.under hW)
    have Z2 := Lib.hid (Z.out.under hW)
    have O2 := Lib.hid (own_under O.out hW)
    have B2 := Lib.hid (B.out.trans (hW.mono (Nat.le_trans Hb.out BS.out.size)))
    have HW := Lib.hid hW
    have F2 := Lib.hid (frz_below (BS.out.trans (hW.mono BS.out.size)))
    clear hT hW
    obtain ⟨a0, a1, a2, a3, a4⟩ := cells5 C2.out
    obtain ⟨q0, q1, q2, q3, q4, q5⟩ := cells6 Q2.out
    by_cases hlt : j < n
    · have hji : (j : Int) < (n : Int) := by omega
      obtain ⟨u, hu⟩ : ∃ u, x.l[j]? = some u := ⟨_, List.getElem?_eq_getElem (by omega)⟩
      obtain ⟨b, off, e1, hbl, hc⟩ := (RdX.of_own O2.out).2 (by omega)
      subst e1
      obtain ⟨c0, c1, c2, c3, c4, c5, c6, c7, c8, c9, c10⟩ := hc j u hu
      have HU := Lib.hid hu
      have HJ := Lib.hid hlt
      clear hc hbl hu hlt hj
      by_cases ht : u.tok = q.a
      · have dt : (u.tok == q.a) = true := by simp [ht]
        exact absurd hp (by rw [firstAt_of HT.out HU.out ht]; simp)
      · have dt : (u.tok == q.a) = false := by simp [ht]
        have HN : Hid (∀ k y, k < j + 1 → x.l[k]? = some y → (y.tok == q.a) = false) := Lib.hid (fun k y hk hy => by
          rcases Nat.lt_or_eq_of_le (Nat.le_of_lt_succ hk) with h1 | h1
          · exact HT.out k y h1 hy
          · rw [h1, HU.out] at hy
            rw [← Option.some.inj hy]
            simp [ht])
        clear ht
        go_wp2_with fail
        go_quiet (fail)
        go_wp2_with fail
        go_roundw
        case rel => exact ⟨j + 1, by go_num, by have := HJ.out; omega, HN.out, below_drewN HW.out _⟩
        case measure => have := HJ.out; simp [intOf]; omega
    · have dj : decide (j < n) = false := decide_eq_false hlt
      skip
      have d6 : decide ((60 : Int) ≤ (n : Int)) = true := decide_eq_true (by omega)
      rw [HTg.out] at a4
      obtain ⟨z0, z1, z2, z3, z4⟩ := cells5 Z2.out
      have f0 := Z2.out.frozen 0
      have f1 := Z2.out.frozen 1
      have f2 := Z2.out.frozen 2
      have f3 := Z2.out.frozen 3
      have f4 := Z2.out.frozen 4
      clear hlt hj
      go_wp2_with fail
      obtain ⟨W9, hW9, p1, p2, p3, p4⟩ := rl_fin (fl := x.fl) (dr := x.dr) (nw := x.nw) (tg := false) Z2.out O2.out (fun k e => by have h1 := HLt.out k e; have h2 := Hb.out; omega) (by have := Hb.out; omega) B2.out F2.out (by omega)
      rw [hW9]
      clear hW9
      obtain ⟨y0, y1, y2, y3, y4⟩ := cells5 p1
      refine bodyPost_ret (v := .tuple #[.agg #[.slice A n c, .int .i64 x.fl, .int .i64 x.dr, .int .i64 x.nw, .bool false], .int .u8 4, .int .i64 0]) (by simp [results, Try.results25, go_sem, y0, y1, y2, y3, y4]) rfl ⟨A, n, c, by rw [HTg.out], p2, p3, p4⟩
set_option maxRecDepth 100000 in
set_option maxHeartbeats 4000000 in
theorem rl_new (ho : w.ownsRow base 40 11 (.slice A n c) n (flat x.l)) (hb : base ≤ w.heap.size) (hn : n ≤ 1000) (h1 : ¬ q.a < 1) (h2 : ¬ 1099511627776 < q.a) (h3 : isNum q.b = true) (h4 : isNum q.c = true) (h5 : ¬ q.d < 0) (hp : firstAt (fun y => y.tok == q.a) x.l = none) (ht : x.tg = false) (h6 : ¬ 60 ≤ n) :
    Calls Try.prog 25 #[.agg #[.slice A n c, .int .i64 x.fl, .int .i64 x.dr, .int .i64 x.nw, .bool x.tg], .agg #[.int .u8 q.kind, .int .i64 q.call, .int .i64 q.a, .int .i64 q.b, .int .i64 q.c, .int .i64 q.d]] w (RL base x (x.l ++ [madeB ((n : Int) + 1) q]) 1 ((n : Int) + 1) w) := by
  have three := whole_three (W := w) (t := 24) (u := 26) (v := 24) (x := #[.slice A n c, .int .i64 x.fl, .int .i64 x.dr, .int .i64 x.nw, .bool x.tg]) (y := #[.int .u8 q.kind, .int .i64 q.call, .int .i64 q.a, .int .i64 q.b, .int .i64 q.c, .int .i64 q.d]) (z := #[.slice none 0 0, .int .i64 0, .int .i64 0, .int .i64 0, .bool false])
  have hlt : ∀ k, (Value.slice A n c).ownBlock = some k → k < w.heap.size := fun k e => (ho.lt k e).2
  obtain ⟨V, hV⟩ : ∃ V, ((w.alloc (.cells #[.slice A n c, .int .i64 x.fl, .int .i64 x.dr, .int .i64 x.nw, .bool x.tg] 24)).alloc (.cells #[.int .u8 q.kind, .int .i64 q.call, .int .i64 q.a, .int .i64 q.b, .int .i64 q.c, .int .i64 q.d] 26)).alloc (.cells #[.slice none 0 0, .int .i64 0, .int .i64 0, .int .i64 0, .bool false] 24) = V := ⟨_, rfl⟩
  rw [hV] at three
  have C := Lib.hid three.1
  have Q := Lib.hid three.2.1
  have Z := Lib.hid three.2.2.1
  have O := Lib.hid (own_under ho three.2.2.2)
  have B := Lib.hid (three.2.2.2.mono hb)
  have BS := Lib.hid three.2.2.2
  have HLt := Lib.hid hlt
  have Hb := Lib.hid hb
  have hl := (RdX.of_own ho).len
  clear three ho hb hlt
  obtain ⟨a0, a1, a2, a3, a4⟩ := cells5 C.out
  obtain ⟨q0, q1, q2, q3, q4, q5⟩ := cells6 Q.out
  obtain ⟨z0, z1, z2, z3, z4⟩ := cells5 Z.out
  have f0 := Z.out.frozen 0
  have f1 := Z.out.frozen 1
  have f2 := Z.out.frozen 2
  have f3 := Z.out.frozen 3
  have f4 := Z.out.frozen 4
  have HTg := Lib.hid ht
  clear ht
  obtain ⟨E, hE⟩ : ∃ E, (q.d == 0) = E := ⟨_, rfl⟩
  have HLit : Hid (∀ (W : World) (b : Nat), W.heap.size = b → RdX (W.alloc (.cells #[.int .i64 ((n : Int) + 1), .int .i64 q.a, .int .i64 q.b, .int .i64 q.c, .bool true, .bool E, .bool false, .bool true, .int .u8 0, .int .i64 0, .int .i64 q.call] 40)) (b + 1) (some ⟨b, 0, none⟩) 1 [madeB ((n : Int) + 1) q]) := Lib.hid (fun W b hb => by rw [← hE]; exact rdX_one W (madeB ((n : Int) + 1) q) b hb)
  have d1 : decide (q.a < 1) = false := decide_eq_false h1
  have d2 : decide (1099511627776 < q.a) = false := decide_eq_false h2
  clear h1 h2
  have HB := Lib.hid (fun W => rnumber_any q.b W)
  rw [h3] at HB
  have HC := Lib.hid (fun W => rnumber_any q.c W)
  rw [h4] at HC
  clear h3 h4
  have d5 : decide (q.d < 0) = false := decide_eq_false h5
  clear h5
  go_enter Try.func25, Try.ntmps25
  go_wp2_with fail
  refine (HB.out _).mono ?_
  rintro e w1 ⟨rfl, rfl⟩
  clear HB
  go_wp2_with fail
  refine (HC.out _).mono ?_
  rintro e w1 ⟨rfl, rfl⟩
  clear HC
  go_wp2_with fail
  clear hV d1 d2 d5 q0 q1 q2 q3 q4 q5 a0 a1 a2 a3 a4 z0 z1 z2 z3 z4 f0 f1 f2 f3 f4
  go_loopw [7] (fun i wr => ∃ j : Nat, i = .int .i64 (j : Int) ∧ j ≤ n ∧ (∀ k y, k < j → x.l[k]? = some y → (y.tok == q.a) = false) ∧ Below V.heap.size V wr) (fun i _ => n - (intOf i).toNat)
  case atStart => exact ⟨0, rfl, Nat.zero_le _, fun k y hk => by omega, Below.refl _ _⟩
  case round =>
    obtain ⟨j, rfl, hj, hT, hW⟩ := hrel
    have HT := Lib.hid hT
    have C2 := Lib.hid (C.out.under hW)
    have Q2 := Lib.hid (Q.out.under hW)
    have Z2 := Lib.hid (Z.out.under hW)
    have O2 := Lib.hid (own_under O.out hW)
    have B2 := Lib.hid (B.out.trans (hW.mono (Nat.le_trans Hb.out BS.out.size)))
    have HW := Lib.hid hW
    have F2 := Lib.hid (frz_below (BS.out.trans (hW.mono BS.out.size)))
    clear hT hW
    obtain ⟨a0, a1, a2, a3, a4⟩ := cells5 C2.out
    obtain ⟨q0, q1, q2, q3, q4, q5⟩ := cells6 Q2.out
    by_cases hlt : j < n
    · have hji : (j : Int) < (n : Int) := by omega
      obtain ⟨u, hu⟩ : ∃ u, x.l[j]? = some u := ⟨_, List.getElem?_eq_getElem (by omega)⟩
      obtain ⟨b, off, e1, hbl, hc⟩ := (RdX.of_own O2.out).2 (by omega)
      subst e1
      obtain ⟨c0, c1, c2, c3, c4, c5, c6, c7, c8, c9, c10⟩ := hc j u hu
      have HU := Lib.hid hu
      have HJ := Lib.hid hlt
      clear hc hbl hu hlt hj
      by_cases ht : u.tok = q.a
      · have dt : (u.tok == q.a) = true := by simp [ht]
        exact absurd hp (by rw [firstAt_of HT.out HU.out ht]; simp)
      · have dt : (u.tok == q.a) = false := by simp [ht]
        have HN : Hid (∀ k y, k < j + 1 → x.l[k]? = some y → (y.tok == q.a) = false) := Lib.hid (fun k y hk hy => by
          rcases Nat.lt_or_eq_of_le (Nat.le_of_lt_succ hk) with h1 | h1
          · exact HT.out k y h1 hy
          · rw [h1, HU.out] at hy
            rw [← Option.some.inj hy]
            simp [ht])
        clear ht
        go_wp2_with fail
        go_quiet (fail)
        go_wp2_with fail
        go_roundw
        case rel => exact ⟨j + 1, by go_num, by have := HJ.out; omega, HN.out, below_drewN HW.out _⟩
        case measure => have := HJ.out; simp [intOf]; omega
    · have dj : decide (j < n) = false := decide_eq_false hlt
      skip
      have d6 : decide ((60 : Int) ≤ (n : Int)) = false := decide_eq_false (by omega)
      have ew : IntKind.i64.wrap ((n : Int) + 1) = (n : Int) + 1 := IntWalk.i64_in _ ⟨by omega, by omega⟩
      rw [HTg.out] at a4
      have hb0 := Hb.out
      have hs0 := HW.out.size
      have hs1 := BS.out.size
      have hV3 := Z.out.ltS
      have b1 : Below wr.heap.size wr ((wr.alloc (.cells #[.int .i64 ((n : Int) + 1), .int .i64 q.a, .int .i64 q.b, .int .i64 q.c, .bool true, .bool E, .bool false, .bool true, .int .u8 0, .int .i64 0, .int .i64 q.call] 40)).alloc (.cells #[.int .i64 ((n : Int) + 1), .int .i64 q.a, .int .i64 q.b, .int .i64 q.c, .bool true, .bool E, .bool false, .bool true, .int .u8 0, .int .i64 0, .int .i64 q.call] 40)) := ((Below.refl _ wr).alloc (Nat.le_refl _) _).alloc (by simp) _
      have own2 := own_under O2.out b1
      obtain ⟨v1, W1, r1, o1, g1⟩ := run_appX ((wr.alloc (.cells #[.int .i64 ((n : Int) + 1), .int .i64 q.a, .int .i64 q.b, .int .i64 q.c, .bool true, .bool E, .bool false, .bool true, .int .u8 0, .int .i64 0, .int .i64 q.call] 40)).alloc (.cells #[.int .i64 ((n : Int) + 1), .int .i64 q.a, .int .i64 q.b, .int .i64 q.c, .bool true, .bool E, .bool false, .bool true, .int .u8 0, .int .i64 0, .int .i64 q.call] 40)) base (.slice A n c) n (flat x.l) own2 (wr.heap.size + 1 + 1) (some ⟨wr.heap.size + 1, 0, none⟩) 1 1 [madeB ((n : Int) + 1) q] (HLit.out (wr.alloc (.cells #[.int .i64 ((n : Int) + 1), .int .i64 q.a, .int .i64 q.b, .int .i64 q.c, .bool true, .bool E, .bool false, .bool true, .int .u8 0, .int .i64 0, .int .i64 q.call] 40)) (wr.heap.size + 1) (by simp)) (by omega) (by omega) (by simp; omega)
      rw [← flat_append] at o1
      obtain ⟨A5, c5, rfl⟩ := own_formX o1
      have hneC : some w.heap.size ≠ (Value.slice A n c).ownBlock := fun e => by have := HLt.out _ e.symm; omega
      have hneZ : some (w.heap.size + 1 + 1) ≠ (Value.slice A n c).ownBlock := fun e => by have := HLt.out _ e.symm; omega
      have hneX : some wr.heap.size ≠ (Value.slice A n c).ownBlock := fun e => by have := HLt.out _ e.symm; omega
      have C3 := (C2.out.under b1).grown g1 hneC
      have Z3 := (Z2.out.under b1).grown g1 hneZ
      have X3 := (((Whole.new wr 40 #[.int .i64 ((n : Int) + 1), .int .i64 q.a, .int .i64 q.b, .int .i64 q.c, .bool true, .bool E, .bool false, .bool true, .int .u8 0, .int .i64 0, .int .i64 q.call]).alloc (.cells #[.int .i64 ((n : Int) + 1), .int .i64 q.a, .int .i64 q.b, .int .i64 q.c, .bool true, .bool E, .bool false, .bool true, .int .u8 0, .int .i64 0, .int .i64 q.call] 40))).grown g1 hneX
      have hs2 : wr.heap.size + 1 + 1 ≤ W1.heap.size := by have := g1.size; simpa using this
      have B3 : Below base w W1 := B2.out.trans ((b1.mono (by omega)).trans ((Below.refl base _).grown g1 (by simp; omega) (fun k e => (own2.lt k e).1)))
      have hc0 := C3.cell 0
      have hf0 := C3.frozen 0
      have hc1 := (C2.out.alloc (.cells #[.int .i64 ((n : Int) + 1), .int .i64 q.a, .int .i64 q.b, .int .i64 q.c, .bool true, .bool E, .bool false, .bool true, .int .u8 0, .int .i64 0, .int .i64 q.call] 40)).cell 0
      simp only [List.getElem?_toArray, List.getElem?_cons_zero] at hc0 hc1
      have kC := keptB_one (w := W1) (g := w.heap.size) 0 (.slice A5 (n + 1) c5)
      have C4 := Lib.hid (C3.set 0 (.slice A5 (n + 1) c5))
      have Z4 := Lib.hid (kC.far _ _ _ (by omega) Z3)
      have X4 := Lib.hid (kC.far _ _ _ (by omega) X3)
      have apZ := own_apartX (show 40 ≠ 24 by decide) o1 Z3
      have apC := own_apartX (show 40 ≠ 24 by decide) o1 C3
      have O4 := Lib.hid (own_off o1 (g := w.heap.size) (fun k e hk => apC (hk ▸ e)) 0 (.slice A5 (n + 1) c5))
      have HNe := Lib.hid (show ∀ k, (Value.slice A5 (n + 1) c5).ownBlock = some k → k ≠ w.heap.size + 1 + 1 from fun k e hk => apZ (hk ▸ e))
      have F4 := Lib.hid ((F2.out.trans ((frz_below b1).trans (frz_grown own2 g1))).fresh kC (Nat.le_refl _))
      have B4 := Lib.hid (kC.bel base w Hb.out B3)
      have R1 := Lib.hid r1
      have HgZ := Lib.hid (show w.heap.size + 1 + 1 ≠ wr.heap.size by omega)
      clear hlt hj r1 o1 g1 own2 b1 C3 Z3 X3 B3 kC hneC hneZ hneX apZ apC hs2 hV3 hs0 hs1 hb0
      go_wp2_with (refine wpList_app (by rfl) _ _ 22 rfl _ _ _ W1 (by rfl) (by rfl) R1.out ?_)
      obtain ⟨W2, hW2⟩ : ∃ W2, W1.setCell ⟨w.heap.size, 0, none⟩ (.slice A5 (n + 1) c5) = W2 := ⟨_, rfl⟩
      rw [hW2] at C4 Z4 X4 O4 B4 F4 ⊢
      clear hW2 hc0 hf0 hc1 R1 a0 a1 a2 a3 a4 q0 q1 q2 q3 q4 q5 C2 Q2 Z2 O2 B2
      have C5 := C4.out
      simp only [List.setIfInBounds_toArray, List.set_cons_zero] at C5
      obtain ⟨a0, a1, a2, a3, a4⟩ := cells5 C5
      rw [HTg.out] at a4
      obtain ⟨z0, z1, z2, z3, z4⟩ := cells5 Z4.out
      have f0 := Z4.out.frozen 0
      have f1 := Z4.out.frozen 1
      have f2 := Z4.out.frozen 2
      have f3 := Z4.out.frozen 3
      have f4 := Z4.out.frozen 4
      have k0 := X4.out.cell 0
      have kp := kept5 Z4.out (.slice A5 (n + 1) c5) (.int .i64 x.fl) (.int .i64 x.dr) (.int .i64 x.nw) (.bool false)
      have k0' := (kp.2.far _ _ _ (fun h => HgZ.out h.symm) X4.out).cell 0
      simp only [List.getElem?_toArray, List.getElem?_cons_zero] at k0 k0'
      clear C5 kp
      go_region
      obtain ⟨W9, hW9, p1, p2, p3, p4⟩ := rl_fin (fl := x.fl) (dr := x.dr) (nw := x.nw) (tg := false) Z4.out O4.out HNe.out (by have := Hb.out; omega) B4.out F4.out (by omega)
      rw [hW9]
      clear hW9
      have p1' : Whole W9.drew _ 24 _ := p1
      obtain ⟨y0, y1, y2, y3, y4⟩ := cells5 p1'
      have p2' := own_under p2 (Below.refl _ W9).drew
      have p3' := p3.drew
      have p4' : Frz w W9.drew := p4.trans (frz_below (Below.refl _ W9).drew)
      clear p1 p1' p2 p3 p4
      go_wp2_with fail
      refine bodyPost_ret (v := .tuple #[.agg #[.slice A5 (n + 1) c5, .int .i64 x.fl, .int .i64 x.dr, .int .i64 x.nw, .bool false], .int .u8 1, .int .i64 ((n : Int) + 1)]) (by simp [results, Try.results25, go_sem, y0, y1, y2, y3, y4]) rfl ⟨A5, (n + 1), c5, by rw [HTg.out], p2', p3', p4'⟩

theorem rlaunch_any (ho : w.ownsRow base 40 11 (.slice A n c) n (flat x.l)) (hb : base ≤ w.heap.size) (hn : n ≤ 1000) :
    Calls Try.prog 25 #[.agg #[.slice A n c, .int .i64 x.fl, .int .i64 x.dr, .int .i64 x.nw, .bool x.tg], .agg #[.int .u8 q.kind, .int .i64 q.call, .int .i64 q.a, .int .i64 q.b, .int .i64 q.c, .int .i64 q.d]] w (RL base x (launchP x q).1 (launchP x q).2.1 (launchP x q).2.2 w) := by
  have hl := (RdX.of_own ho).len
  by_cases h1 : q.a < 1
  · have e : launchP x q = (x.l, 3, 0) := by simp [launchP, h1]
    rw [e]
    exact rl_refa ho hb h1
  by_cases h2 : 1099511627776 < q.a
  · have e : launchP x q = (x.l, 3, 0) := by
      have : isNum q.a = false := by
        cases hv : isNum q.a with
        | false => rfl
        | true => have := isNum_iff.1 hv; omega
      simp only [launchP, this, Bool.false_and, Bool.not_false, Bool.or_true, Bool.true_or, if_true]
    rw [e]
    exact rl_refm ho hb h1 h2
  have ha : isNum q.a = true := isNum_yes (by omega) (by omega)
  cases h3 : isNum q.b with
  | false =>
    have e : launchP x q = (x.l, 3, 0) := by simp only [launchP, h3, Bool.false_and, Bool.and_false, Bool.not_false, Bool.or_true, Bool.true_or, if_true]
    rw [e]
    exact rl_refb ho hb h1 h2 h3
  | true =>
    cases h4 : isNum q.c with
    | false =>
      have e : launchP x q = (x.l, 3, 0) := by simp only [launchP, h4, Bool.and_false, Bool.not_false, Bool.or_true, Bool.true_or, if_true]
      rw [e]
      exact rl_refc ho hb h1 h2 h3 h4
    | true =>
      by_cases h5 : q.d < 0
      · have e : launchP x q = (x.l, 3, 0) := by simp [launchP, h5]
        rw [e]
        exact rl_refd ho hb h1 h2 h3 h4 h5
      · have e0 : (decide (q.a < 1) || !(isNum q.a && isNum q.b && isNum q.c) || decide (q.d < 0)) = false := by simp only [ha, h3, h4, decide_eq_false h1, decide_eq_false h5, Bool.and_self, Bool.not_true, Bool.or_false]
        cases hp : firstAt (fun y => y.tok == q.a) x.l with
        | some i =>
          obtain ⟨y, hy, _⟩ := firstAt_some hp
          have e : launchP x q = (x.l, 1, y.id) := by simp only [launchP, e0, hp, hy, Bool.false_eq_true, if_false]
          rw [e]
          exact rl_there ho hb hn h1 h2 h3 h4 h5 hp hy
        | none =>
          cases h6 : x.tg with
          | true =>
            have e : launchP x q = (x.l, 4, 0) := by simp only [launchP, e0, hp, h6, Bool.true_or, Bool.false_eq_true, if_false, if_true]
            rw [e]
            have := rl_tight ho hb hn h1 h2 h3 h4 h5 hp h6
            rwa [h6] at this
          | false =>
            by_cases h7 : 60 ≤ n
            · have e : launchP x q = (x.l, 4, 0) := by simp only [launchP, e0, hp, h6, hl, decide_eq_true h7, Bool.or_true, Bool.false_eq_true, if_false, if_true]
              rw [e]
              have := rl_full ho hb hn h1 h2 h3 h4 h5 hp h6 h7
              rwa [h6] at this
            · have e : launchP x q = (x.l ++ [madeB ((n : Int) + 1) q], 1, (n : Int) + 1) := by simp only [launchP, e0, hp, h6, hl, decide_eq_false h7, Bool.or_false, Bool.false_eq_true, if_false]
              rw [e]
              have := rl_new ho hb hn h1 h2 h3 h4 h5 hp h6 h7
              rwa [h6] at this
end

end Go.Proofs.Ytphkleecodoplaa
