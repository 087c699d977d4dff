/-
  The walks of 'place', of what it is handed, and of 'Find' of package cloud. Conditions: those that each theorem names.
-/
import Derived.Test.YtoiegffnmjlkdaaCdH
namespace Go.Proofs.Ytoiegffnmjlkdaa
open Go.RowKit Go.Shelf
attribute [local go_sem] Oper.semAt_some

/-- What holds between two rounds. -/
structure PlAt (w : World) (l : List Bx) (p : Bx → Bool) (C : Array Value) (fv : Value) (pre : List (Nat × Bx)) (W : World) : Prop where
  no : ∀ i y, i < pre.length → l[i]? = some y → p y = false
  res : Whole W (w.heap.size + 1 + 1) 3 #[.int .i64 0]
  fn : Whole W (w.heap.size + 1) 51 #[fv]
  bn : Whole W (w.heap.size + 1 + 1 + 1) 24 C
  below : Below w.heap.size w W
set_option maxRecDepth 100000 in
theorem plAt_own (w : World) (l : List Bx) (p : Bx → Bool) (C : Array Value) (fv : Value) (B : Nat) (hB : w.heap.size ≤ B) : OwnFrom B (PlAt w l p C fv) := by
  intro pre W1 W2 row h hg hr
  have hr' : ∀ r, row = some r → ∃ o : Obj, W1.heap[r]? = some o ∧ o.isCells = false := fun r e => (hr r e).2
  exact ⟨h.no, h.res.turn hg hr', h.fn.turn hg hr', h.bn.turn hg hr', h.below.grown hg h.below.size (fun k e => by have := (hr k e).1; omega)⟩
set_option maxRecDepth 100000 in
theorem PlAt.under {w : World} {l : List Bx} {p : Bx → Bool} {C : Array Value} {fv : Value} {pre : List (Nat × Bx)} {W W' : World} (h : PlAt w l p C fv pre W) (hb : Below W.heap.size W W') : PlAt w l p C fv pre W' := ⟨h.no, h.res.under hb, h.fn.under hb, h.bn.under hb, h.below.trans (hb.mono h.below.size)⟩

/-- Where the loop is left: the place is told. -/
def PlEnd (w : World) (l : List Bx) (p : Bx → Bool) (c : Code) (W : World) : Prop := c = .ret ∧ ∃ j : Nat, firstAt p l = some j ∧ Whole W (w.heap.size + 1 + 1) 3 #[.int .i64 (j : Int)] ∧ Below w.heap.size w W
set_option maxRecDepth 100000 in
theorem plEnd_own (w : World) (l : List Bx) (p : Bx → Bool) (B : Nat) (hB : w.heap.size ≤ B) : OwnFrom B (PlEnd w l p) := by
  rintro c W1 W2 row ⟨h0, j, h1, h2, h3⟩ hg hr
  have hr' : ∀ r, row = some r → ∃ o : Obj, W1.heap[r]? = some o ∧ o.isCells = false := fun r e => (hr r e).2
  exact ⟨h0, j, h1, h2.turn hg hr', h3.grown hg h3.size (fun k e => by have := (hr k e).1; omega)⟩

def PlacePost (r : Option Nat) (w : World) (e : Ending) (w' : World) : Prop := e = .returned (.int .i64 (placeI r)) ∧ Below w.heap.size w w'

set_option maxRecDepth 100000 in
set_option maxHeartbeats 2000000 in
theorem place_any (A : Option Addr) (n c : Nat) (x : Cw) (B : Nat) (w : World) (hr : RdX w B A n x.l) (hB : B ≤ w.heap.size) (hn : n ≤ 1000) (f : Nat) (lb : Array Value) (p : Bx → Bool)
    (hf : ∀ args w, (callFunc f args).run Try.prog w = .ok (.enter f args) w)
    (hp : ∀ (y : Bx) (W : World), Below w.heap.size w W → Calls Try.prog f (#[.agg #[.int .i64 y.id, .int .i64 y.tok, .int .i64 y.ver, .int .i64 y.zone, .bool y.tag, .bool y.on, .bool y.gone, .bool y.well, .int .u8 y.lb, .int .i64 y.unt, .int .i64 y.fen]] ++ lb) W (BoolPost (p y) W)) :
    Calls Try.prog 44 #[.agg #[.slice A n c, .int .i64 x.fl, .int .i64 x.dr, .int .i64 x.nw, .bool x.tg], .func (.func f) #[] lb] w (PlacePost (firstAt p x.l) w) := by
  obtain ⟨l, fl, dr, nw, tg⟩ := x
  simp only at hr ⊢
  have hl := hr.len
  have HR := Lib.hid (hr.more hB)
  have HL := Lib.hid hl
  have HF := Lib.hid hf
  have HP := Lib.hid hp
  clear hr hB hl hf hp
  refine (callsIn_wide (n := 6)).1 ?_
  refine callsIn_of_wp_marks Try.func44 rfl trivial ?_ rfl
  simp only [Try.ntmps44, List.size_toArray, List.length_cons, List.length_nil, Nat.reduceAdd, Nat.reduceSub, Array.replicate_succ, Array.replicate_zero, List.push_toArray, List.append_toArray, List.nil_append, List.cons_append]
  gi_wp2_with (refine ⟨trivial, ?_⟩; gi_at_call 37; refine (callsIn_wide.2 (boxes_any _ _ _ _ _ _ _ _)).mono ?_; rintro e w2 ⟨rfl, rfl⟩)
  obtain ⟨C, hC⟩ : ∃ C : Array Value, #[Value.slice A n c, .int .i64 fl, .int .i64 dr, .int .i64 nw, .bool tg] = C := ⟨_, rfl⟩
  obtain ⟨W0, hW0⟩ : ∃ W0, (((w.alloc (.cells #[.slice A n c, .int .i64 fl, .int .i64 dr, .int .i64 nw, .bool tg] 24)).alloc (.cells #[.func (.func f) #[] lb] 51)).alloc (.cells #[.int .i64 0] 3)).alloc (.cells #[.slice A n c, .int .i64 fl, .int .i64 dr, .int .i64 nw, .bool tg] 24) = W0 := ⟨_, rfl⟩
  have hs0 : W0.heap.size = w.heap.size + 1 + 1 + 1 + 1 := by rw [← hW0]; simp
  have hb0 : Below w.heap.size w W0 := by rw [← hW0]; exact ((((Below.refl _ w).alloc (Nat.le_refl _) _).alloc (by simp) _).alloc (by simp; omega) _).alloc (by simp; omega) _
  have hinv : PlAt w l p C (.func (.func f) #[] lb) [] W0 := by
    refine ⟨fun i y hi => by simp at hi, ?_, ?_, ?_, hb0⟩
    · rw [← hW0]; have := (Whole.new ((w.alloc (.cells #[.slice A n c, .int .i64 fl, .int .i64 dr, .int .i64 nw, .bool tg] 24)).alloc (.cells #[.func (.func f) #[] lb] 51)) 3 #[.int .i64 0]).alloc (.cells #[.slice A n c, .int .i64 fl, .int .i64 dr, .int .i64 nw, .bool tg] 24); simpa using this
    · rw [← hW0]; have := ((Whole.new (w.alloc (.cells #[.slice A n c, .int .i64 fl, .int .i64 dr, .int .i64 nw, .bool tg] 24)) 51 #[.func (.func f) #[] lb]).alloc (.cells #[.int .i64 0] 3)).alloc (.cells #[.slice A n c, .int .i64 fl, .int .i64 dr, .int .i64 nw, .bool tg] 24); simpa using this
    · rw [← hW0, ← hC]; have := Whole.new (((w.alloc (.cells #[.slice A n c, .int .i64 fl, .int .i64 dr, .int .i64 nw, .bool tg] 24)).alloc (.cells #[.func (.func f) #[] lb] 51)).alloc (.cells #[.int .i64 0] 3)) 24 #[.slice A n c, .int .i64 fl, .int .i64 dr, .int .i64 nw, .bool tg]; simpa using this
  have hbn : W0.cell? ⟨w.heap.size + 1 + 1 + 1, 0, none⟩ = some (.slice A n c) := by have := hinv.bn.cell 0; rw [← hC] at this; exact this
  rw [hW0]
  clear hW0 hC
  refine wpIn_range_mem (by omega) (gf := 43) (lb := #[.pointer (some ⟨w.heap.size + 1 + 1 + 1, 0, none⟩)]) rfl (enters_of Try.func43 (by kernel_rfl) rfl) (encs := bxEnc)
    (boxes_mem 5 (w.heap.size + 1 + 1 + 1) w.heap.size A n c l (by unfold maxLen; omega) W0 (by omega) (by omega) hbn (HR.out.below hb0))
    (fun h k => kpB_t h k) (kpB_b (by omega) (by omega)) (Below.refl _ _) (fun _ => rfl)
    (PlAt w l p C (.func (.func f) #[] lb)) (PlEnd w l p)
    (plAt_own _ _ _ _ _ _ (by omega)) (plEnd_own _ _ _ _ (by omega)) hinv
    (fun pre x a' W => (x.1 = pre.length ∧ l[x.1]? = some x.2) ∧ ∃ g, a' = { tmps := #[.agg #[.slice A n c, .int .i64 fl, .int .i64 dr, .int .i64 nw, .bool tg], .func (.func f) #[] lb, .pointer (some ⟨w.heap.size, 0, none⟩), .pointer (some ⟨w.heap.size + 1, 0, none⟩), .pointer (some ⟨w.heap.size + 1 + 1, 0, none⟩), .int .i64 (x.1 : Int), .pointer (some ⟨g, 0, none⟩), .agg #[.slice A n c, .int .i64 fl, .int .i64 dr, .int .i64 nw, .bool tg], .func (.func 43) #[] #[.pointer (some ⟨w.heap.size + 1 + 1 + 1, 0, none⟩)], .int .i64 (x.1 : Int), .agg #[.int .i64 x.2.id, .int .i64 x.2.tok, .int .i64 x.2.ver, .int .i64 x.2.zone, .bool x.2.tag, .bool x.2.on, .bool x.2.gone, .bool x.2.well, .int .u8 x.2.lb, .int .i64 x.2.unt, .int .i64 x.2.fen], undef, undef, undef, undef], defers := [] } ∧ BoxIn W g x.2)
    (fun a' p X Y row hs hg hr => ⟨hs.1, by obtain ⟨g, e, hb⟩ := hs.2; exact ⟨g, e, Whole.turn hb hg (fun r e => (hr r e).2)⟩⟩) ?assign ?body ?done ?stop
  case assign =>
    rintro lp pre ⟨k, x⟩ W K hI hOk hK
    have HOk := Lib.hid hOk
    have HI := Lib.hid hI
    clear hOk hI
    unfold bxEnc
    gi_wp2
    have hbu : Below W.heap.size W (W.alloc (.cells #[.int .i64 x.id, .int .i64 x.tok, .int .i64 x.ver, .int .i64 x.zone, .bool x.tag, .bool x.on, .bool x.gone, .bool x.well, .int .u8 x.lb, .int .i64 x.unt, .int .i64 x.fen] 36)) := (Below.refl _ _).alloc (Nat.le_refl _) _
    exact hK _ _ (keepsFrom_alloc _ _ _) (kpB_under hbu HI.out.below.size HI.out.bn.lt) (HI.out.under hbu) ⟨HOk.out, _, rfl, Whole.new _ _ _⟩
  case body =>
    rintro lp pre ⟨k, x⟩ a' W hlp hI ⟨⟨hk, hx⟩, g, rfl, hbx⟩
    simp only at hk hx hbx
    subst hk
    obtain ⟨b0, b1, b2, b3, b4, b5, b6, b7, b8, b9, b10⟩ := hbx.at_
    have c1 := hI.fn.cell 0
    simp only [List.getElem?_toArray, List.getElem?_cons_zero] at c1
    have HI := Lib.hid hI
    have HX := Lib.hid hx
    have HC := Lib.hid (HP.out x W hI.below)
    have hf := HF.out
    clear hI hx hbx
    cases hc : p x with
    | false =>
      rw [hc] at HC
      have HN : Hid (∀ i y, i < (pre ++ [(pre.length, x)]).length → l[i]? = some y → p y = false) := Lib.hid (by
        intro i y hi hy
        rw [List.length_append, List.length_singleton] at hi
        rcases Nat.lt_or_eq_of_le (Nat.le_of_lt_succ hi) with h1 | h1
        · exact HI.out.no i y h1 hy
        · rw [h1, HX.out] at hy
          rw [← Option.some.inj hy]
          exact hc)
      clear hc
      gi_wp2_with (refine ⟨trivial, ?_⟩; refine (CallsIn.inRound lp (callsIn_wide.2 (HC.out))).mono ?_; rintro e w2 ⟨rfl, q2⟩)
      have h2 := HI.out.under q2
      exact ⟨keepsFrom_under _ q2, kpB_under q2 HI.out.below.size HI.out.bn.lt, HN.out, h2.res, h2.fn, h2.bn, h2.below⟩
    | true =>
      rw [hc] at HC
      have HN : Hid (firstAt p l = some pre.length) := Lib.hid (firstAt_is HX.out hc HI.out.no)
      clear hc
      gi_wp2_with (refine ⟨trivial, ?_⟩; refine (CallsIn.inRound lp (callsIn_wide.2 (HC.out))).mono ?_; rintro e w2 ⟨rfl, q2⟩; have h2 := HI.out.under q2; have c3 := h2.res.cell 0; have f3 := h2.res.frozen 0; have H2 := Lib.hid h2; clear h2; simp only [List.getElem?_toArray, List.getElem?_cons_zero] at c3)
      have h2 := H2.out
      exact ⟨keepsFrom_t (keepsFrom_under _ q2) ((KeepsOthers.setCell _ _ _).from _), rfl, pre.length, HN.out, h2.res.set 0 _, h2.below.setCell (p := ⟨w.heap.size + 1 + 1, 0, none⟩) (by simp; omega) _⟩
  case done =>
    rintro D ys W hD hys hI hK
    have c3 := hI.res.cell 0
    have f3 := hI.res.frozen 0
    simp only [List.getElem?_toArray, List.getElem?_cons_zero] at c3
    have HN : Hid (firstAt p l = none) := Lib.hid (firstAt_none.2 fun y hy => by
      obtain ⟨i, hi⟩ := List.getElem?_of_mem hy
      exact hI.no i y (by have h1 := (List.getElem?_eq_some_iff.1 hi).1; have := HL.out; omega) hi)
    have HK := Lib.hid hK
    have HI := Lib.hid hI
    clear hK hI
    gi_wp2_with fail
    have r1 := HI.out.res.set 0 (.int .i64 (-1))
    have hb := HI.out.below.setCell (p := ⟨w.heap.size + 1 + 1, 0, none⟩) (by simp; omega) (.int .i64 (-1))
    have hK1 : (W.setCell ⟨w.heap.size + 1 + 1, 0, none⟩ (.int .i64 (-1))).heap[D]? = some (.deferred (some [])) := (KeepsOthers.setCell _ _ _).same D _ HK.out rfl
    generalize W.setCell ⟨w.heap.size + 1 + 1, 0, none⟩ (.int .i64 (-1)) = W1 at *
    have hg' := grownBy_putObj' W1 D (.deferred none)
    have hr' : ∀ r, (some D) = some r → ∃ o : Obj, W1.heap[r]? = some o ∧ o.isCells = false := fun r e => by cases e; exact ⟨_, hK1, rfl⟩
    have q1 := (r1.turn hg' hr').cell 0
    simp at q1
    refine ⟨by simp, .inl ⟨_, _, rfl, run_takeDeferred hK1, ?_⟩⟩
    refine ⟨.int .i64 (-1), by simp [results, Try.results44, go_sem, q1], by rw [HN.out]; rfl, ?_⟩
    exact hb.trans ((Below.refl _ _).grown hg' hb.size (fun k e => by cases e; omega))
  case stop =>
    rintro D c W hD ⟨rfl, j, hj, h2, hb⟩ hK
    gi_wp2_with fail
    have hg' := grownBy_putObj' W D (.deferred none)
    have hr' : ∀ r, (some D) = some r → ∃ o : Obj, W.heap[r]? = some o ∧ o.isCells = false := fun r e => by cases e; exact ⟨_, hK, rfl⟩
    have q1 := (h2.turn hg' hr').cell 0
    simp at q1
    refine ⟨by simp, .inl ⟨_, _, rfl, run_takeDeferred hK, ?_⟩⟩
    refine ⟨.int .i64 (j : Int), by simp [results, Try.results44, go_sem, q1], by rw [hj]; rfl, ?_⟩
    exact hb.trans ((Below.refl _ _).grown hg' hb.size (fun k e => by cases e; omega))

end Go.Proofs.Ytoiegffnmjlkdaa
