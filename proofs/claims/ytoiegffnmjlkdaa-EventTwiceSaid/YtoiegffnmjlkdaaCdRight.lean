/-
  The walk of 'Right' of package cloud. Conditions: those that each theorem names.
-/
import Derived.Test.YtoiegffnmjlkdaaCdFind
import Derived.Maps.OwnIn
import Derived.Maps.Views
namespace Go.Proofs.Ytoiegffnmjlkdaa
open Go.RowKit Go.Shelf
open Go.Maps (Keyed int_keyed keyOf_int_mk)
attribute [local go_sem] Oper.semAt_some

/-- Whether a token stands in a row of boxes. -/
def tokIn (l : List Bx) (t : Int) : Bool := decide (0 < t) && l.any fun y => y.tok == t
/-- The map of the first k tokens. -/
def TokMap (l : List Bx) (B k : Nat) (W : World) : Prop :=
  ∃ D : DataW Value, W.ownsMap Try.prog 3 (plainElem Try.prog 3) B k D ∧ Maps.IsMap D ∧ ∀ t, (Lit.int .i64 t).wf = true → D.atKey (.int .i64 t) (.lit (.int .i64 0)) = .lit (.int .i64 (if tokIn (l.take k) t = true then 1 else 0))
set_option maxRecDepth 100000 in
theorem zeroI (w : World) : (zeroValue 3).run Try.prog w = .ok (.int .i64 0) w := by kernel_rfl
section
variable {l : List Bx} {B k : Nat} {W W' : World}
set_option maxRecDepth 100000 in
theorem TokMap.kept {row : Option Nat} (h : TokMap l B k W) (hg : W.grownBy W' row) (hne : some B ≠ row) : TokMap l B k W' := by
  obtain ⟨D, h1, h2, h3⟩ := h
  exact ⟨D, h1.kept hg hne, h2, h3⟩
set_option maxRecDepth 100000 in
theorem TokMap.lt (h : TokMap l B k W) : B < W.heap.size := by
  obtain ⟨D, h1, _⟩ := h
  exact h1.lt
set_option maxRecDepth 100000 in
theorem TokMap.under (h : TokMap l B k W) (hb : Below W.heap.size W W') : TokMap l B k W' :=
  h.kept (row := none) ⟨hb.os, hb.tape, hb.output, hb.size, fun i hi _ => hb.block i hi⟩ (by simp)
set_option maxRecDepth 100000 in
theorem TokMap.look (h : TokMap l B k W) {t : Int} (ht : (Lit.int .i64 t).wf = true) : (Instr.lookup 54 (.map (some B)) (.int .i64 t) false).run Try.prog W = .ok (.int .i64 (if tokIn (l.take k) t = true then 1 else 0)) W := by
  obtain ⟨D, h1, _, h3⟩ := h
  obtain ⟨c, hrun, hat, _⟩ := h1.lookup_int (int_keyed Try.underlying3) Try.underlying54 Try.underlying3 (zeroI _) (keyOf_int_mk (q := .i64) (a := t) Try.underlying3 ht)
  rw [h3 t ht] at hat
  simp only [DataW.lit.injEq, Lit.int.injEq, true_and] at hat
  rw [hrun, hat]
set_option maxRecDepth 100000 in
theorem tokIn_next {x : Bx} (hx : l[k]? = some x) (t : Int) : tokIn (l.take (k + 1)) t = (tokIn (l.take k) t || (decide (0 < t) && (x.tok == t))) := by
  have hk : k < l.length := (List.getElem?_eq_some_iff.1 hx).1
  rw [List.getElem?_eq_getElem hk] at hx
  simp only [tokIn, List.take_succ_eq_append_getElem hk, List.any_append, Option.some.inj hx, List.any_cons, List.any_nil, Bool.or_false]
  cases decide (0 < t) <;> simp
set_option maxRecDepth 100000 in
theorem TokMap.skip (h : TokMap l B k W) {x : Bx} (hx : l[k]? = some x) (hp : ¬ 0 < x.tok) : TokMap l B (k + 1) W := by
  obtain ⟨D, h1, h2, h3⟩ := h
  refine ⟨D, h1.mono (Nat.le_succ _), h2, fun t ht => ?_⟩
  rw [h3 t ht, tokIn_next hx t]
  have e : (decide (0 < t) && (x.tok == t)) = false := by
    by_cases h4 : 0 < t
    · have : x.tok ≠ t := by omega
      simp [this]
    · simp [h4]
  rw [e, Bool.or_false]
set_option maxRecDepth 100000 in
theorem TokMap.next {D : DataW Value} {x : Int} (h1 : W'.ownsMap Try.prog 3 (plainElem Try.prog 3) B (k + 1) (D.put (.int .i64 x) (.lit (.int .i64 1)))) (h2 : Maps.IsMap D) (h3 : ∀ t, (Lit.int .i64 t).wf = true → D.atKey (.int .i64 t) (.lit (.int .i64 0)) = .lit (.int .i64 (if tokIn (l.take k) t = true then 1 else 0))) {y : Bx} (hx : l[k]? = some y) (hy : y.tok = x) (hp : 0 < x) : TokMap l B (k + 1) W' := by
  refine ⟨_, h1, h2.put _ _, fun t ht => ?_⟩
  rw [tokIn_next hx t, hy]
  by_cases e : t = x
  · subst e
    rw [Maps.atKey_put_same h2 (show WideAt.IsKeyLit (.int .i64 t) from trivial)]
    simp [hp]
  · rw [Maps.atKey_put_other (by simpa using e), h3 t ht]
    have e' : (x == t) = false := by rw [beq_eq_false_iff_ne]; exact fun h => e h.symm
    simp [e']
end
set_option maxRecDepth 100000 in
theorem num_wf {t : Int} (h : isNum t = true) : (Lit.int .i64 t).wf = true := by
  have := isNum_iff.1 h
  exact WalkArith.wf_i64 (by omega)
set_option maxRecDepth 100000 in
theorem sound_tok {x : Bx} (h : sound x = true) : isNum x.tok = true := by
  simp only [sound, Bool.and_eq_true] at h
  exact h.1.1.1.1.1

set_option maxRecDepth 100000 in
theorem BoxIn.under {W W' : World} {g : Nat} {x : Bx} (h : BoxIn W g x) (hb : Below W.heap.size W W') : BoxIn W' g x := Whole.under h hb

/-- What holds between two rounds. -/
structure RtAt (w : World) (l : List Bx) (C : Array Value) (pre : List (Nat × Bx)) (W : World) : Prop where
  ok : okTo l pre.length = true
  map : TokMap l (w.heap.size + 1) pre.length W
  mbox : Whole W (w.heap.size + 1 + 1) 54 #[.map (some (w.heap.size + 1))]
  bn : Whole W (w.heap.size + 1 + 1 + 1 + 1) 24 C
  below : Below w.heap.size w W
set_option maxRecDepth 100000 in
theorem rtAt_own (w : World) (l : List Bx) (C : Array Value) (B : Nat) (hB : w.heap.size + 1 < B) : OwnFrom B (RtAt w l C) := by
  intro pre W1 W2 row h hg hr
  have hr' : ∀ r, row = some r → ∃ o : Obj, W1.heap[r]? = some o ∧ o.isCells = false := fun r e => (hr r e).2
  exact ⟨h.ok, h.map.kept hg (fun e => by have := (hr _ e.symm).1; omega), h.mbox.turn hg hr', h.bn.turn hg hr', h.below.grown hg h.below.size (fun k e => by have := (hr k e).1; omega)⟩
set_option maxRecDepth 100000 in
theorem RtAt.under {w : World} {l : List Bx} {C : Array Value} {pre : List (Nat × Bx)} {W W' : World} (h : RtAt w l C pre W) (hb : Below W.heap.size W W') : RtAt w l C pre W' := ⟨h.ok, h.map.under hb, h.mbox.under hb, h.bn.under hb, h.below.trans (hb.mono h.below.size)⟩
/-- Where the loop is left. -/
def RtEnd (w : World) (l : List Bx) (c : Code) (W : World) : Prop := c = .goto 0 ∧ okTo l l.length = false ∧ Below w.heap.size w W
set_option maxRecDepth 100000 in
theorem rtEnd_own (w : World) (l : List Bx) (B : Nat) (hB : w.heap.size ≤ B) : OwnFrom B (RtEnd w l) := by
  rintro c W1 W2 row ⟨h0, h1, h3⟩ hg hr
  exact ⟨h0, h1, h3.grown hg h3.size (fun k e => by have := (hr k e).1; omega)⟩

set_option maxRecDepth 100000 in
set_option maxHeartbeats 1000000 in
theorem right_outX (A : Option Addr) (n c : Nat) (fl dr nw : Int) (tg : Bool) (w : World) (h : (60 < n) ∨ (n ≤ 60 ∧ (isNum fl && isNum dr && isNum nw) = false)) :
    Calls Try.prog 25 #[.agg #[.slice A n c, .int .i64 fl, .int .i64 dr, .int .i64 nw, .bool tg]] w (BoolPost false w) := by
  have hmm := @run_makeMap Try.prog
  have HN := Lib.hid (fun W => numbers3 fl dr nw W)
  rcases h with h | ⟨h1, h2⟩
  · have hd : decide ((60 : Int) < (n : Int)) = true := decide_eq_true (by omega)
    go_enter Try.func25, Try.ntmps25
    go_wp2_with fail
    refine wp_scope_fwd 0 (fun a' w' => a'.defers = [] ∧ a'.tmps.size = 51 ∧ Below w.heap.size w w') rfl ?first ?tail
    case first =>
      go_wp2_with fail
      go_step3
      exact ⟨rfl, rfl, rfl, (((Below.refl _ w).alloc (Nat.le_refl _) _).alloc (by simp) _).alloc (by simp; omega) _⟩
    case tail =>
      rintro ⟨tm, df⟩ w' ⟨rfl, ht, hb⟩
      simp only at ht
      go_wp2_with fail
      simp only [Exit.jump]
      exact bodyPost_ret (v := .bool false) (by simp [results, Try.results25, go_sem, ht]) rfl ⟨rfl, hb⟩
  · have hd : decide ((60 : Int) < (n : Int)) = false := decide_eq_false (by omega)
    rw [h2] at HN
    clear h2
    go_enter Try.func25, Try.ntmps25
    go_wp2_with fail
    refine wp_scope_fwd 0 (fun a' w' => a'.defers = [] ∧ a'.tmps.size = 51 ∧ Below w.heap.size w w') rfl ?first ?tail
    case first =>
      go_wp2_with fail
      refine (HN.out _ _ (by simp)).mono ?_
      rintro e w1 ⟨rfl, rfl⟩
      go_wp2_with fail
      go_step3
      exact ⟨rfl, rfl, rfl, ((((Below.refl _ w).alloc (Nat.le_refl _) _).alloc (by simp) _).alloc (by simp; omega) _).alloc (by simp; omega) _⟩
    case tail =>
      rintro ⟨tm, df⟩ w' ⟨rfl, ht, hb⟩
      simp only at ht
      go_wp2_with fail
      simp only [Exit.jump]
      exact bodyPost_ret (v := .bool false) (by simp [results, Try.results25, go_sem, ht]) rfl ⟨rfl, hb⟩

set_option maxRecDepth 100000 in
set_option maxHeartbeats 2000000 in
theorem right_inX (A : Option Addr) (n c : Nat) (l : List Bx) (fl dr nw : Int) (tg : Bool) (w : World) (hr : RdX w w.heap.size A n l) (hn : n ≤ 60) (h2 : (isNum fl && isNum dr && isNum nw) = true) :
    Calls Try.prog 25 #[.agg #[.slice A n c, .int .i64 fl, .int .i64 dr, .int .i64 nw, .bool tg]] w (BoolPost (okTo l l.length) w) := by
  have hmm := @run_makeMap Try.prog
  have HN := Lib.hid (fun W => numbers3 fl dr nw W)
  have hd : decide ((60 : Int) < (n : Int)) = false := decide_eq_false (by omega)
  rw [h2] at HN
  clear h2
  have HR := Lib.hid hr
  clear hr
  refine (callsIn_wide (n := 6)).1 ?_
  refine callsIn_of_wp_marks Try.func25 rfl trivial ?_ rfl
  simp only [Try.ntmps25, List.size_toArray, List.length_cons, List.length_nil, Nat.reduceAdd, Nat.reduceSub, Array.replicate_succ, Array.replicate_zero, List.push_toArray, List.append_toArray, List.nil_append, List.cons_append]
  gi_wp2_with fail
  refine wpIn_wide.2 (wp_scope_fwd 0 (fun a' w' => a'.tmps.size = 51 ∧ okTo l l.length = false ∧ Below w.heap.size w w' ∧ ∃ D, a'.defers = [{ target := .collected D, args := #[] }] ∧ w.heap.size ≤ D ∧ w'.heap[D]? = some (.deferred (some []))) rfl (wpIn_wide (n := 6).1 ?first) (fun a' w' hJ => wpIn_wide (n := 6).1 ?tail))
  case tail =>
    obtain ⟨tm, df⟩ := a'
    obtain ⟨ht, hk, hb, D, hdf, hD, hK⟩ := hJ
    simp only at ht hdf
    subst hdf
    rw [hk]
    gi_wp2_with fail
    simp only [Exit.jump]
    have hg' := grownBy_putObj' w' D (.deferred none)
    refine ⟨by simp, .inl ⟨_, _, rfl, run_takeDeferred hK, ?_⟩⟩
    refine ⟨.bool false, by simp [results, Try.results25, go_sem, ht], rfl, ?_⟩
    exact hb.trans ((Below.refl _ _).grown hg' hb.size (fun k e => by cases e; omega))
  case first =>
    gi_wp2_with (first | (refine ⟨trivial, ?_⟩; gi_at_call 36; refine (callsIn_wide.2 (HN.out _ _ (by simp))).mono ?_; rintro e w2 ⟨rfl, rfl⟩) | (refine ⟨trivial, ?_⟩; gi_at_call 37; refine (callsIn_wide.2 (boxes_any _ _ _ _ _ _ _ _)).mono ?_; rintro e w2 ⟨rfl, rfl⟩))
    obtain ⟨C, hC⟩ : ∃ C : Array Value, #[Value.slice A n c, .int .i64 fl, .int .i64 dr, .int .i64 nw, .bool tg] = C := ⟨_, rfl⟩
    obtain ⟨W0, hW0⟩ : ∃ W0, (((((w.alloc (.cells #[.slice A n c, .int .i64 fl, .int .i64 dr, .int .i64 nw, .bool tg] 24)).alloc (.map #[] 0)).alloc (.cells #[.map (some (w.heap.size + 1))] 54)).alloc (.cells #[.int .i64 fl, .int .i64 dr, .int .i64 nw] 3)).alloc (.cells #[.slice A n c, .int .i64 fl, .int .i64 dr, .int .i64 nw, .bool tg] 24)) = W0 := ⟨_, rfl⟩
    have hs0 : W0.heap.size = w.heap.size + 1 + 1 + 1 + 1 + 1 := by rw [← hW0]; simp
    have hb0 : Below w.heap.size w W0 := by rw [← hW0]; exact (((((Below.refl _ w).alloc (Nat.le_refl _) _).alloc (by simp) _).alloc (by simp; omega) _).alloc (by simp; omega) _).alloc (by simp; omega) _
    have hinv : RtAt w l C [] W0 := by
      refine ⟨rfl, ?_, ?_, ?_, hb0⟩
      · rw [← hW0]
        have hm := (((World.ownsMap_made (w.alloc (.cells #[.slice A n c, .int .i64 fl, .int .i64 dr, .int .i64 nw, .bool tg] 24)) Try.prog 3 (plainElem (H := Value) Try.prog 3)).alloc (.cells #[.map (some (w.heap.size + 1))] 54)).alloc (.cells #[.int .i64 fl, .int .i64 dr, .int .i64 nw] 3)).alloc (.cells #[.slice A n c, .int .i64 fl, .int .i64 dr, .int .i64 nw, .bool tg] 24)
        rw [World.size_alloc] at hm
        exact ⟨_, hm, Maps.isMap_empty, fun t ht => by simp [DataW.atKey, tokIn]⟩
      · rw [← hW0]; have := ((Whole.new ((w.alloc (.cells #[.slice A n c, .int .i64 fl, .int .i64 dr, .int .i64 nw, .bool tg] 24)).alloc (.map #[] 0)) 54 #[.map (some (w.heap.size + 1))]).alloc (.cells #[.int .i64 fl, .int .i64 dr, .int .i64 nw] 3)).alloc (.cells #[.slice A n c, .int .i64 fl, .int .i64 dr, .int .i64 nw, .bool tg] 24); simpa using this
      · rw [← hW0, ← hC]; have := Whole.new ((((w.alloc (.cells #[.slice A n c, .int .i64 fl, .int .i64 dr, .int .i64 nw, .bool tg] 24)).alloc (.map #[] 0)).alloc (.cells #[.map (some (w.heap.size + 1))] 54)).alloc (.cells #[.int .i64 fl, .int .i64 dr, .int .i64 nw] 3)) 24 #[.slice A n c, .int .i64 fl, .int .i64 dr, .int .i64 nw, .bool tg]; simpa using this
    have hbn : W0.cell? ⟨w.heap.size + 1 + 1 + 1 + 1, 0, none⟩ = some (.slice A n c) := by have := hinv.bn.cell 0; rw [← hC] at this; exact this
    rw [hW0]
    clear hW0 hC
    refine wpIn_range_mem (by omega) (gf := 43) (lb := #[.pointer (some ⟨w.heap.size + 1 + 1 + 1 + 1, 0, none⟩)]) rfl (enters_of Try.func43 (by kernel_rfl) rfl) (encs := bxEnc)
      (boxes_mem 5 (w.heap.size + 1 + 1 + 1 + 1) w.heap.size A n c l (by unfold maxLen; omega) W0 (by omega) (by omega) hbn (HR.out.below hb0))
      (fun h k => kpB_t h k) (kpB_b (by omega) (by omega)) (Below.refl _ _) (fun _ => rfl)
      (RtAt w l C) (RtEnd w l)
      (rtAt_own _ _ _ _ (by omega)) (rtEnd_own _ _ _ (by omega)) hinv
      (fun pre x a' W => (x.1 = pre.length ∧ l[x.1]? = some x.2) ∧ ∃ g, a' = { tmps := #[.agg #[.slice A n c, .int .i64 fl, .int .i64 dr, .int .i64 nw, .bool tg], .pointer (some ⟨w.heap.size, 0, none⟩), .bool false, .pointer (some ⟨w.heap.size + 1 + 1, 0, none⟩), .int .i64 (x.1 : Int), .pointer (some ⟨g, 0, none⟩), .map (some (w.heap.size + 1)), .pointer (some ⟨w.heap.size, 0, none⟩), .slice A n c, .int .i64 (n : Int), .bool false, .bool false, .pointer (some ⟨w.heap.size, 1, none⟩), .int .i64 fl, .pointer (some ⟨w.heap.size, 2, none⟩), .int .i64 dr, .pointer (some ⟨w.heap.size, 3, none⟩), .int .i64 nw, .slice (some ⟨w.heap.size + 1 + 1 + 1, 0, none⟩) 3 3, .bool true, .bool false, .bool false, .agg #[.slice A n c, .int .i64 fl, .int .i64 dr, .int .i64 nw, .bool tg], .func (.func 43) #[] #[.pointer (some ⟨w.heap.size + 1 + 1 + 1 + 1, 0, none⟩)], .int .i64 (x.1 : Int), .agg #[.int .i64 x.2.id, .int .i64 x.2.tok, .int .i64 x.2.ver, .int .i64 x.2.zone, .bool x.2.tag, .bool x.2.on, .bool x.2.gone, .bool x.2.well, .int .u8 x.2.lb, .int .i64 x.2.unt, .int .i64 x.2.fen], undef, undef, undef, undef, undef, undef, undef, undef, undef, undef, undef, undef, undef, undef, undef, undef, undef, undef, undef, undef, undef, undef, undef, undef, undef], defers := [] } ∧ BoxIn W g x.2)
      (fun a' p X Y row hs hg hr => ⟨hs.1, by obtain ⟨g, e, hb⟩ := hs.2; exact ⟨g, e, Whole.turn hb hg (fun r e => (hr r e).2)⟩⟩) ?assign ?body ?done ?stop
    case assign =>
      rintro lp pre ⟨k, x⟩ W K hI hOk hK
      have HOk := Lib.hid hOk
      have HI := Lib.hid hI
      clear hOk hI
      unfold bxEnc
      gi_wp2
      have hbu : Below W.heap.size W (W.alloc (.cells #[.int .i64 x.id, .int .i64 x.tok, .int .i64 x.ver, .int .i64 x.zone, .bool x.tag, .bool x.on, .bool x.gone, .bool x.well, .int .u8 x.lb, .int .i64 x.unt, .int .i64 x.fen] 36)) := (Below.refl _ _).alloc (Nat.le_refl _) _
      exact hK _ _ (keepsFrom_alloc _ _ _) (kpB_under hbu HI.out.below.size HI.out.bn.lt) (HI.out.under hbu) ⟨HOk.out, _, rfl, Whole.new _ _ _⟩
    case body =>
      rintro lp pre ⟨k, x⟩ a' W hlp hI ⟨⟨hk, hx⟩, g, rfl, hbx⟩
      simp only at hk hx hbx
      subst hk
      have hkn : (pre.length : Int) < 60 := by have h1 := (List.getElem?_eq_some_iff.1 hx).1; have := HR.out.len; omega
      obtain ⟨b0, b1, b2, b3, b4, b5, b6, b7, b8, b9, b10⟩ := hbx.at_
      have HI := Lib.hid hI
      have HBX := Lib.hid hbx
      have HX := Lib.hid hx
      have HC := Lib.hid (fun W => sound_any x W)
      have HOK : Hid (okAt l pre.length x = ((x.id == (pre.length : Int) + 1) && (sound x && !tokIn (l.take pre.length) x.tok))) := Lib.hid (by simp only [okAt, dup, tokIn, Bool.and_assoc])
      clear hI hbx hx
      by_cases hid : x.id = (pre.length : Int) + 1
      rotate_left
      · have hb : (x.id == (pre.length : Int) + 1) = false := by rw [beq_eq_false_iff_ne]; exact hid
        have hb2 : (x.id != (pre.length : Int) + 1) = true := by simp [bne, hb]
        have HE := Lib.hid (okTo_not HX.out (by rw [HOK.out, hb]; rfl))
        clear hid
        gi_wp2_with fail
        refine ⟨trivial, ?_⟩
        gi_wp2_with fail
        refine wpIn_goto ?_
        exact ⟨KeepsFrom.refl _ _, rfl, HE.out, HI.out.below⟩
      have hb : (x.id == (pre.length : Int) + 1) = true := by rw [beq_iff_eq]; exact hid
      have hb2 : (x.id != (pre.length : Int) + 1) = false := by simp [bne, hb]
      clear hid
      cases hs : sound x with
      | false =>
        have HE := Lib.hid (okTo_not HX.out (by rw [HOK.out, hs]; simp))
        rw [hs] at HC
        clear hs
        gi_wp2_with (refine ⟨trivial, ?_⟩; gi_at_call 38; refine (CallsIn.inRound lp (callsIn_wide.2 (HC.out _))).mono ?_; rintro e w2 ⟨rfl, q2⟩; clear b0 b1 b2 b3 b4 b5 b6 b7 b8 b9 b10; have hq2 := Lib.hid q2; have h2 := HI.out.under q2; have m2 := h2.mbox.cell 0; simp only [List.getElem?_toArray, List.getElem?_cons_zero] at m2; have H2 := Lib.hid h2; obtain ⟨b0, b1, b2, b3, b4, b5, b6, b7, b8, b9, b10⟩ := (HBX.out.under q2).at_; clear h2 q2)
        refine wpIn_goto ?_
        exact ⟨keepsFrom_under _ hq2.out, rfl, HE.out, H2.out.below⟩
      | true =>
        have HWF := Lib.hid (num_wf (sound_tok hs))
        rw [hs] at HC
        cases hdu : tokIn (l.take pre.length) x.tok with
        | true =>
          have HE := Lib.hid (okTo_not HX.out (by rw [HOK.out, hdu]; simp))
          have HDU := Lib.hid hdu
          clear hs hdu
          gi_wp2_with (refine ⟨trivial, ?_⟩; gi_at_call 38; refine (CallsIn.inRound lp (callsIn_wide.2 (HC.out _))).mono ?_; rintro e w2 ⟨rfl, q2⟩; clear b0 b1 b2 b3 b4 b5 b6 b7 b8 b9 b10; have hq2 := Lib.hid q2; have h2 := HI.out.under q2; have m2 := h2.mbox.cell 0; simp only [List.getElem?_toArray, List.getElem?_cons_zero] at m2; have H2 := Lib.hid h2; obtain ⟨b0, b1, b2, b3, b4, b5, b6, b7, b8, b9, b10⟩ := (HBX.out.under q2).at_; clear h2 q2; have lk := H2.out.map.look HWF.out; rw [HDU.out] at lk; simp only [if_true] at lk)
          refine wpIn_goto ?_
          exact ⟨keepsFrom_under _ hq2.out, rfl, HE.out, H2.out.below⟩
        | false =>
          have HE := Lib.hid (okTo_step HX.out HI.out.ok (by rw [HOK.out, hb, hs, hdu]; rfl))
          have HDU := Lib.hid hdu
          clear hs hdu
          by_cases hp : 0 < x.tok
          · gi_wp2_with (first | (refine ⟨trivial, ?_⟩; gi_at_call 38; refine (CallsIn.inRound lp (callsIn_wide.2 (HC.out _))).mono ?_; rintro e w2 ⟨rfl, q2⟩; clear b0 b1 b2 b3 b4 b5 b6 b7 b8 b9 b10; have hq2 := Lib.hid q2; have h2 := HI.out.under q2; have m2 := h2.mbox.cell 0; simp only [List.getElem?_toArray, List.getElem?_cons_zero] at m2; have H2 := Lib.hid h2; obtain ⟨b0, b1, b2, b3, b4, b5, b6, b7, b8, b9, b10⟩ := (HBX.out.under q2).at_; clear h2 q2; have lk := H2.out.map.look HWF.out; rw [HDU.out] at lk; simp only [if_false, Bool.false_eq_true] at lk) | (gi_at_mapUpdate; obtain ⟨D, ho, hm, hD⟩ := H2.out.map; refine wpListIn_mapUpdate_own _ rfl _ _ _ 54 rfl 3 3 (int_keyed Try.underlying3) Try.underlying54 _ (w.heap.size + 1) pre.length D rfl ho (by unfold maxLen; omega) _ _ _ rfl rfl (keyOf_int_mk (q := .i64) (a := x.tok) Try.underlying3 HWF.out) _ [] (plainElem_int Try.underlying3 (WalkArith.wf_i64 (by omega))) ?_; intro w3 ho3 hg3))
            have h2 := H2.out
            have hs3 : W0.heap.size ≤ w2.heap.size := Nat.le_trans (by have := HI.out.bn.lt; omega) hq2.out.size
            have k3 : KeepsFrom W0.heap.size w2 w3 := ⟨hg3.size, fun i o hi h _ => (hg3.block i (Array.getElem?_eq_some_iff.1 h).1 (by simp; omega)).trans h⟩
            have p3 : KpB w.heap.size (w.heap.size + 1 + 1 + 1 + 1) w2 w3 := ⟨(Below.refl _ _).grown hg3 h2.below.size (fun k e => by cases e; omega), hg3.block _ h2.bn.lt (by simp; omega)⟩
            refine ⟨keepsFrom_t (keepsFrom_under _ hq2.out) k3, kpB_t (kpB_under hq2.out HI.out.below.size HI.out.bn.lt) p3, ?_, ?_, h2.mbox.grown hg3 (by simp), h2.bn.grown hg3 (by simp; omega), h2.below.trans p3.1⟩
            · rw [List.length_append, List.length_singleton]; exact HE.out
            · rw [List.length_append, List.length_singleton]; exact TokMap.next ho3 hm hD HX.out rfl hp
          · gi_wp2_with (refine ⟨trivial, ?_⟩; gi_at_call 38; refine (CallsIn.inRound lp (callsIn_wide.2 (HC.out _))).mono ?_; rintro e w2 ⟨rfl, q2⟩; clear b0 b1 b2 b3 b4 b5 b6 b7 b8 b9 b10; have hq2 := Lib.hid q2; have h2 := HI.out.under q2; have m2 := h2.mbox.cell 0; simp only [List.getElem?_toArray, List.getElem?_cons_zero] at m2; have H2 := Lib.hid h2; obtain ⟨b0, b1, b2, b3, b4, b5, b6, b7, b8, b9, b10⟩ := (HBX.out.under q2).at_; clear h2 q2; have lk := H2.out.map.look HWF.out; rw [HDU.out] at lk; simp only [if_false, Bool.false_eq_true] at lk)
            have h2 := H2.out
            refine ⟨keepsFrom_under _ hq2.out, kpB_under hq2.out HI.out.below.size HI.out.bn.lt, ?_, ?_, h2.mbox, h2.bn, h2.below⟩
            · rw [List.length_append, List.length_singleton]; exact HE.out
            · rw [List.length_append, List.length_singleton]; exact h2.map.skip HX.out (by omega)
    case done =>
      rintro D ys W hD hys hI hK
      have HK := Lib.hid hK
      have HI := Lib.hid hI
      have HE := Lib.hid (show okTo l l.length = true by have h1 := hI.ok; rw [show ys.length = l.length by rw [HR.out.len]; exact hys] at h1; exact h1)
      clear hK hI
      gi_wp2_with fail
      simp only [Exit.jump]
      have hg' := grownBy_putObj' W D (.deferred none)
      refine ⟨by simp, .inl ⟨_, _, rfl, run_takeDeferred HK.out, ?_⟩⟩
      refine ⟨.bool true, by simp [results, Try.results25, go_sem], by rw [HE.out], ?_⟩
      exact HI.out.below.trans ((Below.refl _ _).grown hg' HI.out.below.size (fun k e => by cases e; omega))
    case stop =>
      rintro D c W hD ⟨rfl, hj, hb⟩ hK
      refine wpIn_goto ?_
      exact ⟨rfl, rfl, hj, hb, D, rfl, by omega, hK⟩

set_option maxRecDepth 100000 in
/-- Whether a cloud may be. -/
theorem right_any (A : Option Addr) (n c : Nat) (x : Cw) (B : Nat) (w : World) (hr : RdX w B A n x.l) (hB : B ≤ w.heap.size) :
    Calls Try.prog 25 #[.agg #[.slice A n c, .int .i64 x.fl, .int .i64 x.dr, .int .i64 x.nw, .bool x.tg]] w (BoolPost (right x) w) := by
  have hl := hr.len
  by_cases h1 : n ≤ 60
  · cases h2 : (isNum x.fl && isNum x.dr && isNum x.nw) with
    | true =>
      rw [show right x = okTo x.l x.l.length by simp only [right, h2, hl, decide_eq_true h1, Bool.and_self, Bool.true_and]]
      exact right_inX A n c x.l x.fl x.dr x.nw x.tg w (hr.more hB) h1 h2
    | false =>
      rw [show right x = false by simp only [right, h2, Bool.and_false, Bool.false_and]]
      exact right_outX A n c x.fl x.dr x.nw x.tg w (.inr ⟨h1, h2⟩)
  · rw [show right x = false by simp only [right, hl, decide_eq_false h1, Bool.false_and]]
    exact right_outX A n c x.fl x.dr x.nw x.tg w (.inl (by omega))

end Go.Proofs.Ytoiegffnmjlkdaa
