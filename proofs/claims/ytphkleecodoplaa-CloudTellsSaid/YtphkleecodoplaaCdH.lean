/-
  The walk of 'H' of package cloud. Conditions: those that the theorem names.
-/
import Derived.Test.YtphkleecodoplaaCdEach
import Derived.Test.YtphkleecodoplaaCdSmall
namespace Go.Proofs.Ytphkleecodoplaa
open Go.RowKit Go.Shelf
attribute [local go_sem] Oper.semAt_some

set_option maxRecDepth 100000 in
theorem keepsFrom_alloc (B : Nat) (W : World) (o : Obj) : KeepsFrom B W (W.alloc o) := (keeps_under ((Below.refl _ W).alloc (Nat.le_refl _) o)).from _
set_option maxRecDepth 100000 in
theorem keepsFrom_under {W W' : World} (B : Nat) (h : Below W.heap.size W W') : KeepsFrom B W W' := (keeps_under h).from _
set_option maxRecDepth 100000 in
theorem keepsFrom_t {B : Nat} {A C D : World} (h : KeepsFrom B A C) (k : KeepsFrom B C D) : KeepsFrom B A D := h.trans k
set_option maxRecDepth 100000 in
theorem kpB_under {n₀ Bn : Nat} {W W' : World} (h : Below W.heap.size W W') (h0 : n₀ ≤ W.heap.size) (h1 : Bn < W.heap.size) : KpB n₀ Bn W W' := ⟨h.mono h0, h.block _ h1⟩
set_option maxRecDepth 100000 in
theorem kpB_setc {n₀ Bn g : Nat} (W : World) (h0 : n₀ ≤ g) (h1 : Bn ≠ g) (i : Nat) (v : Value) : KpB n₀ Bn W (W.setCell ⟨g, i, none⟩ v) :=
  ⟨(Below.refl _ W).setCell (p := ⟨g, i, none⟩) h0 v, Below.heap_setCell W ⟨g, i, none⟩ v Bn h1⟩

/-- The box of a round's variable. -/
def BoxIn (W : World) (g : Nat) (x : Bx) : Prop := Whole W g 40 #[.int .i64 x.id, .int .i64 x.tok, .int .i64 x.ver, .int .i64 x.zone, .bool x.tag, .bool x.on, .bool x.gone, .bool x.well, .int .u8 x.lb, .int .i64 x.unt, .int .i64 x.fen]
set_option maxRecDepth 100000 in
theorem BoxIn.at_ {W : World} {g : Nat} {x : Bx} (h : BoxIn W g x) : BxAt W g 0 x := bxAt_of fun i hi => by
  rw [Nat.zero_add]
  exact (Whole.cell h i).trans (by simp [Bx.vs])

/-- What holds between two rounds. -/
structure HAt (w : World) (l : List Bx) (C : Array Value) (pre : List (Nat × Bx)) (W : World) : Prop where
  many : Whole W (w.heap.size + 1) 3 #[.int .i64 (hN (l.take pre.length) : Int)]
  bn : Whole W (w.heap.size + 1 + 1) 24 C
  below : Below w.heap.size w W
set_option maxRecDepth 100000 in
theorem hAt_own (w : World) (l : List Bx) (C : Array Value) (B : Nat) (hB : w.heap.size ≤ B) : OwnFrom B (HAt w l C) := by
  intro pre W1 W2 row h hg hr
  have hr' : ∀ r, row = some r → ∃ o : Obj, W1.heap[r]? = some o ∧ o.isCells = false := fun r e => (hr r e).2
  exact ⟨h.many.turn hg hr', h.bn.turn hg hr', h.below.grown hg h.below.size (fun k e => by have := (hr k e).1; omega)⟩

set_option maxRecDepth 100000 in
theorem HAt.under {w : World} {l : List Bx} {C : Array Value} {pre : List (Nat × Bx)} {W W' : World} (h : HAt w l C pre W) (hb : Below W.heap.size W W') : HAt w l C pre W' := ⟨h.many.under hb, h.bn.under hb, h.below.trans (hb.mono h.below.size)⟩

def HPost (l : List Bx) (w : World) (e : Ending) (w' : World) : Prop := e = .returned (.int .i64 (hN l : Int)) ∧ Below w.heap.size w w'

set_option maxRecDepth 100000 in
theorem hN_take {l : List Bx} {k : Nat} {x : Bx} (hx : l[k]? = some x) : hN (l.take (k + 1)) = hN (l.take k) + if cnt x then 1 else 0 := by
  have hk : k < l.length := (List.getElem?_eq_some_iff.1 hx).1
  rw [List.take_succ_eq_append_getElem hk, hN_snoc]
  rw [List.getElem?_eq_getElem hk] at hx
  rw [Option.some.inj hx]

set_option maxRecDepth 100000 in
set_option maxHeartbeats 2000000 in
theorem h_any (A : Option Addr) (n c : Nat) (x : Cw) (B : Nat) (w : World) (hr : RdX w B A n x.l) (hB : B ≤ w.heap.size) (hn : n ≤ 1000) :
    Calls Try.prog 15 #[.agg #[.slice A n c, .int .i64 x.fl, .int .i64 x.dr, .int .i64 x.nw, .bool x.tg]] w (HPost x.l w) := by
  obtain ⟨l, fl, dr, nw, tg⟩ := x
  simp only at hr ⊢
  have hl := hr.len
  have HR := Lib.hid (hr.more hB)
  have HL := Lib.hid hl
  clear hr hB hl
  refine (callsIn_wide (n := 6)).1 ?_
  refine callsIn_of_wp_marks Try.func15 rfl trivial ?_ rfl
  simp only [Try.ntmps15, List.size_toArray, List.length_cons, List.length_nil, Nat.reduceAdd, Nat.reduceSub, Array.replicate_succ, Array.replicate_zero, List.push_toArray, List.append_toArray, List.nil_append, List.cons_append]
  gi_wp2_with (refine ⟨trivial, ?_⟩; gi_at_call 28; refine (callsIn_wide.2 (boxes_any _ _ _ _ _ _ _ _)).mono ?_; rintro e w2 ⟨rfl, rfl⟩)
  obtain ⟨C, hC⟩ : ∃ C : Array Value, #[Value.slice A n c, .int .i64 fl, .int .i64 dr, .int .i64 nw, .bool tg] = C := ⟨_, rfl⟩
  obtain ⟨W0, hW0⟩ : ∃ W0, ((w.alloc (.cells #[.slice A n c, .int .i64 fl, .int .i64 dr, .int .i64 nw, .bool tg] 24)).alloc (.cells #[.int .i64 0] 3)).alloc (.cells #[.slice A n c, .int .i64 fl, .int .i64 dr, .int .i64 nw, .bool tg] 24) = W0 := ⟨_, rfl⟩
  have hs0 : W0.heap.size = w.heap.size + 1 + 1 + 1 := by rw [← hW0]; simp
  have hb0 : Below w.heap.size w W0 := by rw [← hW0]; exact (((Below.refl _ w).alloc (Nat.le_refl _) _).alloc (by simp) _).alloc (by simp; omega) _
  have hinv : HAt w l C [] W0 := by
    refine ⟨?_, ?_, hb0⟩
    · rw [← hW0]; have := (Whole.new (w.alloc (.cells #[.slice A n c, .int .i64 fl, .int .i64 dr, .int .i64 nw, .bool tg] 24)) 3 #[.int .i64 0]).alloc (.cells #[.slice A n c, .int .i64 fl, .int .i64 dr, .int .i64 nw, .bool tg] 24); simpa [hN] using this
    · rw [← hW0, ← hC]; have := Whole.new ((w.alloc (.cells #[.slice A n c, .int .i64 fl, .int .i64 dr, .int .i64 nw, .bool tg] 24)).alloc (.cells #[.int .i64 0] 3)) 24 #[.slice A n c, .int .i64 fl, .int .i64 dr, .int .i64 nw, .bool tg]; simpa using this
  have hbn : W0.cell? ⟨w.heap.size + 1 + 1, 0, none⟩ = some (.slice A n c) := by have := hinv.bn.cell 0; rw [← hC] at this; exact this
  rw [hW0]
  clear hW0 hC
  refine wpIn_range_mem (by omega) (gf := 44) (lb := #[.pointer (some ⟨w.heap.size + 1 + 1, 0, none⟩)]) rfl (enters_of Try.func44 (by kernel_rfl) rfl) (encs := bxEnc)
    (boxes_mem 5 (w.heap.size + 1 + 1) w.heap.size A n c l (by unfold maxLen; omega) W0 (by omega) (by omega) hbn (HR.out.below hb0))
    (fun h k => kpB_t h k) (kpB_b (by omega) (by omega)) (Below.refl _ _) (fun _ => rfl)
    (HAt w l C) (fun _ _ => False)
    (hAt_own _ _ _ _ (by omega)) (fun c W W' row h hg hr => h) hinv
    (fun pre x a' W => (x.1 = pre.length ∧ l[x.1]? = some x.2) ∧ ∃ g, a' = { tmps := #[.agg #[.slice A n c, .int .i64 fl, .int .i64 dr, .int .i64 nw, .bool tg], .pointer (some ⟨w.heap.size, 0, none⟩), .int .i64 0, .pointer (some ⟨w.heap.size + 1, 0, none⟩), undef, .pointer (some ⟨g, 0, none⟩), .agg #[.slice A n c, .int .i64 fl, .int .i64 dr, .int .i64 nw, .bool tg], .func (.func 44) #[] #[.pointer (some ⟨w.heap.size + 1 + 1, 0, none⟩)], .int .i64 (x.1 : Int), .agg #[.int .i64 x.2.id, .int .i64 x.2.tok, .int .i64 x.2.ver, .int .i64 x.2.zone, .bool x.2.tag, .bool x.2.on, .bool x.2.gone, .bool x.2.well, .int .u8 x.2.lb, .int .i64 x.2.unt, .int .i64 x.2.fen], undef, undef, undef, undef, undef], defers := [] } ∧ BoxIn W g x.2)
    (fun a' p X Y row hs hg hr => ⟨hs.1, by obtain ⟨g, e, hb⟩ := hs.2; exact ⟨g, e, Whole.turn hb hg (fun r e => (hr r e).2)⟩⟩) ?assign ?body ?done ?stop
  case assign =>
    rintro lp pre ⟨k, x⟩ W K hI hOk hK
    have HOk := Lib.hid hOk
    have HI := Lib.hid hI
    clear hOk hI
    unfold bxEnc
    gi_wp2
    refine hK _ _ (keepsFrom_alloc _ _ _) (kpB_under ((Below.refl _ _).alloc (Nat.le_refl _) _) HI.out.below.size HI.out.bn.lt) ⟨HI.out.many.alloc _, HI.out.bn.alloc _, HI.out.below.alloc HI.out.below.size _⟩ ⟨HOk.out, _, rfl, Whole.new _ _ _⟩
  case body =>
    rintro lp pre ⟨k, x⟩ a' W hlp hI ⟨⟨hk, hx⟩, g, rfl, hbx⟩
    simp only at hk hx hbx
    subst hk
    obtain ⟨b0, b1, b2, b3, b4, b5, b6, b7, b8, b9, b10⟩ := hbx.at_
    have HI := Lib.hid hI
    have HS := Lib.hid (hN_take hx)
    have hle : (hN (l.take pre.length) : Int) ≤ 1000 := by have h1 := hN_le (l.take pre.length); rw [List.length_take] at h1; have := HL.out; omega
    have HC := Lib.hid (fun W => counted_any x W)
    clear hI hx hbx
    cases hc : cnt x with
    | false =>
      rw [hc] at HS HC
      gi_wp2_with (refine ⟨trivial, ?_⟩; gi_at_call 19; refine (CallsIn.inRound lp (callsIn_wide.2 (HC.out _))).mono ?_; rintro e w2 ⟨rfl, q2⟩)
      have h2 := HI.out.under q2
      exact ⟨keepsFrom_under _ q2, kpB_under q2 HI.out.below.size HI.out.bn.lt, by rw [List.length_append, List.length_singleton, HS.out]; exact h2.many, h2.bn, h2.below⟩
    | true =>
      rw [hc] at HS HC
      gi_wp2_with (refine ⟨trivial, ?_⟩; gi_at_call 19; refine (CallsIn.inRound lp (callsIn_wide.2 (HC.out _))).mono ?_; rintro e w2 ⟨rfl, q2⟩; have h2 := HI.out.under q2; have c3 := h2.many.cell 0; have f3 := h2.many.frozen 0; have H2 := Lib.hid h2; clear h2; simp only [List.getElem?_toArray, List.getElem?_cons_zero] at c3)
      have h2 := H2.out
      have h3 := h2.many.set 0 (.int .i64 ((hN (l.take pre.length) : Int) + 1))
      refine ⟨keepsFrom_t (keepsFrom_under _ q2) ((KeepsOthers.setCell _ _ _).from _), kpB_t (kpB_under q2 HI.out.below.size HI.out.bn.lt) (kpB_setc _ (Nat.le_succ _) (by omega) _ _), ?_, h2.bn.far (p := ⟨w.heap.size + 1, 0, none⟩) (by simp) _, h2.below.setCell (p := ⟨w.heap.size + 1, 0, none⟩) (Nat.le_succ _) _⟩
      rw [List.length_append, List.length_singleton, HS.out]
      exact h3
  case done =>
    rintro D ys W hD hys hI hK
    have c3 := hI.many.cell 0
    rw [List.take_of_length_le (by have := HL.out; omega)] at c3
    simp only [List.getElem?_toArray, List.getElem?_cons_zero] at c3
    have HK := Lib.hid hK
    have HI := Lib.hid hI
    clear hK hI
    gi_wp2_with fail
    have hg' := grownBy_putObj' W D (.deferred none)
    refine ⟨by simp, .inl ⟨_, _, rfl, run_takeDeferred HK.out, ?_⟩⟩
    refine ⟨.int .i64 (hN l : Int), by simp [results, Try.results15, go_sem], rfl, ?_⟩
    exact HI.out.below.trans ((Below.refl _ _).grown hg' HI.out.below.size (fun k e => by cases e; omega))
  case stop =>
    rintro D c W hD h hK
    exact h.elim

end Go.Proofs.Ytphkleecodoplaa
