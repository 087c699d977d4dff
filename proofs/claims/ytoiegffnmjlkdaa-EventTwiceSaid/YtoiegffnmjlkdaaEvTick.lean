/-
  The walk of 'tick' of package event. Conditions: those that each theorem names.
-/
import Derived.Test.YtoiegffnmjlkdaaEvOne
import Derived.Test.YtoiegffnmjlkdaaEvBoxes
import Derived.Test.YtoiegffnmjlkdaaCdH
import Derived.Test.YtoiegffnmjlkdaaRegRound
namespace Go.Proofs.Ytoiegffnmjlkdaa
open Go.RowKit Go.Shelf
attribute [local go_sem] Oper.semAt_some

/-- The boxes behind a tick, of which the first k have been looked at. -/
def tickTo (N : Int) (l : List Bx) (k : Nat) : List Bx := (l.take k).map (tickB N) ++ l.drop k
theorem tickTo_zero (N : Int) (l : List Bx) : tickTo N l 0 = l := by simp [tickTo]
theorem tickTo_all (N : Int) (l : List Bx) : tickTo N l l.length = l.map (tickB N) := by simp [tickTo]
theorem tickTo_at {N : Int} {l : List Bx} {k : Nat} {y : Bx} (h : l[k]? = some y) : (tickTo N l k)[k]? = some y := by
  have hk := (List.getElem?_eq_some_iff.1 h).1
  unfold tickTo
  rw [List.getElem?_append_right (by simp; omega)]
  simp only [List.length_map, List.length_take, List.getElem?_drop]
  rw [show k + (k - min k l.length) = k by omega]
  exact h
theorem tickTo_succ {N : Int} {l : List Bx} {k : Nat} {y : Bx} (h : l[k]? = some y) : tickTo N l (k + 1) = (tickTo N l k).set k (tickB N y) := by
  have hk := (List.getElem?_eq_some_iff.1 h).1
  have e := h
  rw [List.getElem?_eq_getElem hk] at e
  unfold tickTo
  rw [List.set_append_right _ _ (by simp; omega)]
  simp only [List.length_map, List.length_take]
  rw [show k - min k l.length = 0 by omega, List.drop_eq_getElem_cons hk, List.set_cons_zero, List.take_succ_eq_append_getElem hk, List.map_append, List.append_assoc, Option.some.inj e]
  rfl

/-- What holds between two rounds. -/
structure TkAt (base Cb n c P Q : Nat) (A : Option Addr) (x : Cw) (W0 : World) (pre : List Nat) (W : World) : Prop where
  clu : Clu W base Cb A n c { x with l := tickTo x.nw x.l pre.length }
  p : Whole W P 49 #[.pointer (some ⟨Cb, 0, none⟩)]
  q : Whole W Q 49 #[.pointer (some ⟨Cb, 0, none⟩)]
  but : BelowBut base Cb W0 W
section
variable {base Cb g n c P Q : Nat} {A : Option Addr} {x : Cw} {W0 W W' : World} {pre : List Nat}
theorem Clu.turn {x : Cw} (h : Clu W base Cb A n c x) {row : Option Nat} (hg : W.grownBy W' row) (hr : ∀ r, row = some r → ∃ o : Obj, W.heap[r]? = some o ∧ o.isCells = false) : Clu W' base Cb A n c x :=
  ⟨h.box.turn hg hr, own_turn h.row hg hr, h.lt, Nat.le_trans h.le hg.size⟩
theorem tkAt_own (hb : base ≤ W0.heap.size) (B : Nat) (hB : base ≤ B) : OwnFrom B (TkAt base Cb n c P Q A x W0) := by
  intro pre W1 W2 row h hg hr
  have hr' : ∀ r, row = some r → ∃ o : Obj, W1.heap[r]? = some o ∧ o.isCells = false := fun r e => (hr r e).2
  refine ⟨h.clu.turn hg hr', h.p.turn hg hr', h.q.turn hg hr', hg.os.trans h.but.os, hg.tape.trans h.but.tape, hg.output.trans h.but.output, Nat.le_trans h.but.size hg.size, fun i hi hne => ?_⟩
  exact (hg.block i (by have := h.but.size; omega) (fun e => by have := (hr i e.symm).1; omega)).trans (h.but.block i hi hne)
theorem kpG_dr {G : Nat → Prop} {W : World} : KpG G W W.drew := ⟨Nat.le_refl _, fun _ _ => rfl⟩
theorem TkAt.under (h : TkAt base Cb n c P Q A x W0 pre W) (hb : Below W.heap.size W W') (h0 : base ≤ W0.heap.size) : TkAt base Cb n c P Q A x W0 pre W' := ⟨h.clu.under hb, h.p.under hb, h.q.under hb, h.but.on hb h0⟩
theorem TkAt.same (h : TkAt base Cb n c P Q A x W0 pre W) {y : Bx} {j : Nat} (hy : x.l[pre.length]? = some y) (hn : ripe x.nw y = false) : TkAt base Cb n c P Q A x W0 (pre ++ [j]) W := by
  refine ⟨?_, h.p, h.q, h.but⟩
  rw [List.length_append, List.length_singleton, tickTo_succ hy]
  have e : tickB x.nw y = y := by unfold tickB; rw [hn]; rfl
  rw [e, set_same (tickTo_at hy)]
  exact h.clu
theorem TkAt.out (h : TkAt base Cb n c P Q (some ⟨g, 0, none⟩) x W0 pre W) {y : Bx} {j : Nat} (hy : x.l[pre.length]? = some y) (hn : ripe x.nw y = true) (hP : P ≠ g) (hQ : Q ≠ g) (h0 : base ≤ W0.heap.size) :
    TkAt base Cb n c P Q (some ⟨g, 0, none⟩) x W0 (pre ++ [j]) (W.setCell ⟨g, pre.length * 11 + 8, none⟩ (.int .u8 0)) := by
  have hx := tickTo_at (N := x.nw) hy
  have hs := h.clu.set hx (i := 8) (by omega) (u := .int .u8 0) (y' := { y with lb := 0 }) rfl
  obtain ⟨g', e, hb, _⟩ := h.clu.form hx
  injection e with e
  injection e with e _ _
  subst e
  refine ⟨?_, h.p.far (p := ⟨g, pre.length * 11 + 8, none⟩) hP _, h.q.far (p := ⟨g, pre.length * 11 + 8, none⟩) hQ _, h.but.grown hs.2 hb h0⟩
  have e : tickB x.nw y = { y with lb := 0 } := by unfold tickB; rw [hn]; rfl
  rw [List.length_append, List.length_singleton, tickTo_succ hy, e]
  exact hs.1
end

section
variable {base Cb n c : Nat} {A : Option Addr} {x : Cw} {e : Ev} {W0 : World}

set_option maxRecDepth 100000 in
set_option maxHeartbeats 2000000 in
theorem tick_end (h : Clu W0 base Cb A n c x) (hn : 1099511627776 ≤ x.nw) :
    Calls Try.prog 34 #[.pointer (some ⟨Cb, 0, none⟩), .agg #[.int .u8 e.kind, .int .i64 e.a, .int .i64 e.b]] W0 (HapPost base Cb x W0) := by
  have hV : Below W0.heap.size W0 ((W0.alloc (.cells #[.pointer (some ⟨Cb, 0, none⟩)] 49)).alloc (.cells #[.int .u8 e.kind, .int .i64 e.a, .int .i64 e.b] 26)) := ((Below.refl _ W0).alloc (Nat.le_refl _) _).alloc (by simp) _
  obtain ⟨V, eV⟩ : ∃ V, (W0.alloc (.cells #[.pointer (some ⟨Cb, 0, none⟩)] 49)).alloc (.cells #[.int .u8 e.kind, .int .i64 e.a, .int .i64 e.b] 26) = V := ⟨_, rfl⟩
  have hP : Whole V W0.heap.size 49 #[.pointer (some ⟨Cb, 0, none⟩)] := by rw [← eV]; exact (Whole.new W0 _ _).alloc _
  rw [eV] at hV
  have h1 := h.under hV
  obtain ⟨d0, d1, d2, d3, d4⟩ := h1.cells
  have p0 := hP.cell 0
  simp only [List.getElem?_toArray, List.getElem?_cons_zero] at p0
  have H1 := Lib.hid h1
  have HB := Lib.hid (Below.but (Cb := Cb) (hV.mono h.le))
  have hd : decide ((1099511627776 : Int) ≤ x.nw) = true := decide_eq_true hn
  clear h h1 hV hP hn
  go_enter Try.func34, Try.ntmps34
  go_wp2_with fail
  refine bodyPost_ret (results_none rfl _ _ _) rfl ?_
  exact ⟨⟨_, rfl⟩, ⟨_, _, _, H1.out⟩, HB.out⟩

set_option maxRecDepth 100000 in
set_option maxHeartbeats 2000000 in
theorem tick_on (h : Clu W0 base Cb A n c x) (hn : n ≤ 1000) (h0 : 0 ≤ x.nw) (h1 : x.nw < 1099511627776) :
    Calls Try.prog 34 #[.pointer (some ⟨Cb, 0, none⟩), .agg #[.int .u8 e.kind, .int .i64 e.a, .int .i64 e.b]] W0 (HapPost base Cb { x with nw := x.nw + 1, l := x.l.map (tickB (x.nw + 1)) } W0) := by
  have hV : Below W0.heap.size W0 ((W0.alloc (.cells #[.pointer (some ⟨Cb, 0, none⟩)] 49)).alloc (.cells #[.int .u8 e.kind, .int .i64 e.a, .int .i64 e.b] 26)) := ((Below.refl _ W0).alloc (Nat.le_refl _) _).alloc (by simp) _
  obtain ⟨V, eV⟩ : ∃ V, (W0.alloc (.cells #[.pointer (some ⟨Cb, 0, none⟩)] 49)).alloc (.cells #[.int .u8 e.kind, .int .i64 e.a, .int .i64 e.b] 26) = V := ⟨_, rfl⟩
  have hP : Whole V W0.heap.size 49 #[.pointer (some ⟨Cb, 0, none⟩)] := by rw [← eV]; exact (Whole.new W0 _ _).alloc _
  rw [eV] at hV
  have k1 := h.under hV
  obtain ⟨d0, d1, d2, d3, d4⟩ := k1.cells
  have f3 := k1.box.frozen 3
  have p0 := hP.cell 0
  simp only [List.getElem?_toArray, List.getElem?_cons_zero] at p0
  have hd : decide ((1099511627776 : Int) ≤ x.nw) = false := decide_eq_false (by omega)
  have ew : IntKind.i64.wrap (x.nw + 1) = x.nw + 1 := IntWalk.i64_in _ ⟨by omega, by omega⟩
  have hlt := h.lt
  have hle := h.le
  have hlen := h.len
  have HRow := Lib.hid h.row
  have HV := Lib.hid hV
  have HC := Lib.hid (k1.setNw (x.nw + 1))
  have HPs := Lib.hid (hP.far (p := ⟨Cb, 3, none⟩) (by show W0.heap.size ≠ Cb; omega) (.int .i64 (x.nw + 1)))
  have HB := Lib.hid ((Below.but (Cb := Cb) (hV.mono h.le)).set 3 (.int .i64 (x.nw + 1)))
  have HL := Lib.hid (And.intro hlt (And.intro hle hlen))
  clear h k1 hV hP hlt hle hlen
  refine (callsIn_wide (n := 6)).1 ?_
  refine callsIn_of_wp_marks Try.func34 rfl trivial ?_ rfl
  simp only [Try.ntmps34, List.size_toArray, List.length_cons, List.length_nil, Nat.reduceAdd, Nat.reduceSub, Array.replicate_succ, Array.replicate_zero, List.push_toArray, List.append_toArray, List.nil_append, List.cons_append]
  gi_wp2_with (refine ⟨trivial, ?_⟩; gi_at_call 42; refine (callsIn_wide.2 (evBoxes_any _ _)).mono ?_; rintro e w2 ⟨rfl, rfl⟩)
  clear d0 d1 d2 d3 d4 f3 p0 hd ew eV
  obtain ⟨Y, hY⟩ : ∃ Y, V.setCell ⟨Cb, 3, none⟩ (.int .i64 (x.nw + 1)) = Y := ⟨_, rfl⟩
  have hsz : Y.heap.size = V.heap.size := by rw [← hY]; simp
  rw [hY] at HC HPs HB ⊢
  rw [← hsz]
  have hYs : W0.heap.size < Y.heap.size := HPs.out.lt
  clear hY hsz HV
  obtain ⟨W1, hW1⟩ : ∃ W1, Y.alloc (.cells #[.pointer (some ⟨Cb, 0, none⟩)] 49) = W1 := ⟨_, rfl⟩
  have hb1 : Below Y.heap.size Y W1 := by rw [← hW1]; exact (Below.refl _ _).alloc (Nat.le_refl _) _
  have hq1 : Whole W1 Y.heap.size 49 #[.pointer (some ⟨Cb, 0, none⟩)] := by rw [← hW1]; exact Whole.new _ _ _
  rw [hW1]
  clear hW1
  obtain ⟨Q, eQ⟩ : ∃ Q, Y.heap.size = Q := ⟨_, rfl⟩
  rw [eQ] at hYs hq1 hb1 ⊢
  obtain ⟨x1, ex1⟩ : ∃ x1 : Cw, ({ x with nw := x.nw + 1 } : Cw) = x1 := ⟨_, rfl⟩
  have el1 : x.l = x1.l := by rw [← ex1]
  have en1 : x.nw + 1 = x1.nw := by rw [← ex1]
  have hfin : ({ x with nw := x.nw + 1, l := x.l.map (tickB (x.nw + 1)) } : Cw) = { x1 with l := x1.l.map (tickB x1.nw) } := by rw [← ex1]
  have hC1 : Clu W1 base Cb A n c x1 := by rw [← ex1]; exact HC.out.under (eQ ▸ hb1)
  rw [hfin]
  have hg : ∃ g, (0 < n → A = some ⟨g, 0, none⟩) ∧ W0.heap.size ≠ g ∧ Q ≠ g ∧ Cb ≠ g := by
    by_cases hn0 : 0 < n
    · obtain ⟨y, hy⟩ : ∃ y, x1.l[0]? = some y := ⟨_, List.getElem?_eq_getElem (by rw [hC1.len]; exact hn0)⟩
      obtain ⟨g, rfl, _, _⟩ := hC1.form hy
      have hgl := HRow.out.lt g rfl
      exact ⟨g, fun _ => rfl, by omega, by omega, by have := HL.out.1; omega⟩
    · exact ⟨W0.heap.size + Q + 1, fun h => absurd h hn0, by omega, by omega, by have := HL.out; omega⟩
  obtain ⟨g, hA, hPg, hQg, hCg⟩ := hg
  have hinv : TkAt base Cb n c W0.heap.size Q A x1 W0 [] W1 := by
    refine ⟨?_, HPs.out.under (eQ ▸ hb1), hq1, HB.out.on (eQ ▸ hb1) HL.out.2.1⟩
    show Clu W1 base Cb A n c { x1 with l := tickTo x1.nw x1.l 0 }
    rw [tickTo_zero]; exact hC1
  have hq0 := hq1.cell 0
  have hc0 := hC1.cells.1
  have hQl := hq1.lt
  have hCl := hC1.box.lt
  have hW1s : W0.heap.size ≤ W1.heap.size := by omega
  have HA := Lib.hid hA
  have HX := Lib.hid hfin
  simp only [List.getElem?_toArray, List.getElem?_cons_zero] at hq0
  clear hfin HC HPs HB hb1 hq1 hC1 el1 en1 ex1 eQ
  refine wpIn_range_mem (by omega) (gf := 46) (lb := #[.pointer (some ⟨Q, 0, none⟩)]) rfl (enters_of Try.func46 (by kernel_rfl) rfl) (encs := plEnc g)
    (evBoxes_mem 5 Q Cb g A n c hn HA.out W1 hQl hCl hq0 hc0)
    (fun h k => kpG_t h k) (kpG_b (fun b hb => by rcases hb with rfl | rfl <;> omega)) (Below.refl _ _) (fun _ => rfl)
    (TkAt base Cb n c W0.heap.size Q A x1 W0) (fun _ _ => False)
    (tkAt_own HL.out.2.1 _ (by have := HL.out.2.1; omega)) (fun _ _ _ _ h => h.elim) hinv
    (fun pre j a' W => (j = pre.length ∧ j < n) ∧ a' = { tmps := #[.pointer (some ⟨Cb, 0, none⟩), .agg #[.int .u8 e.kind, .int .i64 e.a, .int .i64 e.b], .pointer (some ⟨W0.heap.size, 0, none⟩), .pointer (some ⟨W0.heap.size + 1, 0, none⟩), .pointer (some ⟨g, j * 11, none⟩), .pointer (some ⟨Cb, 0, none⟩), .pointer (some ⟨Cb, 0, none⟩), .pointer (some ⟨Cb, 3, none⟩), .int .i64 x.nw, .bool false, .pointer (some ⟨Cb, 0, none⟩), .pointer (some ⟨Cb, 0, none⟩), .pointer (some ⟨Cb, 3, none⟩), .int .i64 x.nw, .int .i64 (x.nw + 1), .pointer (some ⟨Cb, 0, none⟩), .pointer (some ⟨Cb, 3, none⟩), .pointer (some ⟨Cb, 0, none⟩), .func (.func 46) #[] #[.pointer (some ⟨Q, 0, none⟩)], .pointer (some ⟨g, j * 11, none⟩), undef, undef, undef, undef, undef, undef, undef, undef, undef, undef, undef, undef, undef, undef, undef, undef, undef, undef, undef], defers := [] })
    (fun a' p X Y row hs hg hr => hs) ?assign ?body ?done ?stop
  case assign =>
    rintro lp pre j W K hI hOk hK
    have HI := Lib.hid hI
    have HOk := Lib.hid hOk
    clear hOk hI
    unfold plEnc
    gi_wp2
    exact hK _ _ (keepsFrom_under _ (Below.refl _ _)) kpG_refl HI.out ⟨HOk.out, rfl⟩
  case body =>
    rintro lp pre j a' W hlp hI ⟨⟨hj, hjn⟩, rfl⟩
    subst hj
    have eA := HA.out (by omega)
    subst eA
    obtain ⟨y, hy⟩ : ∃ y, x1.l[pre.length]? = some y := ⟨_, List.getElem?_eq_getElem (by have := hI.clu.len; simp [tickTo] at this; omega)⟩
    obtain ⟨b0, b1, b2, b3, b4, b5, b6, b7, b8, b9, b10⟩ := hI.clu.at_ (tickTo_at hy)
    have f8 := hI.clu.frz (pre.length * 11 + 8)
    obtain ⟨d0, d1, d2, d3, d4x⟩ := hI.clu.cells
    have p0 := hI.p.cell 0
    simp only [List.getElem?_toArray, List.getElem?_cons_zero] at p0
    have HI := Lib.hid hI
    have HY := Lib.hid hy
    clear hI hy d0 d1 d2 b0 b1 b2 b3 b4 b5 b6 b7 b10
    have hmix : Try.prog.follows .mixedOrders = true := by kernel_rfl
    clear d4x
    cases h2 : (y.lb == 2) with
    | false =>
      have hrp : ripe x1.nw y = false := by unfold ripe; rw [h2]; rfl
      have HS := Lib.hid (HI.out.same (j := pre.length) HY.out hrp)
      clear hrp
      gi_wp2_with fail
      have HC := Lib.hid (show (fun V => V.cell? ⟨g, pre.length * 11 + 8, none⟩ = some (.int .u8 y.lb) ∧ V.cell? ⟨g, pre.length * 11 + 9, none⟩ = some (.int .i64 y.unt) ∧ V.cell? ⟨W0.heap.size, 0, none⟩ = some (.pointer (some ⟨Cb, 0, none⟩)) ∧ V.cell? ⟨Cb, 3, none⟩ = some (.int .i64 x1.nw)) W.drew from ⟨b8, b9, p0, d3⟩)
      refine wpIn_region_hand (S := fun V => V.cell? ⟨g, pre.length * 11 + 8, none⟩ = some (.int .u8 y.lb) ∧ V.cell? ⟨g, pre.length * 11 + 9, none⟩ = some (.int .i64 y.unt) ∧ V.cell? ⟨W0.heap.size, 0, none⟩ = some (.pointer (some ⟨Cb, 0, none⟩)) ∧ V.cell? ⟨Cb, 3, none⟩ = some (.int .i64 x1.nw)) (by kernel_rfl) (by kernel_rfl) (fun _ _ h => h) HC.out (fun _ => ?_)
      refine takeH (i := 0) (v := ?_) rfl (by kernel_rfl) (by kernel_rfl) (by kernel_rfl) (fun _ _ _ h => h) (by rfl) ?_ HC.out ?_
      rotate_left
      · rintro V ⟨b8, b9, p0, d3⟩; go_simp <;> with_reducible rfl
      simp only [Act.put, List.setIfInBounds_toArray, List.set_cons_zero, List.set_cons_succ]
      refine takeH (i := 1) (v := ?_) rfl (by kernel_rfl) (by kernel_rfl) (by kernel_rfl) (fun _ _ _ h => h) (by rfl) ?_ HC.out ?_
      rotate_left
      · rintro V ⟨b8, b9, p0, d3⟩; go_simp <;> with_reducible rfl
      simp only [Act.put, List.setIfInBounds_toArray, List.set_cons_zero, List.set_cons_succ]
      refine takeH (i := 2) (v := ?_) rfl (by kernel_rfl) (by kernel_rfl) (by kernel_rfl) (fun _ _ _ h => h) (by rfl) ?_ HC.out ?_
      rotate_left
      · rintro V ⟨b8, b9, p0, d3⟩; go_simp <;> with_reducible rfl
      simp only [Act.put, List.setIfInBounds_toArray, List.set_cons_zero, List.set_cons_succ]
      refine takeH (i := 3) (v := ?_) rfl (by kernel_rfl) (by kernel_rfl) (by kernel_rfl) (fun _ _ _ h => h) (by rfl) ?_ HC.out ?_
      rotate_left
      · rintro V ⟨b8, b9, p0, d3⟩; go_simp <;> with_reducible rfl
      simp only [Act.put, List.setIfInBounds_toArray, List.set_cons_zero, List.set_cons_succ]
      refine takeH (i := 4) (v := ?_) rfl (by kernel_rfl) (by kernel_rfl) (by kernel_rfl) (fun _ _ _ h => h) (by rfl) ?_ HC.out ?_
      rotate_left
      · rintro V ⟨b8, b9, p0, d3⟩; go_simp <;> with_reducible rfl
      simp only [Act.put, List.setIfInBounds_toArray, List.set_cons_zero, List.set_cons_succ]
      refine takeH (i := 5) (v := ?_) rfl (by kernel_rfl) (by kernel_rfl) (by kernel_rfl) (fun _ _ _ h => h) (by rfl) ?_ HC.out ?_
      rotate_left
      · rintro V ⟨b8, b9, p0, d3⟩; go_simp <;> with_reducible rfl
      simp only [Act.put, List.setIfInBounds_toArray, List.set_cons_zero, List.set_cons_succ]
      refine skipH (i := 6) rfl (by kernel_rfl) (by kernel_rfl) (by kernel_rfl) (fun _ _ _ h => h) (by rfl) HC.out ?_
      simp only [Act.put, List.setIfInBounds_toArray, List.set_cons_zero, List.set_cons_succ]
      refine skipH (i := 7) rfl (by kernel_rfl) (by kernel_rfl) (by kernel_rfl) (fun _ _ _ h => h) (by rfl) HC.out ?_
      simp only [Act.put, List.setIfInBounds_toArray, List.set_cons_zero, List.set_cons_succ]
      refine skipH (i := 8) rfl (by kernel_rfl) (by kernel_rfl) (by kernel_rfl) (fun _ _ _ h => h) (by rfl) HC.out ?_
      simp only [Act.put, List.setIfInBounds_toArray, List.set_cons_zero, List.set_cons_succ]
      refine skipH (i := 9) rfl (by kernel_rfl) (by kernel_rfl) (by kernel_rfl) (fun _ _ _ h => h) (by rfl) HC.out ?_
      simp only [Act.put, List.setIfInBounds_toArray, List.set_cons_zero, List.set_cons_succ]
      refine skipH (i := 10) rfl (by kernel_rfl) (by kernel_rfl) (by kernel_rfl) (fun _ _ _ h => h) (by rfl) HC.out ?_
      simp only [Act.put, List.setIfInBounds_toArray, List.set_cons_zero, List.set_cons_succ]
      refine skipH (i := 11) rfl (by kernel_rfl) (by kernel_rfl) (by kernel_rfl) (fun _ _ _ h => h) (by rfl) HC.out ?_
      simp only [Act.put, List.setIfInBounds_toArray, List.set_cons_zero, List.set_cons_succ]
      refine skipH (i := 12) rfl (by kernel_rfl) (by kernel_rfl) (by kernel_rfl) (fun _ _ _ h => h) (by rfl) HC.out ?_
      simp only [Act.put, List.setIfInBounds_toArray, List.set_cons_zero, List.set_cons_succ]
      refine skipH (i := 13) rfl (by kernel_rfl) (by kernel_rfl) (by kernel_rfl) (fun _ _ _ h => h) (by rfl) HC.out ?_
      simp only [Act.put, List.setIfInBounds_toArray, List.set_cons_zero, List.set_cons_succ]
      refine skipH (i := 14) rfl (by kernel_rfl) (by kernel_rfl) (by kernel_rfl) (fun _ _ _ h => h) (by rfl) HC.out ?_
      simp only [Act.put, List.setIfInBounds_toArray, List.set_cons_zero, List.set_cons_succ]
      refine takeH (i := 15) (v := ?_) rfl (by kernel_rfl) (by kernel_rfl) (by kernel_rfl) (fun _ _ _ h => h) (by rfl) ?_ HC.out ?_
      rotate_left
      · rintro V ⟨b8, b9, p0, d3⟩; go_simp <;> with_reducible rfl
      simp only [Act.put, List.setIfInBounds_toArray, List.set_cons_zero, List.set_cons_succ]
      refine wpAnyH_done (by kernel_rfl) ?_ _
      gi_wp2_with fail
      exact ⟨keepsFrom_under _ (Below.refl _ _).drew, kpG_dr, HS.out.under (Below.refl _ _).drew HL.out.2.1⟩
    | true =>
      cases h3 : decide (y.unt ≤ x1.nw) with
      | false =>
        have hrp : ripe x1.nw y = false := by unfold ripe; rw [h2, h3]; rfl
        have HS := Lib.hid (HI.out.same (j := pre.length) HY.out hrp)
        clear hrp
        gi_wp2_with fail
        have HC := Lib.hid (show (fun V => V.cell? ⟨g, pre.length * 11 + 8, none⟩ = some (.int .u8 y.lb) ∧ V.cell? ⟨g, pre.length * 11 + 9, none⟩ = some (.int .i64 y.unt) ∧ V.cell? ⟨W0.heap.size, 0, none⟩ = some (.pointer (some ⟨Cb, 0, none⟩)) ∧ V.cell? ⟨Cb, 3, none⟩ = some (.int .i64 x1.nw)) W.drew from ⟨b8, b9, p0, d3⟩)
        refine wpIn_region_hand (S := fun V => V.cell? ⟨g, pre.length * 11 + 8, none⟩ = some (.int .u8 y.lb) ∧ V.cell? ⟨g, pre.length * 11 + 9, none⟩ = some (.int .i64 y.unt) ∧ V.cell? ⟨W0.heap.size, 0, none⟩ = some (.pointer (some ⟨Cb, 0, none⟩)) ∧ V.cell? ⟨Cb, 3, none⟩ = some (.int .i64 x1.nw)) (by kernel_rfl) (by kernel_rfl) (fun _ _ h => h) HC.out (fun _ => ?_)
        refine takeH (i := 0) (v := ?_) rfl (by kernel_rfl) (by kernel_rfl) (by kernel_rfl) (fun _ _ _ h => h) (by rfl) ?_ HC.out ?_
        rotate_left
        · rintro V ⟨b8, b9, p0, d3⟩; go_simp <;> with_reducible rfl
        simp only [Act.put, List.setIfInBounds_toArray, List.set_cons_zero, List.set_cons_succ]
        refine takeH (i := 1) (v := ?_) rfl (by kernel_rfl) (by kernel_rfl) (by kernel_rfl) (fun _ _ _ h => h) (by rfl) ?_ HC.out ?_
        rotate_left
        · rintro V ⟨b8, b9, p0, d3⟩; go_simp <;> with_reducible rfl
        simp only [Act.put, List.setIfInBounds_toArray, List.set_cons_zero, List.set_cons_succ]
        refine takeH (i := 2) (v := ?_) rfl (by kernel_rfl) (by kernel_rfl) (by kernel_rfl) (fun _ _ _ h => h) (by rfl) ?_ HC.out ?_
        rotate_left
        · rintro V ⟨b8, b9, p0, d3⟩; go_simp <;> with_reducible rfl
        simp only [Act.put, List.setIfInBounds_toArray, List.set_cons_zero, List.set_cons_succ]
        refine takeH (i := 3) (v := ?_) rfl (by kernel_rfl) (by kernel_rfl) (by kernel_rfl) (fun _ _ _ h => h) (by rfl) ?_ HC.out ?_
        rotate_left
        · rintro V ⟨b8, b9, p0, d3⟩; go_simp <;> with_reducible rfl
        simp only [Act.put, List.setIfInBounds_toArray, List.set_cons_zero, List.set_cons_succ]
        refine takeH (i := 4) (v := ?_) rfl (by kernel_rfl) (by kernel_rfl) (by kernel_rfl) (fun _ _ _ h => h) (by rfl) ?_ HC.out ?_
        rotate_left
        · rintro V ⟨b8, b9, p0, d3⟩; go_simp <;> with_reducible rfl
        simp only [Act.put, List.setIfInBounds_toArray, List.set_cons_zero, List.set_cons_succ]
        refine takeH (i := 5) (v := ?_) rfl (by kernel_rfl) (by kernel_rfl) (by kernel_rfl) (fun _ _ _ h => h) (by rfl) ?_ HC.out ?_
        rotate_left
        · rintro V ⟨b8, b9, p0, d3⟩; go_simp <;> with_reducible rfl
        simp only [Act.put, List.setIfInBounds_toArray, List.set_cons_zero, List.set_cons_succ]
        refine takeH (i := 6) (v := ?_) rfl (by kernel_rfl) (by kernel_rfl) (by kernel_rfl) (fun _ _ _ h => h) (by rfl) ?_ HC.out ?_
        rotate_left
        · rintro V ⟨b8, b9, p0, d3⟩; go_simp <;> with_reducible rfl
        simp only [Act.put, List.setIfInBounds_toArray, List.set_cons_zero, List.set_cons_succ]
        refine takeH (i := 7) (v := ?_) rfl (by kernel_rfl) (by kernel_rfl) (by kernel_rfl) (fun _ _ _ h => h) (by rfl) ?_ HC.out ?_
        rotate_left
        · rintro V ⟨b8, b9, p0, d3⟩; go_simp <;> with_reducible rfl
        simp only [Act.put, List.setIfInBounds_toArray, List.set_cons_zero, List.set_cons_succ]
        refine takeH (i := 8) (v := ?_) rfl (by kernel_rfl) (by kernel_rfl) (by kernel_rfl) (fun _ _ _ h => h) (by rfl) ?_ HC.out ?_
        rotate_left
        · rintro V ⟨b8, b9, p0, d3⟩; go_simp <;> with_reducible rfl
        simp only [Act.put, List.setIfInBounds_toArray, List.set_cons_zero, List.set_cons_succ]
        refine takeH (i := 9) (v := ?_) rfl (by kernel_rfl) (by kernel_rfl) (by kernel_rfl) (fun _ _ _ h => h) (by rfl) ?_ HC.out ?_
        rotate_left
        · rintro V ⟨b8, b9, p0, d3⟩; go_simp <;> with_reducible rfl
        simp only [Act.put, List.setIfInBounds_toArray, List.set_cons_zero, List.set_cons_succ]
        refine takeH (i := 10) (v := ?_) rfl (by kernel_rfl) (by kernel_rfl) (by kernel_rfl) (fun _ _ _ h => h) (by rfl) ?_ HC.out ?_
        rotate_left
        · rintro V ⟨b8, b9, p0, d3⟩; go_simp <;> with_reducible rfl
        simp only [Act.put, List.setIfInBounds_toArray, List.set_cons_zero, List.set_cons_succ]
        refine takeH (i := 11) (v := ?_) rfl (by kernel_rfl) (by kernel_rfl) (by kernel_rfl) (fun _ _ _ h => h) (by rfl) ?_ HC.out ?_
        rotate_left
        · rintro V ⟨b8, b9, p0, d3⟩; go_simp <;> with_reducible rfl
        simp only [Act.put, List.setIfInBounds_toArray, List.set_cons_zero, List.set_cons_succ]
        refine takeH (i := 12) (v := ?_) rfl (by kernel_rfl) (by kernel_rfl) (by kernel_rfl) (fun _ _ _ h => h) (by rfl) ?_ HC.out ?_
        rotate_left
        · rintro V ⟨b8, b9, p0, d3⟩; go_simp <;> with_reducible rfl
        simp only [Act.put, List.setIfInBounds_toArray, List.set_cons_zero, List.set_cons_succ]
        refine takeH (i := 13) (v := ?_) rfl (by kernel_rfl) (by kernel_rfl) (by kernel_rfl) (fun _ _ _ h => h) (by rfl) ?_ HC.out ?_
        rotate_left
        · rintro V ⟨b8, b9, p0, d3⟩; go_simp <;> with_reducible rfl
        simp only [Act.put, List.setIfInBounds_toArray, List.set_cons_zero, List.set_cons_succ]
        refine takeH (i := 14) (v := ?_) rfl (by kernel_rfl) (by kernel_rfl) (by kernel_rfl) (fun _ _ _ h => h) (by rfl) ?_ HC.out ?_
        rotate_left
        · rintro V ⟨b8, b9, p0, d3⟩; go_simp <;> with_reducible rfl
        simp only [Act.put, List.setIfInBounds_toArray, List.set_cons_zero, List.set_cons_succ]
        refine takeH (i := 15) (v := ?_) rfl (by kernel_rfl) (by kernel_rfl) (by kernel_rfl) (fun _ _ _ h => h) (by rfl) ?_ HC.out ?_
        rotate_left
        · rintro V ⟨b8, b9, p0, d3⟩; go_simp <;> with_reducible rfl
        simp only [Act.put, List.setIfInBounds_toArray, List.set_cons_zero, List.set_cons_succ]
        refine wpAnyH_done (by kernel_rfl) ?_ _
        gi_wp2_with fail
        exact ⟨keepsFrom_under _ (Below.refl _ _).drew, kpG_dr, HS.out.under (Below.refl _ _).drew HL.out.2.1⟩
      | true =>
        have hrp : ripe x1.nw y = true := by unfold ripe; rw [h2, h3]; rfl
        have HS := Lib.hid ((HI.out.under (Below.refl _ _).drew HL.out.2.1).out (j := pre.length) HY.out hrp hPg hQg HL.out.2.1)
        clear hrp
        gi_wp2_with fail
        have HC := Lib.hid (show (fun V => V.cell? ⟨g, pre.length * 11 + 8, none⟩ = some (.int .u8 y.lb) ∧ V.cell? ⟨g, pre.length * 11 + 9, none⟩ = some (.int .i64 y.unt) ∧ V.cell? ⟨W0.heap.size, 0, none⟩ = some (.pointer (some ⟨Cb, 0, none⟩)) ∧ V.cell? ⟨Cb, 3, none⟩ = some (.int .i64 x1.nw)) W.drew from ⟨b8, b9, p0, d3⟩)
        refine wpIn_region_hand (S := fun V => V.cell? ⟨g, pre.length * 11 + 8, none⟩ = some (.int .u8 y.lb) ∧ V.cell? ⟨g, pre.length * 11 + 9, none⟩ = some (.int .i64 y.unt) ∧ V.cell? ⟨W0.heap.size, 0, none⟩ = some (.pointer (some ⟨Cb, 0, none⟩)) ∧ V.cell? ⟨Cb, 3, none⟩ = some (.int .i64 x1.nw)) (by kernel_rfl) (by kernel_rfl) (fun _ _ h => h) HC.out (fun _ => ?_)
        refine takeH (i := 0) (v := ?_) rfl (by kernel_rfl) (by kernel_rfl) (by kernel_rfl) (fun _ _ _ h => h) (by rfl) ?_ HC.out ?_
        rotate_left
        · rintro V ⟨b8, b9, p0, d3⟩; go_simp <;> with_reducible rfl
        simp only [Act.put, List.setIfInBounds_toArray, List.set_cons_zero, List.set_cons_succ]
        refine takeH (i := 1) (v := ?_) rfl (by kernel_rfl) (by kernel_rfl) (by kernel_rfl) (fun _ _ _ h => h) (by rfl) ?_ HC.out ?_
        rotate_left
        · rintro V ⟨b8, b9, p0, d3⟩; go_simp <;> with_reducible rfl
        simp only [Act.put, List.setIfInBounds_toArray, List.set_cons_zero, List.set_cons_succ]
        refine takeH (i := 2) (v := ?_) rfl (by kernel_rfl) (by kernel_rfl) (by kernel_rfl) (fun _ _ _ h => h) (by rfl) ?_ HC.out ?_
        rotate_left
        · rintro V ⟨b8, b9, p0, d3⟩; go_simp <;> with_reducible rfl
        simp only [Act.put, List.setIfInBounds_toArray, List.set_cons_zero, List.set_cons_succ]
        refine takeH (i := 3) (v := ?_) rfl (by kernel_rfl) (by kernel_rfl) (by kernel_rfl) (fun _ _ _ h => h) (by rfl) ?_ HC.out ?_
        rotate_left
        · rintro V ⟨b8, b9, p0, d3⟩; go_simp <;> with_reducible rfl
        simp only [Act.put, List.setIfInBounds_toArray, List.set_cons_zero, List.set_cons_succ]
        refine takeH (i := 4) (v := ?_) rfl (by kernel_rfl) (by kernel_rfl) (by kernel_rfl) (fun _ _ _ h => h) (by rfl) ?_ HC.out ?_
        rotate_left
        · rintro V ⟨b8, b9, p0, d3⟩; go_simp <;> with_reducible rfl
        simp only [Act.put, List.setIfInBounds_toArray, List.set_cons_zero, List.set_cons_succ]
        refine takeH (i := 5) (v := ?_) rfl (by kernel_rfl) (by kernel_rfl) (by kernel_rfl) (fun _ _ _ h => h) (by rfl) ?_ HC.out ?_
        rotate_left
        · rintro V ⟨b8, b9, p0, d3⟩; go_simp <;> with_reducible rfl
        simp only [Act.put, List.setIfInBounds_toArray, List.set_cons_zero, List.set_cons_succ]
        refine takeH (i := 6) (v := ?_) rfl (by kernel_rfl) (by kernel_rfl) (by kernel_rfl) (fun _ _ _ h => h) (by rfl) ?_ HC.out ?_
        rotate_left
        · rintro V ⟨b8, b9, p0, d3⟩; go_simp <;> with_reducible rfl
        simp only [Act.put, List.setIfInBounds_toArray, List.set_cons_zero, List.set_cons_succ]
        refine takeH (i := 7) (v := ?_) rfl (by kernel_rfl) (by kernel_rfl) (by kernel_rfl) (fun _ _ _ h => h) (by rfl) ?_ HC.out ?_
        rotate_left
        · rintro V ⟨b8, b9, p0, d3⟩; go_simp <;> with_reducible rfl
        simp only [Act.put, List.setIfInBounds_toArray, List.set_cons_zero, List.set_cons_succ]
        refine takeH (i := 8) (v := ?_) rfl (by kernel_rfl) (by kernel_rfl) (by kernel_rfl) (fun _ _ _ h => h) (by rfl) ?_ HC.out ?_
        rotate_left
        · rintro V ⟨b8, b9, p0, d3⟩; go_simp <;> with_reducible rfl
        simp only [Act.put, List.setIfInBounds_toArray, List.set_cons_zero, List.set_cons_succ]
        refine takeH (i := 9) (v := ?_) rfl (by kernel_rfl) (by kernel_rfl) (by kernel_rfl) (fun _ _ _ h => h) (by rfl) ?_ HC.out ?_
        rotate_left
        · rintro V ⟨b8, b9, p0, d3⟩; go_simp <;> with_reducible rfl
        simp only [Act.put, List.setIfInBounds_toArray, List.set_cons_zero, List.set_cons_succ]
        refine takeH (i := 10) (v := ?_) rfl (by kernel_rfl) (by kernel_rfl) (by kernel_rfl) (fun _ _ _ h => h) (by rfl) ?_ HC.out ?_
        rotate_left
        · rintro V ⟨b8, b9, p0, d3⟩; go_simp <;> with_reducible rfl
        simp only [Act.put, List.setIfInBounds_toArray, List.set_cons_zero, List.set_cons_succ]
        refine takeH (i := 11) (v := ?_) rfl (by kernel_rfl) (by kernel_rfl) (by kernel_rfl) (fun _ _ _ h => h) (by rfl) ?_ HC.out ?_
        rotate_left
        · rintro V ⟨b8, b9, p0, d3⟩; go_simp <;> with_reducible rfl
        simp only [Act.put, List.setIfInBounds_toArray, List.set_cons_zero, List.set_cons_succ]
        refine takeH (i := 12) (v := ?_) rfl (by kernel_rfl) (by kernel_rfl) (by kernel_rfl) (fun _ _ _ h => h) (by rfl) ?_ HC.out ?_
        rotate_left
        · rintro V ⟨b8, b9, p0, d3⟩; go_simp <;> with_reducible rfl
        simp only [Act.put, List.setIfInBounds_toArray, List.set_cons_zero, List.set_cons_succ]
        refine takeH (i := 13) (v := ?_) rfl (by kernel_rfl) (by kernel_rfl) (by kernel_rfl) (fun _ _ _ h => h) (by rfl) ?_ HC.out ?_
        rotate_left
        · rintro V ⟨b8, b9, p0, d3⟩; go_simp <;> with_reducible rfl
        simp only [Act.put, List.setIfInBounds_toArray, List.set_cons_zero, List.set_cons_succ]
        refine takeH (i := 14) (v := ?_) rfl (by kernel_rfl) (by kernel_rfl) (by kernel_rfl) (fun _ _ _ h => h) (by rfl) ?_ HC.out ?_
        rotate_left
        · rintro V ⟨b8, b9, p0, d3⟩; go_simp <;> with_reducible rfl
        simp only [Act.put, List.setIfInBounds_toArray, List.set_cons_zero, List.set_cons_succ]
        refine takeH (i := 15) (v := ?_) rfl (by kernel_rfl) (by kernel_rfl) (by kernel_rfl) (fun _ _ _ h => h) (by rfl) ?_ HC.out ?_
        rotate_left
        · rintro V ⟨b8, b9, p0, d3⟩; go_simp <;> with_reducible rfl
        simp only [Act.put, List.setIfInBounds_toArray, List.set_cons_zero, List.set_cons_succ]
        refine wpAnyH_done (by kernel_rfl) ?_ _
        have f8' : W.drew.frozen? ⟨g, pre.length * 11 + 8, none⟩ = false := f8
        have b8' : W.drew.cell? ⟨g, pre.length * 11 + 8, none⟩ = some (.int .u8 y.lb) := b8
        gi_wp2_with fail
        exact ⟨((KeepsOthers.drew _).trans (KeepsOthers.setCell _ _ _)).from _, kpG_t kpG_dr (kpG_set g _ (fun h => by rcases h with h | h; exact hQg h.symm; exact hCg h.symm) _), HS.out⟩
  case done =>
    rintro D ys W hD hys hI hK
    have HI := Lib.hid hI
    have HK := Lib.hid hK
    clear hI hK
    gi_wp2_with fail
    have hg' := grownBy_putObj' W D (.deferred none)
    have h2 := tkAt_own (Cb := Cb) (n := n) (c := c) (P := W0.heap.size) (Q := Q) (A := A) (x := x1) HL.out.2.1 W1.heap.size (by have := HL.out.2.1; omega) ys W _ (some D) HI.out hg' (fun r e => by cases e; exact ⟨hD, _, HK.out, rfl⟩)
    have hlen : ys.length = x1.l.length := by have := HI.out.clu.len; simp [tickTo] at this; omega
    have h3 := h2.clu
    rw [hlen, tickTo_all] at h3
    refine ⟨by simp, .inl ⟨_, _, rfl, run_takeDeferred HK.out, ?_⟩⟩
    exact ⟨_, results_none rfl _ _ _, ⟨_, rfl⟩, ⟨_, _, _, h3⟩, h2.but⟩
  case stop => exact fun _ _ _ _ h => h.elim

theorem tick_any (h : Clu W0 base Cb A n c x) (hn : n ≤ 1000) (h0 : 0 ≤ x.nw) :
    Calls Try.prog 34 #[.pointer (some ⟨Cb, 0, none⟩), .agg #[.int .u8 e.kind, .int .i64 e.a, .int .i64 e.b]] W0 (HapPost base Cb (tickC x) W0) := by
  unfold tickC
  split
  · exact tick_end h ‹_›
  · exact tick_on h hn h0 (by omega)
end

end Go.Proofs.Ytoiegffnmjlkdaa
