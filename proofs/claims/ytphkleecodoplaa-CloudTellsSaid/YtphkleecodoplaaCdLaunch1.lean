/-
  The walk of 'launch' of package cloud. Conditions: those that each theorem names.
-/
import Derived.Test.YtphkleecodoplaaCdFound
namespace Go.Proofs.Ytphkleecodoplaa
open Go.RowKit Go.Shelf

/-- What lies below base stays, but for one block. -/
structure BelowBut (base Cb : Nat) (W W' : World) : Prop where
  os : W'.os = W.os
  tape : W'.tape = W.tape
  output : W'.output = W.output
  size : W.heap.size ≤ W'.heap.size
  block : ∀ i, i < base → i ≠ Cb → W'.heap[i]? = W.heap[i]?
set_option maxRecDepth 100000 in
theorem Below.but {base Cb : Nat} {W W' : World} (h : Below base W W') : BelowBut base Cb W W' := ⟨h.os, h.tape, h.output, h.size, fun i hi _ => h.block i hi⟩
set_option maxRecDepth 100000 in
theorem BelowBut.drewN {base Cb : Nat} {W W' : World} (h : BelowBut base Cb W W') (k : Nat) : BelowBut base Cb W (W'.drewN k) := ⟨h.os, (below_drewN (Below.refl 0 W') k).tape.trans h.tape, h.output, h.size, h.block⟩
set_option maxRecDepth 100000 in
theorem BelowBut.below {base Cb B : Nat} {W W' : World} (h : BelowBut base Cb W W') (h1 : B ≤ base) (h2 : B ≤ Cb) : Below B W W' := ⟨h.os, h.tape, h.output, h.size, fun i hi => h.block i (by omega) (by omega)⟩

set_option maxRecDepth 100000 in
theorem but_store {base b : Nat} {W W' : World} (h : Below base W W') (v : Value) : BelowBut base b W (W'.setCell ⟨b, 0, none⟩ v) :=
  have k := (Below.refl 0 W').setCell (p := ⟨b, 0, none⟩) (Nat.zero_le _) v
  ⟨k.os.trans h.os, k.tape.trans h.tape, k.output.trans h.output, Nat.le_trans h.size k.size, fun i hi hne => (Below.heap_setCell W' ⟨b, 0, none⟩ v i hne).trans (h.block i hi)⟩

def DeedPost (base Cb : Nat) (x : Cw) (l : List Bx) (code id : Int) (W : World) (e : Ending) (W' : World) : Prop :=
  e = .returned (.tuple #[.int .u8 code, .int .i64 id]) ∧ (∃ A n c, Clu W' base Cb A n c { x with l := l }) ∧ BelowBut base Cb W W'

set_option maxRecDepth 100000 in
/-- A literal of one box. -/
theorem rdX_one (W : World) (x : Bx) (b : Nat) (hb : W.heap.size = b) : RdX (W.alloc (.cells #[.int .i64 x.id, .int .i64 x.tok, .int .i64 x.ver, .int .i64 x.zone, .bool x.tag, .bool x.on, .bool x.gone, .bool x.well, .int .u8 x.lb, .int .i64 x.unt, .int .i64 x.fen] 40)) (b + 1) (some ⟨b, 0, none⟩) 1 [x] := by
  subst hb
  refine ⟨rfl, fun _ => ⟨W.heap.size, 0, rfl, by omega, ?_⟩⟩
  rintro (_ | j) y hy
  · simp only [List.getElem?_cons_zero, Option.some.injEq] at hy
    subst hy
    exact bxAt_of fun i hi => by rw [Nat.zero_mul, Nat.add_zero, Nat.zero_add, cell_new]; simp [Bx.vs]
  · simp at hy

/-- Where the run stands at the label. -/
def LchAt (base Cb : Nat) (x : Cw) (W0 : World) (l : List Bx) (code id : Int) (a' : Act) (w' : World) : Prop :=
  a'.defers = [] ∧ a'.tmps.size = 77 ∧ a'.tmps[4]? = some (.int .u8 code) ∧ a'.tmps[5]? = some (.int .i64 id) ∧ (∃ A n c, Clu w' base Cb A n c { x with l := l }) ∧ BelowBut base Cb W0 w'

section
variable {base Cb n c : Nat} {A : Option Addr} {x : Cw} {q : Ak} {W0 : World}

set_option maxRecDepth 100000 in
set_option maxHeartbeats 4000000 in
theorem launch_refA {p : Option Nat} (h : Clu W0 base Cb A n c x) (hn : n ≤ 1000) (hp0 : firstAt (fun y => y.tok == q.a) x.l = p) (hq : q.a < 1) :
    Calls Try.prog 35 #[.pointer (some ⟨Cb, 0, none⟩), .agg #[.int .u8 q.kind, .int .i64 q.call, .int .i64 q.a, .int .i64 q.b, .int .i64 q.c, .int .i64 q.d]] W0 (DeedPost base Cb x x.l 3 0 W0) := by
  have hV0 : Below W0.heap.size W0 (W0.alloc (.cells #[.int .u8 q.kind, .int .i64 q.call, .int .i64 q.a, .int .i64 q.b, .int .i64 q.c, .int .i64 q.d] 26)) := (Below.refl _ _).alloc (Nat.le_refl _) _
  obtain ⟨V, hV⟩ : ∃ V, W0.alloc (.cells #[.int .u8 q.kind, .int .i64 q.call, .int .i64 q.a, .int .i64 q.b, .int .i64 q.c, .int .i64 q.d] 26) = V := ⟨_, rfl⟩
  have hA : AskIn V W0.heap.size q := by rw [← hV]; exact Whole.new _ _ _
  rw [hV] at hV0
  have H0 := Lib.hid (h.under hV0)
  have HA := Lib.hid hA
  have HV := Lib.hid hV0
  have HB0 := Lib.hid h.le
  have HLt := Lib.hid (h.row.lt)
  have HPl := Lib.hid (fun W (hW : Below V.heap.size V W) => place_any A n c x W.heap.size W ((h.under hV0).under hW).rd (Nat.le_refl _) hn 45 #[.pointer (some ⟨W0.heap.size, 0, none⟩)] (fun y => y.tok == q.a) (enters_of Try.func45 (by kernel_rfl) rfl) (fun y W' hW' => launch1_any q.a _ y W' (((hA.under hW).under hW').cells.2.2.1)))
  rw [hp0] at HPl
  have HNu := Lib.hid (fun W => numbers3 q.a q.b q.c W)
  obtain ⟨d0, d1, d2, d3, d4⟩ := H0.out.cells
  obtain ⟨e0, e1, e2, e3, e4, e5⟩ := HA.out.cells
  have qa : decide (q.a < 1) = true := decide_eq_true hq
  clear h hp0 hA hV0 hq
  go_enter Try.func35, Try.ntmps35
  go_wp2_with fail
  clear hV
  refine wp_scope_fwd 0 (LchAt base Cb x W0 x.l 3 0) rfl ?first ?tail
  case tail =>
    rintro ⟨tm, df⟩ w' ⟨hdf, ht, t4, t5, h3, b3⟩
    simp only at hdf ht t4 t5
    obtain ⟨_, w4⟩ := Array.getElem?_eq_some_iff.1 t4
    obtain ⟨_, w5⟩ := Array.getElem?_eq_some_iff.1 t5
    subst hdf
    have H3 := Lib.hid h3
    have B3 := Lib.hid b3
    clear h3 b3
    go_wp2_with fail
    simp only [Exit.jump]
    refine bodyPost_ret (v := .tuple #[.int .u8 3, .int .i64 0]) (by simp [results, Try.results35, go_sem, ht]) rfl ?_
    exact ⟨rfl, H3.out, B3.out⟩
  case first =>
    go_wp2_with fail
    refine (HPl.out _ (Below.refl _ _)).mono ?_
    rintro e y1 ⟨rfl, b9⟩
    have h1 := H0.out.under b9
    have a1 := HA.out.under b9
    have b1 := (HV.out.mono HB0.out).trans (b9.mono (Nat.le_trans HB0.out HV.out.size))
    have BV := Lib.hid b9
    have H1 := Lib.hid h1
    have A1 := Lib.hid a1
    have B1 := Lib.hid b1
    clear h1 a1 b1 b9 HPl H0 HA d0 d1 d2 d3 d4 e0 e1 e2 e3 e4 e5
    obtain ⟨d0, d1, d2, d3, d4⟩ := H1.out.cells
    obtain ⟨e0, e1, e2, e3, e4, e5⟩ := A1.out.cells
    clear HNu
    obtain ⟨pI, hpI⟩ : ∃ v, placeI p = v := ⟨_, rfl⟩
    rw [hpI]
    clear hpI
    go_wp2_with fail
    go_step3
    exact ⟨rfl, rfl, rfl, rfl, rfl, ⟨_, _, _, H1.out⟩, Below.but B1.out⟩

set_option maxRecDepth 100000 in
set_option maxHeartbeats 4000000 in
theorem launch_refN {p : Option Nat} (h : Clu W0 base Cb A n c x) (hn : n ≤ 1000) (hp0 : firstAt (fun y => y.tok == q.a) x.l = p) (hq : ¬ q.a < 1) (hN : (isNum q.a && isNum q.b && isNum q.c) = false) :
    Calls Try.prog 35 #[.pointer (some ⟨Cb, 0, none⟩), .agg #[.int .u8 q.kind, .int .i64 q.call, .int .i64 q.a, .int .i64 q.b, .int .i64 q.c, .int .i64 q.d]] W0 (DeedPost base Cb x x.l 3 0 W0) := by
  have hV0 : Below W0.heap.size W0 (W0.alloc (.cells #[.int .u8 q.kind, .int .i64 q.call, .int .i64 q.a, .int .i64 q.b, .int .i64 q.c, .int .i64 q.d] 26)) := (Below.refl _ _).alloc (Nat.le_refl _) _
  obtain ⟨V, hV⟩ : ∃ V, W0.alloc (.cells #[.int .u8 q.kind, .int .i64 q.call, .int .i64 q.a, .int .i64 q.b, .int .i64 q.c, .int .i64 q.d] 26) = V := ⟨_, rfl⟩
  have hA : AskIn V W0.heap.size q := by rw [← hV]; exact Whole.new _ _ _
  rw [hV] at hV0
  have H0 := Lib.hid (h.under hV0)
  have HA := Lib.hid hA
  have HV := Lib.hid hV0
  have HB0 := Lib.hid h.le
  have HLt := Lib.hid (h.row.lt)
  have HPl := Lib.hid (fun W (hW : Below V.heap.size V W) => place_any A n c x W.heap.size W ((h.under hV0).under hW).rd (Nat.le_refl _) hn 45 #[.pointer (some ⟨W0.heap.size, 0, none⟩)] (fun y => y.tok == q.a) (enters_of Try.func45 (by kernel_rfl) rfl) (fun y W' hW' => launch1_any q.a _ y W' (((hA.under hW).under hW').cells.2.2.1)))
  rw [hp0] at HPl
  have HNu := Lib.hid (fun W => numbers3 q.a q.b q.c W)
  obtain ⟨d0, d1, d2, d3, d4⟩ := H0.out.cells
  obtain ⟨e0, e1, e2, e3, e4, e5⟩ := HA.out.cells
  have qa : decide (q.a < 1) = false := decide_eq_false hq
  rw [hN] at HNu
  clear h hp0 hA hV0 hq hN
  go_enter Try.func35, Try.ntmps35
  go_wp2_with fail
  clear hV
  refine wp_scope_fwd 0 (LchAt base Cb x W0 x.l 3 0) rfl ?first ?tail
  case tail =>
    rintro ⟨tm, df⟩ w' ⟨hdf, ht, t4, t5, h3, b3⟩
    simp only at hdf ht t4 t5
    obtain ⟨_, w4⟩ := Array.getElem?_eq_some_iff.1 t4
    obtain ⟨_, w5⟩ := Array.getElem?_eq_some_iff.1 t5
    subst hdf
    have H3 := Lib.hid h3
    have B3 := Lib.hid b3
    clear h3 b3
    go_wp2_with fail
    simp only [Exit.jump]
    refine bodyPost_ret (v := .tuple #[.int .u8 3, .int .i64 0]) (by simp [results, Try.results35, go_sem, ht]) rfl ?_
    exact ⟨rfl, H3.out, B3.out⟩
  case first =>
    go_wp2_with fail
    refine (HPl.out _ (Below.refl _ _)).mono ?_
    rintro e y1 ⟨rfl, b9⟩
    have h1 := H0.out.under b9
    have a1 := HA.out.under b9
    have b1 := (HV.out.mono HB0.out).trans (b9.mono (Nat.le_trans HB0.out HV.out.size))
    have BV := Lib.hid b9
    have H1 := Lib.hid h1
    have A1 := Lib.hid a1
    have B1 := Lib.hid b1
    clear h1 a1 b1 b9 HPl H0 HA d0 d1 d2 d3 d4 e0 e1 e2 e3 e4 e5
    obtain ⟨d0, d1, d2, d3, d4⟩ := H1.out.cells
    obtain ⟨e0, e1, e2, e3, e4, e5⟩ := A1.out.cells
    obtain ⟨pI, hpI⟩ : ∃ v, placeI p = v := ⟨_, rfl⟩
    rw [hpI]
    clear hpI
    go_wp2_with fail
    refine (HNu.out _ _ rfl).mono ?_
    rintro e y2 ⟨rfl, hy2⟩
    have b2 : Below y1.heap.size y1 y2 := by rw [← hy2]; exact (Below.refl _ _).alloc (Nat.le_refl _) _
    have h1 := H1.out.under b2
    have a1 := A1.out.under b2
    have b1 := B1.out.trans (b2.mono H1.out.le)
    have BV2 := Lib.hid (BV.out.trans (b2.mono BV.out.size))
    clear BV
    have BV := BV2
    clear BV2 H1 A1 B1 b2 hy2
    have H1 := Lib.hid h1
    have A1 := Lib.hid a1
    have B1 := Lib.hid b1
    clear h1 a1 b1 d0 d1 d2 d3 d4 e0 e1 e2 e3 e4 e5 HNu
    obtain ⟨d0, d1, d2, d3, d4⟩ := H1.out.cells
    obtain ⟨e0, e1, e2, e3, e4, e5⟩ := A1.out.cells
    go_wp2_with fail
    go_step3
    exact ⟨rfl, rfl, rfl, rfl, rfl, ⟨_, _, _, H1.out⟩, Below.but B1.out⟩

set_option maxRecDepth 100000 in
set_option maxHeartbeats 4000000 in
theorem launch_refD {p : Option Nat} (h : Clu W0 base Cb A n c x) (hn : n ≤ 1000) (hp0 : firstAt (fun y => y.tok == q.a) x.l = p) (hq : ¬ q.a < 1) (hN : (isNum q.a && isNum q.b && isNum q.c) = true) (hd : q.d < 0) :
    Calls Try.prog 35 #[.pointer (some ⟨Cb, 0, none⟩), .agg #[.int .u8 q.kind, .int .i64 q.call, .int .i64 q.a, .int .i64 q.b, .int .i64 q.c, .int .i64 q.d]] W0 (DeedPost base Cb x x.l 3 0 W0) := by
  have hV0 : Below W0.heap.size W0 (W0.alloc (.cells #[.int .u8 q.kind, .int .i64 q.call, .int .i64 q.a, .int .i64 q.b, .int .i64 q.c, .int .i64 q.d] 26)) := (Below.refl _ _).alloc (Nat.le_refl _) _
  obtain ⟨V, hV⟩ : ∃ V, W0.alloc (.cells #[.int .u8 q.kind, .int .i64 q.call, .int .i64 q.a, .int .i64 q.b, .int .i64 q.c, .int .i64 q.d] 26) = V := ⟨_, rfl⟩
  have hA : AskIn V W0.heap.size q := by rw [← hV]; exact Whole.new _ _ _
  rw [hV] at hV0
  have H0 := Lib.hid (h.under hV0)
  have HA := Lib.hid hA
  have HV := Lib.hid hV0
  have HB0 := Lib.hid h.le
  have HLt := Lib.hid (h.row.lt)
  have HPl := Lib.hid (fun W (hW : Below V.heap.size V W) => place_any A n c x W.heap.size W ((h.under hV0).under hW).rd (Nat.le_refl _) hn 45 #[.pointer (some ⟨W0.heap.size, 0, none⟩)] (fun y => y.tok == q.a) (enters_of Try.func45 (by kernel_rfl) rfl) (fun y W' hW' => launch1_any q.a _ y W' (((hA.under hW).under hW').cells.2.2.1)))
  rw [hp0] at HPl
  have HNu := Lib.hid (fun W => numbers3 q.a q.b q.c W)
  obtain ⟨d0, d1, d2, d3, d4⟩ := H0.out.cells
  obtain ⟨e0, e1, e2, e3, e4, e5⟩ := HA.out.cells
  have qa : decide (q.a < 1) = false := decide_eq_false hq
  have qd : decide (q.d < 0) = true := decide_eq_true hd
  rw [hN] at HNu
  clear h hp0 hA hV0 hq hN hd
  go_enter Try.func35, Try.ntmps35
  go_wp2_with fail
  clear hV
  refine wp_scope_fwd 0 (LchAt base Cb x W0 x.l 3 0) rfl ?first ?tail
  case tail =>
    rintro ⟨tm, df⟩ w' ⟨hdf, ht, t4, t5, h3, b3⟩
    simp only at hdf ht t4 t5
    obtain ⟨_, w4⟩ := Array.getElem?_eq_some_iff.1 t4
    obtain ⟨_, w5⟩ := Array.getElem?_eq_some_iff.1 t5
    subst hdf
    have H3 := Lib.hid h3
    have B3 := Lib.hid b3
    clear h3 b3
    go_wp2_with fail
    simp only [Exit.jump]
    refine bodyPost_ret (v := .tuple #[.int .u8 3, .int .i64 0]) (by simp [results, Try.results35, go_sem, ht]) rfl ?_
    exact ⟨rfl, H3.out, B3.out⟩
  case first =>
    go_wp2_with fail
    refine (HPl.out _ (Below.refl _ _)).mono ?_
    rintro e y1 ⟨rfl, b9⟩
    have h1 := H0.out.under b9
    have a1 := HA.out.under b9
    have b1 := (HV.out.mono HB0.out).trans (b9.mono (Nat.le_trans HB0.out HV.out.size))
    have BV := Lib.hid b9
    have H1 := Lib.hid h1
    have A1 := Lib.hid a1
    have B1 := Lib.hid b1
    clear h1 a1 b1 b9 HPl H0 HA d0 d1 d2 d3 d4 e0 e1 e2 e3 e4 e5
    obtain ⟨d0, d1, d2, d3, d4⟩ := H1.out.cells
    obtain ⟨e0, e1, e2, e3, e4, e5⟩ := A1.out.cells
    obtain ⟨pI, hpI⟩ : ∃ v, placeI p = v := ⟨_, rfl⟩
    rw [hpI]
    clear hpI
    go_wp2_with fail
    refine (HNu.out _ _ rfl).mono ?_
    rintro e y2 ⟨rfl, hy2⟩
    have b2 : Below y1.heap.size y1 y2 := by rw [← hy2]; exact (Below.refl _ _).alloc (Nat.le_refl _) _
    have h1 := H1.out.under b2
    have a1 := A1.out.under b2
    have b1 := B1.out.trans (b2.mono H1.out.le)
    have BV2 := Lib.hid (BV.out.trans (b2.mono BV.out.size))
    clear BV
    have BV := BV2
    clear BV2 H1 A1 B1 b2 hy2
    have H1 := Lib.hid h1
    have A1 := Lib.hid a1
    have B1 := Lib.hid b1
    clear h1 a1 b1 d0 d1 d2 d3 d4 e0 e1 e2 e3 e4 e5 HNu
    obtain ⟨d0, d1, d2, d3, d4⟩ := H1.out.cells
    obtain ⟨e0, e1, e2, e3, e4, e5⟩ := A1.out.cells
    go_wp2_with fail
    go_step3
    exact ⟨rfl, rfl, rfl, rfl, rfl, ⟨_, _, _, H1.out⟩, Below.but B1.out⟩

end

end Go.Proofs.Ytphkleecodoplaa
