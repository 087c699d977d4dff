/-
  The walk of launch of package cloud: a cloud that has no room, a token that there is. Conditions: those that each theorem names.
-/
import Derived.Test.YtphkleecodoplaaCdLaunch1
namespace Go.Proofs.Ytphkleecodoplaa
open Go.RowKit Go.Shelf

section
variable {base Cb n c : Nat} {A : Option Addr} {x : Cw} {q : Ak} {W0 : World}

set_option maxRecDepth 100000 in
set_option maxHeartbeats 4000000 in
theorem launch_there {j : Nat} {y : Bx} (h : Clu W0 base Cb A n c x) (hn : n ≤ 1000) (hp0 : firstAt (fun y => y.tok == q.a) x.l = (some j)) (hq : ¬ q.a < 1) (hN : (isNum q.a && isNum q.b && isNum q.c) = true) (hd : ¬ q.d < 0) (hx : x.l[j]? = some y) :
    Calls Try.prog 35 #[.pointer (some ⟨Cb, 0, none⟩), .agg #[.int .u8 q.kind, .int .i64 q.call, .int .i64 q.a, .int .i64 q.b, .int .i64 q.c, .int .i64 q.d]] W0 (DeedPost base Cb x x.l 1 y.id W0) := by
  have hV0 : Below W0.heap.size W0 (W0.alloc (.cells #[.int .u8 q.kind, .int .i64 q.call, .int .i64 q.a, .int .i64 q.b, .int .i64 q.c, .int .i64 q.d] 26)) := (Below.refl _ _).alloc (Nat.le_refl _) _
  obtain ⟨V, hV⟩ : ∃ V, W0.alloc (.cells #[.int .u8 q.kind, .int .i64 q.call, .int .i64 q.a, .int .i64 q.b, .int .i64 q.c, .int .i64 q.d] 26) = V := ⟨_, rfl⟩
  have hA : AskIn V W0.heap.size q := by rw [← hV]; exact Whole.new _ _ _
  rw [hV] at hV0
  have H0 := Lib.hid (h.under hV0)
  have HA := Lib.hid hA
  have HV := Lib.hid hV0
  have HB0 := Lib.hid h.le
  have HLt := Lib.hid (h.row.lt)
  have HPl := Lib.hid (fun W (hW : Below V.heap.size V W) => place_any A n c x W.heap.size W ((h.under hV0).under hW).rd (Nat.le_refl _) hn 45 #[.pointer (some ⟨W0.heap.size, 0, none⟩)] (fun y => y.tok == q.a) (enters_of Try.func45 (by kernel_rfl) rfl) (fun y W' hW' => launch1_any q.a _ y W' (((hA.under hW).under hW').cells.2.2.1)))
  rw [hp0] at HPl
  have HNu := Lib.hid (fun W => numbers3 q.a q.b q.c W)
  obtain ⟨d0, d1, d2, d3, d4⟩ := H0.out.cells
  obtain ⟨e0, e1, e2, e3, e4, e5⟩ := HA.out.cells
  have qa : decide (q.a < 1) = false := decide_eq_false hq
  have qd : decide (q.d < 0) = false := decide_eq_false hd
  rw [hN] at HNu
  have HX := Lib.hid hx
  have hjn : j < n := by have h1 := (List.getElem?_eq_some_iff.1 hx).1; have := h.len; omega
  have hji : (j : Int) < (n : Int) := by omega
  have hj0 : decide ((j : Int) < 0) = false := decide_eq_false (by omega)
  obtain ⟨g, rfl, _, _⟩ := h.form hx
  clear h hp0 hA hV0 hq hN hd hx
  go_enter Try.func35, Try.ntmps35
  go_wp2_with fail
  clear hV
  refine wp_scope_fwd 0 (LchAt base Cb x W0 x.l 1 y.id) rfl ?first ?tail
  case tail =>
    rintro ⟨tm, df⟩ w' ⟨hdf, ht, t4, t5, h3, b3⟩
    simp only at hdf ht t4 t5
    obtain ⟨_, w4⟩ := Array.getElem?_eq_some_iff.1 t4
    obtain ⟨_, w5⟩ := Array.getElem?_eq_some_iff.1 t5
    subst hdf
    have H3 := Lib.hid h3
    have B3 := Lib.hid b3
    clear h3 b3
    go_wp2_with fail
    simp only [Exit.jump]
    refine bodyPost_ret (v := .tuple #[.int .u8 1, .int .i64 y.id]) (by simp [results, Try.results35, go_sem, ht]) rfl ?_
    exact ⟨rfl, H3.out, B3.out⟩
  case first =>
    go_wp2_with fail
    refine (HPl.out _ (Below.refl _ _)).mono ?_
    rintro e y1 ⟨rfl, b9⟩
    have h1 := H0.out.under b9
    have a1 := HA.out.under b9
    have b1 := (HV.out.mono HB0.out).trans (b9.mono (Nat.le_trans HB0.out HV.out.size))
    have BV := Lib.hid b9
    have H1 := Lib.hid h1
    have A1 := Lib.hid a1
    have B1 := Lib.hid b1
    clear h1 a1 b1 b9 HPl H0 HA d0 d1 d2 d3 d4 e0 e1 e2 e3 e4 e5
    obtain ⟨d0, d1, d2, d3, d4⟩ := H1.out.cells
    obtain ⟨e0, e1, e2, e3, e4, e5⟩ := A1.out.cells
    unfold placeI
    go_wp2_with fail
    refine (HNu.out _ _ rfl).mono ?_
    rintro e y2 ⟨rfl, hy2⟩
    have b2 : Below y1.heap.size y1 y2 := by rw [← hy2]; exact (Below.refl _ _).alloc (Nat.le_refl _) _
    have h1 := H1.out.under b2
    have a1 := A1.out.under b2
    have b1 := B1.out.trans (b2.mono H1.out.le)
    have BV2 := Lib.hid (BV.out.trans (b2.mono BV.out.size))
    clear BV
    have BV := BV2
    clear BV2 H1 A1 B1 b2 hy2
    have H1 := Lib.hid h1
    have A1 := Lib.hid a1
    have B1 := Lib.hid b1
    clear h1 a1 b1 d0 d1 d2 d3 d4 e0 e1 e2 e3 e4 e5 HNu
    obtain ⟨d0, d1, d2, d3, d4⟩ := H1.out.cells
    obtain ⟨e0, e1, e2, e3, e4, e5⟩ := A1.out.cells
    obtain ⟨b0, b1, b2, b3, b4, b5, b6, b7, b8, b9, b10⟩ := H1.out.at_ HX.out
    go_wp2_with fail
    go_quiet (fail)
    go_wp2_with fail
    go_step3
    go_wp2_with fail
    simp only [Exit.jump]
    refine bodyPost_ret (v := .tuple #[.int .u8 1, .int .i64 y.id]) (by simp [results, Try.results35, go_sem]) rfl ?_
    exact ⟨rfl, ⟨_, _, _, ⟨H1.out.box, H1.out.row, H1.out.lt, H1.out.le⟩⟩, (Below.but B1.out).drewN _⟩

end

end Go.Proofs.Ytphkleecodoplaa
