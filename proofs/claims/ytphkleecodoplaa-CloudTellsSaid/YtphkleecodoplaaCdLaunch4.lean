/-
  The walk of launch of package cloud: a cloud that has no room, a token that there is. Conditions: those that each theorem names.
-/
import Derived.Test.YtphkleecodoplaaCdLaunch1
namespace Go.Proofs.Ytphkleecodoplaa
open Go.RowKit Go.Shelf

section
variable {base Cb n c : Nat} {A : Option Addr} {x : Cw} {q : Ak} {W0 : World}

set_option maxRecDepth 100000 in
set_option maxHeartbeats 4000000 in
theorem launch_new (h : Clu W0 base Cb A n c x) (hn : n ≤ 1000) (hp0 : firstAt (fun y => y.tok == q.a) x.l = none) (hq : ¬ q.a < 1) (hN : (isNum q.a && isNum q.b && isNum q.c) = true) (hd : ¬ q.d < 0) (ht : x.tg = false) (hfl : n < 60) :
    Calls Try.prog 35 #[.pointer (some ⟨Cb, 0, none⟩), .agg #[.int .u8 q.kind, .int .i64 q.call, .int .i64 q.a, .int .i64 q.b, .int .i64 q.c, .int .i64 q.d]] W0 (DeedPost base Cb x (x.l ++ [madeB ((x.l.length : Int) + 1) q]) 1 ((x.l.length : Int) + 1) W0) := by
  have hV0 : Below W0.heap.size W0 (W0.alloc (.cells #[.int .u8 q.kind, .int .i64 q.call, .int .i64 q.a, .int .i64 q.b, .int .i64 q.c, .int .i64 q.d] 26)) := (Below.refl _ _).alloc (Nat.le_refl _) _
  obtain ⟨V, hV⟩ : ∃ V, W0.alloc (.cells #[.int .u8 q.kind, .int .i64 q.call, .int .i64 q.a, .int .i64 q.b, .int .i64 q.c, .int .i64 q.d] 26) = V := ⟨_, rfl⟩
  have hA : AskIn V W0.heap.size q := by rw [← hV]; exact Whole.new _ _ _
  rw [hV] at hV0
  have H0 := Lib.hid (h.under hV0)
  have HA := Lib.hid hA
  have HV := Lib.hid hV0
  have HB0 := Lib.hid h.le
  have HLt := Lib.hid (h.row.lt)
  have HPl := Lib.hid (fun W (hW : Below V.heap.size V W) => place_any A n c x W.heap.size W ((h.under hV0).under hW).rd (Nat.le_refl _) hn 45 #[.pointer (some ⟨W0.heap.size, 0, none⟩)] (fun y => y.tok == q.a) (enters_of Try.func45 (by kernel_rfl) rfl) (fun y W' hW' => launch1_any q.a _ y W' (((hA.under hW).under hW').cells.2.2.1)))
  rw [hp0] at HPl
  have HNu := Lib.hid (fun W => numbers3 q.a q.b q.c W)
  obtain ⟨d0, d1, d2, d3, d4⟩ := H0.out.cells
  obtain ⟨e0, e1, e2, e3, e4, e5⟩ := HA.out.cells
  have qa : decide (q.a < 1) = false := decide_eq_false hq
  have qd : decide (q.d < 0) = false := decide_eq_false hd
  rw [hN] at HNu
  have HTg := Lib.hid ht
  clear ht
  have q60 : decide ((60 : Int) ≤ (n : Int)) = false := decide_eq_false (by omega)
  have hl := h.len
  obtain ⟨E, hE⟩ : ∃ E, (q.d == 0) = E := ⟨_, rfl⟩
  have HMd : Hid (∀ W, Calls Try.prog 46 #[.int .i64 ((n : Int) + 1), .agg #[.int .u8 q.kind, .int .i64 q.call, .int .i64 q.a, .int .i64 q.b, .int .i64 q.c, .int .i64 q.d]] W fun e w' => e = .returned (.agg #[.int .i64 ((n : Int) + 1), .int .i64 q.a, .int .i64 q.b, .int .i64 q.c, .bool true, .bool E, .bool false, .bool true, .int .u8 0, .int .i64 0, .int .i64 q.call]) ∧ Below W.heap.size W w') := Lib.hid (fun W => by have h2 := made_any ((n : Int) + 1) q W; unfold MadePost at h2; rw [← hE]; exact h2)
  have HLit : Hid (∀ W : World, RdX (W.alloc (.cells #[.int .i64 ((n : Int) + 1), .int .i64 q.a, .int .i64 q.b, .int .i64 q.c, .bool true, .bool E, .bool false, .bool true, .int .u8 0, .int .i64 0, .int .i64 q.call] 40)) (W.heap.size + 1) (some ⟨W.heap.size, 0, none⟩) 1 [madeB ((n : Int) + 1) q]) := Lib.hid (fun W => by rw [← hE]; exact rdX_one W (madeB ((n : Int) + 1) q) _ rfl)
  have HLe : Hid (n < 60) := Lib.hid hfl
  have ew : IntKind.i64.wrap ((n : Int) + 1) = (n : Int) + 1 := IntWalk.i64_in _ ⟨by omega, by omega⟩
  rw [hl]
  have HLn := Lib.hid hl
  clear h hp0 hA hV0 hq hN hd hfl hE hl
  go_enter Try.func35, Try.ntmps35
  go_wp2_with fail
  clear hV
  refine wp_scope_fwd 0 (LchAt base Cb x W0 (x.l ++ [madeB ((n : Int) + 1) q]) 1 ((n : Int) + 1)) rfl ?first ?tail
  case tail =>
    rintro ⟨tm, df⟩ w' ⟨hdf, ht, t4, t5, h3, b3⟩
    simp only at hdf ht t4 t5
    obtain ⟨_, w4⟩ := Array.getElem?_eq_some_iff.1 t4
    obtain ⟨_, w5⟩ := Array.getElem?_eq_some_iff.1 t5
    subst hdf
    have H3 := Lib.hid h3
    have B3 := Lib.hid b3
    clear h3 b3
    go_wp2_with fail
    simp only [Exit.jump]
    refine bodyPost_ret (v := .tuple #[.int .u8 1, .int .i64 ((n : Int) + 1)]) (by simp [results, Try.results35, go_sem, ht]) rfl ?_
    exact ⟨rfl, H3.out, B3.out⟩
  case first =>
    go_wp2_with fail
    refine (HPl.out _ (Below.refl _ _)).mono ?_
    rintro e y1 ⟨rfl, b9⟩
    have h1 := H0.out.under b9
    have a1 := HA.out.under b9
    have b1 := (HV.out.mono HB0.out).trans (b9.mono (Nat.le_trans HB0.out HV.out.size))
    have BV := Lib.hid b9
    have H1 := Lib.hid h1
    have A1 := Lib.hid a1
    have B1 := Lib.hid b1
    clear h1 a1 b1 b9 HPl H0 HA d0 d1 d2 d3 d4 e0 e1 e2 e3 e4 e5
    obtain ⟨d0, d1, d2, d3, d4⟩ := H1.out.cells
    rw [HTg.out] at d4
    obtain ⟨e0, e1, e2, e3, e4, e5⟩ := A1.out.cells
    unfold placeI
    go_wp2_with fail
    refine (HNu.out _ _ rfl).mono ?_
    rintro e y2 ⟨rfl, hy2⟩
    have b2 : Below y1.heap.size y1 y2 := by rw [← hy2]; exact (Below.refl _ _).alloc (Nat.le_refl _) _
    have h1 := H1.out.under b2
    have a1 := A1.out.under b2
    have b1 := B1.out.trans (b2.mono H1.out.le)
    have BV2 := Lib.hid (BV.out.trans (b2.mono BV.out.size))
    clear BV
    have BV := BV2
    clear BV2 H1 A1 B1 b2 hy2
    have H1 := Lib.hid h1
    have A1 := Lib.hid a1
    have B1 := Lib.hid b1
    clear h1 a1 b1 d0 d1 d2 d3 d4 e0 e1 e2 e3 e4 e5 HNu
    obtain ⟨d0, d1, d2, d3, d4⟩ := H1.out.cells
    rw [HTg.out] at d4
    obtain ⟨e0, e1, e2, e3, e4, e5⟩ := A1.out.cells
    go_wp2_with fail
    have HL := Lib.hid (fun W (hW : AskIn W W0.heap.size q) => hW.cells)
    have HC := Lib.hid (show AskIn y2.drew W0.heap.size q from A1.out)
    have d0' : y2.drew.cell? ⟨Cb, 0, none⟩ = some (.slice A n c) := d0
    clear d0 d1 d2 d3 d4 e0 e1 e2 e3 e4 e5
    refine wp_region_held_drew (S := fun W => AskIn W W0.heap.size q) (by kernel_rfl) HC.out (fun _ => ?_)
    refine takeH (i := 0) (v := ?_) rfl (by kernel_rfl) (by kernel_rfl) (by kernel_rfl) (fun _ _ _ h => h) (by rfl) ?_ HC.out ?_
    rotate_left
    · intro W hW; obtain ⟨e0, e1, e2, e3, e4, e5⟩ := HL.out W hW; go_simp <;> with_reducible rfl
    simp only [Act.put, List.setIfInBounds_toArray, List.set_cons_zero, List.set_cons_succ]
    refine takeH (i := 1) (v := ?_) rfl (by kernel_rfl) (by kernel_rfl) (by kernel_rfl) (fun _ _ _ h => h) (by rfl) ?_ HC.out ?_
    rotate_left
    · intro W hW; obtain ⟨e0, e1, e2, e3, e4, e5⟩ := HL.out W hW; go_simp <;> with_reducible rfl
    simp only [Act.put, List.setIfInBounds_toArray, List.set_cons_zero, List.set_cons_succ]
    refine takeH (i := 2) (v := ?_) rfl (by kernel_rfl) (by kernel_rfl) (by kernel_rfl) (fun _ _ _ h => h) (by rfl) ?_ HC.out ?_
    rotate_left
    · intro W hW; obtain ⟨e0, e1, e2, e3, e4, e5⟩ := HL.out W hW; go_simp <;> with_reducible rfl
    simp only [Act.put, List.setIfInBounds_toArray, List.set_cons_zero, List.set_cons_succ]
    refine takeH (i := 3) (v := ?_) rfl (by kernel_rfl) (by kernel_rfl) (by kernel_rfl) (fun _ _ _ h => h) (by rfl) ?_ HC.out ?_
    rotate_left
    · intro W hW; obtain ⟨e0, e1, e2, e3, e4, e5⟩ := HL.out W hW; go_simp <;> with_reducible rfl
    simp only [Act.put, List.setIfInBounds_toArray, List.set_cons_zero, List.set_cons_succ]
    refine takeH (i := 5) (v := ?_) rfl (by kernel_rfl) (by kernel_rfl) (by kernel_rfl) (fun _ _ _ h => h) (by rfl) ?_ HC.out ?_
    rotate_left
    · intro W hW; obtain ⟨e0, e1, e2, e3, e4, e5⟩ := HL.out W hW; go_simp <;> with_reducible rfl
    simp only [Act.put, List.setIfInBounds_toArray, List.set_cons_zero, List.set_cons_succ]
    refine takeH (i := 6) (v := ?_) rfl (by kernel_rfl) (by kernel_rfl) (by kernel_rfl) (fun _ _ _ h => h) (by rfl) ?_ HC.out ?_
    rotate_left
    · intro W hW; obtain ⟨e0, e1, e2, e3, e4, e5⟩ := HL.out W hW; go_simp <;> with_reducible rfl
    simp only [Act.put, List.setIfInBounds_toArray, List.set_cons_zero, List.set_cons_succ]
    refine takeH (i := 7) (v := ?_) rfl (by kernel_rfl) (by kernel_rfl) (by kernel_rfl) (fun _ _ _ h => h) (by rfl) ?_ HC.out ?_
    rotate_left
    · intro W hW; obtain ⟨e0, e1, e2, e3, e4, e5⟩ := HL.out W hW; go_simp <;> with_reducible rfl
    simp only [Act.put, List.setIfInBounds_toArray, List.set_cons_zero, List.set_cons_succ]
    refine twoH (i := 4) (j := 8) rfl rfl (by kernel_rfl) (by rfl) (by rfl) (fun K hK => ?_) (fun K hK => ?_)
    ·
      go_simp
      refine hK.out _ _ HC.out (fun _ => ?_)
      clear hK K
      refine oneH (i := 8) rfl (by kernel_rfl) (by rfl) (fun K hK => ?_)
      go_simp
      go_at_call 46
      refine (HMd.out _).mono ?_
      rintro e y3 ⟨rfl, b3⟩
      have b3' : Below y2.heap.size y2 y3 := (Below.refl _ _).drew.trans b3
      have h3 := H1.out.under b3'
      have A3 := Lib.hid (A1.out.under b3')
      have B3 := Lib.hid (B1.out.trans (b3'.mono H1.out.le))
      have bl : Below y3.heap.size y3 (y3.alloc (.cells #[.int .i64 ((n : Int) + 1), .int .i64 q.a, .int .i64 q.b, .int .i64 q.c, .bool true, .bool E, .bool false, .bool true, .int .u8 0, .int .i64 0, .int .i64 q.call] 40)) := (Below.refl _ _).alloc (Nat.le_refl _) _
      have A4 := Lib.hid (A3.out.under bl)
      have B4 := Lib.hid (B3.out.trans (bl.mono h3.le))
      obtain ⟨v1, W1, r1, o1, g1⟩ := run_appX (y3.alloc (.cells #[.int .i64 ((n : Int) + 1), .int .i64 q.a, .int .i64 q.b, .int .i64 q.c, .bool true, .bool E, .bool false, .bool true, .int .u8 0, .int .i64 0, .int .i64 q.call] 40)) base (.slice A n c) n (flat x.l) (h3.row.alloc _) (y3.heap.size + 1) (some ⟨y3.heap.size, 0, none⟩) 1 1 [madeB ((n : Int) + 1) q] (HLit.out y3) (by have := HLe.out; omega) (by have := HLe.out; omega) (Nat.le_trans h3.le bl.size)
      rw [← flat_append] at o1
      obtain ⟨A5, c5, rfl⟩ := own_formX o1
      have d3 := h3.box.cell 0
      have d4 := (h3.box.alloc (.cells #[.int .i64 ((n : Int) + 1), .int .i64 q.a, .int .i64 q.b, .int .i64 q.c, .bool true, .bool E, .bool false, .bool true, .int .u8 0, .int .i64 0, .int .i64 q.call] 40)).cell 0
      simp only [List.getElem?_toArray, List.getElem?_cons_zero] at d3 d4
      have hne : some Cb ≠ (Value.slice A n c).ownBlock := fun e => by have h9 := (h3.row.lt _ e.symm).1; have := h3.lt; omega
      have hbx := (h3.box.alloc (.cells #[.int .i64 ((n : Int) + 1), .int .i64 q.a, .int .i64 q.b, .int .i64 q.c, .bool true, .bool E, .bool false, .bool true, .int .u8 0, .int .i64 0, .int .i64 q.call] 40)).grown g1 hne
      have hc0 := hbx.cell 0
      have hf0 := hbx.frozen 0
      simp only [List.getElem?_toArray, List.getElem?_cons_zero] at hc0
      have hEne : some W0.heap.size ≠ (Value.slice A n c).ownBlock := fun e => by have h9 := (HLt.out _ e.symm).2; omega
      have A5' := Lib.hid (show AskIn W1 W0.heap.size q from Whole.grown A4.out g1 hEne)
      have H6 := Lib.hid (show Clu (W1.setCell ⟨Cb, 0, none⟩ (.slice A5 (n + 1) c5)) base Cb A5 (n + 1) c5 { x with l := x.l ++ [madeB ((n : Int) + 1) q] } from ⟨hbx.set 0 _, own_set (b := Cb) o1 h3.lt _, h3.lt, Nat.le_trans h3.le (Nat.le_trans bl.size (Nat.le_trans g1.size ((Below.refl 0 W1).setCell (p := ⟨Cb, 0, none⟩) (Nat.zero_le _) (.slice A5 (n + 1) c5)).size))⟩)
      have A6 := Lib.hid (show AskIn (W1.setCell ⟨Cb, 0, none⟩ (.slice A5 (n + 1) c5)) W0.heap.size q from Whole.far A5'.out (p := ⟨Cb, 0, none⟩) (by show W0.heap.size ≠ Cb; have := H1.out.lt; have := HB0.out; omega) _)
      have B6 := Lib.hid (but_store (b := Cb) (B4.out.trans ((Below.refl base _).grown g1 (Nat.le_trans h3.le bl.size) (fun k e => (h3.row.lt k e).1))) (.slice A5 (n + 1) c5))
      have R1 := Lib.hid r1
      clear r1 o1 g1 h3 b3 b3' bl hne hbx hEne
      refine hK.out _ _ A3.out (fun _ => ?_)
      clear hK K
      refine oneH (i := 9) rfl (by kernel_rfl) (by rfl) (fun K hK => ?_)
      go_simp
      refine hK.out _ _ A4.out (fun _ => ?_)
      clear hK K
      refine oneH (i := 10) rfl (by kernel_rfl) (by rfl) (fun K hK => ?_)
      refine wp_appendH (by rfl) (by rfl) R1.out ?_
      refine hK.out _ _ A5'.out (fun _ => ?_)
      clear hK K
      refine takeH (i := 11) (v := ?_) rfl (by kernel_rfl) (by kernel_rfl) (by kernel_rfl) (fun _ _ _ h => h) (by rfl) ?_ A5'.out ?_
      rotate_left
      · intro W hW; obtain ⟨e0, e1, e2, e3, e4, e5⟩ := HL.out W hW; go_simp <;> with_reducible rfl
      simp only [Act.put, List.setIfInBounds_toArray, List.set_cons_zero, List.set_cons_succ]
      refine takeH (i := 12) (v := ?_) rfl (by kernel_rfl) (by kernel_rfl) (by kernel_rfl) (fun _ _ _ h => h) (by rfl) ?_ A5'.out ?_
      rotate_left
      · intro W hW; obtain ⟨e0, e1, e2, e3, e4, e5⟩ := HL.out W hW; go_simp <;> with_reducible rfl
      simp only [Act.put, List.setIfInBounds_toArray, List.set_cons_zero, List.set_cons_succ]
      refine oneH (i := 13) rfl (by kernel_rfl) (by rfl) (fun K hK => ?_)
      go_simp
      refine hK.out _ _ A6.out (fun _ => ?_)
      clear hK K
      refine wpAnyH_done (by kernel_rfl) ?_ _
      obtain ⟨W2, hW2⟩ : ∃ W, W1.setCell ⟨Cb, 0, none⟩ (.slice A5 (n + 1) c5) = W := ⟨_, rfl⟩
      have hW2' : W2 = W1.setCell ⟨Cb, 0, none⟩ (.slice A5 (n + 1) c5) := hW2.symm
      rw [hW2] at H6 A6 B6 ⊢
      clear hW2 hW2' R1 A5' A4 B4 d3 d4 hf0 hc0 d0'
      have hat : (x.l ++ [madeB ((n : Int) + 1) q])[n]? = some (madeB ((n : Int) + 1) q) := by rw [← HLn.out]; simp
      obtain ⟨g6, rfl, _, _⟩ := H6.out.form hat
      obtain ⟨k0, k1, k2, k3, k4, k5, k6, k7, k8, k9, k10⟩ := H6.out.at_ hat
      obtain ⟨d0, d1, d2, d3, d4⟩ := H6.out.cells
      have hlt6 : (n : Int) < ((n + 1 : Nat) : Int) := by omega
      have k0' : W2.cell? ⟨g6, n * 11, none⟩ = some (.int .i64 ((n : Int) + 1)) := k0
      clear k0 k1 k2 k3 k4 k5 k6 k7 k8 k9 k10 d1 d2 d3 d4 hat
      go_wp2_with fail
      go_quiet (fail)
      go_wp2_with fail
      go_step3
      go_wp2_with fail
      simp only [Exit.jump]
      refine bodyPost_ret (v := .tuple #[.int .u8 1, .int .i64 ((n : Int) + 1)]) (by simp [results, Try.results35, go_sem]) rfl ?_
      exact ⟨rfl, ⟨_, _, _, ⟨H6.out.box, H6.out.row, H6.out.lt, H6.out.le⟩⟩, B6.out.drewN _⟩
    ·
      go_simp
      go_at_call 46
      refine (HMd.out _).mono ?_
      rintro e y3 ⟨rfl, b3⟩
      have b3' : Below y2.heap.size y2 y3 := (Below.refl _ _).drew.trans b3
      have h3 := H1.out.under b3'
      have A3 := Lib.hid (A1.out.under b3')
      have B3 := Lib.hid (B1.out.trans (b3'.mono H1.out.le))
      have bl : Below y3.heap.size y3 (y3.alloc (.cells #[.int .i64 ((n : Int) + 1), .int .i64 q.a, .int .i64 q.b, .int .i64 q.c, .bool true, .bool E, .bool false, .bool true, .int .u8 0, .int .i64 0, .int .i64 q.call] 40)) := (Below.refl _ _).alloc (Nat.le_refl _) _
      have A4 := Lib.hid (A3.out.under bl)
      have B4 := Lib.hid (B3.out.trans (bl.mono h3.le))
      obtain ⟨v1, W1, r1, o1, g1⟩ := run_appX (y3.alloc (.cells #[.int .i64 ((n : Int) + 1), .int .i64 q.a, .int .i64 q.b, .int .i64 q.c, .bool true, .bool E, .bool false, .bool true, .int .u8 0, .int .i64 0, .int .i64 q.call] 40)) base (.slice A n c) n (flat x.l) (h3.row.alloc _) (y3.heap.size + 1) (some ⟨y3.heap.size, 0, none⟩) 1 1 [madeB ((n : Int) + 1) q] (HLit.out y3) (by have := HLe.out; omega) (by have := HLe.out; omega) (Nat.le_trans h3.le bl.size)
      rw [← flat_append] at o1
      obtain ⟨A5, c5, rfl⟩ := own_formX o1
      have d3 := h3.box.cell 0
      have d4 := (h3.box.alloc (.cells #[.int .i64 ((n : Int) + 1), .int .i64 q.a, .int .i64 q.b, .int .i64 q.c, .bool true, .bool E, .bool false, .bool true, .int .u8 0, .int .i64 0, .int .i64 q.call] 40)).cell 0
      simp only [List.getElem?_toArray, List.getElem?_cons_zero] at d3 d4
      have hne : some Cb ≠ (Value.slice A n c).ownBlock := fun e => by have h9 := (h3.row.lt _ e.symm).1; have := h3.lt; omega
      have hbx := (h3.box.alloc (.cells #[.int .i64 ((n : Int) + 1), .int .i64 q.a, .int .i64 q.b, .int .i64 q.c, .bool true, .bool E, .bool false, .bool true, .int .u8 0, .int .i64 0, .int .i64 q.call] 40)).grown g1 hne
      have hc0 := hbx.cell 0
      have hf0 := hbx.frozen 0
      simp only [List.getElem?_toArray, List.getElem?_cons_zero] at hc0
      have hEne : some W0.heap.size ≠ (Value.slice A n c).ownBlock := fun e => by have h9 := (HLt.out _ e.symm).2; omega
      have A5' := Lib.hid (show AskIn W1 W0.heap.size q from Whole.grown A4.out g1 hEne)
      have H6 := Lib.hid (show Clu (W1.setCell ⟨Cb, 0, none⟩ (.slice A5 (n + 1) c5)) base Cb A5 (n + 1) c5 { x with l := x.l ++ [madeB ((n : Int) + 1) q] } from ⟨hbx.set 0 _, own_set (b := Cb) o1 h3.lt _, h3.lt, Nat.le_trans h3.le (Nat.le_trans bl.size (Nat.le_trans g1.size ((Below.refl 0 W1).setCell (p := ⟨Cb, 0, none⟩) (Nat.zero_le _) (.slice A5 (n + 1) c5)).size))⟩)
      have A6 := Lib.hid (show AskIn (W1.setCell ⟨Cb, 0, none⟩ (.slice A5 (n + 1) c5)) W0.heap.size q from Whole.far A5'.out (p := ⟨Cb, 0, none⟩) (by show W0.heap.size ≠ Cb; have := H1.out.lt; have := HB0.out; omega) _)
      have B6 := Lib.hid (but_store (b := Cb) (B4.out.trans ((Below.refl base _).grown g1 (Nat.le_trans h3.le bl.size) (fun k e => (h3.row.lt k e).1))) (.slice A5 (n + 1) c5))
      have R1 := Lib.hid r1
      clear r1 o1 g1 h3 b3 b3' bl hne hbx hEne
      refine hK.out _ _ A3.out (fun _ => ?_)
      clear hK K
      refine twoH (i := 4) (j := 9) rfl rfl (by kernel_rfl) (by rfl) (by rfl) (fun K hK => ?_) (fun K hK => ?_)
      ·
        go_simp
        refine hK.out _ _ A3.out (fun _ => ?_)
        clear hK K
        refine oneH (i := 9) rfl (by kernel_rfl) (by rfl) (fun K hK => ?_)
        go_simp
        refine hK.out _ _ A4.out (fun _ => ?_)
        clear hK K
        refine oneH (i := 10) rfl (by kernel_rfl) (by rfl) (fun K hK => ?_)
        refine wp_appendH (by rfl) (by rfl) R1.out ?_
        refine hK.out _ _ A5'.out (fun _ => ?_)
        clear hK K
        refine takeH (i := 11) (v := ?_) rfl (by kernel_rfl) (by kernel_rfl) (by kernel_rfl) (fun _ _ _ h => h) (by rfl) ?_ A5'.out ?_
        rotate_left
        · intro W hW; obtain ⟨e0, e1, e2, e3, e4, e5⟩ := HL.out W hW; go_simp <;> with_reducible rfl
        simp only [Act.put, List.setIfInBounds_toArray, List.set_cons_zero, List.set_cons_succ]
        refine takeH (i := 12) (v := ?_) rfl (by kernel_rfl) (by kernel_rfl) (by kernel_rfl) (fun _ _ _ h => h) (by rfl) ?_ A5'.out ?_
        rotate_left
        · intro W hW; obtain ⟨e0, e1, e2, e3, e4, e5⟩ := HL.out W hW; go_simp <;> with_reducible rfl
        simp only [Act.put, List.setIfInBounds_toArray, List.set_cons_zero, List.set_cons_succ]
        refine oneH (i := 13) rfl (by kernel_rfl) (by rfl) (fun K hK => ?_)
        go_simp
        refine hK.out _ _ A6.out (fun _ => ?_)
        clear hK K
        refine wpAnyH_done (by kernel_rfl) ?_ _
        obtain ⟨W2, hW2⟩ : ∃ W, W1.setCell ⟨Cb, 0, none⟩ (.slice A5 (n + 1) c5) = W := ⟨_, rfl⟩
        have hW2' : W2 = W1.setCell ⟨Cb, 0, none⟩ (.slice A5 (n + 1) c5) := hW2.symm
        rw [hW2] at H6 A6 B6 ⊢
        clear hW2 hW2' R1 A5' A4 B4 d3 d4 hf0 hc0 d0'
        have hat : (x.l ++ [madeB ((n : Int) + 1) q])[n]? = some (madeB ((n : Int) + 1) q) := by rw [← HLn.out]; simp
        obtain ⟨g6, rfl, _, _⟩ := H6.out.form hat
        obtain ⟨k0, k1, k2, k3, k4, k5, k6, k7, k8, k9, k10⟩ := H6.out.at_ hat
        obtain ⟨d0, d1, d2, d3, d4⟩ := H6.out.cells
        have hlt6 : (n : Int) < ((n + 1 : Nat) : Int) := by omega
        have k0' : W2.cell? ⟨g6, n * 11, none⟩ = some (.int .i64 ((n : Int) + 1)) := k0
        clear k0 k1 k2 k3 k4 k5 k6 k7 k8 k9 k10 d1 d2 d3 d4 hat
        go_wp2_with fail
        go_quiet (fail)
        go_wp2_with fail
        go_step3
        go_wp2_with fail
        simp only [Exit.jump]
        refine bodyPost_ret (v := .tuple #[.int .u8 1, .int .i64 ((n : Int) + 1)]) (by simp [results, Try.results35, go_sem]) rfl ?_
        exact ⟨rfl, ⟨_, _, _, ⟨H6.out.box, H6.out.row, H6.out.lt, H6.out.le⟩⟩, B6.out.drewN _⟩
      ·
        go_simp
        refine hK.out _ _ A4.out (fun _ => ?_)
        clear hK K
        refine oneH (i := 4) rfl (by kernel_rfl) (by rfl) (fun K hK => ?_)
        go_simp
        refine hK.out _ _ A4.out (fun _ => ?_)
        clear hK K
        refine oneH (i := 10) rfl (by kernel_rfl) (by rfl) (fun K hK => ?_)
        refine wp_appendH (by rfl) (by rfl) R1.out ?_
        refine hK.out _ _ A5'.out (fun _ => ?_)
        clear hK K
        refine takeH (i := 11) (v := ?_) rfl (by kernel_rfl) (by kernel_rfl) (by kernel_rfl) (fun _ _ _ h => h) (by rfl) ?_ A5'.out ?_
        rotate_left
        · intro W hW; obtain ⟨e0, e1, e2, e3, e4, e5⟩ := HL.out W hW; go_simp <;> with_reducible rfl
        simp only [Act.put, List.setIfInBounds_toArray, List.set_cons_zero, List.set_cons_succ]
        refine takeH (i := 12) (v := ?_) rfl (by kernel_rfl) (by kernel_rfl) (by kernel_rfl) (fun _ _ _ h => h) (by rfl) ?_ A5'.out ?_
        rotate_left
        · intro W hW; obtain ⟨e0, e1, e2, e3, e4, e5⟩ := HL.out W hW; go_simp <;> with_reducible rfl
        simp only [Act.put, List.setIfInBounds_toArray, List.set_cons_zero, List.set_cons_succ]
        refine oneH (i := 13) rfl (by kernel_rfl) (by rfl) (fun K hK => ?_)
        go_simp
        refine hK.out _ _ A6.out (fun _ => ?_)
        clear hK K
        refine wpAnyH_done (by kernel_rfl) ?_ _
        obtain ⟨W2, hW2⟩ : ∃ W, W1.setCell ⟨Cb, 0, none⟩ (.slice A5 (n + 1) c5) = W := ⟨_, rfl⟩
        have hW2' : W2 = W1.setCell ⟨Cb, 0, none⟩ (.slice A5 (n + 1) c5) := hW2.symm
        rw [hW2] at H6 A6 B6 ⊢
        clear hW2 hW2' R1 A5' A4 B4 d3 d4 hf0 hc0 d0'
        have hat : (x.l ++ [madeB ((n : Int) + 1) q])[n]? = some (madeB ((n : Int) + 1) q) := by rw [← HLn.out]; simp
        obtain ⟨g6, rfl, _, _⟩ := H6.out.form hat
        obtain ⟨k0, k1, k2, k3, k4, k5, k6, k7, k8, k9, k10⟩ := H6.out.at_ hat
        obtain ⟨d0, d1, d2, d3, d4⟩ := H6.out.cells
        have hlt6 : (n : Int) < ((n + 1 : Nat) : Int) := by omega
        have k0' : W2.cell? ⟨g6, n * 11, none⟩ = some (.int .i64 ((n : Int) + 1)) := k0
        clear k0 k1 k2 k3 k4 k5 k6 k7 k8 k9 k10 d1 d2 d3 d4 hat
        go_wp2_with fail
        go_quiet (fail)
        go_wp2_with fail
        go_step3
        go_wp2_with fail
        simp only [Exit.jump]
        refine bodyPost_ret (v := .tuple #[.int .u8 1, .int .i64 ((n : Int) + 1)]) (by simp [results, Try.results35, go_sem]) rfl ?_
        exact ⟨rfl, ⟨_, _, _, ⟨H6.out.box, H6.out.row, H6.out.lt, H6.out.le⟩⟩, B6.out.drewN _⟩

end

end Go.Proofs.Ytphkleecodoplaa
