/-
  Texts that the walk of a statement over brains leans on, joined (CtSmall). Conditions: those that each theorem names.
-/
import Derived.Test.YtplejbgecihnpaaDoorK2
import Derived.Test.YtplejbgecihnpaaDoorK6

namespace Go.Proofs.YtplejbgecihnpaaDoor
open Go.RowKit Go.Shelf

set_option maxRecDepth 100000 in
theorem goesC_any (z : Int) (w : World) : Calls Tryd.prog 34 #[.int .u8 z] w fun e w' => e = .returned (.bool (goesI z)) ∧ w' = w := by
  rcases (by omega : z = 5 ∨ z = 6 ∨ z = 7 ∨ z = 8 ∨ (¬ z = 5 ∧ ¬ z = 6 ∧ ¬ z = 7 ∧ ¬ z = 8)) with rfl | rfl | rfl | rfl | ⟨h0, h1, h2, h3⟩
  all_goals
    go_enter Tryd.func34, Tryd.ntmps34
    go_wp2_with fail
    go_ret
  · exact ⟨rfl, rfl⟩
  · exact ⟨rfl, rfl⟩
  · exact ⟨rfl, rfl⟩
  · exact ⟨rfl, rfl⟩
  · exact ⟨by simp [goesI, h0, h1, h2, h3], rfl⟩
set_option maxRecDepth 100000 in
theorem standsC_any (z : Int) (w : World) : Calls Tryd.prog 52 #[.int .u8 z] w fun e w' => e = .returned (.bool (standsI z)) ∧ w' = w := by
  rcases (by omega : z = 1 ∨ z = 2 ∨ z = 3 ∨ z = 4 ∨ z = 10 ∨ (¬ z = 1 ∧ ¬ z = 2 ∧ ¬ z = 3 ∧ ¬ z = 4 ∧ ¬ z = 10)) with rfl | rfl | rfl | rfl | rfl | ⟨h0, h1, h2, h3, h4⟩
  all_goals
    go_enter Tryd.func52, Tryd.ntmps52
    go_wp2_with fail
    go_ret
  · exact ⟨rfl, rfl⟩
  · exact ⟨rfl, rfl⟩
  · exact ⟨rfl, rfl⟩
  · exact ⟨rfl, rfl⟩
  · exact ⟨rfl, rfl⟩
  · exact ⟨by simp [standsI, h0, h1, h2, h3, h4], rfl⟩

set_option maxRecDepth 100000 in
set_option maxHeartbeats 1000000 in
theorem active_any (p : Br) (a : Ad) (w : World) : Calls Tryd.prog 32 #[brV p a] w (BoolPost (p.rf.st == 1) w) := by
  obtain ⟨V, hV⟩ : ∃ V, w.alloc (.cells (brC p a) 30) = V := ⟨_, rfl⟩
  have w0 : Whole V w.heap.size 30 (brC p a) := by rw [← hV]; exact Whole.new _ _ _
  have hb : Below w.heap.size w V := by rw [← hV]; exact (Below.refl _ _).alloc (Nat.le_refl _) _
  have HB := Lib.hid hb
  have HV := Lib.hid hV
  have W0 := Lib.hid w0
  clear w0 hb hV
  go_enter Tryd.func32, Tryd.ntmps32
  go_upto_region 1 with fail
  refine wpV (fun V2 hV2 => ?_)
  obtain rfl : V = V2 := HV.out.symm.trans hV2
  clear HV hV2
  have c20 : V.cell? ⟨w.heap.size, 20, none⟩ = some (.int .u8 p.rf.st) := W0.out.cell 20
  go_wp2_with fail
  go_ret
  exact ⟨rfl, HB.out⟩

set_option maxRecDepth 100000 in
set_option maxHeartbeats 1000000 in
theorem ver_any (p : Br) (a : Ad) (w : World) : Calls Tryd.prog 12 #[brV p a] w (IntPost (verB p) w) := by
  obtain ⟨V, hV⟩ : ∃ V, w.alloc (.cells (brC p a) 30) = V := ⟨_, rfl⟩
  have w0 : Whole V w.heap.size 30 (brC p a) := by rw [← hV]; exact Whole.new _ _ _
  have hb : Below w.heap.size w V := by rw [← hV]; exact (Below.refl _ _).alloc (Nat.le_refl _) _
  have HB := Lib.hid hb
  have HV := Lib.hid hV
  have W0 := Lib.hid w0
  clear w0 hb hV
  cases hs : (p.rf.st == 1) with
  | true =>
    have HS := Lib.hid hs
    clear hs
    go_enter Tryd.func12, Tryd.ntmps12
    go_upto_region 1 with fail
    refine wpV (fun V2 hV2 => ?_)
    obtain rfl : V = V2 := HV.out.symm.trans hV2
    clear HV hV2
    go_wp2_with (refine wpList_loadB (by rfl) _ rfl w.heap.size p a (by rfl) W0.out ?_)
    refine (active_any p a V).mono ?_
    rintro e V1 ⟨rfl, hb1⟩
    rw [HS.out]
    have c22 : V1.cell? ⟨w.heap.size, 22, none⟩ = some (.int .i64 p.rf.to_) := (W0.out.under hb1).cell 22
    have c15 : V1.cell? ⟨w.heap.size, 15, none⟩ = some (.int .i64 p.cf.f12) := (W0.out.under hb1).cell 15
    have HB1 := Lib.hid (HB.out.trans (hb1.mono HB.out.size))
    clear hb1
    go_wp2_with fail
    go_ret
    have hs := HS.out
    exact ⟨by simp at hs; simp [verB, hs], HB1.out⟩
  | false =>
    have HS := Lib.hid hs
    clear hs
    go_enter Tryd.func12, Tryd.ntmps12
    go_upto_region 1 with fail
    refine wpV (fun V2 hV2 => ?_)
    obtain rfl : V = V2 := HV.out.symm.trans hV2
    clear HV hV2
    go_wp2_with (refine wpList_loadB (by rfl) _ rfl w.heap.size p a (by rfl) W0.out ?_)
    refine (active_any p a V).mono ?_
    rintro e V1 ⟨rfl, hb1⟩
    rw [HS.out]
    have c22 : V1.cell? ⟨w.heap.size, 22, none⟩ = some (.int .i64 p.rf.to_) := (W0.out.under hb1).cell 22
    have c15 : V1.cell? ⟨w.heap.size, 15, none⟩ = some (.int .i64 p.cf.f12) := (W0.out.under hb1).cell 15
    have HB1 := Lib.hid (HB.out.trans (hb1.mono HB.out.size))
    clear hb1
    go_wp2_with fail
    go_ret
    have hs := HS.out
    exact ⟨by simp at hs; simp [verB, hs], HB1.out⟩

set_option maxRecDepth 100000 in
set_option maxHeartbeats 2000000 in
theorem meant_any (p : Br) (a : Ad) (x : It) (w : World) : Calls Tryd.prog 16 #[brV p a, .agg #[.int .i64 x.tok, .int .i64 x.ver, .int .i64 x.zone, .bool x.warm]] w (BoolPost (!oldI p x) w) := by
  obtain ⟨hb, w0, w1⟩ := two_new w 30 34 (brC p a) #[.int .i64 x.tok, .int .i64 x.ver, .int .i64 x.zone, .bool x.warm]
  obtain ⟨V, hV⟩ : ∃ V, (w.alloc (.cells (brC p a) 30)).alloc (.cells #[.int .i64 x.tok, .int .i64 x.ver, .int .i64 x.zone, .bool x.warm] 34) = V := ⟨_, rfl⟩
  rw [hV] at hb w0 w1
  have HB := Lib.hid hb
  have HV := Lib.hid hV
  have W0 := Lib.hid w0
  have W1 := Lib.hid w1
  clear hb w0 w1 hV
  go_enter Tryd.func16, Tryd.ntmps16
  go_upto_region 1 with fail
  refine wpV (fun V2 hV2 => ?_)
  obtain rfl : V = V2 := HV.out.symm.trans hV2
  clear HV hV2
  have HL : Hid (∀ V', Below V.heap.size V V' → Whole V' w.heap.size 30 (brC p a) ∧ V'.cell? ⟨w.heap.size + 1, 1, none⟩ = some (.int .i64 x.ver)) := Lib.hid (fun V' hV => ⟨W0.out.under hV, (W1.out.under hV).cell 1⟩)
  have HBd := Lib.hid (show Below V.heap.size V V.drew from below_drewB (Below.refl _ _) 1)
  refine wp_region_T (ls := []) (T := (fun V' => Below V.heap.size V V')) (by kernel_rfl) ?_
  refine takeP (i := 0) (v := ?_) rfl (by kernel_rfl) (by kernel_rfl) (by kernel_rfl) (by kernel_rfl) (fun _ _ _ h => h) (by rfl) ?_ (fun _ => HBd.out) ?_
  rotate_left
  · intro V'; go_simp <;> with_reducible rfl
  simp only [Act.put, List.setIfInBounds_toArray, List.set_cons_zero, List.set_cons_succ]
  refine takeT (i := 1) (v := ?_) rfl (by kernel_rfl) (by kernel_rfl) (by kernel_rfl) (by kernel_rfl) (fun _ _ _ h => h) (by rfl) ?_ HBd.out ?_
  rotate_left
  · intro V' hV; obtain ⟨y0, y1⟩ := HL.out V' hV; go_simp <;> with_reducible rfl
  simp only [Act.put, List.setIfInBounds_toArray, List.set_cons_zero, List.set_cons_succ]
  refine takeT (i := 2) (v := brV p a) rfl (by kernel_rfl) (by kernel_rfl) (by kernel_rfl) (by kernel_rfl) (fun _ _ _ h => h) (by rfl) ?_ HBd.out ?_
  · intro V' hV; obtain ⟨y0, y1⟩ := HL.out V' hV; exact exec_load_brain rfl y0
  simp only [Act.put, List.setIfInBounds_toArray, List.set_cons_zero, List.set_cons_succ]
  refine oneT (i := 3) rfl (by kernel_rfl) (by rfl) (fun K hK => ?_)
  go_simp
  refine (ver_any p a V.drew).mono ?_
  rintro e V_1 ⟨rfl, hb_⟩
  have HB_1 := Lib.hid (show Below V.heap.size V V_1 from HBd.out.trans (hb_.mono HBd.out.size))
  clear hb_ HBd
  refine hK.out _ _ (fun _ => HB_1.out) ?_
  clear hK K
  refine takeP (i := 4) (v := ?_) rfl (by kernel_rfl) (by kernel_rfl) (by kernel_rfl) (by kernel_rfl) (fun _ _ _ h => h) (by rfl) ?_ (fun _ => HB_1.out) ?_
  rotate_left
  · intro V'; go_simp <;> with_reducible rfl
  simp only [Act.put, List.setIfInBounds_toArray, List.set_cons_zero, List.set_cons_succ]
  refine oneT (i := 5) rfl (by kernel_rfl) (by rfl) (fun K hK => ?_)
  go_simp
  refine hK.out _ _ (fun _ => HB_1.out) ?_
  clear hK K
  refine doneT (by kernel_rfl) ?_ _
  have HBx := Lib.hid (HB.out.trans (HB_1.out.mono HB.out.size))
  go_wp2_with fail
  go_ret
  refine ⟨?_, HBx.out⟩
  by_cases e : x.ver = verB p <;> simp [oldI, e]

set_option maxRecDepth 100000 in
set_option maxHeartbeats 2000000 in
theorem isOld_any (p : Br) (a : Ad) (x : Kp) (w : World) : Calls Tryd.prog 14 #[brV p a, x.v] w (BoolPost (oldK p x) w) := by
  obtain ⟨hb, w0, w1⟩ := two_new w 30 32 (brC p a) x.cells
  obtain ⟨V, hV⟩ : ∃ V, (w.alloc (.cells (brC p a) 30)).alloc (.cells x.cells 32) = V := ⟨_, rfl⟩
  rw [hV] at hb w0 w1
  have HB := Lib.hid hb
  have HV := Lib.hid hV
  have W0 := Lib.hid w0
  have W1 := Lib.hid w1
  clear hb w0 w1 hV
  obtain ⟨gd, hgd⟩ : ∃ g, (x.guard && p.cf.sk) = g := ⟨_, rfl⟩
  have HGd := Lib.hid hgd
  clear hgd
  go_enter Tryd.func14, Tryd.ntmps14
  go_upto_region 1 with fail
  refine wpV (fun V2 hV2 => ?_)
  obtain rfl : V = V2 := HV.out.symm.trans hV2
  clear HV hV2
  go_cut [5] (fun s wx => s = .bool gd ∧ wx = V)
  case first =>
    have k6 : V.cell? ⟨w.heap.size + 1, 6, none⟩ = some (.bool x.guard) := W1.out.cell 6
    have k16 : V.cell? ⟨w.heap.size, 16, none⟩ = some (.bool p.cf.sk) := W0.out.cell 16
    have hgd := HGd.out
    cases hx : x.guard with
    | true =>
      rw [hx] at k6 hgd
      clear hx
      go_wp2_with fail
      go_meet
      exact ⟨by rw [← hgd], rfl⟩
    | false =>
      rw [hx] at k6 hgd
      clear hx
      go_wp2_with fail
      go_meet
      exact ⟨by rw [← hgd]; rfl, rfl⟩
  case rest =>
    obtain ⟨rfl, hwx⟩ := hcut
    have hwy := hwx.symm
    subst hwy
    clear hwx
    go_upto_region 2 with fail
    cases hg : goesI x.phase with
    | true =>
      have HG := Lib.hid hg
      clear hg
      have HL : Hid (∀ V', Below V.heap.size V V' → Whole V' w.heap.size 30 (brC p a) ∧ V'.cell? ⟨w.heap.size + 1, 4, none⟩ = some (.int .u8 x.phase) ∧ V'.cell? ⟨w.heap.size + 1, 2, none⟩ = some (.int .i64 x.ver)) := Lib.hid (fun V' hV => ⟨W0.out.under hV, (W1.out.under hV).cell 4, (W1.out.under hV).cell 2⟩)
      have HBd := Lib.hid (show Below V.heap.size V V.drew from below_drewB (Below.refl _ _) 1)
      refine wp_region_T (ls := []) (T := (fun V' => Below V.heap.size V V')) (by kernel_rfl) ?_
      obtain ⟨U, hU⟩ : ∃ U, V.drew = U := ⟨_, rfl⟩
      rw [hU] at HBd ⊢
      clear hU
      refine takeP (i := 0) (v := ?_) rfl (by kernel_rfl) (by kernel_rfl) (by kernel_rfl) (by kernel_rfl) (fun _ _ _ h => h) (by rfl) ?_ (fun _ => HBd.out) ?_
      rotate_left
      · intro V'; go_simp <;> with_reducible rfl
      simp only [Act.put, List.setIfInBounds_toArray, List.set_cons_zero, List.set_cons_succ]
      refine takeT (i := 1) (v := ?_) rfl (by kernel_rfl) (by kernel_rfl) (by kernel_rfl) (by kernel_rfl) (fun _ _ _ h => h) (by rfl) ?_ HBd.out ?_
      rotate_left
      · intro V' hV; obtain ⟨y0, y1, y2⟩ := HL.out V' hV; go_simp <;> with_reducible rfl
      simp only [Act.put, List.setIfInBounds_toArray, List.set_cons_zero, List.set_cons_succ]
      refine oneT (i := 2) rfl (by kernel_rfl) (by rfl) (fun K hK => ?_)
      go_simp
      refine (goesC_any x.phase U).mono ?_
      rintro e V_1 ⟨rfl, hw_⟩
      subst hw_
      rw [HG.out]
      refine hK.out _ _ (fun _ => HBd.out) ?_
      clear hK K
      refine takeP (i := 3) (v := ?_) rfl (by kernel_rfl) (by kernel_rfl) (by kernel_rfl) (by kernel_rfl) (fun _ _ _ h => h) (by rfl) ?_ (fun _ => HBd.out) ?_
      rotate_left
      · intro V'; go_simp <;> with_reducible rfl
      simp only [Act.put, List.setIfInBounds_toArray, List.set_cons_zero, List.set_cons_succ]
      refine takeP (i := 4) (v := ?_) rfl (by kernel_rfl) (by kernel_rfl) (by kernel_rfl) (by kernel_rfl) (fun _ _ _ h => h) (by rfl) ?_ (fun _ => HBd.out) ?_
      rotate_left
      · intro V'; go_simp <;> with_reducible rfl
      simp only [Act.put, List.setIfInBounds_toArray, List.set_cons_zero, List.set_cons_succ]
      refine skipT (i := 5) rfl (by kernel_rfl) (by kernel_rfl) (by kernel_rfl) (by kernel_rfl) (fun _ _ _ h => h) (by rfl) (fun _ => HBd.out) ?_
      simp only [Act.put, List.setIfInBounds_toArray, List.set_cons_zero, List.set_cons_succ]
      refine skipT (i := 6) rfl (by kernel_rfl) (by kernel_rfl) (by kernel_rfl) (by kernel_rfl) (fun _ _ _ h => h) (by rfl) (fun _ => HBd.out) ?_
      simp only [Act.put, List.setIfInBounds_toArray, List.set_cons_zero, List.set_cons_succ]
      refine skipT (i := 7) rfl (by kernel_rfl) (by kernel_rfl) (by kernel_rfl) (by kernel_rfl) (fun _ _ _ h => h) (by rfl) (fun _ => HBd.out) ?_
      simp only [Act.put, List.setIfInBounds_toArray, List.set_cons_zero, List.set_cons_succ]
      refine skipT (i := 8) rfl (by kernel_rfl) (by kernel_rfl) (by kernel_rfl) (by kernel_rfl) (fun _ _ _ h => h) (by rfl) (fun _ => HBd.out) ?_
      simp only [Act.put, List.setIfInBounds_toArray, List.set_cons_zero, List.set_cons_succ]
      refine skipT (i := 9) rfl (by kernel_rfl) (by kernel_rfl) (by kernel_rfl) (by kernel_rfl) (fun _ _ _ h => h) (by rfl) (fun _ => HBd.out) ?_
      simp only [Act.put, List.setIfInBounds_toArray, List.set_cons_zero, List.set_cons_succ]
      refine takeP (i := 10) (v := ?_) rfl (by kernel_rfl) (by kernel_rfl) (by kernel_rfl) (by kernel_rfl) (fun _ _ _ h => h) (by rfl) ?_ (fun _ => HBd.out) ?_
      rotate_left
      · intro V'; go_simp <;> with_reducible rfl
      simp only [Act.put, List.setIfInBounds_toArray, List.set_cons_zero, List.set_cons_succ]
      refine takeP (i := 11) (v := ?_) rfl (by kernel_rfl) (by kernel_rfl) (by kernel_rfl) (by kernel_rfl) (fun _ _ _ h => h) (by rfl) ?_ (fun _ => HBd.out) ?_
      rotate_left
      · intro V'; go_simp <;> with_reducible rfl
      simp only [Act.put, List.setIfInBounds_toArray, List.set_cons_zero, List.set_cons_succ]
      refine skipT (i := 12) rfl (by kernel_rfl) (by kernel_rfl) (by kernel_rfl) (by kernel_rfl) (fun _ _ _ h => h) (by rfl) (fun _ => HBd.out) ?_
      simp only [Act.put, List.setIfInBounds_toArray, List.set_cons_zero, List.set_cons_succ]
      refine skipT (i := 13) rfl (by kernel_rfl) (by kernel_rfl) (by kernel_rfl) (by kernel_rfl) (fun _ _ _ h => h) (by rfl) (fun _ => HBd.out) ?_
      simp only [Act.put, List.setIfInBounds_toArray, List.set_cons_zero, List.set_cons_succ]
      refine takeP (i := 14) (v := ?_) rfl (by kernel_rfl) (by kernel_rfl) (by kernel_rfl) (by kernel_rfl) (fun _ _ _ h => h) (by rfl) ?_ (fun _ => HBd.out) ?_
      rotate_left
      · intro V'; go_simp <;> with_reducible rfl
      simp only [Act.put, List.setIfInBounds_toArray, List.set_cons_zero, List.set_cons_succ]
      refine oneT (i := 15) rfl (by kernel_rfl) (by rfl) (fun K hK => ?_)
      go_simp
      refine hK.out _ _ (fun _ => HBd.out) ?_
      clear hK K
      refine doneT (by kernel_rfl) ?_ _
      have HBx := Lib.hid (HB.out.trans (HBd.out.mono HB.out.size))
      go_wp2_with fail
      go_ret
      have hg9 := HGd.out
      exact ⟨by simp [oldK, HG.out], HBx.out⟩
    | false =>
      have HG := Lib.hid hg
      clear hg
      by_cases hv : x.ver = verB p
      · have HVv := Lib.hid hv
        clear hv
        have HL : Hid (∀ V', Below V.heap.size V V' → Whole V' w.heap.size 30 (brC p a) ∧ V'.cell? ⟨w.heap.size + 1, 4, none⟩ = some (.int .u8 x.phase) ∧ V'.cell? ⟨w.heap.size + 1, 2, none⟩ = some (.int .i64 x.ver)) := Lib.hid (fun V' hV => ⟨W0.out.under hV, (W1.out.under hV).cell 4, (W1.out.under hV).cell 2⟩)
        have HBd := Lib.hid (show Below V.heap.size V V.drew from below_drewB (Below.refl _ _) 1)
        refine wp_region_T (ls := []) (T := (fun V' => Below V.heap.size V V')) (by kernel_rfl) ?_
        obtain ⟨U, hU⟩ : ∃ U, V.drew = U := ⟨_, rfl⟩
        rw [hU] at HBd ⊢
        clear hU
        refine takeP (i := 0) (v := ?_) rfl (by kernel_rfl) (by kernel_rfl) (by kernel_rfl) (by kernel_rfl) (fun _ _ _ h => h) (by rfl) ?_ (fun _ => HBd.out) ?_
        rotate_left
        · intro V'; go_simp <;> with_reducible rfl
        simp only [Act.put, List.setIfInBounds_toArray, List.set_cons_zero, List.set_cons_succ]
        refine takeT (i := 1) (v := ?_) rfl (by kernel_rfl) (by kernel_rfl) (by kernel_rfl) (by kernel_rfl) (fun _ _ _ h => h) (by rfl) ?_ HBd.out ?_
        rotate_left
        · intro V' hV; obtain ⟨y0, y1, y2⟩ := HL.out V' hV; go_simp <;> with_reducible rfl
        simp only [Act.put, List.setIfInBounds_toArray, List.set_cons_zero, List.set_cons_succ]
        refine oneT (i := 2) rfl (by kernel_rfl) (by rfl) (fun K hK => ?_)
        go_simp
        refine (goesC_any x.phase U).mono ?_
        rintro e V_1 ⟨rfl, hw_⟩
        subst hw_
        rw [HG.out]
        refine hK.out _ _ (fun _ => HBd.out) ?_
        clear hK K
        refine takeP (i := 3) (v := ?_) rfl (by kernel_rfl) (by kernel_rfl) (by kernel_rfl) (by kernel_rfl) (fun _ _ _ h => h) (by rfl) ?_ (fun _ => HBd.out) ?_
        rotate_left
        · intro V'; go_simp <;> with_reducible rfl
        simp only [Act.put, List.setIfInBounds_toArray, List.set_cons_zero, List.set_cons_succ]
        refine takeP (i := 4) (v := ?_) rfl (by kernel_rfl) (by kernel_rfl) (by kernel_rfl) (by kernel_rfl) (fun _ _ _ h => h) (by rfl) ?_ (fun _ => HBd.out) ?_
        rotate_left
        · intro V'; go_simp <;> with_reducible rfl
        simp only [Act.put, List.setIfInBounds_toArray, List.set_cons_zero, List.set_cons_succ]
        refine takeP (i := 5) (v := ?_) rfl (by kernel_rfl) (by kernel_rfl) (by kernel_rfl) (by kernel_rfl) (fun _ _ _ h => h) (by rfl) ?_ (fun _ => HBd.out) ?_
        rotate_left
        · intro V'; go_simp <;> with_reducible rfl
        simp only [Act.put, List.setIfInBounds_toArray, List.set_cons_zero, List.set_cons_succ]
        refine takeT (i := 6) (v := ?_) rfl (by kernel_rfl) (by kernel_rfl) (by kernel_rfl) (by kernel_rfl) (fun _ _ _ h => h) (by rfl) ?_ HBd.out ?_
        rotate_left
        · intro V' hV; obtain ⟨y0, y1, y2⟩ := HL.out V' hV; go_simp <;> with_reducible rfl
        simp only [Act.put, List.setIfInBounds_toArray, List.set_cons_zero, List.set_cons_succ]
        refine takeT (i := 7) (v := brV p a) rfl (by kernel_rfl) (by kernel_rfl) (by kernel_rfl) (by kernel_rfl) (fun _ _ _ h => h) (by rfl) ?_ HBd.out ?_
        · intro V' hV; obtain ⟨y0, y1, y2⟩ := HL.out V' hV; exact exec_load_brain rfl y0
        simp only [Act.put, List.setIfInBounds_toArray, List.set_cons_zero, List.set_cons_succ]
        refine oneT (i := 8) rfl (by kernel_rfl) (by rfl) (fun K hK => ?_)
        go_simp
        refine (ver_any p a V_1).mono ?_
        rintro e V_2 ⟨rfl, hb_⟩
        have HB_2 := Lib.hid (show Below V.heap.size V V_2 from HBd.out.trans (hb_.mono HBd.out.size))
        clear hb_ HBd
        refine hK.out _ _ (fun _ => HB_2.out) ?_
        clear hK K
        refine takeT (i := 9) (v := .bool false) rfl (by kernel_rfl) (by kernel_rfl) (by kernel_rfl) (by kernel_rfl) (fun _ _ _ h => h) (by rfl) ?_ HB_2.out ?_
        · intro V' hV; obtain ⟨y0, y1, y2⟩ := HL.out V' hV; go_simp; exact HVv.out
        simp only [Act.put, List.setIfInBounds_toArray, List.set_cons_zero, List.set_cons_succ]
        refine takeP (i := 10) (v := ?_) rfl (by kernel_rfl) (by kernel_rfl) (by kernel_rfl) (by kernel_rfl) (fun _ _ _ h => h) (by rfl) ?_ (fun _ => HB_2.out) ?_
        rotate_left
        · intro V'; go_simp <;> with_reducible rfl
        simp only [Act.put, List.setIfInBounds_toArray, List.set_cons_zero, List.set_cons_succ]
        refine takeP (i := 11) (v := ?_) rfl (by kernel_rfl) (by kernel_rfl) (by kernel_rfl) (by kernel_rfl) (fun _ _ _ h => h) (by rfl) ?_ (fun _ => HB_2.out) ?_
        rotate_left
        · intro V'; go_simp <;> with_reducible rfl
        simp only [Act.put, List.setIfInBounds_toArray, List.set_cons_zero, List.set_cons_succ]
        refine skipT (i := 12) rfl (by kernel_rfl) (by kernel_rfl) (by kernel_rfl) (by kernel_rfl) (fun _ _ _ h => h) (by rfl) (fun _ => HB_2.out) ?_
        simp only [Act.put, List.setIfInBounds_toArray, List.set_cons_zero, List.set_cons_succ]
        refine skipT (i := 13) rfl (by kernel_rfl) (by kernel_rfl) (by kernel_rfl) (by kernel_rfl) (fun _ _ _ h => h) (by rfl) (fun _ => HB_2.out) ?_
        simp only [Act.put, List.setIfInBounds_toArray, List.set_cons_zero, List.set_cons_succ]
        refine takeP (i := 14) (v := ?_) rfl (by kernel_rfl) (by kernel_rfl) (by kernel_rfl) (by kernel_rfl) (fun _ _ _ h => h) (by rfl) ?_ (fun _ => HB_2.out) ?_
        rotate_left
        · intro V'; go_simp <;> with_reducible rfl
        simp only [Act.put, List.setIfInBounds_toArray, List.set_cons_zero, List.set_cons_succ]
        refine oneT (i := 15) rfl (by kernel_rfl) (by rfl) (fun K hK => ?_)
        go_simp
        refine hK.out _ _ (fun _ => HB_2.out) ?_
        clear hK K
        refine doneT (by kernel_rfl) ?_ _
        have HBx := Lib.hid (HB.out.trans (HB_2.out.mono HB.out.size))
        go_wp2_with fail
        go_ret
        have hg9 := HGd.out
        exact ⟨by simp [oldK, HVv.out], HBx.out⟩
      · have HVv := Lib.hid hv
        clear hv
        have HL : Hid (∀ V', Below V.heap.size V V' → Whole V' w.heap.size 30 (brC p a) ∧ V'.cell? ⟨w.heap.size + 1, 4, none⟩ = some (.int .u8 x.phase) ∧ V'.cell? ⟨w.heap.size + 1, 2, none⟩ = some (.int .i64 x.ver)) := Lib.hid (fun V' hV => ⟨W0.out.under hV, (W1.out.under hV).cell 4, (W1.out.under hV).cell 2⟩)
        have HBd := Lib.hid (show Below V.heap.size V V.drew from below_drewB (Below.refl _ _) 1)
        refine wp_region_T (ls := []) (T := (fun V' => Below V.heap.size V V')) (by kernel_rfl) ?_
        obtain ⟨U, hU⟩ : ∃ U, V.drew = U := ⟨_, rfl⟩
        rw [hU] at HBd ⊢
        clear hU
        refine takeP (i := 0) (v := ?_) rfl (by kernel_rfl) (by kernel_rfl) (by kernel_rfl) (by kernel_rfl) (fun _ _ _ h => h) (by rfl) ?_ (fun _ => HBd.out) ?_
        rotate_left
        · intro V'; go_simp <;> with_reducible rfl
        simp only [Act.put, List.setIfInBounds_toArray, List.set_cons_zero, List.set_cons_succ]
        refine takeT (i := 1) (v := ?_) rfl (by kernel_rfl) (by kernel_rfl) (by kernel_rfl) (by kernel_rfl) (fun _ _ _ h => h) (by rfl) ?_ HBd.out ?_
        rotate_left
        · intro V' hV; obtain ⟨y0, y1, y2⟩ := HL.out V' hV; go_simp <;> with_reducible rfl
        simp only [Act.put, List.setIfInBounds_toArray, List.set_cons_zero, List.set_cons_succ]
        refine oneT (i := 2) rfl (by kernel_rfl) (by rfl) (fun K hK => ?_)
        go_simp
        refine (goesC_any x.phase U).mono ?_
        rintro e V_1 ⟨rfl, hw_⟩
        subst hw_
        rw [HG.out]
        refine hK.out _ _ (fun _ => HBd.out) ?_
        clear hK K
        refine takeP (i := 3) (v := ?_) rfl (by kernel_rfl) (by kernel_rfl) (by kernel_rfl) (by kernel_rfl) (fun _ _ _ h => h) (by rfl) ?_ (fun _ => HBd.out) ?_
        rotate_left
        · intro V'; go_simp <;> with_reducible rfl
        simp only [Act.put, List.setIfInBounds_toArray, List.set_cons_zero, List.set_cons_succ]
        refine takeP (i := 4) (v := ?_) rfl (by kernel_rfl) (by kernel_rfl) (by kernel_rfl) (by kernel_rfl) (fun _ _ _ h => h) (by rfl) ?_ (fun _ => HBd.out) ?_
        rotate_left
        · intro V'; go_simp <;> with_reducible rfl
        simp only [Act.put, List.setIfInBounds_toArray, List.set_cons_zero, List.set_cons_succ]
        refine takeP (i := 5) (v := ?_) rfl (by kernel_rfl) (by kernel_rfl) (by kernel_rfl) (by kernel_rfl) (fun _ _ _ h => h) (by rfl) ?_ (fun _ => HBd.out) ?_
        rotate_left
        · intro V'; go_simp <;> with_reducible rfl
        simp only [Act.put, List.setIfInBounds_toArray, List.set_cons_zero, List.set_cons_succ]
        refine takeT (i := 6) (v := ?_) rfl (by kernel_rfl) (by kernel_rfl) (by kernel_rfl) (by kernel_rfl) (fun _ _ _ h => h) (by rfl) ?_ HBd.out ?_
        rotate_left
        · intro V' hV; obtain ⟨y0, y1, y2⟩ := HL.out V' hV; go_simp <;> with_reducible rfl
        simp only [Act.put, List.setIfInBounds_toArray, List.set_cons_zero, List.set_cons_succ]
        refine takeT (i := 7) (v := brV p a) rfl (by kernel_rfl) (by kernel_rfl) (by kernel_rfl) (by kernel_rfl) (fun _ _ _ h => h) (by rfl) ?_ HBd.out ?_
        · intro V' hV; obtain ⟨y0, y1, y2⟩ := HL.out V' hV; exact exec_load_brain rfl y0
        simp only [Act.put, List.setIfInBounds_toArray, List.set_cons_zero, List.set_cons_succ]
        refine oneT (i := 8) rfl (by kernel_rfl) (by rfl) (fun K hK => ?_)
        go_simp
        refine (ver_any p a V_1).mono ?_
        rintro e V_2 ⟨rfl, hb_⟩
        have HB_2 := Lib.hid (show Below V.heap.size V V_2 from HBd.out.trans (hb_.mono HBd.out.size))
        clear hb_ HBd
        refine hK.out _ _ (fun _ => HB_2.out) ?_
        clear hK K
        refine takeT (i := 9) (v := .bool true) rfl (by kernel_rfl) (by kernel_rfl) (by kernel_rfl) (by kernel_rfl) (fun _ _ _ h => h) (by rfl) ?_ HB_2.out ?_
        · intro V' hV; obtain ⟨y0, y1, y2⟩ := HL.out V' hV; go_simp; exact HVv.out
        simp only [Act.put, List.setIfInBounds_toArray, List.set_cons_zero, List.set_cons_succ]
        refine takeP (i := 10) (v := ?_) rfl (by kernel_rfl) (by kernel_rfl) (by kernel_rfl) (by kernel_rfl) (fun _ _ _ h => h) (by rfl) ?_ (fun _ => HB_2.out) ?_
        rotate_left
        · intro V'; go_simp <;> with_reducible rfl
        simp only [Act.put, List.setIfInBounds_toArray, List.set_cons_zero, List.set_cons_succ]
        refine takeP (i := 11) (v := ?_) rfl (by kernel_rfl) (by kernel_rfl) (by kernel_rfl) (by kernel_rfl) (fun _ _ _ h => h) (by rfl) ?_ (fun _ => HB_2.out) ?_
        rotate_left
        · intro V'; go_simp <;> with_reducible rfl
        simp only [Act.put, List.setIfInBounds_toArray, List.set_cons_zero, List.set_cons_succ]
        refine takeP (i := 12) (v := ?_) rfl (by kernel_rfl) (by kernel_rfl) (by kernel_rfl) (by kernel_rfl) (fun _ _ _ h => h) (by rfl) ?_ (fun _ => HB_2.out) ?_
        rotate_left
        · intro V'; go_simp <;> with_reducible rfl
        simp only [Act.put, List.setIfInBounds_toArray, List.set_cons_zero, List.set_cons_succ]
        refine takeP (i := 13) (v := ?_) rfl (by kernel_rfl) (by kernel_rfl) (by kernel_rfl) (by kernel_rfl) (fun _ _ _ h => h) (by rfl) ?_ (fun _ => HB_2.out) ?_
        rotate_left
        · intro V'; go_simp <;> with_reducible rfl
        simp only [Act.put, List.setIfInBounds_toArray, List.set_cons_zero, List.set_cons_succ]
        refine takeP (i := 14) (v := ?_) rfl (by kernel_rfl) (by kernel_rfl) (by kernel_rfl) (by kernel_rfl) (fun _ _ _ h => h) (by rfl) ?_ (fun _ => HB_2.out) ?_
        rotate_left
        · intro V'; go_simp <;> with_reducible rfl
        simp only [Act.put, List.setIfInBounds_toArray, List.set_cons_zero, List.set_cons_succ]
        refine oneT (i := 15) rfl (by kernel_rfl) (by rfl) (fun K hK => ?_)
        go_simp
        refine hK.out _ _ (fun _ => HB_2.out) ?_
        clear hK K
        refine doneT (by kernel_rfl) ?_ _
        have HBx := Lib.hid (HB.out.trans (HB_2.out.mono HB.out.size))
        go_wp2_with fail
        go_ret
        have hg9 := HGd.out
        exact ⟨by simp [oldK, HG.out, HVv.out]; rw [← hg9], HBx.out⟩

set_option maxRecDepth 100000 in
set_option maxHeartbeats 1000000 in
theorem told3_any (x : It) (w : World) : Calls Tryd.prog 50 #[.agg #[.int .i64 x.tok, .int .i64 x.ver, .int .i64 x.zone, .bool x.warm]] w (BoolPost (!x.warm) w) := by
  obtain ⟨V, hV⟩ : ∃ V, w.alloc (.cells #[.int .i64 x.tok, .int .i64 x.ver, .int .i64 x.zone, .bool x.warm] 34) = V := ⟨_, rfl⟩
  have w1 : Whole V w.heap.size 34 #[.int .i64 x.tok, .int .i64 x.ver, .int .i64 x.zone, .bool x.warm] := by rw [← hV]; exact Whole.new _ _ _
  have hb : Below w.heap.size w V := by rw [← hV]; exact (Below.refl _ _).alloc (Nat.le_refl _) _
  have HB := Lib.hid hb
  have HV := Lib.hid hV
  have W1 := Lib.hid w1
  clear w1 hb hV
  go_enter Tryd.func50, Tryd.ntmps50
  go_upto_region 1 with fail
  refine wpV (fun V2 hV2 => ?_)
  obtain rfl : V = V2 := HV.out.symm.trans hV2
  clear HV hV2
  have c3 : V.cell? ⟨w.heap.size, 3, none⟩ = some (.bool x.warm) := W1.out.cell 3
  go_wp2_with fail
  go_ret
  exact ⟨rfl, HB.out⟩

set_option maxRecDepth 100000 in
set_option maxHeartbeats 1000000 in
theorem told4_any (x : Kp) (w : World) : Calls Tryd.prog 51 #[x.v] w (BoolPost (standsI x.phase) w) := by
  obtain ⟨V, hV⟩ : ∃ V, w.alloc (.cells x.cells 32) = V := ⟨_, rfl⟩
  have w1 : Whole V w.heap.size 32 x.cells := by rw [← hV]; exact Whole.new _ _ _
  have hb : Below w.heap.size w V := by rw [← hV]; exact (Below.refl _ _).alloc (Nat.le_refl _) _
  have HB := Lib.hid hb
  have HV := Lib.hid hV
  have W1 := Lib.hid w1
  clear w1 hb hV
  go_enter Tryd.func51, Tryd.ntmps51
  go_upto_region 1 with fail
  refine wpV (fun V2 hV2 => ?_)
  obtain rfl : V = V2 := HV.out.symm.trans hV2
  clear HV hV2
  have c4 : V.cell? ⟨w.heap.size, 4, none⟩ = some (.int .u8 x.phase) := W1.out.cell 4
  go_wp2_with fail
  refine (standsC_any x.phase V).mono ?_
  rintro e V1 ⟨rfl, hw1⟩
  subst hw1
  go_wp2_with fail
  go_ret
  exact ⟨rfl, HB.out⟩

set_option maxRecDepth 100000 in
set_option maxHeartbeats 1000000 in
theorem told5_any (x : It) (w : World) : Calls Tryd.prog 53 #[.agg #[.int .i64 x.tok, .int .i64 x.ver, .int .i64 x.zone, .bool x.warm]] w (BoolPost (x.warm) w) := by
  obtain ⟨V, hV⟩ : ∃ V, w.alloc (.cells #[.int .i64 x.tok, .int .i64 x.ver, .int .i64 x.zone, .bool x.warm] 34) = V := ⟨_, rfl⟩
  have w1 : Whole V w.heap.size 34 #[.int .i64 x.tok, .int .i64 x.ver, .int .i64 x.zone, .bool x.warm] := by rw [← hV]; exact Whole.new _ _ _
  have hb : Below w.heap.size w V := by rw [← hV]; exact (Below.refl _ _).alloc (Nat.le_refl _) _
  have HB := Lib.hid hb
  have HV := Lib.hid hV
  have W1 := Lib.hid w1
  clear w1 hb hV
  go_enter Tryd.func53, Tryd.ntmps53
  go_upto_region 1 with fail
  refine wpV (fun V2 hV2 => ?_)
  obtain rfl : V = V2 := HV.out.symm.trans hV2
  clear HV hV2
  have c3 : V.cell? ⟨w.heap.size, 3, none⟩ = some (.bool x.warm) := W1.out.cell 3
  go_wp2_with fail
  go_ret
  exact ⟨rfl, HB.out⟩

set_option maxRecDepth 100000 in
set_option maxHeartbeats 1000000 in
theorem told6_any (x : Kp) (w : World) : Calls Tryd.prog 54 #[x.v] w (BoolPost (decide (x.phase = 9)) w) := by
  obtain ⟨V, hV⟩ : ∃ V, w.alloc (.cells x.cells 32) = V := ⟨_, rfl⟩
  have w1 : Whole V w.heap.size 32 x.cells := by rw [← hV]; exact Whole.new _ _ _
  have hb : Below w.heap.size w V := by rw [← hV]; exact (Below.refl _ _).alloc (Nat.le_refl _) _
  have HB := Lib.hid hb
  have HV := Lib.hid hV
  have W1 := Lib.hid w1
  clear w1 hb hV
  go_enter Tryd.func54, Tryd.ntmps54
  go_upto_region 1 with fail
  refine wpV (fun V2 hV2 => ?_)
  obtain rfl : V = V2 := HV.out.symm.trans hV2
  clear HV hV2
  have c4 : V.cell? ⟨w.heap.size, 4, none⟩ = some (.int .u8 x.phase) := W1.out.cell 4
  go_wp2_with fail
  go_ret
  exact ⟨rfl, HB.out⟩

set_option maxRecDepth 100000 in
theorem told7_any (x : It) (w : World) : Calls Tryd.prog 55 #[.agg #[.int .i64 x.tok, .int .i64 x.ver, .int .i64 x.zone, .bool x.warm]] w (BoolPost true w) := by
  go_enter Tryd.func55, Tryd.ntmps55
  go_wp2_with fail
  go_ret
  exact ⟨rfl, (Below.refl _ w).alloc (Nat.le_refl _) _⟩

set_option maxRecDepth 100000 in
theorem told8_any (x : Kp) (w : World) : Calls Tryd.prog 56 #[x.v] w (BoolPost true w) := by
  go_enter Tryd.func56, Tryd.ntmps56
  go_wp2_with fail
  go_ret
  exact ⟨rfl, (Below.refl _ w).alloc (Nat.le_refl _) _⟩

set_option maxRecDepth 100000 in
theorem told9_any (x : It) (w : World) : Calls Tryd.prog 57 #[.agg #[.int .i64 x.tok, .int .i64 x.ver, .int .i64 x.zone, .bool x.warm]] w (BoolPost false w) := by
  go_enter Tryd.func57, Tryd.ntmps57
  go_wp2_with fail
  go_ret
  exact ⟨rfl, (Below.refl _ w).alloc (Nat.le_refl _) _⟩

set_option maxRecDepth 100000 in
set_option maxHeartbeats 1000000 in
theorem told10_any (x : Kp) (w : World) : Calls Tryd.prog 58 #[x.v] w (BoolPost (decide (x.phase = 4)) w) := by
  obtain ⟨V, hV⟩ : ∃ V, w.alloc (.cells x.cells 32) = V := ⟨_, rfl⟩
  have w1 : Whole V w.heap.size 32 x.cells := by rw [← hV]; exact Whole.new _ _ _
  have hb : Below w.heap.size w V := by rw [← hV]; exact (Below.refl _ _).alloc (Nat.le_refl _) _
  have HB := Lib.hid hb
  have HV := Lib.hid hV
  have W1 := Lib.hid w1
  clear w1 hb hV
  go_enter Tryd.func58, Tryd.ntmps58
  go_upto_region 1 with fail
  refine wpV (fun V2 hV2 => ?_)
  obtain rfl : V = V2 := HV.out.symm.trans hV2
  clear HV hV2
  have c4 : V.cell? ⟨w.heap.size, 4, none⟩ = some (.int .u8 x.phase) := W1.out.cell 4
  go_wp2_with fail
  go_ret
  exact ⟨rfl, HB.out⟩

set_option maxRecDepth 100000 in
set_option maxHeartbeats 1000000 in
theorem told1_any (p : Br) (a : Ad) (g : Nat) (x : It) (w : World) (hg : Whole w g 30 (brC p a)) : Calls Tryd.prog 48 #[.agg #[.int .i64 x.tok, .int .i64 x.ver, .int .i64 x.zone, .bool x.warm], .pointer (some ⟨g, 0, none⟩)] w (BoolPost (oldI p x) w) := by
  obtain ⟨V, hV⟩ : ∃ V, w.alloc (.cells #[.int .i64 x.tok, .int .i64 x.ver, .int .i64 x.zone, .bool x.warm] 34) = V := ⟨_, rfl⟩
  have w1 : Whole V w.heap.size 34 #[.int .i64 x.tok, .int .i64 x.ver, .int .i64 x.zone, .bool x.warm] := by rw [← hV]; exact Whole.new _ _ _
  have hb : Below w.heap.size w V := by rw [← hV]; exact (Below.refl _ _).alloc (Nat.le_refl _) _
  have HB := Lib.hid hb
  have HV := Lib.hid hV
  have W0 := Lib.hid (hg.under hb)
  have W1 := Lib.hid w1
  clear w1 hb hV hg
  go_enter Tryd.func48, Tryd.ntmps48
  go_upto_region 1 with fail
  refine wpV (fun V2 hV2 => ?_)
  obtain rfl : V = V2 := HV.out.symm.trans hV2
  clear HV hV2
  go_wp2_with (first | refine wpList_loadB (by rfl) _ rfl g p a (by rfl) W0.out ?_ | refine wpList_load_row (by rfl) 34 _ rfl w.heap.size (by rfl) 34 _ (0, 0) _ W1.out Tryd.underlying34 rfl (by kernel_rfl) ?_)
  refine (meant_any p a x V).mono ?_
  rintro e V1 ⟨rfl, hb1⟩
  have HB1 := Lib.hid (HB.out.trans (hb1.mono HB.out.size))
  clear hb1
  go_wp2_with fail
  go_ret
  exact ⟨by simp, HB1.out⟩

set_option maxRecDepth 100000 in
set_option maxHeartbeats 1000000 in
theorem told2_any (p : Br) (a : Ad) (g : Nat) (x : Kp) (w : World) (hg : Whole w g 30 (brC p a)) : Calls Tryd.prog 49 #[x.v, .pointer (some ⟨g, 0, none⟩)] w (BoolPost (oldK p x) w) := by
  obtain ⟨V, hV⟩ : ∃ V, w.alloc (.cells x.cells 32) = V := ⟨_, rfl⟩
  have w1 : Whole V w.heap.size 32 x.cells := by rw [← hV]; exact Whole.new _ _ _
  have hb : Below w.heap.size w V := by rw [← hV]; exact (Below.refl _ _).alloc (Nat.le_refl _) _
  have HB := Lib.hid hb
  have HV := Lib.hid hV
  have W0 := Lib.hid (hg.under hb)
  have W1 := Lib.hid w1
  clear w1 hb hV hg
  go_enter Tryd.func49, Tryd.ntmps49
  go_upto_region 1 with fail
  refine wpV (fun V2 hV2 => ?_)
  obtain rfl : V = V2 := HV.out.symm.trans hV2
  clear HV hV2
  go_wp2_with (first | refine wpList_loadB (by rfl) _ rfl g p a (by rfl) W0.out ?_ | refine wpList_load_row (by rfl) 32 _ rfl w.heap.size (by rfl) 32 _ (0, 0) _ W1.out Tryd.underlying32 rfl (by kernel_rfl) ?_)
  refine (isOld_any p a x V).mono ?_
  rintro e V1 ⟨rfl, hb1⟩
  have HB1 := Lib.hid (HB.out.trans (hb1.mono HB.out.size))
  clear hb1
  go_wp2_with fail
  go_ret
  exact ⟨rfl, HB1.out⟩

end Go.Proofs.YtplejbgecihnpaaDoor
