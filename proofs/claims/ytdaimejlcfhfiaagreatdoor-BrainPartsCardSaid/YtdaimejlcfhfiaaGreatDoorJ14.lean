/-
  Texts that the walks of the statements over logs lean on, joined (BrKeepP, BrMade, CfRow). Conditions: those that each theorem names.
-/
import Derived.Test.YtdaimejlcfhfiaaGreatDoorJ7
import Derived.Test.YtdaimejlcfhfiaaGreatDoorJ12
import Derived.Test.YtdaimejlcfhfiaaGreatDoorJ13
import Derived.Laws.MakeOwn

/-
  The walk of 'keep' of package brain. Conditions: those that each theorem names.
-/
namespace Go.Proofs.YtdaimejlcfhfiaaGreatDoor
open Go.RowKit Go.Shelf

set_option maxRecDepth 100000 in
theorem keep1_any (n id : Int) (cb : Nat) (w : World) (hc : w.cell? ⟨cb, 0, none⟩ = some (.int .i64 id)) : Calls Tryz.prog 120 #[.int .i64 n, .pointer (some ⟨cb, 0, none⟩)] w (BoolPost (decide (id < n)) w) := by
  go_enter Tryz.func120, Tryz.ntmps120
  go_wp2_with fail
  go_ret
  exact ⟨rfl, Below.refl _ _⟩
set_option maxRecDepth 100000 in
/-- Where one is put. -/
theorem keep_place (l : List Kp) (x : Kp) : ∃ j, j ≤ l.length ∧ l.take j ++ [x] ++ l.drop j = putK l x ∧ ((placeF (fun n => decide (x.id < n)) (l.map Kp.id) = -1 ∧ j = l.length) ∨ (placeF (fun n => decide (x.id < n)) (l.map Kp.id) = (j : Int) ∧ j < l.length)) := by
  have e : (l.map Kp.id).findIdx? (fun n => decide (x.id < n)) = l.findIdx? (fun y => decide (x.id < y.id)) := by rw [List.findIdx?_map]; rfl
  cases hf : l.findIdx? (fun y => decide (x.id < y.id)) with
  | none =>
    refine ⟨l.length, Nat.le_refl _, (putK_at (fun y hy => ?_) (fun y hy => ?_)).symm, .inl ⟨by unfold placeF; rw [e, hf], rfl⟩⟩
    · rw [List.findIdx?_eq_none_iff] at hf
      have := hf y (by rw [List.take_length] at hy; exact hy)
      simp at this
      omega
    · rw [List.getElem?_eq_none (Nat.le_refl _)] at hy; cases hy
  | some j =>
    have h1 := hf
    rw [List.findIdx?_eq_some_iff_getElem] at h1
    obtain ⟨hj, hp, hno⟩ := h1
    refine ⟨j, Nat.le_of_lt hj, (putK_at (fun y hy => ?_) (fun y hy => ?_)).symm, .inr ⟨by unfold placeF; rw [e, hf], hj⟩⟩
    · obtain ⟨k, hk, rfl⟩ := List.getElem_of_mem hy
      rw [List.length_take] at hk
      have := hno k (by omega)
      simp only [List.getElem_take]
      simp at this
      omega
    · rw [List.getElem?_eq_getElem hj] at hy
      cases hy
      simp at hp
      omega

set_option maxRecDepth 100000 in
set_option maxHeartbeats 4000000 in
theorem keepP_any (p : Br) (a : Ad) (x : Kp) (base g : Nat) (w : World) (h : BrIn base g w p a) (hn : p.kps.length ≤ 900) :
    Calls Tryz.prog 93 #[.pointer (some ⟨g, 0, none⟩), .agg (kpC x)] w (StPost base g { p with kps := putK p.kps x } w) := by
  have hmf : ∀ (fn : Fn) (first cap : Array Value) (w : World), (Instr.makeFunc fn first cap).run Tryz.prog w = .ok (.func fn first cap) w := fun _ _ _ _ => rfl
  obtain ⟨j, hj, hput, hcase⟩ := keep_place p.kps x
  have hbase : base ≤ w.heap.size := Nat.le_trans h.ge (Nat.le_of_lt h.lt)
  obtain ⟨V, hV⟩ : ∃ V, w.alloc (.cells (kpC x) 47) = V := ⟨_, rfl⟩
  have hw : Whole V w.heap.size 47 (kpC x) := by rw [← hV]; exact Whole.new _ _ _
  have hb : Below w.heap.size w V := by rw [← hV]; exact (Below.refl _ _).alloc (Nat.le_refl _) _
  have H := Lib.hid (h.under hb)
  have HX := Lib.hid hw
  have HS := Lib.hid (Stp.of_below hb hbase)
  have HNB := Lib.hid (own_before h.own.kps (Nat.le_refl _))
  have HPut := Lib.hid hput
  have HBase := Lib.hid hbase
  have HV := Lib.hid hV
  have HCase := Lib.hid hcase
  clear h hbase hw hb hput hV hcase
  go_enter Tryz.func93, Tryz.ntmps93
  go_upto_region 1 with fail
  refine wpV (fun V2 hV2 => ?_)
  obtain rfl : V = V2 := HV.out.symm.trans hV2
  clear HV hV2
  go_wp2_with (refine wpList_load_row (by rfl) 30 _ rfl g (by rfl) 30 _ (0, 0) _ H.out.box Tryz.underlying30 rfl (by kernel_rfl) ?_)
  refine (ids_any p a V).mono ?_
  rintro e w2 ⟨b1, b2, rfl, h1, h2, h3, h4, hb2⟩
  have H2 := Lib.hid (H.out.under hb2)
  have HSq := Lib.hid (kpSeq (l := p.kps) (by omega) h1 h2 h3 h4 H2.out.own.reads.kps)
  have HX2 := Lib.hid (HX.out.under hb2)
  have HS2 := Lib.hid (HS.out.trans (Stp.of_below hb2 (Nat.le_trans HBase.out HS.out.size)))
  clear h1 h2 h3 h4 hb2 H HX HS
  go_wp2_with fail
  refine (place_any 113 b1 b2 120 w.heap.size (p.kps.map Kp.id) (fun n => decide (x.id < n)) w2 (enters_of Tryz.func113 (by kernel_rfl) rfl) (enters_of Tryz.func120 (by kernel_rfl) rfl) HSq.out (by rw [List.length_map]; omega)
    (fun n W hW => keep1_any n x.id _ W ((HX2.out.under hW).cell 0))).mono ?_
  rintro e w3 ⟨rfl, hb3⟩
  have H3 := Lib.hid (H2.out.under hb3)
  have HX3 := Lib.hid (HX2.out.under hb3)
  have HS3 := Lib.hid (HS2.out.trans (Stp.of_below hb3 (Nat.le_trans HBase.out HS2.out.size)))
  clear hb3 H2 HX2 HS2 HSq
  have hHT : Whole w3.drew g 30 (brC p a) ∧ Whole w3.drew w.heap.size 47 (kpC x) := ⟨H3.out.box.under (below_drewB (Below.refl _ w3) 1), HX3.out.under (below_drewB (Below.refl _ w3) 1)⟩
  have HT : Hid ((fun V' => Whole V' g 30 (brC p a) ∧ Whole V' w.heap.size 47 (kpC x)) w3.drew) := Lib.hid hHT
  have HL : Hid (∀ V', (Whole V' g 30 (brC p a) ∧ Whole V' w.heap.size 47 (kpC x)) → V'.cell? ⟨g, 19, none⟩ = some (.slice a.B p.kps.length a.d) ∧ V'.cell? ⟨w.heap.size, 0, none⟩ = some (.int .i64 x.id) ∧ V'.cell? ⟨w.heap.size, 1, none⟩ = some (.int .i64 x.tok) ∧ V'.cell? ⟨w.heap.size, 2, none⟩ = some (.int .i64 x.ver) ∧ V'.cell? ⟨w.heap.size, 3, none⟩ = some (.int .i64 x.zone) ∧ V'.cell? ⟨w.heap.size, 4, none⟩ = some (.int .u8 x.phase) ∧ V'.cell? ⟨w.heap.size, 5, none⟩ = some (.int .i64 x.since) ∧ V'.cell? ⟨w.heap.size, 6, none⟩ = some (.bool x.guard) ∧ V'.cell? ⟨w.heap.size, 7, none⟩ = some (.bool x.done)) := Lib.hid (fun V' h => ⟨h.1.cell 19, h.2.cell 0, h.2.cell 1, h.2.cell 2, h.2.cell 3, h.2.cell 4, h.2.cell 5, h.2.cell 6, h.2.cell 7⟩)
  clear hHT
  rcases HCase.out with ⟨hp, hjl⟩ | ⟨hp, hjl⟩
  · obtain ⟨c0, c1, c2, c3, c4, c5, c6, c7, c8, c9, c10, c11, c12, c13, c14, c15, c16, c17, c18, c19, c20, c21, c22, c23, c24, c25, c26⟩ := cells27 H3.out.box
    rw [hp]
    clear hp
    go_wp2_with fail
    clear c0 c1 c2 c3 c4 c5 c6 c7 c8 c9 c10 c11 c12 c13 c14 c15 c16 c17 c18 c19 c20 c21 c22 c23 c24 c25 c26
    subst hjl
    refine wp_region_T (ls := [11]) (T := (fun V' => Whole V' g 30 (brC p a) ∧ Whole V' w.heap.size 47 (kpC x))) (by kernel_rfl) ?_
    refine takeP (i := 0) (v := ?_) rfl (by kernel_rfl) (by kernel_rfl) (by kernel_rfl) (by kernel_rfl) (fun _ _ _ h => h) (by rfl) ?_ (fun _ => HT.out) ?_
    rotate_left
    · intro V'; go_simp <;> with_reducible rfl
    simp only [Act.put, List.setIfInBounds_toArray, List.set_cons_zero, List.set_cons_succ]
    refine takeP (i := 1) (v := ?_) rfl (by kernel_rfl) (by kernel_rfl) (by kernel_rfl) (by kernel_rfl) (fun _ _ _ h => h) (by rfl) ?_ (fun _ => HT.out) ?_
    rotate_left
    · intro V'; go_simp <;> with_reducible rfl
    simp only [Act.put, List.setIfInBounds_toArray, List.set_cons_zero, List.set_cons_succ]
    refine takeP (i := 2) (v := ?_) rfl (by kernel_rfl) (by kernel_rfl) (by kernel_rfl) (by kernel_rfl) (fun _ _ _ h => h) (by rfl) ?_ (fun _ => HT.out) ?_
    rotate_left
    · intro V'; go_simp <;> with_reducible rfl
    simp only [Act.put, List.setIfInBounds_toArray, List.set_cons_zero, List.set_cons_succ]
    refine takeP (i := 3) (v := ?_) rfl (by kernel_rfl) (by kernel_rfl) (by kernel_rfl) (by kernel_rfl) (fun _ _ _ h => h) (by rfl) ?_ (fun _ => HT.out) ?_
    rotate_left
    · intro V'; go_simp <;> with_reducible rfl
    simp only [Act.put, List.setIfInBounds_toArray, List.set_cons_zero, List.set_cons_succ]
    refine takeT (i := 4) (v := ?_) rfl (by kernel_rfl) (by kernel_rfl) (by kernel_rfl) (by kernel_rfl) (fun _ _ _ h => h) (by rfl) ?_ HT.out ?_
    rotate_left
    · intro V' hV; obtain ⟨d19, d0, d1, d2, d3, d4, d5, d6, d7⟩ := HL.out V' hV; go_simp <;> with_reducible rfl
    simp only [Act.put, List.setIfInBounds_toArray, List.set_cons_zero, List.set_cons_succ]
    refine takeP (i := 5) (v := ?_) rfl (by kernel_rfl) (by kernel_rfl) (by kernel_rfl) (by kernel_rfl) (fun _ _ _ h => h) (by rfl) ?_ (fun _ => HT.out) ?_
    rotate_left
    · intro V'; go_simp <;> with_reducible rfl
    simp only [Act.put, List.setIfInBounds_toArray, List.set_cons_zero, List.set_cons_succ]
    refine takeT (i := 6) (v := ?_) rfl (by kernel_rfl) (by kernel_rfl) (by kernel_rfl) (by kernel_rfl) (fun _ _ _ h => h) (by rfl) ?_ HT.out ?_
    rotate_left
    · intro V' hV; obtain ⟨d19, d0, d1, d2, d3, d4, d5, d6, d7⟩ := HL.out V' hV; go_simp <;> with_reducible rfl
    simp only [Act.put, List.setIfInBounds_toArray, List.set_cons_zero, List.set_cons_succ]
    obtain ⟨V3, hV3⟩ : ∃ W, w3.drew.alloc (.cells #[.int .i64 x.id, .int .i64 x.tok, .int .i64 x.ver, .int .i64 x.zone, .int .u8 x.phase, .int .i64 x.since, .bool x.guard, .bool x.done] 47) = W := ⟨_, rfl⟩
    have b3 : Below w3.heap.size w3 V3 := by rw [← hV3]; exact (below_drewB (Below.refl _ w3) 1).alloc (Nat.le_refl _) _
    have x3 : Whole V3 w3.heap.size 47 (kpC x) := by rw [← hV3]; exact Whole.new _ _ _
    have H4 := Lib.hid (H3.out.under b3)
    have HX4 := Lib.hid (HX3.out.under b3)
    have HNew := Lib.hid (show (Value.slice a.B p.kps.length a.d).ownBlock ≠ some w3.heap.size from own_before H3.out.own.kps (Nat.le_refl _))
    have HS4 := Lib.hid (HS3.out.trans (Stp.of_below b3 (Nat.le_trans HBase.out HS3.out.size)))
    have HL4 := Lib.hid x3
    clear b3 x3
    refine oneT (i := 7) rfl (by kernel_rfl) (by rfl) (fun K hK => ?_)
    go_simp
    clear hV3
    refine hK.out _ _ (fun _ => ⟨H4.out.box, HX4.out⟩) ?_
    clear hK K
    refine oneT (i := 8) rfl (by kernel_rfl) (by rfl) (fun K hK => ?_)
    go_simp
    refine (insK_any a.B p.kps.length a.d p.kps.length p.kps x w3.heap.size base V3 H4.out.own.kps rfl HL4.out HNew.out (Nat.le_refl _) (by omega) (Nat.le_trans HBase.out HS4.out.size)).mono ?_
    rintro e w5 ⟨A', c', rfl, ho, hg⟩
    rw [HPut.out] at ho
    have hln : p.kps.length + 1 = (putK p.kps x).length := by rw [putK_len]
    rw [hln] at ho
    have HG := Lib.hid hg
    have HO := Lib.hid ho
    have HT5 := Lib.hid (And.intro (H4.out.box.grown hg (Ne.symm (own_apart_F (by decide) H4.out.own.kps H4.out.box))) (HX4.out.grown hg (Ne.symm HNB.out)))
    have HS5 := Lib.hid (HS4.out.trans (Stp.own H4.out.own.kps (by decide) (Nat.le_trans HBase.out HS4.out.size) hg))
    have HLn := Lib.hid hln
    clear ho hg hln
    refine hK.out _ _ (fun _ => HT5.out) ?_
    clear hK K
    clear HT
    have HT := HT5
    refine oneT (i := 9) rfl (by kernel_rfl) (by rfl) (fun K hK => ?_)
    go_simp
    refine hK.out _ _ (fun _ => HT.out) ?_
    clear hK K
    refine oneT (i := 10) rfl (by kernel_rfl) (by rfl) (fun K hK => ?_)
    go_simp
    refine hK.out _ _ (fun _ => HT.out) ?_
    clear hK K
    have f19 := HT5.out.1.frozen 19
    have z19 := HT5.out.1.cell 19
    simp only [List.getElem?_toArray, List.getElem?_cons_zero, List.getElem?_cons_succ] at z19
    refine oneL (i := 11) (by kernel_rfl) rfl (by kernel_rfl) (by rfl) (fun K hK => ?_)
    go_simp
    refine hK.out _ _ ?_
    clear hK K
    refine doneT (by kernel_rfl) ?_ _
    go_wp2_with fail
    go_end0
    have hfin := H4.out.kps HG.out HO.out
    rw [← HLn.out] at hfin
    exact ⟨rfl, HS5.out.trans (Stp.set HT5.out.1 (by decide) H4.out.ge _ _), _, hfin⟩
  · rw [hp]
    clear hp
    have hjn : decide ((j : Int) < 0) = false := by simp
    go_wp2_with fail
    refine wp_region_T (ls := [11]) (T := (fun V' => Whole V' g 30 (brC p a) ∧ Whole V' w.heap.size 47 (kpC x))) (by kernel_rfl) ?_
    refine takeP (i := 0) (v := ?_) rfl (by kernel_rfl) (by kernel_rfl) (by kernel_rfl) (by kernel_rfl) (fun _ _ _ h => h) (by rfl) ?_ (fun _ => HT.out) ?_
    rotate_left
    · intro V'; go_simp <;> with_reducible rfl
    simp only [Act.put, List.setIfInBounds_toArray, List.set_cons_zero, List.set_cons_succ]
    refine takeP (i := 1) (v := ?_) rfl (by kernel_rfl) (by kernel_rfl) (by kernel_rfl) (by kernel_rfl) (fun _ _ _ h => h) (by rfl) ?_ (fun _ => HT.out) ?_
    rotate_left
    · intro V'; go_simp <;> with_reducible rfl
    simp only [Act.put, List.setIfInBounds_toArray, List.set_cons_zero, List.set_cons_succ]
    refine takeP (i := 2) (v := ?_) rfl (by kernel_rfl) (by kernel_rfl) (by kernel_rfl) (by kernel_rfl) (fun _ _ _ h => h) (by rfl) ?_ (fun _ => HT.out) ?_
    rotate_left
    · intro V'; go_simp <;> with_reducible rfl
    simp only [Act.put, List.setIfInBounds_toArray, List.set_cons_zero, List.set_cons_succ]
    refine takeP (i := 3) (v := ?_) rfl (by kernel_rfl) (by kernel_rfl) (by kernel_rfl) (by kernel_rfl) (fun _ _ _ h => h) (by rfl) ?_ (fun _ => HT.out) ?_
    rotate_left
    · intro V'; go_simp <;> with_reducible rfl
    simp only [Act.put, List.setIfInBounds_toArray, List.set_cons_zero, List.set_cons_succ]
    refine takeT (i := 4) (v := ?_) rfl (by kernel_rfl) (by kernel_rfl) (by kernel_rfl) (by kernel_rfl) (fun _ _ _ h => h) (by rfl) ?_ HT.out ?_
    rotate_left
    · intro V' hV; obtain ⟨d19, d0, d1, d2, d3, d4, d5, d6, d7⟩ := HL.out V' hV; go_simp <;> with_reducible rfl
    simp only [Act.put, List.setIfInBounds_toArray, List.set_cons_zero, List.set_cons_succ]
    refine takeP (i := 5) (v := ?_) rfl (by kernel_rfl) (by kernel_rfl) (by kernel_rfl) (by kernel_rfl) (fun _ _ _ h => h) (by rfl) ?_ (fun _ => HT.out) ?_
    rotate_left
    · intro V'; go_simp <;> with_reducible rfl
    simp only [Act.put, List.setIfInBounds_toArray, List.set_cons_zero, List.set_cons_succ]
    refine takeT (i := 6) (v := ?_) rfl (by kernel_rfl) (by kernel_rfl) (by kernel_rfl) (by kernel_rfl) (fun _ _ _ h => h) (by rfl) ?_ HT.out ?_
    rotate_left
    · intro V' hV; obtain ⟨d19, d0, d1, d2, d3, d4, d5, d6, d7⟩ := HL.out V' hV; go_simp <;> with_reducible rfl
    simp only [Act.put, List.setIfInBounds_toArray, List.set_cons_zero, List.set_cons_succ]
    obtain ⟨V3, hV3⟩ : ∃ W, w3.drew.alloc (.cells #[.int .i64 x.id, .int .i64 x.tok, .int .i64 x.ver, .int .i64 x.zone, .int .u8 x.phase, .int .i64 x.since, .bool x.guard, .bool x.done] 47) = W := ⟨_, rfl⟩
    have b3 : Below w3.heap.size w3 V3 := by rw [← hV3]; exact (below_drewB (Below.refl _ w3) 1).alloc (Nat.le_refl _) _
    have x3 : Whole V3 w3.heap.size 47 (kpC x) := by rw [← hV3]; exact Whole.new _ _ _
    have H4 := Lib.hid (H3.out.under b3)
    have HX4 := Lib.hid (HX3.out.under b3)
    have HNew := Lib.hid (show (Value.slice a.B p.kps.length a.d).ownBlock ≠ some w3.heap.size from own_before H3.out.own.kps (Nat.le_refl _))
    have HS4 := Lib.hid (HS3.out.trans (Stp.of_below b3 (Nat.le_trans HBase.out HS3.out.size)))
    have HL4 := Lib.hid x3
    clear b3 x3
    refine oneT (i := 7) rfl (by kernel_rfl) (by rfl) (fun K hK => ?_)
    go_simp
    clear hV3
    refine hK.out _ _ (fun _ => ⟨H4.out.box, HX4.out⟩) ?_
    clear hK K
    refine oneT (i := 8) rfl (by kernel_rfl) (by rfl) (fun K hK => ?_)
    go_simp
    refine (insK_any a.B p.kps.length a.d j p.kps x w3.heap.size base V3 H4.out.own.kps rfl HL4.out HNew.out hj (by omega) (Nat.le_trans HBase.out HS4.out.size)).mono ?_
    rintro e w5 ⟨A', c', rfl, ho, hg⟩
    rw [HPut.out] at ho
    have hln : p.kps.length + 1 = (putK p.kps x).length := by rw [putK_len]
    rw [hln] at ho
    have HG := Lib.hid hg
    have HO := Lib.hid ho
    have HT5 := Lib.hid (And.intro (H4.out.box.grown hg (Ne.symm (own_apart_F (by decide) H4.out.own.kps H4.out.box))) (HX4.out.grown hg (Ne.symm HNB.out)))
    have HS5 := Lib.hid (HS4.out.trans (Stp.own H4.out.own.kps (by decide) (Nat.le_trans HBase.out HS4.out.size) hg))
    have HLn := Lib.hid hln
    clear ho hg hln
    refine hK.out _ _ (fun _ => HT5.out) ?_
    clear hK K
    clear HT
    have HT := HT5
    refine oneT (i := 9) rfl (by kernel_rfl) (by rfl) (fun K hK => ?_)
    go_simp
    refine hK.out _ _ (fun _ => HT.out) ?_
    clear hK K
    refine oneT (i := 10) rfl (by kernel_rfl) (by rfl) (fun K hK => ?_)
    go_simp
    refine hK.out _ _ (fun _ => HT.out) ?_
    clear hK K
    have f19 := HT5.out.1.frozen 19
    have z19 := HT5.out.1.cell 19
    simp only [List.getElem?_toArray, List.getElem?_cons_zero, List.getElem?_cons_succ] at z19
    refine oneL (i := 11) (by kernel_rfl) rfl (by kernel_rfl) (by rfl) (fun K hK => ?_)
    go_simp
    refine hK.out _ _ ?_
    clear hK K
    refine doneT (by kernel_rfl) ?_ _
    go_wp2_with fail
    go_end0
    have hfin := H4.out.kps HG.out HO.out
    rw [← HLn.out] at hfin
    exact ⟨rfl, HS5.out.trans (Stp.set HT5.out.1 (by decide) H4.out.ge _ _), _, hfin⟩

end Go.Proofs.YtdaimejlcfhfiaaGreatDoor

/-
  The walk of 'made' of package brain. Conditions: those that each theorem names.
-/
namespace Go.Proofs.YtdaimejlcfhfiaaGreatDoor
open Go.RowKit Go.Shelf

set_option maxRecDepth 100000 in
theorem cells8 {w : World} {g : Nat} {t : TypeId} {v0 v1 v2 v3 v4 v5 v6 v7 : Value} (h : Whole w g t #[v0, v1, v2, v3, v4, v5, v6, v7]) : w.cell? ⟨g, 0, none⟩ = some v0 ∧ w.cell? ⟨g, 1, none⟩ = some v1 ∧ w.cell? ⟨g, 2, none⟩ = some v2 ∧ w.cell? ⟨g, 3, none⟩ = some v3 ∧ w.cell? ⟨g, 4, none⟩ = some v4 ∧ w.cell? ⟨g, 5, none⟩ = some v5 ∧ w.cell? ⟨g, 6, none⟩ = some v6 ∧ w.cell? ⟨g, 7, none⟩ = some v7 := ⟨h.cell 0, h.cell 1, h.cell 2, h.cell 3, h.cell 4, h.cell 5, h.cell 6, h.cell 7⟩
/-- The brain behind what a launch made. -/
def madeP (p : Br) (t id now : Int) (x : It) : Br :=
  { p with its := dropI t p.its, kps := putK p.kps ⟨id, t, x.ver, x.zone, if x.warm then 9 else 1, now, false, false⟩, rf := if p.rf.st = 1 then { p.rf with fails := 0 } else p.rf }

set_option maxRecDepth 100000 in
set_option maxHeartbeats 4000000 in
theorem made_any (p : Br) (a : Ad) (t id now : Int) (i base g : Nat) (x : It) (w : World) (h : BrIn base g w p a) (hi : p.its.findIdx? (fun x => decide (x.tok = t)) = some i) (hx : p.its[i]? = some x) (hn : p.its.length ≤ 1000) (hk : p.kps.length ≤ 900) :
    Calls Tryz.prog 84 #[.pointer (some ⟨g, 0, none⟩), .int .i64 t, .int .i64 id, .int .i64 now] w (StPost base g (madeP p t id now x) w) := by
  obtain ⟨hfi, hil⟩ := tokenB_some hi
  have hbase : base ≤ w.heap.size := Nat.le_trans h.ge (Nat.le_of_lt h.lt)
  have H := Lib.hid h
  have HF := Lib.hid hfi
  have HD := Lib.hid (dropI_at hi)
  have HBase := Lib.hid hbase
  have HX := Lib.hid hx
  obtain ⟨tok, ver, zone, warm⟩ := x
  clear h hfi hi hbase hx
  go_enter Tryz.func84, Tryz.ntmps84
  go_wp2_with (refine wpList_load_row (by rfl) 30 _ rfl g (by rfl) 30 _ (0, 0) _ H.out.box Tryz.underlying30 rfl (by kernel_rfl) ?_)
  refine (btoken_any p a t w.heap.size w H.out.own.reads (Nat.le_refl _) hn).mono ?_
  rintro e w1 ⟨rfl, hb1⟩
  rw [HF.out]
  have H1 := Lib.hid (H.out.under hb1)
  have HS1 := Lib.hid (Stp.of_below hb1 HBase.out)
  clear hb1 H
  have HB1 := Lib.hid (Nat.le_trans HBase.out HS1.out.size)
  obtain ⟨b, off, hA, hbl, hc⟩ := RdI.at_ H1.out.own.its.read (by omega)
  obtain ⟨x0, x1, x2, x3⟩ := hc i _ HX.out
  have c18 := (cells27 H1.out.box).2.2.2.2.2.2.2.2.2.2.2.2.2.2.2.2.2.2.1
  rw [hA] at c18
  obtain ⟨hbV, v0, v1⟩ := two_new w1 45 47 (itC ⟨tok, ver, zone, warm⟩) (kpC ⟨id, t, ver, zone, 1, now, false, false⟩)
  have hiI : (i : Int) < (p.its.length : Int) := by omega
  have HA := Lib.hid hA
  clear hc hbl hA
  go_upto_region 3 with fail
  obtain ⟨V, hV⟩ : ∃ V, (w1.alloc (.cells (itC ⟨tok, ver, zone, warm⟩) 45)).alloc (.cells (kpC ⟨id, t, ver, zone, 1, now, false, false⟩) 47) = V := ⟨_, rfl⟩
  rw [hV] at hbV v0 v1
  refine wpV (fun V2 hV2 => ?_)
  obtain rfl : V = V2 := hV.symm.trans hV2
  clear hV hV2 x0 x1 x2 x3 c18
  have HV := Lib.hid (H1.out.under hbV)
  have HSV := Lib.hid (HS1.out.trans (Stp.of_below hbV HB1.out))
  have HK := Lib.hid v1
  have HNm := Lib.hid (show ∀ k, w1.heap.size ≤ k → (Value.slice a.C p.cf.ms.length a.e).ownBlock ≠ some k ∧ (Value.slice a.A p.its.length a.c).ownBlock ≠ some k ∧ (Value.slice a.B p.kps.length a.d).ownBlock ≠ some k from fun k hk => ⟨own_before H1.out.own.ms hk, own_before H1.out.own.its hk, own_before H1.out.own.kps hk⟩)
  have HLt := Lib.hid H1.out.lt
  have e3 := v0.cell 3
  simp only [List.getElem?_toArray, List.getElem?_cons_zero, List.getElem?_cons_succ] at e3
  have hwi : IntKind.i64.wrap ((i : Int) + 1) = (i : Int) + 1 := by rw [IntKind.wrap_i64]; omega
  clear hbV v0 v1
  cases warm with
  | false =>
    obtain ⟨c0, c1, c2, c3, c4, c5, c6, c7, c8, c9, c10, c11, c12, c13, c14, c15, c16, c17, c18, c19, c20, c21, c22, c23, c24, c25, c26⟩ := cells27 HV.out.box
    go_wp2_with fail
    refine (delI_any a.A p.its.length a.c i p.its base V HV.out.own.its rfl hil hn).mono ?_
    rintro e w3 ⟨rfl, ho, hg⟩
    rw [HD.out] at ho
    have hln : (dropI t p.its).length = p.its.length - 1 := by
      rw [← HD.out, List.length_append, List.length_take, List.length_drop]; omega
    have hbx := HV.out.box.grown hg (Ne.symm (own_apart_F (by decide) HV.out.own.its HV.out.box))
    have hkx := HK.out.grown hg (Ne.symm (HNm.out (w1.heap.size + 1) (Nat.le_succ _)).2.1)
    have f18 := hbx.frozen 18
    have z18 := hbx.cell 18
    simp only [List.getElem?_toArray, List.getElem?_cons_zero, List.getElem?_cons_succ] at z18
    have h4 := HV.out.its hg (l := dropI t p.its) (A' := a.A) (c' := a.c) (by rw [hln]; exact ho)
    rw [hln] at h4
    have k4 := (Only.set w3 g 18 (.slice a.A (p.its.length - 1) a.c)).far hkx (by have := HLt.out; omega)
    have s4 := (HSV.out.trans (Stp.own HV.out.own.its (by decide) (Nat.le_trans HBase.out HSV.out.size) hg)).trans (Stp.set hbx (by decide) HV.out.ge 18 (.slice a.A (p.its.length - 1) a.c))
    clear c0 c1 c2 c3 c4 c5 c6 c7 c8 c9 c10 c11 c12 c13 c14 c15 c16 c17 c18 c19 c20 c21 c22 c23 c24 c25 c26 ho hg hln hbx hkx e3
    go_upto_region 6 with fail
    obtain ⟨W4, hW4⟩ : ∃ W4, w3.setCell ⟨g, 18, none⟩ (.slice a.A (p.its.length - 1) a.c) = W4 := ⟨_, rfl⟩
    rw [hW4] at h4 k4 s4
    refine wpV (fun W5 hW5 => ?_)
    obtain rfl : W4 = W5 := hW4.symm.trans hW5
    clear hW4 hW5 f18 z18
    obtain ⟨d0, d1, d2, d3, d4, d5, d6, d7⟩ := cells8 k4
    have H4 := Lib.hid h4
    have HS4 := Lib.hid s4
    clear h4 s4 k4
    go_wp2_with fail
    refine (keepP_any _ _ (⟨id, t, ver, zone, 1, now, false, false⟩ : Kp) base g W4 H4.out hk).mono ?_
    rintro e w6 ⟨rfl, hs6, a6, h6⟩
    have hs := HS4.out.trans hs6
    have HS6 := Lib.hid hs
    have H6 := Lib.hid h6
    obtain ⟨c0, c1, c2, c3, c4, c5, c6, c7, c8, c9, c10, c11, c12, c13, c14, c15, c16, c17, c18, c19, c20, c21, c22, c23, c24, c25, c26⟩ := cells27 h6.box
    clear h6 hs hs6 d0 d1 d2 d3 d4 d5 d6 d7 c0 c1 c2 c3 c4 c5 c6 c7 c8 c9 c10 c11 c12 c13 c14 c15 c16 c17 c18 c19 c21 c22 c23 c24 c25
    by_cases hst : p.rf.st = 1
    · have hst' : (p.rf.st == 1) = true := by simp [hst]
      have f26 := H6.out.box.frozen 26
      have hp := H6.out.set (p' := madeP p t id now ⟨tok, ver, zone, false⟩) 26 (.int .i64 0) (by simp [madeP, hst]) rfl rfl rfl
      have HP := Lib.hid hp
      clear hp hst
      go_wp2_with fail
      go_end0
      exact ⟨rfl, HS6.out.trans (Stp.set H6.out.box (by decide) H6.out.ge _ _), _, HP.out⟩
    · have hst' : (p.rf.st == 1) = false := by simp [hst]
      have HP := Lib.hid (show BrIn base g w6 (madeP p t id now ⟨tok, ver, zone, false⟩) a6 from by
        have := H6.out
        simp only [madeP, hst, if_false]
        exact this)
      clear hst
      go_wp2_with fail
      go_end0
      exact ⟨rfl, HS6.out, _, HP.out⟩
  | true =>
    have f4 := HK.out.frozen 4
    have z4 := HK.out.cell 4
    simp only [List.getElem?_toArray, List.getElem?_cons_zero, List.getElem?_cons_succ] at z4
    have hN := HNm.out (w1.heap.size + 1) (Nat.le_succ _)
    have h2 := HV.out.far (b := w1.heap.size + 1) (by have := HLt.out; omega) hN.1 hN.2.1 hN.2.2 4 (.int .u8 9)
    have k2 : Whole (V.setCell ⟨w1.heap.size + 1, 4, none⟩ (.int .u8 9)) (w1.heap.size + 1) 47 (kpC ⟨id, t, ver, zone, 9, now, false, false⟩) := HK.out.set 4 (.int .u8 9)
    have s2 := HSV.out.trans (Stp.set HK.out (by decide) (Nat.le_succ_of_le HB1.out) 4 (.int .u8 9))
    go_upto_region 5 with fail
    obtain ⟨V2, hV2⟩ : ∃ V2, V.setCell ⟨w1.heap.size + 1, 4, none⟩ (.int .u8 9) = V2 := ⟨_, rfl⟩
    rw [hV2] at h2 k2 s2
    refine wpV (fun V3 hV3 => ?_)
    obtain rfl : V2 = V3 := hV2.symm.trans hV3
    clear hV2 hV3 f4 z4 hN e3
    have HV2 := Lib.hid h2
    have HK2 := Lib.hid k2
    have HSV2 := Lib.hid s2
    clear h2 k2 s2
    obtain ⟨c0, c1, c2, c3, c4, c5, c6, c7, c8, c9, c10, c11, c12, c13, c14, c15, c16, c17, c18, c19, c20, c21, c22, c23, c24, c25, c26⟩ := cells27 HV2.out.box
    go_wp2_with fail
    refine (delI_any a.A p.its.length a.c i p.its base V2 HV2.out.own.its rfl hil hn).mono ?_
    rintro e w3 ⟨rfl, ho, hg⟩
    rw [HD.out] at ho
    have hln : (dropI t p.its).length = p.its.length - 1 := by
      rw [← HD.out, List.length_append, List.length_take, List.length_drop]; omega
    have hbx := HV2.out.box.grown hg (Ne.symm (own_apart_F (by decide) HV2.out.own.its HV2.out.box))
    have hkx := HK2.out.grown hg (Ne.symm (HNm.out (w1.heap.size + 1) (Nat.le_succ _)).2.1)
    have f18 := hbx.frozen 18
    have z18 := hbx.cell 18
    simp only [List.getElem?_toArray, List.getElem?_cons_zero, List.getElem?_cons_succ] at z18
    have h4 := HV2.out.its hg (l := dropI t p.its) (A' := a.A) (c' := a.c) (by rw [hln]; exact ho)
    rw [hln] at h4
    have k4 := (Only.set w3 g 18 (.slice a.A (p.its.length - 1) a.c)).far hkx (by have := HLt.out; omega)
    have s4 := (HSV2.out.trans (Stp.own HV2.out.own.its (by decide) (Nat.le_trans HBase.out HSV2.out.size) hg)).trans (Stp.set hbx (by decide) HV2.out.ge 18 (.slice a.A (p.its.length - 1) a.c))
    clear c0 c1 c2 c3 c4 c5 c6 c7 c8 c9 c10 c11 c12 c13 c14 c15 c16 c17 c18 c19 c20 c21 c22 c23 c24 c25 c26 ho hg hln hbx hkx
    go_upto_region 6 with fail
    obtain ⟨W4, hW4⟩ : ∃ W4, w3.setCell ⟨g, 18, none⟩ (.slice a.A (p.its.length - 1) a.c) = W4 := ⟨_, rfl⟩
    rw [hW4] at h4 k4 s4
    refine wpV (fun W5 hW5 => ?_)
    obtain rfl : W4 = W5 := hW4.symm.trans hW5
    clear hW4 hW5 f18 z18
    obtain ⟨d0, d1, d2, d3, d4, d5, d6, d7⟩ := cells8 k4
    have H4 := Lib.hid h4
    have HS4 := Lib.hid s4
    clear h4 s4 k4
    go_wp2_with fail
    refine (keepP_any _ _ (⟨id, t, ver, zone, 9, now, false, false⟩ : Kp) base g W4 H4.out hk).mono ?_
    rintro e w6 ⟨rfl, hs6, a6, h6⟩
    have hs := HS4.out.trans hs6
    have HS6 := Lib.hid hs
    have H6 := Lib.hid h6
    obtain ⟨c0, c1, c2, c3, c4, c5, c6, c7, c8, c9, c10, c11, c12, c13, c14, c15, c16, c17, c18, c19, c20, c21, c22, c23, c24, c25, c26⟩ := cells27 h6.box
    clear h6 hs hs6 d0 d1 d2 d3 d4 d5 d6 d7 c0 c1 c2 c3 c4 c5 c6 c7 c8 c9 c10 c11 c12 c13 c14 c15 c16 c17 c18 c19 c21 c22 c23 c24 c25
    by_cases hst : p.rf.st = 1
    · have hst' : (p.rf.st == 1) = true := by simp [hst]
      have f26 := H6.out.box.frozen 26
      have hp := H6.out.set (p' := madeP p t id now ⟨tok, ver, zone, true⟩) 26 (.int .i64 0) (by simp [madeP, hst]) rfl rfl rfl
      have HP := Lib.hid hp
      clear hp hst
      go_wp2_with fail
      go_end0
      exact ⟨rfl, HS6.out.trans (Stp.set H6.out.box (by decide) H6.out.ge _ _), _, HP.out⟩
    · have hst' : (p.rf.st == 1) = false := by simp [hst]
      have HP := Lib.hid (show BrIn base g w6 (madeP p t id now ⟨tok, ver, zone, true⟩) a6 from by
        have := H6.out
        simp only [madeP, hst, if_false]
        exact this)
      clear hst
      go_wp2_with fail
      go_end0
      exact ⟨rfl, HS6.out, _, HP.out⟩

end Go.Proofs.YtdaimejlcfhfiaaGreatDoor

/-
  The walk of 'Row' of package conf. Conditions: those that each theorem names.
-/
namespace Go.Proofs.YtdaimejlcfhfiaaGreatDoor
open Go.RowKit Go.Shelf
attribute [local go_sem] Oper.semAt_some

/-- The first k numbers, noughts behind. -/
def rowTo (x : Cf) (cap k : Nat) : Array Value := ((x.fs.take k ++ List.replicate (cap - k) 0).map (Value.int .i64)).toArray
set_option maxRecDepth 100000 in
theorem rowTo_step (x : Cf) {cap k : Nat} (hk : k < 13) (hc : 13 ≤ cap) : (rowTo x cap k).setIfInBounds k (.int .i64 (x.at k)) = rowTo x cap (k + 1) := by
  have h1 : (x.fs.take k).length = k := by rw [List.length_take, Cf.fs_len]; omega
  have h2 : cap - k = (cap - (k + 1)) + 1 := by omega
  have h3 : x.fs.take (k + 1) = x.fs.take k ++ [x.at k] := by
    have hl : k < x.fs.length := by rw [Cf.fs_len]; exact hk
    rw [List.take_succ_eq_append_getElem hl]
    unfold Cf.at
    rw [List.getD_eq_getElem?_getD, List.getElem?_eq_getElem hl]
    rfl
  unfold rowTo
  rw [h2, List.replicate_succ, h3]
  simp only [List.setIfInBounds_toArray, List.map_append, List.map_cons, List.append_assoc, List.map_nil]
  rw [List.set_append_right _ _ (by rw [List.length_map, h1]; exact Nat.le_refl _), List.length_map, h1, Nat.sub_self, List.set_cons_zero]
  rfl
set_option maxRecDepth 100000 in
theorem rowTo_cell (x : Cf) {cap k : Nat} (hk : k < 13) (hc : 13 ≤ cap) : (rowTo x cap k)[k]? = some (.int .i64 0) := by
  have h1 : (x.fs.take k).length = k := by rw [List.length_take, Cf.fs_len]; omega
  have h2 : cap - k = (cap - (k + 1)) + 1 := by omega
  unfold rowTo
  rw [h2, List.replicate_succ, List.getElem?_toArray, List.getElem?_map, List.getElem?_append_right (by omega), h1, Nat.sub_self]
  rfl
set_option maxRecDepth 100000 in
theorem rowTo_size (x : Cf) {cap k : Nat} (hk : k ≤ 13) (hc : 13 ≤ cap) : (rowTo x cap k).size = cap := by
  unfold rowTo
  simp [Cf.fs]
  omega
set_option maxRecDepth 100000 in
theorem rowTo_none (x : Cf) (cap : Nat) : rowTo x cap 0 = Array.replicate cap (.int .i64 0) := by
  unfold rowTo
  simp
set_option maxRecDepth 100000 in
/-- With Skip stored behind them. -/
theorem rowTo_skip (x : Cf) (n : Nat) : ((rowTo x (14 + n) 13).setIfInBounds 13 (.int .i64 1)).toList.take 14 = iv (x.fs ++ [1]) ∧ (rowTo x (14 + n) 13).toList.take 14 = iv (x.fs ++ [0]) ∧ (rowTo x (14 + n) 13)[13]? = some (.int .i64 0) := by
  have h2 : 14 + n - 13 = n + 1 := by omega
  unfold rowTo
  rw [h2, List.replicate_succ]
  simp [Cf.fs, iv]

set_option maxRecDepth 100000 in
theorem run_make14 (w : World) (n : Nat) (hn : n ≤ 1000) : (Instr.makeSlice 22 (.int .i64 14) (.int .i64 (14 + (n : Int)))).run Tryz.prog w = .ok (.slice (some ⟨w.heap.size, 0, none⟩) 14 (14 + n)) (w.alloc (.cells (Array.replicate (14 + n) (.int .i64 0)) 3)) := by
  obtain ⟨i0, hi, hz0, hz1, hz2⟩ := info_parts info_int
  have h := run_make (P := Tryz.prog) w 22 3 i0 _ Tryz.underlying22 hi hz0 .i64 .i64 14 (14 + (n : Int)) (by omega) (by omega) (by rw [hz2]; omega) (by omega)
  have e1 : (14 + (n : Int)).toNat * i0.size = 14 + n := by rw [hz1]; omega
  have e2 : (14 + (n : Int)).toNat = 14 + n := by omega
  rw [h, e1, e2]
  have e3 : ∀ m, madeCells (Value.int .i64 0).cells m = Array.replicate m (.int .i64 0) := fun m => by
    unfold madeCells
    refine Array.ext (by simp) fun i h1 h2 => ?_
    simp [Value.cells, Nat.mod_one]
  rw [e3]
  rfl

/-- What holds between two rounds. -/
structure RowAt (x : Cf) (w : World) (L : Nat) (pre : List Nat) (W : World) : Prop where
  box : Whole W w.heap.size 24 x.cells
  lbox : Whole W (L + 1) 22 #[.slice (some ⟨L, 0, none⟩) 14 (14 + x.n)]
  row : Whole W L 3 (rowTo x (14 + x.n) pre.length)
  below : Below w.heap.size w W

set_option maxRecDepth 100000 in
theorem rowAt_own (x : Cf) (w : World) (L B : Nat) (hB : w.heap.size ≤ B) : OwnFrom B (RowAt x w L) := by
  intro pre W1 W2 row h hg hr
  have hr' : ∀ r, row = some r → ∃ o : Obj, W1.heap[r]? = some o ∧ o.isCells = false := fun r e => (hr r e).2
  exact ⟨h.box.turn hg hr', h.lbox.turn hg hr', h.row.turn hg hr', h.below.grown hg h.below.size (fun k e => by have := (hr k e).1; omega)⟩

set_option maxRecDepth 100000 in
/-- The marks put behind the numbers and Skip. -/
theorem row_app (x : Cf) (w W : World) (L : Nat) (cells : Array Value) (s : Int) (hw : Whole W L 3 cells) (hsz : cells.size = 14 + x.n) (ht : cells.toList.take 14 = iv (x.fs ++ [s])) (hL : w.heap.size ≤ L) (hn : x.n ≤ 1000) (hx : Lies x W w.heap.size) (hb : Below w.heap.size w W) :
    ∃ A c W3, (Builtin.append_ #[22, 22] 22 #[.slice (some ⟨L, 0, none⟩) 14 (14 + x.n), .slice x.A x.n x.c]).run Tryz.prog W = .ok (.slice A (14 + x.n) c) W3 ∧
      W3.ownsRow w.heap.size 3 1 (.slice A (14 + x.n) c) (14 + x.n) (iv (x.fs ++ s :: x.ms)) ∧ Below w.heap.size w W3 ∧ KeepsOthers W W3 := by
  have hown : W.ownsRow w.heap.size 3 1 (.slice (some ⟨L, 0, none⟩) 14 (14 + x.n)) 14 (iv (x.fs ++ [s])) :=
    ⟨by simp [iv, Cf.fs], .inr ⟨L, 14 + x.n, cells, rfl, hL, hw, by omega, by unfold maxLen; omega, by omega, by rw [Nat.mul_one]; exact ht⟩⟩
  obtain ⟨v, W3, r, o3, g⟩ := run_appI W w.heap.size _ 14 _ hown w.heap.size x.A x.n x.c x.ms hx.rd (by omega) hb.size
  obtain ⟨A, c, rfl⟩ := own_form o3
  refine ⟨A, c, W3, r, ?_, hb.trans (below_row hown g hb.size), keeps_row hown g⟩
  have e : iv (x.fs ++ [s]) ++ iv x.ms = iv (x.fs ++ s :: x.ms) := by simp [iv]
  rw [← e]
  exact o3

def RowIs (x : Cf) (w : World) (e : Ending) (w' : World) : Prop :=
  ∃ A n c, e = .returned (.tuple #[.slice A n c, .int .i64 (er (may x))]) ∧ w'.ownsRow w.heap.size 3 1 (.slice A n c) n (iv (if may x = true then rowOf x else [])) ∧ Below w.heap.size w w'

end Go.Proofs.YtdaimejlcfhfiaaGreatDoor
