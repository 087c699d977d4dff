/-
  Texts that the walk of a statement over brains leans on, joined (BrRefresh). Conditions: those that each theorem names.
-/
import Derived.Test.YtplejbgecihnpaaDoorK13

namespace Go.Proofs.YtplejbgecihnpaaDoor
open Go.RowKit Go.Shelf

set_option maxRecDepth 100000 in
theorem stp_row {base g : Nat} {W : World} {cs cs' : Array Value} (h : Whole W g 30 cs) (hs : cs'.size = cs.size) (hg : base ≤ g) : Stp base W (W.setRow g cs') := by
  refine ⟨below_rowsetB (Below.refl _ _) hg _, fun i o ho hst => ?_, fun i cs1 hi => ?_⟩
  · by_cases e : i = g
    · subst e
      unfold Whole at h
      rw [h] at ho
      cases ho
      simp [stayO, mutT] at hst
    · exact (setRow_other W _ i _ e).trans ho
  · by_cases e : i = g
    · subst e
      unfold Whole at hi
      have h2 := h
      unfold Whole at h2
      rw [h2] at hi
      cases hi
      exact ⟨_, setRow_heap _ _ _ _ _ _ h, hs⟩
    · exact ⟨cs1, (setRow_other W _ i _ e).trans hi, rfl⟩
set_option maxRecDepth 100000 in
theorem Rz.setRf {base : Nat} {w W : World} {p : Br} {a : Ad} (h : Rz base w p a W) (r : Rf) : Rz base w { p with rf := r } a (W.setRow w.heap.size ((brC p a).toList.take 20 ++ (Rf.cells r).toList ++ (brC p a).toList.drop (20 + (Rf.cells r).size)).toArray) := by
  have e : ((brC p a).toList.take 20 ++ (Rf.cells r).toList ++ (brC p a).toList.drop (20 + (Rf.cells r).size)).toArray = brC { p with rf := r } a := rfl
  rw [e]
  have ho := h.in_.own.rowset h.in_.box (by decide) (by decide) (by decide) (brC { p with rf := r } a)
  exact ⟨⟨setRow_heap _ _ _ _ _ _ h.in_.box, ⟨ho.ms, ho.its, ho.kps⟩, h.in_.ge⟩, (setRow_other W _ _ _ (by omega)).trans h.res, h.stp.trans (stp_row h.in_.box rfl h.in_.ge)⟩
/-- What it does. -/
def rfrB (p : Br) (k x0 x1 : Int) : Br := if k = 11 then startB p x0 x1 else if p.rf.st = 1 then refB p k x0 else p

set_option maxRecDepth 100000 in
set_option maxHeartbeats 4000000 in
theorem rrefresh_any (p : Br) (a : Ad) (k : Nat) (A : Option Addr) (n c : Nat) (l : List Int) (base : Nat) (w : World) (hw : OwB base w p a) (hbase : base ≤ w.heap.size) (hl : Rd w w.heap.size A n (iv l)) (hn : manyB (k : Int) = (n : Int)) (hk : k = 5 ∨ k = 11 ∨ k = 12 ∨ k = 13 ∨ k = 14 ∨ k = 15 ∨ k = 16) :
    Calls Tryd.prog 44 #[brV p a, .int .u8 (k : Int), .slice A n c] w (StV base (rfrB p (k : Int) (l.getD 0 0) (l.getD 1 0)) w) := by
  obtain ⟨hb0, w0, w1⟩ := two_new w 30 30 (brC p a) (brC br0 ad0)
  obtain ⟨V, hV⟩ : ∃ V, (w.alloc (.cells (brC p a) 30)).alloc (.cells (brC br0 ad0) 30) = V := ⟨_, rfl⟩
  rw [hV] at hb0 w0 w1
  have HV := Lib.hid hV
  have HR := Lib.hid (show Rz base w p a V from ⟨⟨w0, hw.under hb0, hbase⟩, w1, Stp.of_below hb0 hbase⟩)
  have HLs := Lib.hid (hl.below hb0)
  obtain ⟨x0, hx0⟩ : ∃ x0, l.getD 0 0 = x0 := ⟨_, rfl⟩
  obtain ⟨x1, hx1⟩ : ∃ x1, l.getD 1 0 = x1 := ⟨_, rfl⟩
  rw [hx0, hx1]
  have HX0 := Lib.hid hx0
  have HX1 := Lib.hid hx1
  clear hV hb0 w0 w1 hw hbase hl hx0 hx1
  have c20 := HR.out.in_.box.cell 20
  simp only [List.getElem?_toArray, List.getElem?_cons_zero, List.getElem?_cons_succ] at c20
  by_cases k11 : k = 11
  · have hq : rfrB p (k : Int) x0 x1 = startB p x0 x1 := by unfold rfrB; rw [if_pos (by omega)]
    rw [hq]
    have hn2 : n = 2 := by rw [k11] at hn; unfold manyB at hn; simp at hn; omega
    subst hn2
    obtain ⟨b, off, rfl, hbl, hc⟩ := HLs.out.2 (by omega)
    have y0 : V.cell? ⟨b, off, none⟩ = some (.int .i64 x0) := by
      obtain ⟨b', off', e, _, h⟩ := at_of (k := 0) HLs.out (by omega)
      injection e with e; injection e with e1 e2; subst e1; subst e2
      rw [HX0.out] at h; exact h
    have y1 : V.cell? ⟨b, off + 1, none⟩ = some (.int .i64 x1) := by
      obtain ⟨b', off', e, _, h⟩ := at_of (k := 1) HLs.out (by omega)
      injection e with e; injection e with e1 e2; subst e1; subst e2
      rw [HX1.out] at h; exact h
    have HBl := Lib.hid (Nat.lt_trans hbl HR.out.in_.lt)
    have Y0 := Lib.hid y0
    have Y1 := Lib.hid y1
    have c2 := HR.out.in_.box.cell 2
    simp only [List.getElem?_toArray, List.getElem?_cons_zero, List.getElem?_cons_succ] at c2
    have e11 : ((k : Int) == 11) = true := by simp; omega
    clear hn hq hbl hc hk k11
    by_cases hgo : p.set = true ∧ ¬ p.rf.st = 1 ∧ 1 ≤ x0
    · rw [show startB p x0 x1 = { p with rf := ⟨1, p.cf.f12, x0, 0, false, x1, 0⟩ } by unfold startB; rw [if_pos hgo]]
      rw [hgo.1] at c2
      have d1 : (p.rf.st == 1) = false := by simpa using hgo.2.1
      have d2 : decide (1 ≤ x0) = true := by simpa using hgo.2.2
      clear hgo
      go_enter Tryd.func44, Tryd.ntmps44
      go_upto_region 1 with fail
      refine wpV (fun V2 hV2 => ?_)
      obtain rfl : V = V2 := HV.out.symm.trans hV2
      clear HV hV2
      go_upto_region 4 with fail
      clear y0 y1 c2 d1 d2 c20
      have HL : Hid (∀ V', Below V.heap.size V V' → V'.cell? ⟨w.heap.size, 15, none⟩ = some (.int .i64 p.cf.f12) ∧ V'.cell? ⟨b, off, none⟩ = some (.int .i64 x0) ∧ V'.cell? ⟨b, off + 1, none⟩ = some (.int .i64 x1)) := Lib.hid (fun V' hV => ⟨(HR.out.in_.box.under hV).cell 15, (hV.cell (p := ⟨b, off, none⟩) HBl.out).trans Y0.out, (hV.cell (p := ⟨b, off + 1, none⟩) HBl.out).trans Y1.out⟩)
      have HBd := Lib.hid (show Below V.heap.size V V.drew from below_drewB (Below.refl _ _) 1)
      refine wp_region_T (ls := [11]) (T := (fun V' => Below V.heap.size V V')) (by kernel_rfl) ?_
      refine takeP (i := 0) (v := ?_) rfl (by kernel_rfl) (by kernel_rfl) (by kernel_rfl) (by kernel_rfl) (fun _ _ _ h => h) (by rfl) ?_ (fun _ => HBd.out) ?_
      rotate_left
      · intro V'; go_simp <;> with_reducible rfl
      simp only [Act.put, List.setIfInBounds_toArray, List.set_cons_zero, List.set_cons_succ]
      refine takeP (i := 1) (v := ?_) rfl (by kernel_rfl) (by kernel_rfl) (by kernel_rfl) (by kernel_rfl) (fun _ _ _ h => h) (by rfl) ?_ (fun _ => HBd.out) ?_
      rotate_left
      · intro V'; go_simp <;> with_reducible rfl
      simp only [Act.put, List.setIfInBounds_toArray, List.set_cons_zero, List.set_cons_succ]
      refine takeT (i := 2) (v := ?_) rfl (by kernel_rfl) (by kernel_rfl) (by kernel_rfl) (by kernel_rfl) (fun _ _ _ h => h) (by rfl) ?_ HBd.out ?_
      rotate_left
      · intro V' hV; obtain ⟨y0, y1, y2⟩ := HL.out V' hV; go_simp <;> with_reducible rfl
      simp only [Act.put, List.setIfInBounds_toArray, List.set_cons_zero, List.set_cons_succ]
      refine takeP (i := 3) (v := ?_) rfl (by kernel_rfl) (by kernel_rfl) (by kernel_rfl) (by kernel_rfl) (fun _ _ _ h => h) (by rfl) ?_ (fun _ => HBd.out) ?_
      rotate_left
      · intro V'; go_simp <;> with_reducible rfl
      simp only [Act.put, List.setIfInBounds_toArray, List.set_cons_zero, List.set_cons_succ]
      refine takeP (i := 4) (v := ?_) rfl (by kernel_rfl) (by kernel_rfl) (by kernel_rfl) (by kernel_rfl) (fun _ _ _ h => h) (by rfl) ?_ (fun _ => HBd.out) ?_
      rotate_left
      · intro V'; go_simp <;> with_reducible rfl
      simp only [Act.put, List.setIfInBounds_toArray, List.set_cons_zero, List.set_cons_succ]
      refine takeT (i := 5) (v := ?_) rfl (by kernel_rfl) (by kernel_rfl) (by kernel_rfl) (by kernel_rfl) (fun _ _ _ h => h) (by rfl) ?_ HBd.out ?_
      rotate_left
      · intro V' hV; obtain ⟨y0, y1, y2⟩ := HL.out V' hV; go_simp <;> with_reducible rfl
      simp only [Act.put, List.setIfInBounds_toArray, List.set_cons_zero, List.set_cons_succ]
      refine takeP (i := 6) (v := ?_) rfl (by kernel_rfl) (by kernel_rfl) (by kernel_rfl) (by kernel_rfl) (fun _ _ _ h => h) (by rfl) ?_ (fun _ => HBd.out) ?_
      rotate_left
      · intro V'; go_simp <;> with_reducible rfl
      simp only [Act.put, List.setIfInBounds_toArray, List.set_cons_zero, List.set_cons_succ]
      refine takeP (i := 7) (v := ?_) rfl (by kernel_rfl) (by kernel_rfl) (by kernel_rfl) (by kernel_rfl) (fun _ _ _ h => h) (by rfl) ?_ (fun _ => HBd.out) ?_
      rotate_left
      · intro V'; go_simp <;> with_reducible rfl
      simp only [Act.put, List.setIfInBounds_toArray, List.set_cons_zero, List.set_cons_succ]
      refine takeT (i := 8) (v := ?_) rfl (by kernel_rfl) (by kernel_rfl) (by kernel_rfl) (by kernel_rfl) (fun _ _ _ h => h) (by rfl) ?_ HBd.out ?_
      rotate_left
      · intro V' hV; obtain ⟨y0, y1, y2⟩ := HL.out V' hV; go_simp <;> with_reducible rfl
      simp only [Act.put, List.setIfInBounds_toArray, List.set_cons_zero, List.set_cons_succ]
      refine takeP (i := 9) (v := ?_) rfl (by kernel_rfl) (by kernel_rfl) (by kernel_rfl) (by kernel_rfl) (fun _ _ _ h => h) (by rfl) ?_ (fun _ => HBd.out) ?_
      rotate_left
      · intro V'; go_simp <;> with_reducible rfl
      simp only [Act.put, List.setIfInBounds_toArray, List.set_cons_zero, List.set_cons_succ]
      refine takeP (i := 10) (v := ?_) rfl (by kernel_rfl) (by kernel_rfl) (by kernel_rfl) (by kernel_rfl) (fun _ _ _ h => h) (by rfl) ?_ (fun _ => HBd.out) ?_
      rotate_left
      · intro V'; go_simp <;> with_reducible rfl
      simp only [Act.put, List.setIfInBounds_toArray, List.set_cons_zero, List.set_cons_succ]
      have HRd := Lib.hid (HR.out.under HBd.out)
      have HX := Lib.hid HRd.out.in_.box
      refine oneL (i := 11) (by kernel_rfl) rfl (by kernel_rfl) (by rfl) (fun K hK => ?_)
      refine wp_store_at 28 _ _ rfl w.heap.size 20 (Rf.cells ⟨1, p.cf.f12, x0, 0, false, x1, 0⟩) (by rfl) (by rfl) 30 _ HX.out (by kernel_rfl) (by simp) (by simp [Value.oneCell']) ?_
      have hE := HRd.out.setRf ⟨1, p.cf.f12, x0, 0, false, x1, 0⟩
      refine hK.out _ _ ?_
      clear hK K
      refine doneT (by kernel_rfl) ?_ _
      simp only [Act.put]
      go_upto_region 5 with fail
      refine wpV (fun V3 hV3 => ?_)
      rw [hV3] at hE
      have HE := Lib.hid hE
      clear hE hV3 HL HBd HRd HX HR Y0 Y1 HBl
      go_wp2_with (first | (refine wpList_loadB (by rfl) _ rfl w.heap.size { p with rf := ⟨1, p.cf.f12, x0, 0, false, x1, 0⟩ } a (by rfl) HE.out.in_.box ?_) | (refine wpList_storeB rfl _ _ rfl (w.heap.size + 1) { p with rf := ⟨1, p.cf.f12, x0, 0, false, x1, 0⟩ } a _ (by rfl) (by rfl) (by rfl) HE.out.res ?_; intro W9 hW9))
      obtain ⟨t1, t2, t3⟩ := HE.out.tell hW9
      subst hW9
      exact brain_end (k := 6) rfl (by rfl) t1 rfl ⟨a, rfl, t2, t3⟩
    · rw [show startB p x0 x1 = p by unfold startB; rw [if_neg hgo]]
      cases hs : p.set with
      | false =>
        rw [hs] at c2
        clear hs hgo
        go_enter Tryd.func44, Tryd.ntmps44
        go_upto_region 1 with fail
        refine wpV (fun V2 hV2 => ?_)
        obtain rfl : V = V2 := HV.out.symm.trans hV2
        clear HV hV2
        go_wp2_with (first | (refine wpList_loadB (by rfl) _ rfl w.heap.size p a (by rfl) HR.out.in_.box ?_) | (refine wpList_storeB rfl _ _ rfl (w.heap.size + 1) p a _ (by rfl) (by rfl) (by rfl) HR.out.res ?_; intro W9 hW9))
        obtain ⟨t1, t2, t3⟩ := HR.out.tell hW9
        subst hW9
        exact brain_end (k := 6) rfl (by rfl) t1 rfl ⟨a, rfl, t2, t3⟩
      | true =>
        rw [hs] at c2
        by_cases h1 : p.rf.st = 1
        · have d1 : (p.rf.st == 1) = true := by simpa using h1
          clear hs hgo h1
          go_enter Tryd.func44, Tryd.ntmps44
          go_upto_region 1 with fail
          refine wpV (fun V2 hV2 => ?_)
          obtain rfl : V = V2 := HV.out.symm.trans hV2
          clear HV hV2
          go_wp2_with (first | (refine wpList_loadB (by rfl) _ rfl w.heap.size p a (by rfl) HR.out.in_.box ?_) | (refine wpList_storeB rfl _ _ rfl (w.heap.size + 1) p a _ (by rfl) (by rfl) (by rfl) HR.out.res ?_; intro W9 hW9))
          obtain ⟨t1, t2, t3⟩ := HR.out.tell hW9
          subst hW9
          exact brain_end (k := 6) rfl (by rfl) t1 rfl ⟨a, rfl, t2, t3⟩
        · have d1 : (p.rf.st == 1) = false := by simpa using h1
          have d2 : decide (1 ≤ x0) = false := by
            simp only [decide_eq_false_iff_not]
            intro h
            exact hgo ⟨hs, h1, h⟩
          clear hs hgo h1
          go_enter Tryd.func44, Tryd.ntmps44
          go_upto_region 1 with fail
          refine wpV (fun V2 hV2 => ?_)
          obtain rfl : V = V2 := HV.out.symm.trans hV2
          clear HV hV2
          go_wp2_with (first | (refine wpList_loadB (by rfl) _ rfl w.heap.size p a (by rfl) HR.out.in_.box ?_) | (refine wpList_storeB rfl _ _ rfl (w.heap.size + 1) p a _ (by rfl) (by rfl) (by rfl) HR.out.res ?_; intro W9 hW9))
          obtain ⟨t1, t2, t3⟩ := HR.out.tell hW9
          subst hW9
          exact brain_end (k := 6) rfl (by rfl) t1 rfl ⟨a, rfl, t2, t3⟩
  by_cases hst : p.rf.st = 1
  rotate_left
  · have hq : rfrB p (k : Int) x0 x1 = p := by unfold rfrB; rw [if_neg (by omega), if_neg hst]
    rw [hq]
    have d1 : (p.rf.st == 1) = false := by simpa using hst
    have e11 : ((k : Int) == 11) = false := by simp; omega
    clear hst hn hk hq k11
    go_enter Tryd.func44, Tryd.ntmps44
    go_upto_region 1 with fail
    refine wpV (fun V2 hV2 => ?_)
    obtain rfl : V = V2 := HV.out.symm.trans hV2
    clear HV hV2
    go_wp2_with (first | (refine wpList_loadB (by rfl) _ rfl w.heap.size p a (by rfl) HR.out.in_.box ?_) | (refine wpList_storeB rfl _ _ rfl (w.heap.size + 1) p a _ (by rfl) (by rfl) (by rfl) HR.out.res ?_; intro W9 hW9))
    obtain ⟨t1, t2, t3⟩ := HR.out.tell hW9
    subst hW9
    exact brain_end (k := 6) rfl (by rfl) t1 rfl ⟨a, rfl, t2, t3⟩
  have hq : rfrB p (k : Int) x0 x1 = refB p (k : Int) x0 := by unfold rfrB; rw [if_neg (by omega), if_pos hst]
  rw [hq]
  have d1 : (p.rf.st == 1) = true := by simpa using hst
  clear hst hq
  by_cases k5 : k = 5
  · subst k5
    clear hk
    have e11 : (((5 : Nat) : Int) == 11) = false := by decide
    have e5 : (((5 : Nat) : Int) == 5) = true := by decide
    obtain ⟨F, hF⟩ : ∃ F, wrap64 (p.rf.fails + 1) = F := ⟨_, rfl⟩
    have c26 := HR.out.in_.box.cell 26
    simp only [List.getElem?_toArray, List.getElem?_cons_zero, List.getElem?_cons_succ] at c26
    have f26 := HR.out.in_.box.frozen 26
    by_cases hm : p.cf.f10 ≤ F
    · have q : decide (p.cf.f10 ≤ F) = true := decide_eq_true hm
      rw [show refB p ((5 : Nat) : Int) x0 = { p with rf := { p.rf with to_ := p.rf.fr, fails := 0 } } by show { p with rf := failR p.rf p.cf.f10 } = _; unfold failR; rw [hF, if_pos hm]]
      clear hm
      go_enter Tryd.func44, Tryd.ntmps44
      go_upto_region 1 with fail
      refine wpV (fun V2 hV2 => ?_)
      obtain rfl : V = V2 := HV.out.symm.trans hV2
      clear HV hV2
      go_upto_region 11 with fail
      refine wpV (fun V2 hV2 => ?_)
      have r1 := HR.out.set (p' := { p with rf := { p.rf with fails := F } }) 26 (.int .i64 F) rfl rfl rfl rfl
      rw [hV2] at r1
      have HR1 := Lib.hid r1
      clear r1 hV2 c26 f26 c20 hF
      have c26 := HR1.out.in_.box.cell 26
      have c13 := HR1.out.in_.box.cell 13
      have c21 := HR1.out.in_.box.cell 21
      have c22 := HR1.out.in_.box.cell 22
      simp only [List.getElem?_toArray, List.getElem?_cons_zero, List.getElem?_cons_succ] at c26 c13 c21 c22
      have f22 := HR1.out.in_.box.frozen 22
      go_upto_region 13 with fail
      refine wpV (fun V3 hV3 => ?_)
      have r2 := HR1.out.set (p' := { p with rf := { p.rf with to_ := p.rf.fr, fails := F } }) 22 (.int .i64 p.rf.fr) rfl rfl rfl rfl
      rw [hV3] at r2
      have HR2 := Lib.hid r2
      clear r2 hV3 c26 c13 c21 c22 f22 HR1
      have f26 := HR2.out.in_.box.frozen 26
      have c26 := HR2.out.in_.box.cell 26
      simp only [List.getElem?_toArray, List.getElem?_cons_zero, List.getElem?_cons_succ] at c26
      go_upto_region 31 with fail
      refine wpV (fun V4 hV4 => ?_)
      have r3 := HR2.out.set (p' := { p with rf := { p.rf with to_ := p.rf.fr, fails := 0 } }) 26 (.int .i64 0) rfl rfl rfl rfl
      rw [hV4] at r3
      have HR3 := Lib.hid r3
      clear r3 hV4 c26 f26 HR2
      go_wp2_with (first | (refine wpList_loadB (by rfl) _ rfl w.heap.size { p with rf := { p.rf with to_ := p.rf.fr, fails := 0 } } a (by rfl) HR3.out.in_.box ?_) | (refine wpList_storeB rfl _ _ rfl (w.heap.size + 1) { p with rf := { p.rf with to_ := p.rf.fr, fails := 0 } } a _ (by rfl) (by rfl) (by rfl) HR3.out.res ?_; intro W9 hW9))
      obtain ⟨t1, t2, t3⟩ := HR3.out.tell hW9
      subst hW9
      exact brain_end (k := 6) rfl (by rfl) t1 rfl ⟨a, rfl, t2, t3⟩
    · have q : decide (p.cf.f10 ≤ F) = false := decide_eq_false hm
      rw [show refB p ((5 : Nat) : Int) x0 = { p with rf := { p.rf with fails := F } } by show { p with rf := failR p.rf p.cf.f10 } = _; unfold failR; rw [hF, if_neg hm]]
      clear hm
      go_enter Tryd.func44, Tryd.ntmps44
      go_upto_region 1 with fail
      refine wpV (fun V2 hV2 => ?_)
      obtain rfl : V = V2 := HV.out.symm.trans hV2
      clear HV hV2
      go_upto_region 11 with fail
      refine wpV (fun V2 hV2 => ?_)
      have r1 := HR.out.set (p' := { p with rf := { p.rf with fails := F } }) 26 (.int .i64 F) rfl rfl rfl rfl
      rw [hV2] at r1
      have HR1 := Lib.hid r1
      clear r1 hV2 c26 f26 c20 hF
      have c26 := HR1.out.in_.box.cell 26
      have c13 := HR1.out.in_.box.cell 13
      have c21 := HR1.out.in_.box.cell 21
      have c22 := HR1.out.in_.box.cell 22
      simp only [List.getElem?_toArray, List.getElem?_cons_zero, List.getElem?_cons_succ] at c26 c13 c21 c22
      go_upto_region 31 with fail
      clear c26 c13 c21 c22
      go_wp2_with (first | (refine wpList_loadB (by rfl) _ rfl w.heap.size { p with rf := { p.rf with fails := F } } a (by rfl) HR1.out.in_.box ?_) | (refine wpList_storeB rfl _ _ rfl (w.heap.size + 1) { p with rf := { p.rf with fails := F } } a _ (by rfl) (by rfl) (by rfl) HR1.out.res ?_; intro W9 hW9))
      obtain ⟨t1, t2, t3⟩ := HR1.out.tell hW9
      subst hW9
      exact brain_end (k := 6) rfl (by rfl) t1 rfl ⟨a, rfl, t2, t3⟩
  by_cases k12 : k = 12
  · subst k12
    clear hk
    have e11 : (((12 : Nat) : Int) == 11) = false := by decide
    have e5 : (((12 : Nat) : Int) == 5) = false := by decide
    have e12 : (((12 : Nat) : Int) == 12) = true := by decide
    rw [show refB p ((12 : Nat) : Int) x0 = { p with rf := { p.rf with st := 3, paused := false } } from rfl]
    have f20 := HR.out.in_.box.frozen 20
    go_enter Tryd.func44, Tryd.ntmps44
    go_upto_region 1 with fail
    refine wpV (fun V2 hV2 => ?_)
    obtain rfl : V = V2 := HV.out.symm.trans hV2
    clear HV hV2
    go_upto_region 16 with fail
    refine wpV (fun VHR1 hV_ => ?_)
    have r_ := HR.out.set (p' := { p with rf := { p.rf with st := 3 } }) 20 (.int .u8 3) rfl rfl rfl rfl
    rw [hV_] at r_
    have HR1 := Lib.hid r_
    clear r_ hV_ c20 f20 HR
    have c24 := HR1.out.in_.box.cell 24
    simp only [List.getElem?_toArray, List.getElem?_cons_zero, List.getElem?_cons_succ] at c24
    have f24 := HR1.out.in_.box.frozen 24
    go_upto_region 31 with fail
    refine wpV (fun VHR2 hV_ => ?_)
    have r_ := HR1.out.set (p' := { p with rf := { p.rf with st := 3, paused := false } }) 24 (.bool false) rfl rfl rfl rfl
    rw [hV_] at r_
    have HR2 := Lib.hid r_
    clear r_ hV_ c24 f24 HR1
    go_wp2_with (first | (refine wpList_loadB (by rfl) _ rfl w.heap.size { p with rf := { p.rf with st := 3, paused := false } } a (by rfl) HR2.out.in_.box ?_) | (refine wpList_storeB rfl _ _ rfl (w.heap.size + 1) { p with rf := { p.rf with st := 3, paused := false } } a _ (by rfl) (by rfl) (by rfl) HR2.out.res ?_; intro W9 hW9))
    obtain ⟨t1, t2, t3⟩ := HR2.out.tell hW9
    subst hW9
    exact brain_end (k := 6) rfl (by rfl) t1 rfl ⟨a, rfl, t2, t3⟩
  by_cases k13 : k = 13
  · subst k13
    clear hk
    have e11 : (((13 : Nat) : Int) == 11) = false := by decide
    have e5 : (((13 : Nat) : Int) == 5) = false := by decide
    have e12 : (((13 : Nat) : Int) == 12) = false := by decide
    have e13 : (((13 : Nat) : Int) == 13) = true := by decide
    rw [show refB p ((13 : Nat) : Int) x0 = { p with rf := { p.rf with to_ := p.rf.fr } } from rfl]
    have c21 := HR.out.in_.box.cell 21
    have c22 := HR.out.in_.box.cell 22
    simp only [List.getElem?_toArray, List.getElem?_cons_zero, List.getElem?_cons_succ] at c21 c22
    have f22 := HR.out.in_.box.frozen 22
    go_enter Tryd.func44, Tryd.ntmps44
    go_upto_region 1 with fail
    refine wpV (fun V2 hV2 => ?_)
    obtain rfl : V = V2 := HV.out.symm.trans hV2
    clear HV hV2
    go_upto_region 31 with fail
    refine wpV (fun VHR1 hV_ => ?_)
    have r_ := HR.out.set (p' := { p with rf := { p.rf with to_ := p.rf.fr } }) 22 (.int .i64 p.rf.fr) rfl rfl rfl rfl
    rw [hV_] at r_
    have HR1 := Lib.hid r_
    clear r_ hV_ c20 c21 c22 f22 HR
    go_wp2_with (first | (refine wpList_loadB (by rfl) _ rfl w.heap.size { p with rf := { p.rf with to_ := p.rf.fr } } a (by rfl) HR1.out.in_.box ?_) | (refine wpList_storeB rfl _ _ rfl (w.heap.size + 1) { p with rf := { p.rf with to_ := p.rf.fr } } a _ (by rfl) (by rfl) (by rfl) HR1.out.res ?_; intro W9 hW9))
    obtain ⟨t1, t2, t3⟩ := HR1.out.tell hW9
    subst hW9
    exact brain_end (k := 6) rfl (by rfl) t1 rfl ⟨a, rfl, t2, t3⟩
  by_cases k14 : k = 14
  · subst k14
    clear hk
    have e11 : (((14 : Nat) : Int) == 11) = false := by decide
    have e5 : (((14 : Nat) : Int) == 5) = false := by decide
    have e12 : (((14 : Nat) : Int) == 12) = false := by decide
    have e13 : (((14 : Nat) : Int) == 13) = false := by decide
    have e14 : (((14 : Nat) : Int) == 14) = true := by decide
    have hn1 : n = 1 := by unfold manyB at hn; simp at hn; omega
    subst hn1
    obtain ⟨b, off, rfl, hbl, hc⟩ := HLs.out.2 (by omega)
    have y0 : V.cell? ⟨b, off, none⟩ = some (.int .i64 x0) := by
      obtain ⟨b', off', e, _, h⟩ := at_of (k := 0) HLs.out (by omega)
      injection e with e; injection e with e1 e2; subst e1; subst e2
      rw [HX0.out] at h; exact h
    clear hc
    cases hp : p.rf.paused with
    | true =>
      rw [show refB p ((14 : Nat) : Int) x0 = p by show { p with rf := pauseR p.rf x0 } = p; unfold pauseR; rw [if_pos hp]]
      have c24 := HR.out.in_.box.cell 24
      simp only [List.getElem?_toArray, List.getElem?_cons_zero, List.getElem?_cons_succ] at c24
      rw [hp] at c24
      clear hp hbl y0
      go_enter Tryd.func44, Tryd.ntmps44
      go_upto_region 1 with fail
      refine wpV (fun V2 hV2 => ?_)
      obtain rfl : V = V2 := HV.out.symm.trans hV2
      clear HV hV2
      go_wp2_with (first | (refine wpList_loadB (by rfl) _ rfl w.heap.size p a (by rfl) HR.out.in_.box ?_) | (refine wpList_storeB rfl _ _ rfl (w.heap.size + 1) p a _ (by rfl) (by rfl) (by rfl) HR.out.res ?_; intro W9 hW9))
      obtain ⟨t1, t2, t3⟩ := HR.out.tell hW9
      subst hW9
      exact brain_end (k := 6) rfl (by rfl) t1 rfl ⟨a, rfl, t2, t3⟩
    | false =>
      rw [show refB p ((14 : Nat) : Int) x0 = { p with rf := { p.rf with paused := true, since := x0 } } by show { p with rf := pauseR p.rf x0 } = _; unfold pauseR; rw [if_neg (by rw [hp]; decide)]]
      have c24 := HR.out.in_.box.cell 24
      simp only [List.getElem?_toArray, List.getElem?_cons_zero, List.getElem?_cons_succ] at c24
      rw [hp] at c24
      have f24 := HR.out.in_.box.frozen 24
      have HBl := Lib.hid hbl
      have Y0 := Lib.hid y0
      clear hp hbl y0
      go_enter Tryd.func44, Tryd.ntmps44
      go_upto_region 1 with fail
      refine wpV (fun V2 hV2 => ?_)
      obtain rfl : V = V2 := HV.out.symm.trans hV2
      clear HV hV2
      go_upto_region 22 with fail
      refine wpV (fun V2 hV2 => ?_)
      have r1 := HR.out.set (p' := { p with rf := { p.rf with paused := true } }) 24 (.bool true) rfl rfl rfl rfl
      have y0 : V2.cell? ⟨b, off, none⟩ = some (.int .i64 x0) := by
        rw [← hV2]
        exact (((Below.refl w.heap.size V).setCell (p := ⟨w.heap.size, 24, none⟩) (Nat.le_refl _) _).cell (p := ⟨b, off, none⟩) HBl.out).trans Y0.out
      rw [hV2] at r1
      have HR1 := Lib.hid r1
      clear r1 hV2 c20 c24 f24
      have c25 := HR1.out.in_.box.cell 25
      simp only [List.getElem?_toArray, List.getElem?_cons_zero, List.getElem?_cons_succ] at c25
      have f25 := HR1.out.in_.box.frozen 25
      go_upto_region 31 with fail
      refine wpV (fun VHR2 hV_ => ?_)
      have r_ := HR1.out.set (p' := { p with rf := { p.rf with paused := true, since := x0 } }) 25 (.int .i64 x0) rfl rfl rfl rfl
      rw [hV_] at r_
      have HR2 := Lib.hid r_
      clear r_ hV_ c25 f25 y0 HR1
      go_wp2_with (first | (refine wpList_loadB (by rfl) _ rfl w.heap.size { p with rf := { p.rf with paused := true, since := x0 } } a (by rfl) HR2.out.in_.box ?_) | (refine wpList_storeB rfl _ _ rfl (w.heap.size + 1) { p with rf := { p.rf with paused := true, since := x0 } } a _ (by rfl) (by rfl) (by rfl) HR2.out.res ?_; intro W9 hW9))
      obtain ⟨t1, t2, t3⟩ := HR2.out.tell hW9
      subst hW9
      exact brain_end (k := 6) rfl (by rfl) t1 rfl ⟨a, rfl, t2, t3⟩
  by_cases k15 : k = 15
  · subst k15
    clear hk
    have e11 : (((15 : Nat) : Int) == 11) = false := by decide
    have e5 : (((15 : Nat) : Int) == 5) = false := by decide
    have e12 : (((15 : Nat) : Int) == 12) = false := by decide
    have e13 : (((15 : Nat) : Int) == 13) = false := by decide
    have e14 : (((15 : Nat) : Int) == 14) = false := by decide
    have e15 : (((15 : Nat) : Int) == 15) = true := by decide
    cases hp : p.rf.paused with
    | false =>
      rw [show refB p ((15 : Nat) : Int) x0 = p by show { p with rf := goR p.rf } = p; unfold goR; rw [if_neg (by rw [hp]; decide)]]
      have c24 := HR.out.in_.box.cell 24
      simp only [List.getElem?_toArray, List.getElem?_cons_zero, List.getElem?_cons_succ] at c24
      rw [hp] at c24
      clear hp
      go_enter Tryd.func44, Tryd.ntmps44
      go_upto_region 1 with fail
      refine wpV (fun V2 hV2 => ?_)
      obtain rfl : V = V2 := HV.out.symm.trans hV2
      clear HV hV2
      go_wp2_with (first | (refine wpList_loadB (by rfl) _ rfl w.heap.size p a (by rfl) HR.out.in_.box ?_) | (refine wpList_storeB rfl _ _ rfl (w.heap.size + 1) p a _ (by rfl) (by rfl) (by rfl) HR.out.res ?_; intro W9 hW9))
      obtain ⟨t1, t2, t3⟩ := HR.out.tell hW9
      subst hW9
      exact brain_end (k := 6) rfl (by rfl) t1 rfl ⟨a, rfl, t2, t3⟩
    | true =>
      obtain ⟨S, hS⟩ : ∃ S, wrap64 (p.rf.step + 1) = S := ⟨_, rfl⟩
      rw [show refB p ((15 : Nat) : Int) x0 = { p with rf := { p.rf with paused := false, step := S } } by show { p with rf := goR p.rf } = _; unfold goR; rw [if_pos hp, hS]]
      have c24 := HR.out.in_.box.cell 24
      simp only [List.getElem?_toArray, List.getElem?_cons_zero, List.getElem?_cons_succ] at c24
      rw [hp] at c24
      have f24 := HR.out.in_.box.frozen 24
      clear hp
      go_enter Tryd.func44, Tryd.ntmps44
      go_upto_region 1 with fail
      refine wpV (fun V2 hV2 => ?_)
      obtain rfl : V = V2 := HV.out.symm.trans hV2
      clear HV hV2
      go_upto_region 26 with fail
      refine wpV (fun VHR1 hV_ => ?_)
      have r_ := HR.out.set (p' := { p with rf := { p.rf with paused := false } }) 24 (.bool false) rfl rfl rfl rfl
      rw [hV_] at r_
      have HR1 := Lib.hid r_
      clear r_ hV_ c20 c24 f24 HR
      have c23 := HR1.out.in_.box.cell 23
      simp only [List.getElem?_toArray, List.getElem?_cons_zero, List.getElem?_cons_succ] at c23
      have f23 := HR1.out.in_.box.frozen 23
      go_upto_region 31 with fail
      refine wpV (fun V3 hV3 => ?_)
      have r2 := HR1.out.set (p' := { p with rf := { p.rf with paused := false, step := S } }) 23 (.int .i64 S) rfl rfl rfl rfl
      rw [hV3] at r2
      have HR2 := Lib.hid r2
      clear r2 hV3 c23 f23 HR1 hS
      go_wp2_with (first | (refine wpList_loadB (by rfl) _ rfl w.heap.size { p with rf := { p.rf with paused := false, step := S } } a (by rfl) HR2.out.in_.box ?_) | (refine wpList_storeB rfl _ _ rfl (w.heap.size + 1) { p with rf := { p.rf with paused := false, step := S } } a _ (by rfl) (by rfl) (by rfl) HR2.out.res ?_; intro W9 hW9))
      obtain ⟨t1, t2, t3⟩ := HR2.out.tell hW9
      subst hW9
      exact brain_end (k := 6) rfl (by rfl) t1 rfl ⟨a, rfl, t2, t3⟩
  · have k16 : k = 16 := by omega
    subst k16
    clear hk
    have e11 : (((16 : Nat) : Int) == 11) = false := by decide
    have e5 : (((16 : Nat) : Int) == 5) = false := by decide
    have e12 : (((16 : Nat) : Int) == 12) = false := by decide
    have e13 : (((16 : Nat) : Int) == 13) = false := by decide
    have e14 : (((16 : Nat) : Int) == 14) = false := by decide
    have e15 : (((16 : Nat) : Int) == 15) = false := by decide
    have e16 : (((16 : Nat) : Int) == 16) = true := by decide
    rw [show refB p ((16 : Nat) : Int) x0 = { p with rf := { p.rf with st := 2, paused := false }, cf := { p.cf with f12 := p.rf.to_ } } from rfl]
    have f20 := HR.out.in_.box.frozen 20
    go_enter Tryd.func44, Tryd.ntmps44
    go_upto_region 1 with fail
    refine wpV (fun V2 hV2 => ?_)
    obtain rfl : V = V2 := HV.out.symm.trans hV2
    clear HV hV2
    go_upto_region 29 with fail
    refine wpV (fun VHR1 hV_ => ?_)
    have r_ := HR.out.set (p' := { p with rf := { p.rf with st := 2 } }) 20 (.int .u8 2) rfl rfl rfl rfl
    rw [hV_] at r_
    have HR1 := Lib.hid r_
    clear r_ hV_ c20 f20 HR
    have c24 := HR1.out.in_.box.cell 24
    simp only [List.getElem?_toArray, List.getElem?_cons_zero, List.getElem?_cons_succ] at c24
    have f24 := HR1.out.in_.box.frozen 24
    go_upto_region 30 with fail
    refine wpV (fun VHR2 hV_ => ?_)
    have r_ := HR1.out.set (p' := { p with rf := { p.rf with st := 2, paused := false } }) 24 (.bool false) rfl rfl rfl rfl
    rw [hV_] at r_
    have HR2 := Lib.hid r_
    clear r_ hV_ c24 f24 HR1
    have c22 := HR2.out.in_.box.cell 22
    have c15 := HR2.out.in_.box.cell 15
    simp only [List.getElem?_toArray, List.getElem?_cons_zero, List.getElem?_cons_succ] at c22 c15
    have f15 := HR2.out.in_.box.frozen 15
    go_upto_region 31 with fail
    refine wpV (fun VHR3 hV_ => ?_)
    have r_ := HR2.out.set (p' := { p with rf := { p.rf with st := 2, paused := false }, cf := { p.cf with f12 := p.rf.to_ } }) 15 (.int .i64 p.rf.to_) rfl rfl rfl rfl
    rw [hV_] at r_
    have HR3 := Lib.hid r_
    clear r_ hV_ c22 c15 f15 HR2
    go_wp2_with (first | (refine wpList_loadB (by rfl) _ rfl w.heap.size { p with rf := { p.rf with st := 2, paused := false }, cf := { p.cf with f12 := p.rf.to_ } } a (by rfl) HR3.out.in_.box ?_) | (refine wpList_storeB rfl _ _ rfl (w.heap.size + 1) { p with rf := { p.rf with st := 2, paused := false }, cf := { p.cf with f12 := p.rf.to_ } } a _ (by rfl) (by rfl) (by rfl) HR3.out.res ?_; intro W9 hW9))
    obtain ⟨t1, t2, t3⟩ := HR3.out.tell hW9
    subst hW9
    exact brain_end (k := 6) rfl (by rfl) t1 rfl ⟨a, rfl, t2, t3⟩

end Go.Proofs.YtplejbgecihnpaaDoor
