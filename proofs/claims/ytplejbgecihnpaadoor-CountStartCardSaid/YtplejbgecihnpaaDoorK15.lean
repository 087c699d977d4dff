/-
  Texts that the walk of a statement over brains leans on, joined (BrInst). Conditions: those that each theorem names.
-/
import Derived.Test.YtplejbgecihnpaaDoorK14

namespace Go.Proofs.YtplejbgecihnpaaDoor
open Go.RowKit Go.Shelf

set_option maxRecDepth 100000 in
/-- One number of one that is kept is laid anew. -/
theorem Rz.cell {base b : Nat} {w W : World} {p : Br} {a : Ad} (h : Rz base w p a W) (hB : a.B = some ⟨b, 0, none⟩) {i j : Nat} {x y : Kp} {u : Value} (hx : p.kps[i]? = some x) (hj : j < 8) (hy : y.vs = x.vs.set j u) :
    W.cell? ⟨b, i * 8 + j, none⟩ = x.vs[j]? ∧ W.frozen? ⟨b, i * 8 + j, none⟩ = false ∧ Rz base w { p with kps := p.kps.set i y } a (W.setCell ⟨b, i * 8 + j, none⟩ u) := by
  obtain ⟨h1, h2, h3, h4⟩ := h.in_.cell hB hx hj hy
  refine ⟨h1, h2, h3, ?_, h.stp.trans h4⟩
  have ho := h.in_.own.kps
  have hne : w.heap.size + 1 ≠ b := by
    intro e
    subst e
    have := own_apart_F (by decide) ho h.res
    rw [hB] at this
    exact this rfl
  exact (Only.set W b (i * 8 + j) u).far h.res hne
set_option maxRecDepth 100000 in
theorem kps_at {base : Nat} {w : World} {p : Br} {a : Ad} {g i : Nat} {x : Kp} (h : BrIn base g w p a) (hx : p.kps[i]? = some x) : ∃ bk, a.B = some ⟨bk, 0, none⟩ ∧ base ≤ bk ∧ bk < w.heap.size := by
  have hi : i < p.kps.length := (List.getElem?_eq_some_iff.1 hx).1
  have ho := h.own.kps
  unfold KpsAt at ho
  obtain ⟨b', cs, hb', hge, hin, _, _⟩ := RowIn.of_own ho (by omega)
  have hw : Whole w b' 32 cs.toArray := hin.hg
  exact ⟨b', hb', hge, hw.lt⟩

set_option maxRecDepth 100000 in
/-- Other instances. -/
theorem Rz.kps19 {base : Nat} {w W : World} {p : Br} {a : Ad} (h : Rz base w p a W) {l : List Kp} {B : Option Addr} {d : Nat} (ho : KpsAt base W (.slice B l.length d) l) : Rz base w { p with kps := l } ⟨a.C, a.e, a.A, a.c, B, d⟩ (W.setCell ⟨w.heap.size, 19, none⟩ (.slice B l.length d)) := by
  have k := Only.set W w.heap.size 19 (.slice B l.length d)
  exact ⟨⟨set19L h.in_.box l B d, ⟨k.own h.in_.own.ms h.in_.box (by decide), h.in_.own.its.only k h.in_.box (by decide), ho.only k h.in_.box (by decide)⟩, h.in_.ge⟩, k.far h.res (by omega), h.stp.trans (Stp.set h.in_.box (by decide) h.in_.ge 19 _)⟩
set_option maxRecDepth 100000 in
theorem legO (a b : Int) (W : World) {r : Bool} (e : legalB a b = r) : Calls Tryd.prog 65 #[.int .u8 a, .int .u8 b] W (BoolPost r W) := by
  subst e
  refine (rlegal_any a b W).mono ?_
  rintro e w' ⟨h1, h2⟩
  exact ⟨h1, by rw [h2]; exact Below.refl _ _⟩

set_option maxRecDepth 100000 in
set_option maxHeartbeats 8000000 in
theorem rinst_any (p : Br) (a : Ad) (k : Nat) (A : Option Addr) (n c : Nat) (l : List Int) (base : Nat) (w : World) (hw : OwB base w p a) (hbase : base ≤ w.heap.size) (hl : Rd w base A n (iv l)) (hn : manyB (k : Int) = (n : Int)) (hnum : numsB l = true) (hkp : p.kps.length ≤ 900) (hk : k = 6 ∨ k = 7 ∨ k = 8 ∨ k = 9 ∨ k = 10) :
    Calls Tryd.prog 43 #[brV p a, .int .u8 (k : Int), .slice A n c] w (StV base (fitB p (k : Int) (l.getD 0 0) (l.getD 1 0) (l.getD 2 0) (l.getD 3 0) (l.getD 4 0)) w) := by
  obtain ⟨hb0, w0, w1⟩ := two_new w 30 30 (brC p a) (brC br0 ad0)
  obtain ⟨V, hV⟩ : ∃ V, (w.alloc (.cells (brC p a) 30)).alloc (.cells (brC br0 ad0) 30) = V := ⟨_, rfl⟩
  rw [hV] at hb0 w0 w1
  have HV := Lib.hid hV
  have HR := Lib.hid (show Rz base w p a V from ⟨⟨w0, hw.under hb0, hbase⟩, w1, Stp.of_below hb0 hbase⟩)
  have HLs := Lib.hid hl
  have HBs := Lib.hid hbase
  have HKp := Lib.hid (show p.kps.length ≤ 1000 by omega)
  have HK9 := Lib.hid hkp
  have hn1 := (nums_at hnum 1).1
  obtain ⟨x0, hx0⟩ : ∃ x0, l.getD 0 0 = x0 := ⟨_, rfl⟩
  obtain ⟨x1, hx1⟩ : ∃ x1, l.getD 1 0 = x1 := ⟨_, rfl⟩
  obtain ⟨x2, hx2⟩ : ∃ x2, l.getD 2 0 = x2 := ⟨_, rfl⟩
  obtain ⟨x3, hx3⟩ : ∃ x3, l.getD 3 0 = x3 := ⟨_, rfl⟩
  obtain ⟨x4, hx4⟩ : ∃ x4, l.getD 4 0 = x4 := ⟨_, rfl⟩
  rw [hx1] at hn1
  rw [hx0, hx1, hx2, hx3, hx4]
  have HX0 := Lib.hid hx0
  have HX1 := Lib.hid hx1
  have HX2 := Lib.hid hx2
  have HX3 := Lib.hid hx3
  have HX4 := Lib.hid hx4
  clear hV hb0 w0 w1 hw hbase hl hx0 hx1 hx2 hx3 hx4 hnum hkp
  obtain ⟨fv, hfv⟩ : ∃ fv, findB p x0 = fv := ⟨_, rfl⟩
  have HF := Lib.hid hfv
  have hidx := kept_idx p x0
  rw [hfv] at hidx
  clear hfv
  by_cases k8 : k = 8
  · subst k8
    clear hk
    have hnn : n = 5 := by unfold manyB at hn; simp at hn; omega
    subst hnn
    clear hn
    rw [show fitB p ((8 : Nat) : Int) x0 x1 x2 x3 x4 = takeB p x0 x1 x2 x3 x4 from rfl]
    obtain ⟨b, off, rfl, hbl, _⟩ := HLs.out.2 (by omega)
    have y0 : w.cell? ⟨b, off, none⟩ = some (.int .i64 x0) := by
      obtain ⟨b', off', e, _, h⟩ := at_of (k := 0) HLs.out (by omega)
      injection e with e; injection e with e1 e2; subst e1; subst e2
      rw [HX0.out] at h; exact h
    have Y0 := Lib.hid y0
    have y1 : w.cell? ⟨b, off + 1, none⟩ = some (.int .i64 x1) := by
      obtain ⟨b', off', e, _, h⟩ := at_of (k := 1) HLs.out (by omega)
      injection e with e; injection e with e1 e2; subst e1; subst e2
      rw [HX1.out] at h; exact h
    have Y1 := Lib.hid y1
    have y2 : w.cell? ⟨b, off + 2, none⟩ = some (.int .i64 x2) := by
      obtain ⟨b', off', e, _, h⟩ := at_of (k := 2) HLs.out (by omega)
      injection e with e; injection e with e1 e2; subst e1; subst e2
      rw [HX2.out] at h; exact h
    have Y2 := Lib.hid y2
    have y3 : w.cell? ⟨b, off + 3, none⟩ = some (.int .i64 x3) := by
      obtain ⟨b', off', e, _, h⟩ := at_of (k := 3) HLs.out (by omega)
      injection e with e; injection e with e1 e2; subst e1; subst e2
      rw [HX3.out] at h; exact h
    have Y3 := Lib.hid y3
    have y4 : w.cell? ⟨b, off + 4, none⟩ = some (.int .i64 x4) := by
      obtain ⟨b', off', e, _, h⟩ := at_of (k := 4) HLs.out (by omega)
      injection e with e; injection e with e1 e2; subst e1; subst e2
      rw [HX4.out] at h; exact h
    have Y4 := Lib.hid y4
    have HBl := Lib.hid hbl
    clear hbl y0 y1 y2 y3 y4
    have e8 : (((8 : Nat) : Int) == 8) = true := by decide
    rcases hidx with ⟨_, hkn, rfl⟩ | ⟨i, x, _, _, hks, rfl⟩
    rotate_left
    · rw [show takeB p x0 x1 x2 x3 x4 = p by unfold takeB; rw [if_neg (by rw [hks]; simp)]]
      have d0 : decide ((i : Int) < 0) = false := by simp
      clear hks
      go_enter Tryd.func43, Tryd.ntmps43
      go_upto_region 1 with fail
      refine wpV (fun V2 hV2 => ?_)
      obtain rfl : V = V2 := HV.out.symm.trans hV2
      clear HV hV2
      have HL : Hid (∀ V', Below V.heap.size V V' → Whole V' w.heap.size 30 (brC p a) ∧ V'.cell? ⟨b, off, none⟩ = some (.int .i64 x0)) := Lib.hid (fun V' hV => ⟨(HR.out.under hV).in_.box, ((HR.out.under hV).stp.below.cell (p := ⟨b, off, none⟩) HBl.out).trans Y0.out⟩)
      have HBd := Lib.hid (show Below V.heap.size V V.drew from below_drewB (Below.refl _ _) 1)
      refine wp_region_T (ls := []) (T := (fun V' => Below V.heap.size V V')) (by kernel_rfl) ?_
      refine takeT (i := 0) (v := brV p a) rfl (by kernel_rfl) (by kernel_rfl) (by kernel_rfl) (by kernel_rfl) (fun _ _ _ h => h) (by rfl) ?_ HBd.out ?_
      · intro V' hV; obtain ⟨y0, y1⟩ := HL.out V' hV; exact exec_load_brain rfl y0
      simp only [Act.put, List.setIfInBounds_toArray, List.set_cons_zero, List.set_cons_succ]
      refine takeP (i := 1) (v := ?_) rfl (by kernel_rfl) (by kernel_rfl) (by kernel_rfl) (by kernel_rfl) (fun _ _ _ h => h) (by rfl) ?_ (fun _ => HBd.out) ?_
      rotate_left
      · intro V'; go_simp <;> with_reducible rfl
      simp only [Act.put, List.setIfInBounds_toArray, List.set_cons_zero, List.set_cons_succ]
      refine takeP (i := 2) (v := ?_) rfl (by kernel_rfl) (by kernel_rfl) (by kernel_rfl) (by kernel_rfl) (fun _ _ _ h => h) (by rfl) ?_ (fun _ => HBd.out) ?_
      rotate_left
      · intro V'; go_simp <;> with_reducible rfl
      simp only [Act.put, List.setIfInBounds_toArray, List.set_cons_zero, List.set_cons_succ]
      refine takeT (i := 3) (v := ?_) rfl (by kernel_rfl) (by kernel_rfl) (by kernel_rfl) (by kernel_rfl) (fun _ _ _ h => h) (by rfl) ?_ HBd.out ?_
      rotate_left
      · intro V' hV; obtain ⟨y0, y1⟩ := HL.out V' hV; go_simp <;> with_reducible rfl
      simp only [Act.put, List.setIfInBounds_toArray, List.set_cons_zero, List.set_cons_succ]
      refine oneT (i := 4) rfl (by kernel_rfl) (by rfl) (fun K hK => ?_)
      go_simp
      refine (findO ((HR.out.under HBd.out).in_.own.weaker (Nat.zero_le _)) HKp.out HF.out).mono ?_
      rintro e V_1 ⟨rfl, hb_⟩
      have HB_1 := Lib.hid (show Below V.heap.size V V_1 from HBd.out.trans (hb_.mono HBd.out.size))
      clear hb_ HBd
      refine hK.out _ _ (fun _ => HB_1.out) ?_
      clear hK K
      refine takeP (i := 5) (v := ?_) rfl (by kernel_rfl) (by kernel_rfl) (by kernel_rfl) (by kernel_rfl) (fun _ _ _ h => h) (by rfl) ?_ (fun _ => HB_1.out) ?_
      rotate_left
      · intro V'; go_simp <;> with_reducible rfl
      simp only [Act.put, List.setIfInBounds_toArray, List.set_cons_zero, List.set_cons_succ]
      refine doneT (by kernel_rfl) ?_ _
      have HR1 := Lib.hid (HR.out.under HB_1.out)
      clear HL HR HB_1
      go_wp2_with (first | (refine wpList_loadB (by rfl) _ rfl w.heap.size p a (by rfl) HR1.out.in_.box ?_) | (refine wpList_storeB rfl _ _ rfl (w.heap.size + 1) p a _ (by rfl) (by rfl) (by rfl) HR1.out.res ?_; intro W9 hW9))
      obtain ⟨t1, t2, t3⟩ := HR1.out.tell hW9
      subst hW9
      exact brain_end (k := 6) rfl (by rfl) t1 rfl ⟨_, rfl, t2, t3⟩
    have d0 : decide ((-1 : Int) < 0) = true := by decide
    by_cases h1 : 1 ≤ x0
    rotate_left
    · rw [show takeB p x0 x1 x2 x3 x4 = p by unfold takeB; rw [if_neg (fun h => h1 h.1)]]
      have d1 : decide (1 ≤ x0) = false := by simpa using h1
      clear h1 hkn
      go_enter Tryd.func43, Tryd.ntmps43
      go_upto_region 1 with fail
      refine wpV (fun V2 hV2 => ?_)
      obtain rfl : V = V2 := HV.out.symm.trans hV2
      clear HV hV2
      have HL : Hid (∀ V', Below V.heap.size V V' → Whole V' w.heap.size 30 (brC p a) ∧ V'.cell? ⟨b, off, none⟩ = some (.int .i64 x0)) := Lib.hid (fun V' hV => ⟨(HR.out.under hV).in_.box, ((HR.out.under hV).stp.below.cell (p := ⟨b, off, none⟩) HBl.out).trans Y0.out⟩)
      have HBd := Lib.hid (show Below V.heap.size V V.drew from below_drewB (Below.refl _ _) 1)
      refine wp_region_T (ls := []) (T := (fun V' => Below V.heap.size V V')) (by kernel_rfl) ?_
      refine takeT (i := 0) (v := brV p a) rfl (by kernel_rfl) (by kernel_rfl) (by kernel_rfl) (by kernel_rfl) (fun _ _ _ h => h) (by rfl) ?_ HBd.out ?_
      · intro V' hV; obtain ⟨y0, y1⟩ := HL.out V' hV; exact exec_load_brain rfl y0
      simp only [Act.put, List.setIfInBounds_toArray, List.set_cons_zero, List.set_cons_succ]
      refine takeP (i := 1) (v := ?_) rfl (by kernel_rfl) (by kernel_rfl) (by kernel_rfl) (by kernel_rfl) (fun _ _ _ h => h) (by rfl) ?_ (fun _ => HBd.out) ?_
      rotate_left
      · intro V'; go_simp <;> with_reducible rfl
      simp only [Act.put, List.setIfInBounds_toArray, List.set_cons_zero, List.set_cons_succ]
      refine takeP (i := 2) (v := ?_) rfl (by kernel_rfl) (by kernel_rfl) (by kernel_rfl) (by kernel_rfl) (fun _ _ _ h => h) (by rfl) ?_ (fun _ => HBd.out) ?_
      rotate_left
      · intro V'; go_simp <;> with_reducible rfl
      simp only [Act.put, List.setIfInBounds_toArray, List.set_cons_zero, List.set_cons_succ]
      refine takeT (i := 3) (v := ?_) rfl (by kernel_rfl) (by kernel_rfl) (by kernel_rfl) (by kernel_rfl) (fun _ _ _ h => h) (by rfl) ?_ HBd.out ?_
      rotate_left
      · intro V' hV; obtain ⟨y0, y1⟩ := HL.out V' hV; go_simp <;> with_reducible rfl
      simp only [Act.put, List.setIfInBounds_toArray, List.set_cons_zero, List.set_cons_succ]
      refine oneT (i := 4) rfl (by kernel_rfl) (by rfl) (fun K hK => ?_)
      go_simp
      refine (findO ((HR.out.under HBd.out).in_.own.weaker (Nat.zero_le _)) HKp.out HF.out).mono ?_
      rintro e V_1 ⟨rfl, hb_⟩
      have HB_1 := Lib.hid (show Below V.heap.size V V_1 from HBd.out.trans (hb_.mono HBd.out.size))
      clear hb_ HBd
      refine hK.out _ _ (fun _ => HB_1.out) ?_
      clear hK K
      refine takeP (i := 5) (v := ?_) rfl (by kernel_rfl) (by kernel_rfl) (by kernel_rfl) (by kernel_rfl) (fun _ _ _ h => h) (by rfl) ?_ (fun _ => HB_1.out) ?_
      rotate_left
      · intro V'; go_simp <;> with_reducible rfl
      simp only [Act.put, List.setIfInBounds_toArray, List.set_cons_zero, List.set_cons_succ]
      refine doneT (by kernel_rfl) ?_ _
      have HR1 := Lib.hid (HR.out.under HB_1.out)
      clear HL HR HB_1
      have y0 := (HR1.out.stp.below.cell (p := ⟨b, off, none⟩) HBl.out).trans Y0.out
      go_wp2_with (first | (refine wpList_loadB (by rfl) _ rfl w.heap.size p a (by rfl) HR1.out.in_.box ?_) | (refine wpList_storeB rfl _ _ rfl (w.heap.size + 1) p a _ (by rfl) (by rfl) (by rfl) HR1.out.res ?_; intro W9 hW9))
      obtain ⟨t1, t2, t3⟩ := HR1.out.tell hW9
      subst hW9
      exact brain_end (k := 6) rfl (by rfl) t1 rfl ⟨_, rfl, t2, t3⟩
    rw [show takeB p x0 x1 x2 x3 x4 = { p with kps := putK p.kps ⟨x0, x1, x2, x3, 8, x4, false, false⟩ } by unfold takeB; rw [if_pos ⟨h1, hkn⟩]]
    have d1 : decide (1 ≤ x0) = true := by simpa using h1
    clear h1 hkn
    go_enter Tryd.func43, Tryd.ntmps43
    go_upto_region 1 with fail
    refine wpV (fun V2 hV2 => ?_)
    obtain rfl : V = V2 := HV.out.symm.trans hV2
    clear HV hV2
    have HL : Hid (∀ V', Below V.heap.size V V' → Whole V' w.heap.size 30 (brC p a) ∧ V'.cell? ⟨b, off, none⟩ = some (.int .i64 x0)) := Lib.hid (fun V' hV => ⟨(HR.out.under hV).in_.box, ((HR.out.under hV).stp.below.cell (p := ⟨b, off, none⟩) HBl.out).trans Y0.out⟩)
    have HBd := Lib.hid (show Below V.heap.size V V.drew from below_drewB (Below.refl _ _) 1)
    refine wp_region_T (ls := []) (T := (fun V' => Below V.heap.size V V')) (by kernel_rfl) ?_
    refine takeT (i := 0) (v := brV p a) rfl (by kernel_rfl) (by kernel_rfl) (by kernel_rfl) (by kernel_rfl) (fun _ _ _ h => h) (by rfl) ?_ HBd.out ?_
    · intro V' hV; obtain ⟨y0, y1⟩ := HL.out V' hV; exact exec_load_brain rfl y0
    simp only [Act.put, List.setIfInBounds_toArray, List.set_cons_zero, List.set_cons_succ]
    refine takeP (i := 1) (v := ?_) rfl (by kernel_rfl) (by kernel_rfl) (by kernel_rfl) (by kernel_rfl) (fun _ _ _ h => h) (by rfl) ?_ (fun _ => HBd.out) ?_
    rotate_left
    · intro V'; go_simp <;> with_reducible rfl
    simp only [Act.put, List.setIfInBounds_toArray, List.set_cons_zero, List.set_cons_succ]
    refine takeP (i := 2) (v := ?_) rfl (by kernel_rfl) (by kernel_rfl) (by kernel_rfl) (by kernel_rfl) (fun _ _ _ h => h) (by rfl) ?_ (fun _ => HBd.out) ?_
    rotate_left
    · intro V'; go_simp <;> with_reducible rfl
    simp only [Act.put, List.setIfInBounds_toArray, List.set_cons_zero, List.set_cons_succ]
    refine takeT (i := 3) (v := ?_) rfl (by kernel_rfl) (by kernel_rfl) (by kernel_rfl) (by kernel_rfl) (fun _ _ _ h => h) (by rfl) ?_ HBd.out ?_
    rotate_left
    · intro V' hV; obtain ⟨y0, y1⟩ := HL.out V' hV; go_simp <;> with_reducible rfl
    simp only [Act.put, List.setIfInBounds_toArray, List.set_cons_zero, List.set_cons_succ]
    refine oneT (i := 4) rfl (by kernel_rfl) (by rfl) (fun K hK => ?_)
    go_simp
    refine (findO ((HR.out.under HBd.out).in_.own.weaker (Nat.zero_le _)) HKp.out HF.out).mono ?_
    rintro e V_1 ⟨rfl, hb_⟩
    have HB_1 := Lib.hid (show Below V.heap.size V V_1 from HBd.out.trans (hb_.mono HBd.out.size))
    clear hb_ HBd
    refine hK.out _ _ (fun _ => HB_1.out) ?_
    clear hK K
    refine takeP (i := 5) (v := ?_) rfl (by kernel_rfl) (by kernel_rfl) (by kernel_rfl) (by kernel_rfl) (fun _ _ _ h => h) (by rfl) ?_ (fun _ => HB_1.out) ?_
    rotate_left
    · intro V'; go_simp <;> with_reducible rfl
    simp only [Act.put, List.setIfInBounds_toArray, List.set_cons_zero, List.set_cons_succ]
    refine doneT (by kernel_rfl) ?_ _
    have HR1 := Lib.hid (HR.out.under HB_1.out)
    clear HL HR HB_1
    have y0 := (HR1.out.stp.below.cell (p := ⟨b, off, none⟩) HBl.out).trans Y0.out
    go_upto_region 4 with fail
    clear y0 d1
    have HL : Hid (∀ V', Below V_1.heap.size V_1 V' → Whole V' w.heap.size 30 (brC p a) ∧ V'.cell? ⟨b, off, none⟩ = some (.int .i64 x0) ∧ V'.cell? ⟨b, off + 1, none⟩ = some (.int .i64 x1) ∧ V'.cell? ⟨b, off + 2, none⟩ = some (.int .i64 x2) ∧ V'.cell? ⟨b, off + 3, none⟩ = some (.int .i64 x3) ∧ V'.cell? ⟨b, off + 4, none⟩ = some (.int .i64 x4)) := Lib.hid (fun V' hV => ⟨(HR1.out.under hV).in_.box, ((HR1.out.under hV).stp.below.cell (p := ⟨b, off, none⟩) HBl.out).trans Y0.out, ((HR1.out.under hV).stp.below.cell (p := ⟨b, off + 1, none⟩) HBl.out).trans Y1.out, ((HR1.out.under hV).stp.below.cell (p := ⟨b, off + 2, none⟩) HBl.out).trans Y2.out, ((HR1.out.under hV).stp.below.cell (p := ⟨b, off + 3, none⟩) HBl.out).trans Y3.out, ((HR1.out.under hV).stp.below.cell (p := ⟨b, off + 4, none⟩) HBl.out).trans Y4.out⟩)
    have HBd := Lib.hid (show Below V_1.heap.size V_1 V_1.drew from below_drewB (Below.refl _ _) 1)
    refine wp_region_T (ls := [17, 18]) (T := (fun V' => Below V_1.heap.size V_1 V')) (by kernel_rfl) ?_
    refine takeT (i := 0) (v := brV p a) rfl (by kernel_rfl) (by kernel_rfl) (by kernel_rfl) (by kernel_rfl) (fun _ _ _ h => h) (by rfl) ?_ HBd.out ?_
    · intro V' hV; obtain ⟨y0, y1, y2, y3, y4, y5⟩ := HL.out V' hV; exact exec_load_brain rfl y0
    simp only [Act.put, List.setIfInBounds_toArray, List.set_cons_zero, List.set_cons_succ]
    refine takeP (i := 1) (v := ?_) rfl (by kernel_rfl) (by kernel_rfl) (by kernel_rfl) (by kernel_rfl) (fun _ _ _ h => h) (by rfl) ?_ (fun _ => HBd.out) ?_
    rotate_left
    · intro V'; go_simp <;> with_reducible rfl
    simp only [Act.put, List.setIfInBounds_toArray, List.set_cons_zero, List.set_cons_succ]
    refine takeP (i := 2) (v := ?_) rfl (by kernel_rfl) (by kernel_rfl) (by kernel_rfl) (by kernel_rfl) (fun _ _ _ h => h) (by rfl) ?_ (fun _ => HBd.out) ?_
    rotate_left
    · intro V'; go_simp <;> with_reducible rfl
    simp only [Act.put, List.setIfInBounds_toArray, List.set_cons_zero, List.set_cons_succ]
    refine takeT (i := 3) (v := ?_) rfl (by kernel_rfl) (by kernel_rfl) (by kernel_rfl) (by kernel_rfl) (fun _ _ _ h => h) (by rfl) ?_ HBd.out ?_
    rotate_left
    · intro V' hV; obtain ⟨y0, y1, y2, y3, y4, y5⟩ := HL.out V' hV; go_simp <;> with_reducible rfl
    simp only [Act.put, List.setIfInBounds_toArray, List.set_cons_zero, List.set_cons_succ]
    refine takeP (i := 4) (v := ?_) rfl (by kernel_rfl) (by kernel_rfl) (by kernel_rfl) (by kernel_rfl) (fun _ _ _ h => h) (by rfl) ?_ (fun _ => HBd.out) ?_
    rotate_left
    · intro V'; go_simp <;> with_reducible rfl
    simp only [Act.put, List.setIfInBounds_toArray, List.set_cons_zero, List.set_cons_succ]
    refine takeP (i := 5) (v := ?_) rfl (by kernel_rfl) (by kernel_rfl) (by kernel_rfl) (by kernel_rfl) (fun _ _ _ h => h) (by rfl) ?_ (fun _ => HBd.out) ?_
    rotate_left
    · intro V'; go_simp <;> with_reducible rfl
    simp only [Act.put, List.setIfInBounds_toArray, List.set_cons_zero, List.set_cons_succ]
    refine takeT (i := 6) (v := ?_) rfl (by kernel_rfl) (by kernel_rfl) (by kernel_rfl) (by kernel_rfl) (fun _ _ _ h => h) (by rfl) ?_ HBd.out ?_
    rotate_left
    · intro V' hV; obtain ⟨y0, y1, y2, y3, y4, y5⟩ := HL.out V' hV; go_simp <;> with_reducible rfl
    simp only [Act.put, List.setIfInBounds_toArray, List.set_cons_zero, List.set_cons_succ]
    refine takeP (i := 7) (v := ?_) rfl (by kernel_rfl) (by kernel_rfl) (by kernel_rfl) (by kernel_rfl) (fun _ _ _ h => h) (by rfl) ?_ (fun _ => HBd.out) ?_
    rotate_left
    · intro V'; go_simp <;> with_reducible rfl
    simp only [Act.put, List.setIfInBounds_toArray, List.set_cons_zero, List.set_cons_succ]
    refine takeP (i := 8) (v := ?_) rfl (by kernel_rfl) (by kernel_rfl) (by kernel_rfl) (by kernel_rfl) (fun _ _ _ h => h) (by rfl) ?_ (fun _ => HBd.out) ?_
    rotate_left
    · intro V'; go_simp <;> with_reducible rfl
    simp only [Act.put, List.setIfInBounds_toArray, List.set_cons_zero, List.set_cons_succ]
    refine takeT (i := 9) (v := ?_) rfl (by kernel_rfl) (by kernel_rfl) (by kernel_rfl) (by kernel_rfl) (fun _ _ _ h => h) (by rfl) ?_ HBd.out ?_
    rotate_left
    · intro V' hV; obtain ⟨y0, y1, y2, y3, y4, y5⟩ := HL.out V' hV; go_simp <;> with_reducible rfl
    simp only [Act.put, List.setIfInBounds_toArray, List.set_cons_zero, List.set_cons_succ]
    refine takeP (i := 10) (v := ?_) rfl (by kernel_rfl) (by kernel_rfl) (by kernel_rfl) (by kernel_rfl) (fun _ _ _ h => h) (by rfl) ?_ (fun _ => HBd.out) ?_
    rotate_left
    · intro V'; go_simp <;> with_reducible rfl
    simp only [Act.put, List.setIfInBounds_toArray, List.set_cons_zero, List.set_cons_succ]
    refine takeP (i := 11) (v := ?_) rfl (by kernel_rfl) (by kernel_rfl) (by kernel_rfl) (by kernel_rfl) (fun _ _ _ h => h) (by rfl) ?_ (fun _ => HBd.out) ?_
    rotate_left
    · intro V'; go_simp <;> with_reducible rfl
    simp only [Act.put, List.setIfInBounds_toArray, List.set_cons_zero, List.set_cons_succ]
    refine takeT (i := 12) (v := ?_) rfl (by kernel_rfl) (by kernel_rfl) (by kernel_rfl) (by kernel_rfl) (fun _ _ _ h => h) (by rfl) ?_ HBd.out ?_
    rotate_left
    · intro V' hV; obtain ⟨y0, y1, y2, y3, y4, y5⟩ := HL.out V' hV; go_simp <;> with_reducible rfl
    simp only [Act.put, List.setIfInBounds_toArray, List.set_cons_zero, List.set_cons_succ]
    refine takeP (i := 13) (v := ?_) rfl (by kernel_rfl) (by kernel_rfl) (by kernel_rfl) (by kernel_rfl) (fun _ _ _ h => h) (by rfl) ?_ (fun _ => HBd.out) ?_
    rotate_left
    · intro V'; go_simp <;> with_reducible rfl
    simp only [Act.put, List.setIfInBounds_toArray, List.set_cons_zero, List.set_cons_succ]
    refine takeP (i := 14) (v := ?_) rfl (by kernel_rfl) (by kernel_rfl) (by kernel_rfl) (by kernel_rfl) (fun _ _ _ h => h) (by rfl) ?_ (fun _ => HBd.out) ?_
    rotate_left
    · intro V'; go_simp <;> with_reducible rfl
    simp only [Act.put, List.setIfInBounds_toArray, List.set_cons_zero, List.set_cons_succ]
    refine takeT (i := 15) (v := ?_) rfl (by kernel_rfl) (by kernel_rfl) (by kernel_rfl) (by kernel_rfl) (fun _ _ _ h => h) (by rfl) ?_ HBd.out ?_
    rotate_left
    · intro V' hV; obtain ⟨y0, y1, y2, y3, y4, y5⟩ := HL.out V' hV; go_simp <;> with_reducible rfl
    simp only [Act.put, List.setIfInBounds_toArray, List.set_cons_zero, List.set_cons_succ]
    refine takeP (i := 16) (v := ?_) rfl (by kernel_rfl) (by kernel_rfl) (by kernel_rfl) (by kernel_rfl) (fun _ _ _ h => h) (by rfl) ?_ (fun _ => HBd.out) ?_
    rotate_left
    · intro V'; go_simp <;> with_reducible rfl
    simp only [Act.put, List.setIfInBounds_toArray, List.set_cons_zero, List.set_cons_succ]
    have HRd := Lib.hid (HR1.out.under HBd.out)
    have HKs := Lib.hid (rkeepS_any p a ⟨x0, x1, x2, x3, 8, x4, false, false⟩ base V_1.drew HRd.out.in_.own (Nat.le_trans HRd.out.in_.ge (Nat.le_of_lt HRd.out.in_.lt)) HKp.out)
    clear HL HBd
    refine oneL (i := 17) (by kernel_rfl) rfl (by kernel_rfl) (by rfl) (fun K hK => ?_)
    go_simp
    refine HKs.out.mono ?_
    rintro e V3 ⟨a2, rfl, ho2, hs2⟩
    obtain ⟨cs2, hc2, hz2⟩ := hs2.brn _ _ HRd.out.res
    refine hK.out _ _ ?_
    clear hK K HKs
    refine oneL (i := 18) (by kernel_rfl) rfl (by kernel_rfl) (by rfl) (fun K hK => ?_)
    refine wp_storeB _ _ rfl (w.heap.size + 1) { p with kps := putK p.kps ⟨x0, x1, x2, x3, 8, x4, false, false⟩ } a2 cs2 (by rw [hz2]; rfl) (by rfl) (by rfl) hc2 (fun V4 hV4 => ?_)
    have HZ := Lib.hid (show Whole V4 (w.heap.size + 1) 30 (brC { p with kps := putK p.kps ⟨x0, x1, x2, x3, 8, x4, false, false⟩ } a2) ∧ OwB base V4 { p with kps := putK p.kps ⟨x0, x1, x2, x3, 8, x4, false, false⟩ } a2 ∧ Stp base w V4 by
      rw [hV4]
      exact ⟨setRow_heap _ _ _ _ _ _ hc2, ho2.rowset hc2 (by decide) (by decide) (by decide) _, (HRd.out.stp.trans hs2).trans (stp_row hc2 (by rw [hz2]; rfl) (by have := HRd.out.in_.ge; omega))⟩)
    clear hV4 hc2 hz2 ho2 hs2
    refine hK.out _ _ ?_
    clear hK K
    refine doneT (by kernel_rfl) ?_ _
    go_wp2_with fail
    exact brain_end (k := 6) rfl (by rfl) HZ.out.1 rfl ⟨_, rfl, HZ.out.2.1, HZ.out.2.2⟩
  by_cases k6 : k = 6
  · subst k6
    clear hk
    have hnn : n = 3 := by unfold manyB at hn; simp at hn; omega
    subst hnn
    clear hn
    rw [show fitB p ((6 : Nat) : Int) x0 x1 x2 x3 x4 = phaseB p x0 x1 x2 from rfl]
    obtain ⟨b, off, rfl, hbl, _⟩ := HLs.out.2 (by omega)
    have y0 : w.cell? ⟨b, off, none⟩ = some (.int .i64 x0) := by
      obtain ⟨b', off', e, _, h⟩ := at_of (k := 0) HLs.out (by omega)
      injection e with e; injection e with e1 e2; subst e1; subst e2
      rw [HX0.out] at h; exact h
    have Y0 := Lib.hid y0
    have y1 : w.cell? ⟨b, off + 1, none⟩ = some (.int .i64 x1) := by
      obtain ⟨b', off', e, _, h⟩ := at_of (k := 1) HLs.out (by omega)
      injection e with e; injection e with e1 e2; subst e1; subst e2
      rw [HX1.out] at h; exact h
    have Y1 := Lib.hid y1
    have y2 : w.cell? ⟨b, off + 2, none⟩ = some (.int .i64 x2) := by
      obtain ⟨b', off', e, _, h⟩ := at_of (k := 2) HLs.out (by omega)
      injection e with e; injection e with e1 e2; subst e1; subst e2
      rw [HX2.out] at h; exact h
    have Y2 := Lib.hid y2
    have HBl := Lib.hid hbl
    clear hbl y0 y1 y2
    have e8 : (((6 : Nat) : Int) == 8) = false := by decide
    have e6 : (((6 : Nat) : Int) == 6) = true := by decide
    rcases hidx with ⟨_, hkn, rfl⟩ | ⟨i, x, hfi, hx, hks, rfl⟩
    · rw [show phaseB p x0 x1 x2 = p by unfold phaseB; rw [hkn]]
      have d0 : decide ((-1 : Int) < 0) = true := by decide
      clear hkn
      go_enter Tryd.func43, Tryd.ntmps43
      go_upto_region 1 with fail
      refine wpV (fun V2 hV2 => ?_)
      obtain rfl : V = V2 := HV.out.symm.trans hV2
      clear HV hV2
      have HL : Hid (∀ V', Below V.heap.size V V' → Whole V' w.heap.size 30 (brC p a) ∧ V'.cell? ⟨b, off, none⟩ = some (.int .i64 x0)) := Lib.hid (fun V' hV => ⟨(HR.out.under hV).in_.box, ((HR.out.under hV).stp.below.cell (p := ⟨b, off, none⟩) HBl.out).trans Y0.out⟩)
      have HBd := Lib.hid (show Below V.heap.size V V.drew from below_drewB (Below.refl _ _) 1)
      refine wp_region_T (ls := []) (T := (fun V' => Below V.heap.size V V')) (by kernel_rfl) ?_
      refine takeT (i := 0) (v := brV p a) rfl (by kernel_rfl) (by kernel_rfl) (by kernel_rfl) (by kernel_rfl) (fun _ _ _ h => h) (by rfl) ?_ HBd.out ?_
      · intro V' hV; obtain ⟨y0, y1⟩ := HL.out V' hV; exact exec_load_brain rfl y0
      simp only [Act.put, List.setIfInBounds_toArray, List.set_cons_zero, List.set_cons_succ]
      refine takeP (i := 1) (v := ?_) rfl (by kernel_rfl) (by kernel_rfl) (by kernel_rfl) (by kernel_rfl) (fun _ _ _ h => h) (by rfl) ?_ (fun _ => HBd.out) ?_
      rotate_left
      · intro V'; go_simp <;> with_reducible rfl
      simp only [Act.put, List.setIfInBounds_toArray, List.set_cons_zero, List.set_cons_succ]
      refine takeP (i := 2) (v := ?_) rfl (by kernel_rfl) (by kernel_rfl) (by kernel_rfl) (by kernel_rfl) (fun _ _ _ h => h) (by rfl) ?_ (fun _ => HBd.out) ?_
      rotate_left
      · intro V'; go_simp <;> with_reducible rfl
      simp only [Act.put, List.setIfInBounds_toArray, List.set_cons_zero, List.set_cons_succ]
      refine takeT (i := 3) (v := ?_) rfl (by kernel_rfl) (by kernel_rfl) (by kernel_rfl) (by kernel_rfl) (fun _ _ _ h => h) (by rfl) ?_ HBd.out ?_
      rotate_left
      · intro V' hV; obtain ⟨y0, y1⟩ := HL.out V' hV; go_simp <;> with_reducible rfl
      simp only [Act.put, List.setIfInBounds_toArray, List.set_cons_zero, List.set_cons_succ]
      refine oneT (i := 4) rfl (by kernel_rfl) (by rfl) (fun K hK => ?_)
      go_simp
      refine (findO ((HR.out.under HBd.out).in_.own.weaker (Nat.zero_le _)) HKp.out HF.out).mono ?_
      rintro e V_1 ⟨rfl, hb_⟩
      have HB_1 := Lib.hid (show Below V.heap.size V V_1 from HBd.out.trans (hb_.mono HBd.out.size))
      clear hb_ HBd
      refine hK.out _ _ (fun _ => HB_1.out) ?_
      clear hK K
      refine takeP (i := 5) (v := ?_) rfl (by kernel_rfl) (by kernel_rfl) (by kernel_rfl) (by kernel_rfl) (fun _ _ _ h => h) (by rfl) ?_ (fun _ => HB_1.out) ?_
      rotate_left
      · intro V'; go_simp <;> with_reducible rfl
      simp only [Act.put, List.setIfInBounds_toArray, List.set_cons_zero, List.set_cons_succ]
      refine doneT (by kernel_rfl) ?_ _
      have HR1 := Lib.hid (HR.out.under HB_1.out)
      clear HL HR HB_1
      go_wp2_with (first | (refine wpList_loadB (by rfl) _ rfl w.heap.size p a (by rfl) HR1.out.in_.box ?_) | (refine wpList_storeB rfl _ _ rfl (w.heap.size + 1) p a _ (by rfl) (by rfl) (by rfl) HR1.out.res ?_; intro W9 hW9))
      obtain ⟨t1, t2, t3⟩ := HR1.out.tell hW9
      subst hW9
      exact brain_end (k := 6) rfl (by rfl) t1 rfl ⟨_, rfl, t2, t3⟩
    have d0 : decide ((i : Int) < 0) = false := by simp
    have hI : (i : Int) < (p.kps.length : Int) := by have := (List.getElem?_eq_some_iff.1 hx).1; omega
    obtain ⟨bk, hB, hbk, hbv⟩ := kps_at (i := i) HR.out.in_ hx
    have HBk := Lib.hid hB
    have HXk := Lib.hid hx
    have HFi := Lib.hid hfi
    clear hB hbk hbv hx hfi
    by_cases h11 : x1 < 11
    rotate_left
    · rw [show phaseB p x0 x1 x2 = p by unfold phaseB; rw [hks]; exact if_neg (fun h => h11 h.1)]
      have d1 : decide (x1 < 11) = false := by simpa using h11
      clear hks h11
      go_enter Tryd.func43, Tryd.ntmps43
      go_upto_region 1 with fail
      refine wpV (fun V2 hV2 => ?_)
      obtain rfl : V = V2 := HV.out.symm.trans hV2
      clear HV hV2
      have HL : Hid (∀ V', Below V.heap.size V V' → Whole V' w.heap.size 30 (brC p a) ∧ V'.cell? ⟨b, off, none⟩ = some (.int .i64 x0)) := Lib.hid (fun V' hV => ⟨(HR.out.under hV).in_.box, ((HR.out.under hV).stp.below.cell (p := ⟨b, off, none⟩) HBl.out).trans Y0.out⟩)
      have HBd := Lib.hid (show Below V.heap.size V V.drew from below_drewB (Below.refl _ _) 1)
      refine wp_region_T (ls := []) (T := (fun V' => Below V.heap.size V V')) (by kernel_rfl) ?_
      refine takeT (i := 0) (v := brV p a) rfl (by kernel_rfl) (by kernel_rfl) (by kernel_rfl) (by kernel_rfl) (fun _ _ _ h => h) (by rfl) ?_ HBd.out ?_
      · intro V' hV; obtain ⟨y0, y1⟩ := HL.out V' hV; exact exec_load_brain rfl y0
      simp only [Act.put, List.setIfInBounds_toArray, List.set_cons_zero, List.set_cons_succ]
      refine takeP (i := 1) (v := ?_) rfl (by kernel_rfl) (by kernel_rfl) (by kernel_rfl) (by kernel_rfl) (fun _ _ _ h => h) (by rfl) ?_ (fun _ => HBd.out) ?_
      rotate_left
      · intro V'; go_simp <;> with_reducible rfl
      simp only [Act.put, List.setIfInBounds_toArray, List.set_cons_zero, List.set_cons_succ]
      refine takeP (i := 2) (v := ?_) rfl (by kernel_rfl) (by kernel_rfl) (by kernel_rfl) (by kernel_rfl) (fun _ _ _ h => h) (by rfl) ?_ (fun _ => HBd.out) ?_
      rotate_left
      · intro V'; go_simp <;> with_reducible rfl
      simp only [Act.put, List.setIfInBounds_toArray, List.set_cons_zero, List.set_cons_succ]
      refine takeT (i := 3) (v := ?_) rfl (by kernel_rfl) (by kernel_rfl) (by kernel_rfl) (by kernel_rfl) (fun _ _ _ h => h) (by rfl) ?_ HBd.out ?_
      rotate_left
      · intro V' hV; obtain ⟨y0, y1⟩ := HL.out V' hV; go_simp <;> with_reducible rfl
      simp only [Act.put, List.setIfInBounds_toArray, List.set_cons_zero, List.set_cons_succ]
      refine oneT (i := 4) rfl (by kernel_rfl) (by rfl) (fun K hK => ?_)
      go_simp
      refine (findO ((HR.out.under HBd.out).in_.own.weaker (Nat.zero_le _)) HKp.out HF.out).mono ?_
      rintro e V_1 ⟨rfl, hb_⟩
      have HB_1 := Lib.hid (show Below V.heap.size V V_1 from HBd.out.trans (hb_.mono HBd.out.size))
      clear hb_ HBd
      refine hK.out _ _ (fun _ => HB_1.out) ?_
      clear hK K
      refine takeP (i := 5) (v := ?_) rfl (by kernel_rfl) (by kernel_rfl) (by kernel_rfl) (by kernel_rfl) (fun _ _ _ h => h) (by rfl) ?_ (fun _ => HB_1.out) ?_
      rotate_left
      · intro V'; go_simp <;> with_reducible rfl
      simp only [Act.put, List.setIfInBounds_toArray, List.set_cons_zero, List.set_cons_succ]
      refine doneT (by kernel_rfl) ?_ _
      have HR1 := Lib.hid (HR.out.under HB_1.out)
      clear HL HR HB_1
      go_upto_region 7 with fail
      have HL : Hid (∀ V', Below V_1.heap.size V_1 V' → V'.cell? ⟨b, off + 1, none⟩ = some (.int .i64 x1) ∧ True) := Lib.hid (fun V' hV => ⟨((HR1.out.under hV).stp.below.cell (p := ⟨b, off + 1, none⟩) HBl.out).trans Y1.out, trivial⟩)
      have HBd := Lib.hid (show Below V_1.heap.size V_1 V_1.drew from below_drewB (Below.refl _ _) 1)
      refine wp_region_T (ls := []) (T := (fun V' => Below V_1.heap.size V_1 V')) (by kernel_rfl) ?_
      refine takeP (i := 0) (v := ?_) rfl (by kernel_rfl) (by kernel_rfl) (by kernel_rfl) (by kernel_rfl) (fun _ _ _ h => h) (by rfl) ?_ (fun _ => HBd.out) ?_
      rotate_left
      · intro V'; go_simp <;> with_reducible rfl
      simp only [Act.put, List.setIfInBounds_toArray, List.set_cons_zero, List.set_cons_succ]
      refine takeP (i := 1) (v := ?_) rfl (by kernel_rfl) (by kernel_rfl) (by kernel_rfl) (by kernel_rfl) (fun _ _ _ h => h) (by rfl) ?_ (fun _ => HBd.out) ?_
      rotate_left
      · intro V'; go_simp <;> with_reducible rfl
      simp only [Act.put, List.setIfInBounds_toArray, List.set_cons_zero, List.set_cons_succ]
      refine takeT (i := 2) (v := ?_) rfl (by kernel_rfl) (by kernel_rfl) (by kernel_rfl) (by kernel_rfl) (fun _ _ _ h => h) (by rfl) ?_ HBd.out ?_
      rotate_left
      · intro V' hV; obtain ⟨y0, y1⟩ := HL.out V' hV; go_simp <;> with_reducible rfl
      simp only [Act.put, List.setIfInBounds_toArray, List.set_cons_zero, List.set_cons_succ]
      refine takeP (i := 3) (v := ?_) rfl (by kernel_rfl) (by kernel_rfl) (by kernel_rfl) (by kernel_rfl) (fun _ _ _ h => h) (by rfl) ?_ (fun _ => HBd.out) ?_
      rotate_left
      · intro V'; go_simp <;> with_reducible rfl
      simp only [Act.put, List.setIfInBounds_toArray, List.set_cons_zero, List.set_cons_succ]
      refine takeP (i := 4) (v := ?_) rfl (by kernel_rfl) (by kernel_rfl) (by kernel_rfl) (by kernel_rfl) (fun _ _ _ h => h) (by rfl) ?_ (fun _ => HBd.out) ?_
      rotate_left
      · intro V'; go_simp <;> with_reducible rfl
      simp only [Act.put, List.setIfInBounds_toArray, List.set_cons_zero, List.set_cons_succ]
      refine skipT (i := 5) rfl (by kernel_rfl) (by kernel_rfl) (by kernel_rfl) (by kernel_rfl) (fun _ _ _ h => h) (by rfl) (fun _ => HBd.out) ?_
      simp only [Act.put, List.setIfInBounds_toArray, List.set_cons_zero, List.set_cons_succ]
      refine skipT (i := 6) rfl (by kernel_rfl) (by kernel_rfl) (by kernel_rfl) (by kernel_rfl) (fun _ _ _ h => h) (by rfl) (fun _ => HBd.out) ?_
      simp only [Act.put, List.setIfInBounds_toArray, List.set_cons_zero, List.set_cons_succ]
      refine skipT (i := 7) rfl (by kernel_rfl) (by kernel_rfl) (by kernel_rfl) (by kernel_rfl) (fun _ _ _ h => h) (by rfl) (fun _ => HBd.out) ?_
      simp only [Act.put, List.setIfInBounds_toArray, List.set_cons_zero, List.set_cons_succ]
      refine skipT (i := 8) rfl (by kernel_rfl) (by kernel_rfl) (by kernel_rfl) (by kernel_rfl) (fun _ _ _ h => h) (by rfl) (fun _ => HBd.out) ?_
      simp only [Act.put, List.setIfInBounds_toArray, List.set_cons_zero, List.set_cons_succ]
      refine skipT (i := 9) rfl (by kernel_rfl) (by kernel_rfl) (by kernel_rfl) (by kernel_rfl) (fun _ _ _ h => h) (by rfl) (fun _ => HBd.out) ?_
      simp only [Act.put, List.setIfInBounds_toArray, List.set_cons_zero, List.set_cons_succ]
      refine skipT (i := 10) rfl (by kernel_rfl) (by kernel_rfl) (by kernel_rfl) (by kernel_rfl) (fun _ _ _ h => h) (by rfl) (fun _ => HBd.out) ?_
      simp only [Act.put, List.setIfInBounds_toArray, List.set_cons_zero, List.set_cons_succ]
      refine skipT (i := 11) rfl (by kernel_rfl) (by kernel_rfl) (by kernel_rfl) (by kernel_rfl) (fun _ _ _ h => h) (by rfl) (fun _ => HBd.out) ?_
      simp only [Act.put, List.setIfInBounds_toArray, List.set_cons_zero, List.set_cons_succ]
      refine skipT (i := 12) rfl (by kernel_rfl) (by kernel_rfl) (by kernel_rfl) (by kernel_rfl) (fun _ _ _ h => h) (by rfl) (fun _ => HBd.out) ?_
      simp only [Act.put, List.setIfInBounds_toArray, List.set_cons_zero, List.set_cons_succ]
      refine skipT (i := 13) rfl (by kernel_rfl) (by kernel_rfl) (by kernel_rfl) (by kernel_rfl) (fun _ _ _ h => h) (by rfl) (fun _ => HBd.out) ?_
      simp only [Act.put, List.setIfInBounds_toArray, List.set_cons_zero, List.set_cons_succ]
      refine skipT (i := 14) rfl (by kernel_rfl) (by kernel_rfl) (by kernel_rfl) (by kernel_rfl) (fun _ _ _ h => h) (by rfl) (fun _ => HBd.out) ?_
      simp only [Act.put, List.setIfInBounds_toArray, List.set_cons_zero, List.set_cons_succ]
      refine skipT (i := 15) rfl (by kernel_rfl) (by kernel_rfl) (by kernel_rfl) (by kernel_rfl) (fun _ _ _ h => h) (by rfl) (fun _ => HBd.out) ?_
      simp only [Act.put, List.setIfInBounds_toArray, List.set_cons_zero, List.set_cons_succ]
      refine takeP (i := 16) (v := ?_) rfl (by kernel_rfl) (by kernel_rfl) (by kernel_rfl) (by kernel_rfl) (fun _ _ _ h => h) (by rfl) ?_ (fun _ => HBd.out) ?_
      rotate_left
      · intro V'; go_simp <;> with_reducible rfl
      simp only [Act.put, List.setIfInBounds_toArray, List.set_cons_zero, List.set_cons_succ]
      refine doneT (by kernel_rfl) ?_ _
      have HR2 := Lib.hid (HR1.out.under HBd.out)
      clear HL HBd HR1
      go_wp2_with (first | (refine wpList_loadB (by rfl) _ rfl w.heap.size p a (by rfl) HR2.out.in_.box ?_) | (refine wpList_storeB rfl _ _ rfl (w.heap.size + 1) p a _ (by rfl) (by rfl) (by rfl) HR2.out.res ?_; intro W9 hW9))
      obtain ⟨t1, t2, t3⟩ := HR2.out.tell hW9
      subst hW9
      exact brain_end (k := 6) rfl (by rfl) t1 rfl ⟨_, rfl, t2, t3⟩
    have d1 : decide (x1 < 11) = true := by simpa using h11
    have hw8 : IntKind.u8.wrap x1 = x1 := by rw [IntKind.wrap_u8]; omega
    cases hlg : legalB x.phase x1 with
    | false =>
      rw [show phaseB p x0 x1 x2 = p by unfold phaseB; rw [hks]; exact if_neg (fun h => by rw [hlg] at h; exact absurd h.2 (by decide))]
      have HLg := Lib.hid hlg
      clear hks h11 hlg
      go_enter Tryd.func43, Tryd.ntmps43
      go_upto_region 1 with fail
      refine wpV (fun V2 hV2 => ?_)
      obtain rfl : V = V2 := HV.out.symm.trans hV2
      clear HV hV2
      have HL : Hid (∀ V', Below V.heap.size V V' → Whole V' w.heap.size 30 (brC p a) ∧ V'.cell? ⟨b, off, none⟩ = some (.int .i64 x0)) := Lib.hid (fun V' hV => ⟨(HR.out.under hV).in_.box, ((HR.out.under hV).stp.below.cell (p := ⟨b, off, none⟩) HBl.out).trans Y0.out⟩)
      have HBd := Lib.hid (show Below V.heap.size V V.drew from below_drewB (Below.refl _ _) 1)
      refine wp_region_T (ls := []) (T := (fun V' => Below V.heap.size V V')) (by kernel_rfl) ?_
      refine takeT (i := 0) (v := brV p a) rfl (by kernel_rfl) (by kernel_rfl) (by kernel_rfl) (by kernel_rfl) (fun _ _ _ h => h) (by rfl) ?_ HBd.out ?_
      · intro V' hV; obtain ⟨y0, y1⟩ := HL.out V' hV; exact exec_load_brain rfl y0
      simp only [Act.put, List.setIfInBounds_toArray, List.set_cons_zero, List.set_cons_succ]
      refine takeP (i := 1) (v := ?_) rfl (by kernel_rfl) (by kernel_rfl) (by kernel_rfl) (by kernel_rfl) (fun _ _ _ h => h) (by rfl) ?_ (fun _ => HBd.out) ?_
      rotate_left
      · intro V'; go_simp <;> with_reducible rfl
      simp only [Act.put, List.setIfInBounds_toArray, List.set_cons_zero, List.set_cons_succ]
      refine takeP (i := 2) (v := ?_) rfl (by kernel_rfl) (by kernel_rfl) (by kernel_rfl) (by kernel_rfl) (fun _ _ _ h => h) (by rfl) ?_ (fun _ => HBd.out) ?_
      rotate_left
      · intro V'; go_simp <;> with_reducible rfl
      simp only [Act.put, List.setIfInBounds_toArray, List.set_cons_zero, List.set_cons_succ]
      refine takeT (i := 3) (v := ?_) rfl (by kernel_rfl) (by kernel_rfl) (by kernel_rfl) (by kernel_rfl) (fun _ _ _ h => h) (by rfl) ?_ HBd.out ?_
      rotate_left
      · intro V' hV; obtain ⟨y0, y1⟩ := HL.out V' hV; go_simp <;> with_reducible rfl
      simp only [Act.put, List.setIfInBounds_toArray, List.set_cons_zero, List.set_cons_succ]
      refine oneT (i := 4) rfl (by kernel_rfl) (by rfl) (fun K hK => ?_)
      go_simp
      refine (findO ((HR.out.under HBd.out).in_.own.weaker (Nat.zero_le _)) HKp.out HF.out).mono ?_
      rintro e V_1 ⟨rfl, hb_⟩
      have HB_1 := Lib.hid (show Below V.heap.size V V_1 from HBd.out.trans (hb_.mono HBd.out.size))
      clear hb_ HBd
      refine hK.out _ _ (fun _ => HB_1.out) ?_
      clear hK K
      refine takeP (i := 5) (v := ?_) rfl (by kernel_rfl) (by kernel_rfl) (by kernel_rfl) (by kernel_rfl) (fun _ _ _ h => h) (by rfl) ?_ (fun _ => HB_1.out) ?_
      rotate_left
      · intro V'; go_simp <;> with_reducible rfl
      simp only [Act.put, List.setIfInBounds_toArray, List.set_cons_zero, List.set_cons_succ]
      refine doneT (by kernel_rfl) ?_ _
      have HR1 := Lib.hid (HR.out.under HB_1.out)
      clear HL HR HB_1
      go_upto_region 7 with fail
      have HL : Hid (∀ V', Below V_1.heap.size V_1 V' → V'.cell? ⟨b, off + 1, none⟩ = some (.int .i64 x1) ∧ V'.cell? ⟨w.heap.size, 19, none⟩ = some (.slice (some ⟨bk, 0, none⟩) p.kps.length a.d) ∧ V'.cell? ⟨bk, i * 8 + 4, none⟩ = some (.int .u8 x.phase)) := Lib.hid (fun V' hV => ⟨((HR1.out.under hV).stp.below.cell (p := ⟨b, off + 1, none⟩) HBl.out).trans Y1.out, ((HR1.out.under hV).in_.box.cell 19).trans (by simp [HBk.out]), ((HR1.out.under hV).cell HBk.out (j := 4) (y := x) (u := .int .u8 x.phase) HXk.out (by omega) rfl).1⟩)
      have HBd := Lib.hid (show Below V_1.heap.size V_1 V_1.drew from below_drewB (Below.refl _ _) 1)
      refine wp_region_T (ls := []) (T := (fun V' => Below V_1.heap.size V_1 V')) (by kernel_rfl) ?_
      refine takeP (i := 0) (v := ?_) rfl (by kernel_rfl) (by kernel_rfl) (by kernel_rfl) (by kernel_rfl) (fun _ _ _ h => h) (by rfl) ?_ (fun _ => HBd.out) ?_
      rotate_left
      · intro V'; go_simp <;> with_reducible rfl
      simp only [Act.put, List.setIfInBounds_toArray, List.set_cons_zero, List.set_cons_succ]
      refine takeP (i := 1) (v := ?_) rfl (by kernel_rfl) (by kernel_rfl) (by kernel_rfl) (by kernel_rfl) (fun _ _ _ h => h) (by rfl) ?_ (fun _ => HBd.out) ?_
      rotate_left
      · intro V'; go_simp <;> with_reducible rfl
      simp only [Act.put, List.setIfInBounds_toArray, List.set_cons_zero, List.set_cons_succ]
      refine takeT (i := 2) (v := ?_) rfl (by kernel_rfl) (by kernel_rfl) (by kernel_rfl) (by kernel_rfl) (fun _ _ _ h => h) (by rfl) ?_ HBd.out ?_
      rotate_left
      · intro V' hV; obtain ⟨y0, y1, y2⟩ := HL.out V' hV; go_simp <;> with_reducible rfl
      simp only [Act.put, List.setIfInBounds_toArray, List.set_cons_zero, List.set_cons_succ]
      refine takeP (i := 3) (v := ?_) rfl (by kernel_rfl) (by kernel_rfl) (by kernel_rfl) (by kernel_rfl) (fun _ _ _ h => h) (by rfl) ?_ (fun _ => HBd.out) ?_
      rotate_left
      · intro V'; go_simp <;> with_reducible rfl
      simp only [Act.put, List.setIfInBounds_toArray, List.set_cons_zero, List.set_cons_succ]
      refine takeP (i := 4) (v := ?_) rfl (by kernel_rfl) (by kernel_rfl) (by kernel_rfl) (by kernel_rfl) (fun _ _ _ h => h) (by rfl) ?_ (fun _ => HBd.out) ?_
      rotate_left
      · intro V'; go_simp <;> with_reducible rfl
      simp only [Act.put, List.setIfInBounds_toArray, List.set_cons_zero, List.set_cons_succ]
      refine takeP (i := 5) (v := ?_) rfl (by kernel_rfl) (by kernel_rfl) (by kernel_rfl) (by kernel_rfl) (fun _ _ _ h => h) (by rfl) ?_ (fun _ => HBd.out) ?_
      rotate_left
      · intro V'; go_simp <;> with_reducible rfl
      simp only [Act.put, List.setIfInBounds_toArray, List.set_cons_zero, List.set_cons_succ]
      refine takeT (i := 6) (v := ?_) rfl (by kernel_rfl) (by kernel_rfl) (by kernel_rfl) (by kernel_rfl) (fun _ _ _ h => h) (by rfl) ?_ HBd.out ?_
      rotate_left
      · intro V' hV; obtain ⟨y0, y1, y2⟩ := HL.out V' hV; go_simp <;> with_reducible rfl
      simp only [Act.put, List.setIfInBounds_toArray, List.set_cons_zero, List.set_cons_succ]
      refine takeP (i := 7) (v := ?_) rfl (by kernel_rfl) (by kernel_rfl) (by kernel_rfl) (by kernel_rfl) (fun _ _ _ h => h) (by rfl) ?_ (fun _ => HBd.out) ?_
      rotate_left
      · intro V'; go_simp <;> with_reducible rfl
      simp only [Act.put, List.setIfInBounds_toArray, List.set_cons_zero, List.set_cons_succ]
      refine takeP (i := 8) (v := ?_) rfl (by kernel_rfl) (by kernel_rfl) (by kernel_rfl) (by kernel_rfl) (fun _ _ _ h => h) (by rfl) ?_ (fun _ => HBd.out) ?_
      rotate_left
      · intro V'; go_simp <;> with_reducible rfl
      simp only [Act.put, List.setIfInBounds_toArray, List.set_cons_zero, List.set_cons_succ]
      refine takeP (i := 9) (v := ?_) rfl (by kernel_rfl) (by kernel_rfl) (by kernel_rfl) (by kernel_rfl) (fun _ _ _ h => h) (by rfl) ?_ (fun _ => HBd.out) ?_
      rotate_left
      · intro V'; go_simp <;> with_reducible rfl
      simp only [Act.put, List.setIfInBounds_toArray, List.set_cons_zero, List.set_cons_succ]
      refine takeT (i := 10) (v := ?_) rfl (by kernel_rfl) (by kernel_rfl) (by kernel_rfl) (by kernel_rfl) (fun _ _ _ h => h) (by rfl) ?_ HBd.out ?_
      rotate_left
      · intro V' hV; obtain ⟨y0, y1, y2⟩ := HL.out V' hV; go_simp <;> with_reducible rfl
      simp only [Act.put, List.setIfInBounds_toArray, List.set_cons_zero, List.set_cons_succ]
      refine takeP (i := 11) (v := ?_) rfl (by kernel_rfl) (by kernel_rfl) (by kernel_rfl) (by kernel_rfl) (fun _ _ _ h => h) (by rfl) ?_ (fun _ => HBd.out) ?_
      rotate_left
      · intro V'; go_simp <;> with_reducible rfl
      simp only [Act.put, List.setIfInBounds_toArray, List.set_cons_zero, List.set_cons_succ]
      refine takeP (i := 12) (v := ?_) rfl (by kernel_rfl) (by kernel_rfl) (by kernel_rfl) (by kernel_rfl) (fun _ _ _ h => h) (by rfl) ?_ (fun _ => HBd.out) ?_
      rotate_left
      · intro V'; go_simp <;> with_reducible rfl
      simp only [Act.put, List.setIfInBounds_toArray, List.set_cons_zero, List.set_cons_succ]
      refine takeT (i := 13) (v := ?_) rfl (by kernel_rfl) (by kernel_rfl) (by kernel_rfl) (by kernel_rfl) (fun _ _ _ h => h) (by rfl) ?_ HBd.out ?_
      rotate_left
      · intro V' hV; obtain ⟨y0, y1, y2⟩ := HL.out V' hV; go_simp <;> with_reducible rfl
      simp only [Act.put, List.setIfInBounds_toArray, List.set_cons_zero, List.set_cons_succ]
      refine takeP (i := 14) (v := ?_) rfl (by kernel_rfl) (by kernel_rfl) (by kernel_rfl) (by kernel_rfl) (fun _ _ _ h => h) (by rfl) ?_ (fun _ => HBd.out) ?_
      rotate_left
      · intro V'; go_simp <;> with_reducible rfl
      simp only [Act.put, List.setIfInBounds_toArray, List.set_cons_zero, List.set_cons_succ]
      refine oneT (i := 15) rfl (by kernel_rfl) (by rfl) (fun K hK => ?_)
      go_simp
      refine (legO x.phase x1 V_1.drew HLg.out).mono ?_
      rintro e V_1_1 ⟨rfl, hb_⟩
      have HB_1 := Lib.hid (show Below V_1.heap.size V_1 V_1_1 from HBd.out.trans (hb_.mono HBd.out.size))
      clear hb_ HBd
      refine hK.out _ _ (fun _ => HB_1.out) ?_
      clear hK K
      refine takeP (i := 16) (v := ?_) rfl (by kernel_rfl) (by kernel_rfl) (by kernel_rfl) (by kernel_rfl) (fun _ _ _ h => h) (by rfl) ?_ (fun _ => HB_1.out) ?_
      rotate_left
      · intro V'; go_simp <;> with_reducible rfl
      simp only [Act.put, List.setIfInBounds_toArray, List.set_cons_zero, List.set_cons_succ]
      refine doneT (by kernel_rfl) ?_ _
      have HR2 := Lib.hid (HR1.out.under HB_1.out)
      clear HL HB_1 HR1
      go_wp2_with (first | (refine wpList_loadB (by rfl) _ rfl w.heap.size p a (by rfl) HR2.out.in_.box ?_) | (refine wpList_storeB rfl _ _ rfl (w.heap.size + 1) p a _ (by rfl) (by rfl) (by rfl) HR2.out.res ?_; intro W9 hW9))
      obtain ⟨t1, t2, t3⟩ := HR2.out.tell hW9
      subst hW9
      exact brain_end (k := 6) rfl (by rfl) t1 rfl ⟨_, rfl, t2, t3⟩
    | true =>
      rw [show phaseB p x0 x1 x2 = { p with kps := p.kps.set i { x with phase := x1, since := x2, done := false } } by unfold phaseB; rw [hks]; exact (if_pos ⟨h11, hlg⟩).trans (by rw [setK_set HFi.out HXk.out])]
      have HLg := Lib.hid hlg
      clear hks h11 hlg
      go_enter Tryd.func43, Tryd.ntmps43
      go_upto_region 1 with fail
      refine wpV (fun V2 hV2 => ?_)
      obtain rfl : V = V2 := HV.out.symm.trans hV2
      clear HV hV2
      have HL : Hid (∀ V', Below V.heap.size V V' → Whole V' w.heap.size 30 (brC p a) ∧ V'.cell? ⟨b, off, none⟩ = some (.int .i64 x0)) := Lib.hid (fun V' hV => ⟨(HR.out.under hV).in_.box, ((HR.out.under hV).stp.below.cell (p := ⟨b, off, none⟩) HBl.out).trans Y0.out⟩)
      have HBd := Lib.hid (show Below V.heap.size V V.drew from below_drewB (Below.refl _ _) 1)
      refine wp_region_T (ls := []) (T := (fun V' => Below V.heap.size V V')) (by kernel_rfl) ?_
      refine takeT (i := 0) (v := brV p a) rfl (by kernel_rfl) (by kernel_rfl) (by kernel_rfl) (by kernel_rfl) (fun _ _ _ h => h) (by rfl) ?_ HBd.out ?_
      · intro V' hV; obtain ⟨y0, y1⟩ := HL.out V' hV; exact exec_load_brain rfl y0
      simp only [Act.put, List.setIfInBounds_toArray, List.set_cons_zero, List.set_cons_succ]
      refine takeP (i := 1) (v := ?_) rfl (by kernel_rfl) (by kernel_rfl) (by kernel_rfl) (by kernel_rfl) (fun _ _ _ h => h) (by rfl) ?_ (fun _ => HBd.out) ?_
      rotate_left
      · intro V'; go_simp <;> with_reducible rfl
      simp only [Act.put, List.setIfInBounds_toArray, List.set_cons_zero, List.set_cons_succ]
      refine takeP (i := 2) (v := ?_) rfl (by kernel_rfl) (by kernel_rfl) (by kernel_rfl) (by kernel_rfl) (fun _ _ _ h => h) (by rfl) ?_ (fun _ => HBd.out) ?_
      rotate_left
      · intro V'; go_simp <;> with_reducible rfl
      simp only [Act.put, List.setIfInBounds_toArray, List.set_cons_zero, List.set_cons_succ]
      refine takeT (i := 3) (v := ?_) rfl (by kernel_rfl) (by kernel_rfl) (by kernel_rfl) (by kernel_rfl) (fun _ _ _ h => h) (by rfl) ?_ HBd.out ?_
      rotate_left
      · intro V' hV; obtain ⟨y0, y1⟩ := HL.out V' hV; go_simp <;> with_reducible rfl
      simp only [Act.put, List.setIfInBounds_toArray, List.set_cons_zero, List.set_cons_succ]
      refine oneT (i := 4) rfl (by kernel_rfl) (by rfl) (fun K hK => ?_)
      go_simp
      refine (findO ((HR.out.under HBd.out).in_.own.weaker (Nat.zero_le _)) HKp.out HF.out).mono ?_
      rintro e V_1 ⟨rfl, hb_⟩
      have HB_1 := Lib.hid (show Below V.heap.size V V_1 from HBd.out.trans (hb_.mono HBd.out.size))
      clear hb_ HBd
      refine hK.out _ _ (fun _ => HB_1.out) ?_
      clear hK K
      refine takeP (i := 5) (v := ?_) rfl (by kernel_rfl) (by kernel_rfl) (by kernel_rfl) (by kernel_rfl) (fun _ _ _ h => h) (by rfl) ?_ (fun _ => HB_1.out) ?_
      rotate_left
      · intro V'; go_simp <;> with_reducible rfl
      simp only [Act.put, List.setIfInBounds_toArray, List.set_cons_zero, List.set_cons_succ]
      refine doneT (by kernel_rfl) ?_ _
      have HR1 := Lib.hid (HR.out.under HB_1.out)
      clear HL HR HB_1
      go_upto_region 7 with fail
      have HL : Hid (∀ V', Below V_1.heap.size V_1 V' → V'.cell? ⟨b, off + 1, none⟩ = some (.int .i64 x1) ∧ V'.cell? ⟨w.heap.size, 19, none⟩ = some (.slice (some ⟨bk, 0, none⟩) p.kps.length a.d) ∧ V'.cell? ⟨bk, i * 8 + 4, none⟩ = some (.int .u8 x.phase)) := Lib.hid (fun V' hV => ⟨((HR1.out.under hV).stp.below.cell (p := ⟨b, off + 1, none⟩) HBl.out).trans Y1.out, ((HR1.out.under hV).in_.box.cell 19).trans (by simp [HBk.out]), ((HR1.out.under hV).cell HBk.out (j := 4) (y := x) (u := .int .u8 x.phase) HXk.out (by omega) rfl).1⟩)
      have HBd := Lib.hid (show Below V_1.heap.size V_1 V_1.drew from below_drewB (Below.refl _ _) 1)
      refine wp_region_T (ls := []) (T := (fun V' => Below V_1.heap.size V_1 V')) (by kernel_rfl) ?_
      refine takeP (i := 0) (v := ?_) rfl (by kernel_rfl) (by kernel_rfl) (by kernel_rfl) (by kernel_rfl) (fun _ _ _ h => h) (by rfl) ?_ (fun _ => HBd.out) ?_
      rotate_left
      · intro V'; go_simp <;> with_reducible rfl
      simp only [Act.put, List.setIfInBounds_toArray, List.set_cons_zero, List.set_cons_succ]
      refine takeP (i := 1) (v := ?_) rfl (by kernel_rfl) (by kernel_rfl) (by kernel_rfl) (by kernel_rfl) (fun _ _ _ h => h) (by rfl) ?_ (fun _ => HBd.out) ?_
      rotate_left
      · intro V'; go_simp <;> with_reducible rfl
      simp only [Act.put, List.setIfInBounds_toArray, List.set_cons_zero, List.set_cons_succ]
      refine takeT (i := 2) (v := ?_) rfl (by kernel_rfl) (by kernel_rfl) (by kernel_rfl) (by kernel_rfl) (fun _ _ _ h => h) (by rfl) ?_ HBd.out ?_
      rotate_left
      · intro V' hV; obtain ⟨y0, y1, y2⟩ := HL.out V' hV; go_simp <;> with_reducible rfl
      simp only [Act.put, List.setIfInBounds_toArray, List.set_cons_zero, List.set_cons_succ]
      refine takeP (i := 3) (v := ?_) rfl (by kernel_rfl) (by kernel_rfl) (by kernel_rfl) (by kernel_rfl) (fun _ _ _ h => h) (by rfl) ?_ (fun _ => HBd.out) ?_
      rotate_left
      · intro V'; go_simp <;> with_reducible rfl
      simp only [Act.put, List.setIfInBounds_toArray, List.set_cons_zero, List.set_cons_succ]
      refine takeP (i := 4) (v := ?_) rfl (by kernel_rfl) (by kernel_rfl) (by kernel_rfl) (by kernel_rfl) (fun _ _ _ h => h) (by rfl) ?_ (fun _ => HBd.out) ?_
      rotate_left
      · intro V'; go_simp <;> with_reducible rfl
      simp only [Act.put, List.setIfInBounds_toArray, List.set_cons_zero, List.set_cons_succ]
      refine takeP (i := 5) (v := ?_) rfl (by kernel_rfl) (by kernel_rfl) (by kernel_rfl) (by kernel_rfl) (fun _ _ _ h => h) (by rfl) ?_ (fun _ => HBd.out) ?_
      rotate_left
      · intro V'; go_simp <;> with_reducible rfl
      simp only [Act.put, List.setIfInBounds_toArray, List.set_cons_zero, List.set_cons_succ]
      refine takeT (i := 6) (v := ?_) rfl (by kernel_rfl) (by kernel_rfl) (by kernel_rfl) (by kernel_rfl) (fun _ _ _ h => h) (by rfl) ?_ HBd.out ?_
      rotate_left
      · intro V' hV; obtain ⟨y0, y1, y2⟩ := HL.out V' hV; go_simp <;> with_reducible rfl
      simp only [Act.put, List.setIfInBounds_toArray, List.set_cons_zero, List.set_cons_succ]
      refine takeP (i := 7) (v := ?_) rfl (by kernel_rfl) (by kernel_rfl) (by kernel_rfl) (by kernel_rfl) (fun _ _ _ h => h) (by rfl) ?_ (fun _ => HBd.out) ?_
      rotate_left
      · intro V'; go_simp <;> with_reducible rfl
      simp only [Act.put, List.setIfInBounds_toArray, List.set_cons_zero, List.set_cons_succ]
      refine takeP (i := 8) (v := ?_) rfl (by kernel_rfl) (by kernel_rfl) (by kernel_rfl) (by kernel_rfl) (fun _ _ _ h => h) (by rfl) ?_ (fun _ => HBd.out) ?_
      rotate_left
      · intro V'; go_simp <;> with_reducible rfl
      simp only [Act.put, List.setIfInBounds_toArray, List.set_cons_zero, List.set_cons_succ]
      refine takeP (i := 9) (v := ?_) rfl (by kernel_rfl) (by kernel_rfl) (by kernel_rfl) (by kernel_rfl) (fun _ _ _ h => h) (by rfl) ?_ (fun _ => HBd.out) ?_
      rotate_left
      · intro V'; go_simp <;> with_reducible rfl
      simp only [Act.put, List.setIfInBounds_toArray, List.set_cons_zero, List.set_cons_succ]
      refine takeT (i := 10) (v := ?_) rfl (by kernel_rfl) (by kernel_rfl) (by kernel_rfl) (by kernel_rfl) (fun _ _ _ h => h) (by rfl) ?_ HBd.out ?_
      rotate_left
      · intro V' hV; obtain ⟨y0, y1, y2⟩ := HL.out V' hV; go_simp <;> with_reducible rfl
      simp only [Act.put, List.setIfInBounds_toArray, List.set_cons_zero, List.set_cons_succ]
      refine takeP (i := 11) (v := ?_) rfl (by kernel_rfl) (by kernel_rfl) (by kernel_rfl) (by kernel_rfl) (fun _ _ _ h => h) (by rfl) ?_ (fun _ => HBd.out) ?_
      rotate_left
      · intro V'; go_simp <;> with_reducible rfl
      simp only [Act.put, List.setIfInBounds_toArray, List.set_cons_zero, List.set_cons_succ]
      refine takeP (i := 12) (v := ?_) rfl (by kernel_rfl) (by kernel_rfl) (by kernel_rfl) (by kernel_rfl) (fun _ _ _ h => h) (by rfl) ?_ (fun _ => HBd.out) ?_
      rotate_left
      · intro V'; go_simp <;> with_reducible rfl
      simp only [Act.put, List.setIfInBounds_toArray, List.set_cons_zero, List.set_cons_succ]
      refine takeT (i := 13) (v := ?_) rfl (by kernel_rfl) (by kernel_rfl) (by kernel_rfl) (by kernel_rfl) (fun _ _ _ h => h) (by rfl) ?_ HBd.out ?_
      rotate_left
      · intro V' hV; obtain ⟨y0, y1, y2⟩ := HL.out V' hV; go_simp <;> with_reducible rfl
      simp only [Act.put, List.setIfInBounds_toArray, List.set_cons_zero, List.set_cons_succ]
      refine takeP (i := 14) (v := ?_) rfl (by kernel_rfl) (by kernel_rfl) (by kernel_rfl) (by kernel_rfl) (fun _ _ _ h => h) (by rfl) ?_ (fun _ => HBd.out) ?_
      rotate_left
      · intro V'; go_simp <;> with_reducible rfl
      simp only [Act.put, List.setIfInBounds_toArray, List.set_cons_zero, List.set_cons_succ]
      refine oneT (i := 15) rfl (by kernel_rfl) (by rfl) (fun K hK => ?_)
      go_simp
      refine (legO x.phase x1 V_1.drew HLg.out).mono ?_
      rintro e V_1_1 ⟨rfl, hb_⟩
      have HB_1 := Lib.hid (show Below V_1.heap.size V_1 V_1_1 from HBd.out.trans (hb_.mono HBd.out.size))
      clear hb_ HBd
      refine hK.out _ _ (fun _ => HB_1.out) ?_
      clear hK K
      refine takeP (i := 16) (v := ?_) rfl (by kernel_rfl) (by kernel_rfl) (by kernel_rfl) (by kernel_rfl) (fun _ _ _ h => h) (by rfl) ?_ (fun _ => HB_1.out) ?_
      rotate_left
      · intro V'; go_simp <;> with_reducible rfl
      simp only [Act.put, List.setIfInBounds_toArray, List.set_cons_zero, List.set_cons_succ]
      refine doneT (by kernel_rfl) ?_ _
      have HR2 := Lib.hid (HR1.out.under HB_1.out)
      clear HL HB_1 HR1
      go_upto_region 8 with fail
      have HL : Hid (∀ V', Below V_1_1.heap.size V_1_1 V' → V'.cell? ⟨b, off + 1, none⟩ = some (.int .i64 x1) ∧ V'.cell? ⟨w.heap.size, 19, none⟩ = some (.slice (some ⟨bk, 0, none⟩) p.kps.length a.d)) := Lib.hid (fun V' hV => ⟨((HR2.out.under hV).stp.below.cell (p := ⟨b, off + 1, none⟩) HBl.out).trans Y1.out, ((HR2.out.under hV).in_.box.cell 19).trans (by simp [HBk.out])⟩)
      have HBd := Lib.hid (show Below V_1_1.heap.size V_1_1 V_1_1.drew from below_drewB (Below.refl _ _) 1)
      refine wp_region_T (ls := [9]) (T := (fun V' => Below V_1_1.heap.size V_1_1 V')) (by kernel_rfl) ?_
      refine takeP (i := 0) (v := ?_) rfl (by kernel_rfl) (by kernel_rfl) (by kernel_rfl) (by kernel_rfl) (fun _ _ _ h => h) (by rfl) ?_ (fun _ => HBd.out) ?_
      rotate_left
      · intro V'; go_simp <;> with_reducible rfl
      simp only [Act.put, List.setIfInBounds_toArray, List.set_cons_zero, List.set_cons_succ]
      refine takeT (i := 1) (v := ?_) rfl (by kernel_rfl) (by kernel_rfl) (by kernel_rfl) (by kernel_rfl) (fun _ _ _ h => h) (by rfl) ?_ HBd.out ?_
      rotate_left
      · intro V' hV; obtain ⟨y0, y1⟩ := HL.out V' hV; go_simp <;> with_reducible rfl
      simp only [Act.put, List.setIfInBounds_toArray, List.set_cons_zero, List.set_cons_succ]
      refine takeP (i := 2) (v := ?_) rfl (by kernel_rfl) (by kernel_rfl) (by kernel_rfl) (by kernel_rfl) (fun _ _ _ h => h) (by rfl) ?_ (fun _ => HBd.out) ?_
      rotate_left
      · intro V'; go_simp <;> with_reducible rfl
      simp only [Act.put, List.setIfInBounds_toArray, List.set_cons_zero, List.set_cons_succ]
      refine takeP (i := 3) (v := ?_) rfl (by kernel_rfl) (by kernel_rfl) (by kernel_rfl) (by kernel_rfl) (fun _ _ _ h => h) (by rfl) ?_ (fun _ => HBd.out) ?_
      rotate_left
      · intro V'; go_simp <;> with_reducible rfl
      simp only [Act.put, List.setIfInBounds_toArray, List.set_cons_zero, List.set_cons_succ]
      refine takeP (i := 4) (v := ?_) rfl (by kernel_rfl) (by kernel_rfl) (by kernel_rfl) (by kernel_rfl) (fun _ _ _ h => h) (by rfl) ?_ (fun _ => HBd.out) ?_
      rotate_left
      · intro V'; go_simp <;> with_reducible rfl
      simp only [Act.put, List.setIfInBounds_toArray, List.set_cons_zero, List.set_cons_succ]
      refine takeT (i := 5) (v := ?_) rfl (by kernel_rfl) (by kernel_rfl) (by kernel_rfl) (by kernel_rfl) (fun _ _ _ h => h) (by rfl) ?_ HBd.out ?_
      rotate_left
      · intro V' hV; obtain ⟨y0, y1⟩ := HL.out V' hV; go_simp <;> with_reducible rfl
      simp only [Act.put, List.setIfInBounds_toArray, List.set_cons_zero, List.set_cons_succ]
      refine takeP (i := 6) (v := ?_) rfl (by kernel_rfl) (by kernel_rfl) (by kernel_rfl) (by kernel_rfl) (fun _ _ _ h => h) (by rfl) ?_ (fun _ => HBd.out) ?_
      rotate_left
      · intro V'; go_simp <;> with_reducible rfl
      simp only [Act.put, List.setIfInBounds_toArray, List.set_cons_zero, List.set_cons_succ]
      refine takeP (i := 7) (v := ?_) rfl (by kernel_rfl) (by kernel_rfl) (by kernel_rfl) (by kernel_rfl) (fun _ _ _ h => h) (by rfl) ?_ (fun _ => HBd.out) ?_
      rotate_left
      · intro V'; go_simp <;> with_reducible rfl
      simp only [Act.put, List.setIfInBounds_toArray, List.set_cons_zero, List.set_cons_succ]
      refine takeP (i := 8) (v := ?_) rfl (by kernel_rfl) (by kernel_rfl) (by kernel_rfl) (by kernel_rfl) (fun _ _ _ h => h) (by rfl) ?_ (fun _ => HBd.out) ?_
      rotate_left
      · intro V'; go_simp <;> with_reducible rfl
      simp only [Act.put, List.setIfInBounds_toArray, List.set_cons_zero, List.set_cons_succ]
      obtain ⟨q4, f4, r3⟩ := (HR2.out.under HBd.out).cell HBk.out (i := i) (j := 4) (x := x) (y := { x with phase := x1 }) (u := .int .u8 x1) HXk.out (by omega) rfl
      simp only [Kp.vs, List.getElem?_cons_succ, List.getElem?_cons_zero] at q4
      refine oneL (i := 9) (by kernel_rfl) rfl (by kernel_rfl) (by rfl) (fun K hK => ?_)
      go_simp
      refine hK.out _ _ ?_
      clear hK K
      refine doneT (by kernel_rfl) ?_ _
      go_upto_region 9 with fail
      refine wpV (fun V3 hV3 => ?_)
      replace r3 : Rz base w { p with kps := p.kps.set i { x with phase := x1 } } a V3 := by rw [← hV3]; exact r3
      have HR3 := Lib.hid r3
      have HX3k := Lib.hid (show (p.kps.set i { x with phase := x1 })[i]? = some { x with phase := x1 } by simp [(List.getElem?_eq_some_iff.1 HXk.out).1])
      clear q4 f4 r3 hV3 HL HBd HR2
      have HL : Hid (∀ V', Below V3.heap.size V3 V' → V'.cell? ⟨b, off + 2, none⟩ = some (.int .i64 x2) ∧ V'.cell? ⟨w.heap.size, 19, none⟩ = some (.slice (some ⟨bk, 0, none⟩) p.kps.length a.d)) := Lib.hid (fun V' hV => ⟨((HR3.out.under hV).stp.below.cell (p := ⟨b, off + 2, none⟩) HBl.out).trans Y2.out, ((HR3.out.under hV).in_.box.cell 19).trans (by simp [HBk.out])⟩)
      have HBd := Lib.hid (show Below V3.heap.size V3 V3.drew from below_drewB (Below.refl _ _) 1)
      refine wp_region_T (ls := [8]) (T := (fun V' => Below V3.heap.size V3 V')) (by kernel_rfl) ?_
      refine takeP (i := 0) (v := ?_) rfl (by kernel_rfl) (by kernel_rfl) (by kernel_rfl) (by kernel_rfl) (fun _ _ _ h => h) (by rfl) ?_ (fun _ => HBd.out) ?_
      rotate_left
      · intro V'; go_simp <;> with_reducible rfl
      simp only [Act.put, List.setIfInBounds_toArray, List.set_cons_zero, List.set_cons_succ]
      refine takeT (i := 1) (v := ?_) rfl (by kernel_rfl) (by kernel_rfl) (by kernel_rfl) (by kernel_rfl) (fun _ _ _ h => h) (by rfl) ?_ HBd.out ?_
      rotate_left
      · intro V' hV; obtain ⟨y0, y1⟩ := HL.out V' hV; go_simp <;> with_reducible rfl
      simp only [Act.put, List.setIfInBounds_toArray, List.set_cons_zero, List.set_cons_succ]
      refine takeP (i := 2) (v := ?_) rfl (by kernel_rfl) (by kernel_rfl) (by kernel_rfl) (by kernel_rfl) (fun _ _ _ h => h) (by rfl) ?_ (fun _ => HBd.out) ?_
      rotate_left
      · intro V'; go_simp <;> with_reducible rfl
      simp only [Act.put, List.setIfInBounds_toArray, List.set_cons_zero, List.set_cons_succ]
      refine takeP (i := 3) (v := ?_) rfl (by kernel_rfl) (by kernel_rfl) (by kernel_rfl) (by kernel_rfl) (fun _ _ _ h => h) (by rfl) ?_ (fun _ => HBd.out) ?_
      rotate_left
      · intro V'; go_simp <;> with_reducible rfl
      simp only [Act.put, List.setIfInBounds_toArray, List.set_cons_zero, List.set_cons_succ]
      refine takeP (i := 4) (v := ?_) rfl (by kernel_rfl) (by kernel_rfl) (by kernel_rfl) (by kernel_rfl) (fun _ _ _ h => h) (by rfl) ?_ (fun _ => HBd.out) ?_
      rotate_left
      · intro V'; go_simp <;> with_reducible rfl
      simp only [Act.put, List.setIfInBounds_toArray, List.set_cons_zero, List.set_cons_succ]
      refine takeT (i := 5) (v := ?_) rfl (by kernel_rfl) (by kernel_rfl) (by kernel_rfl) (by kernel_rfl) (fun _ _ _ h => h) (by rfl) ?_ HBd.out ?_
      rotate_left
      · intro V' hV; obtain ⟨y0, y1⟩ := HL.out V' hV; go_simp <;> with_reducible rfl
      simp only [Act.put, List.setIfInBounds_toArray, List.set_cons_zero, List.set_cons_succ]
      refine takeP (i := 6) (v := ?_) rfl (by kernel_rfl) (by kernel_rfl) (by kernel_rfl) (by kernel_rfl) (fun _ _ _ h => h) (by rfl) ?_ (fun _ => HBd.out) ?_
      rotate_left
      · intro V'; go_simp <;> with_reducible rfl
      simp only [Act.put, List.setIfInBounds_toArray, List.set_cons_zero, List.set_cons_succ]
      refine takeP (i := 7) (v := ?_) rfl (by kernel_rfl) (by kernel_rfl) (by kernel_rfl) (by kernel_rfl) (fun _ _ _ h => h) (by rfl) ?_ (fun _ => HBd.out) ?_
      rotate_left
      · intro V'; go_simp <;> with_reducible rfl
      simp only [Act.put, List.setIfInBounds_toArray, List.set_cons_zero, List.set_cons_succ]
      obtain ⟨q5, f5, r4⟩ := (HR3.out.under HBd.out).cell HBk.out (i := i) (j := 5) (x := { x with phase := x1 }) (y := { x with phase := x1, since := x2 }) (u := .int .i64 x2) HX3k.out (by omega) rfl
      simp only [Kp.vs, List.getElem?_cons_succ, List.getElem?_cons_zero] at q5
      refine oneL (i := 8) (by kernel_rfl) rfl (by kernel_rfl) (by rfl) (fun K hK => ?_)
      go_simp
      refine hK.out _ _ ?_
      clear hK K
      refine doneT (by kernel_rfl) ?_ _
      go_upto_region 10 with fail
      refine wpV (fun V4 hV4 => ?_)
      simp only [List.set_set] at r4
      replace r4 : Rz base w { p with kps := p.kps.set i { x with phase := x1, since := x2 } } a V4 := by rw [← hV4]; exact r4
      have HR4 := Lib.hid r4
      have HX4k := Lib.hid (show (p.kps.set i { x with phase := x1, since := x2 })[i]? = some { x with phase := x1, since := x2 } by simp [(List.getElem?_eq_some_iff.1 HXk.out).1])
      clear q5 f5 r4 hV4 HL HBd HR3
      obtain ⟨q7, f7, r5⟩ := HR4.out.cell HBk.out (i := i) (j := 7) (x := { x with phase := x1, since := x2 }) (y := { x with phase := x1, since := x2, done := false }) (u := .bool false) HX4k.out (by omega) rfl
      simp only [Kp.vs, List.getElem?_cons_succ, List.getElem?_cons_zero] at q7
      have c19 : V4.cell? ⟨w.heap.size, 19, none⟩ = some (.slice (some ⟨bk, 0, none⟩) p.kps.length a.d) := (HR4.out.in_.box.cell 19).trans (by simp [HBk.out])
      go_upto_region 19 with fail
      refine wpV (fun V5 hV5 => ?_)
      simp only [List.set_set] at r5
      replace r5 : Rz base w { p with kps := p.kps.set i { x with phase := x1, since := x2, done := false } } a V5 := by rw [← hV5]; exact r5
      have HR5 := Lib.hid r5
      clear q7 f7 r5 hV5 HR4 c19
      go_wp2_with (first | (refine wpList_loadB (by rfl) _ rfl w.heap.size { p with kps := p.kps.set i { x with phase := x1, since := x2, done := false } } a (by rfl) HR5.out.in_.box ?_) | (refine wpList_storeB rfl _ _ rfl (w.heap.size + 1) { p with kps := p.kps.set i { x with phase := x1, since := x2, done := false } } a _ (by rfl) (by rfl) (by rfl) HR5.out.res ?_; intro W9 hW9))
      obtain ⟨t1, t2, t3⟩ := HR5.out.tell hW9
      subst hW9
      exact brain_end (k := 6) rfl (by rfl) t1 rfl ⟨_, rfl, t2, t3⟩
  by_cases k7 : k = 7
  · subst k7
    clear hk
    have hnn : n = 1 := by unfold manyB at hn; simp at hn; omega
    subst hnn
    clear hn
    rw [show fitB p ((7 : Nat) : Int) x0 x1 x2 x3 x4 = goneB_ p x0 from rfl]
    obtain ⟨b, off, rfl, hbl, _⟩ := HLs.out.2 (by omega)
    have y0 : w.cell? ⟨b, off, none⟩ = some (.int .i64 x0) := by
      obtain ⟨b', off', e, _, h⟩ := at_of (k := 0) HLs.out (by omega)
      injection e with e; injection e with e1 e2; subst e1; subst e2
      rw [HX0.out] at h; exact h
    have Y0 := Lib.hid y0
    have HBl := Lib.hid hbl
    clear hbl y0
    have e8 : (((7 : Nat) : Int) == 8) = false := by decide
    have e6 : (((7 : Nat) : Int) == 6) = false := by decide
    have e7 : (((7 : Nat) : Int) == 7) = true := by decide
    rcases hidx with ⟨_, hkn, rfl⟩ | ⟨i, x, hfi, hx, hks, rfl⟩
    · rw [show goneB_ p x0 = p by unfold goneB_; rw [if_pos hkn]]
      have d0 : decide ((-1 : Int) < 0) = true := by decide
      clear hkn
      go_enter Tryd.func43, Tryd.ntmps43
      go_upto_region 1 with fail
      refine wpV (fun V2 hV2 => ?_)
      obtain rfl : V = V2 := HV.out.symm.trans hV2
      clear HV hV2
      have HL : Hid (∀ V', Below V.heap.size V V' → Whole V' w.heap.size 30 (brC p a) ∧ V'.cell? ⟨b, off, none⟩ = some (.int .i64 x0)) := Lib.hid (fun V' hV => ⟨(HR.out.under hV).in_.box, ((HR.out.under hV).stp.below.cell (p := ⟨b, off, none⟩) HBl.out).trans Y0.out⟩)
      have HBd := Lib.hid (show Below V.heap.size V V.drew from below_drewB (Below.refl _ _) 1)
      refine wp_region_T (ls := []) (T := (fun V' => Below V.heap.size V V')) (by kernel_rfl) ?_
      refine takeT (i := 0) (v := brV p a) rfl (by kernel_rfl) (by kernel_rfl) (by kernel_rfl) (by kernel_rfl) (fun _ _ _ h => h) (by rfl) ?_ HBd.out ?_
      · intro V' hV; obtain ⟨y0, y1⟩ := HL.out V' hV; exact exec_load_brain rfl y0
      simp only [Act.put, List.setIfInBounds_toArray, List.set_cons_zero, List.set_cons_succ]
      refine takeP (i := 1) (v := ?_) rfl (by kernel_rfl) (by kernel_rfl) (by kernel_rfl) (by kernel_rfl) (fun _ _ _ h => h) (by rfl) ?_ (fun _ => HBd.out) ?_
      rotate_left
      · intro V'; go_simp <;> with_reducible rfl
      simp only [Act.put, List.setIfInBounds_toArray, List.set_cons_zero, List.set_cons_succ]
      refine takeP (i := 2) (v := ?_) rfl (by kernel_rfl) (by kernel_rfl) (by kernel_rfl) (by kernel_rfl) (fun _ _ _ h => h) (by rfl) ?_ (fun _ => HBd.out) ?_
      rotate_left
      · intro V'; go_simp <;> with_reducible rfl
      simp only [Act.put, List.setIfInBounds_toArray, List.set_cons_zero, List.set_cons_succ]
      refine takeT (i := 3) (v := ?_) rfl (by kernel_rfl) (by kernel_rfl) (by kernel_rfl) (by kernel_rfl) (fun _ _ _ h => h) (by rfl) ?_ HBd.out ?_
      rotate_left
      · intro V' hV; obtain ⟨y0, y1⟩ := HL.out V' hV; go_simp <;> with_reducible rfl
      simp only [Act.put, List.setIfInBounds_toArray, List.set_cons_zero, List.set_cons_succ]
      refine oneT (i := 4) rfl (by kernel_rfl) (by rfl) (fun K hK => ?_)
      go_simp
      refine (findO ((HR.out.under HBd.out).in_.own.weaker (Nat.zero_le _)) HKp.out HF.out).mono ?_
      rintro e V_1 ⟨rfl, hb_⟩
      have HB_1 := Lib.hid (show Below V.heap.size V V_1 from HBd.out.trans (hb_.mono HBd.out.size))
      clear hb_ HBd
      refine hK.out _ _ (fun _ => HB_1.out) ?_
      clear hK K
      refine takeP (i := 5) (v := ?_) rfl (by kernel_rfl) (by kernel_rfl) (by kernel_rfl) (by kernel_rfl) (fun _ _ _ h => h) (by rfl) ?_ (fun _ => HB_1.out) ?_
      rotate_left
      · intro V'; go_simp <;> with_reducible rfl
      simp only [Act.put, List.setIfInBounds_toArray, List.set_cons_zero, List.set_cons_succ]
      refine doneT (by kernel_rfl) ?_ _
      have HR1 := Lib.hid (HR.out.under HB_1.out)
      clear HL HR HB_1
      go_wp2_with (first | (refine wpList_loadB (by rfl) _ rfl w.heap.size p a (by rfl) HR1.out.in_.box ?_) | (refine wpList_storeB rfl _ _ rfl (w.heap.size + 1) p a _ (by rfl) (by rfl) (by rfl) HR1.out.res ?_; intro W9 hW9))
      obtain ⟨t1, t2, t3⟩ := HR1.out.tell hW9
      subst hW9
      exact brain_end (k := 6) rfl (by rfl) t1 rfl ⟨_, rfl, t2, t3⟩
    have d0 : decide ((i : Int) < 0) = false := by simp
    have hI : (i : Int) < (p.kps.length : Int) := by have := (List.getElem?_eq_some_iff.1 hx).1; omega
    obtain ⟨bk, hB, hbk, hbv⟩ := kps_at (i := i) HR.out.in_ hx
    have HBk := Lib.hid hB
    have HXk := Lib.hid hx
    have HFi := Lib.hid hfi
    clear hB hbk hbv hx hfi
    obtain ⟨L, hL⟩ : ∃ L, p.kps.take i ++ p.kps.drop (i + 1) = L := ⟨_, rfl⟩
    rw [show goneB_ p x0 = { p with kps := L } by unfold goneB_; rw [if_neg (by rw [hks]; simp), ← drop_at HFi.out, hL]]
    have HLL := Lib.hid hL
    clear hks hL
    have HIl := Lib.hid (List.getElem?_eq_some_iff.1 HXk.out).1
    go_enter Tryd.func43, Tryd.ntmps43
    go_upto_region 1 with fail
    refine wpV (fun V2 hV2 => ?_)
    obtain rfl : V = V2 := HV.out.symm.trans hV2
    clear HV hV2
    have HL : Hid (∀ V', Below V.heap.size V V' → Whole V' w.heap.size 30 (brC p a) ∧ V'.cell? ⟨b, off, none⟩ = some (.int .i64 x0)) := Lib.hid (fun V' hV => ⟨(HR.out.under hV).in_.box, ((HR.out.under hV).stp.below.cell (p := ⟨b, off, none⟩) HBl.out).trans Y0.out⟩)
    have HBd := Lib.hid (show Below V.heap.size V V.drew from below_drewB (Below.refl _ _) 1)
    refine wp_region_T (ls := []) (T := (fun V' => Below V.heap.size V V')) (by kernel_rfl) ?_
    refine takeT (i := 0) (v := brV p a) rfl (by kernel_rfl) (by kernel_rfl) (by kernel_rfl) (by kernel_rfl) (fun _ _ _ h => h) (by rfl) ?_ HBd.out ?_
    · intro V' hV; obtain ⟨y0, y1⟩ := HL.out V' hV; exact exec_load_brain rfl y0
    simp only [Act.put, List.setIfInBounds_toArray, List.set_cons_zero, List.set_cons_succ]
    refine takeP (i := 1) (v := ?_) rfl (by kernel_rfl) (by kernel_rfl) (by kernel_rfl) (by kernel_rfl) (fun _ _ _ h => h) (by rfl) ?_ (fun _ => HBd.out) ?_
    rotate_left
    · intro V'; go_simp <;> with_reducible rfl
    simp only [Act.put, List.setIfInBounds_toArray, List.set_cons_zero, List.set_cons_succ]
    refine takeP (i := 2) (v := ?_) rfl (by kernel_rfl) (by kernel_rfl) (by kernel_rfl) (by kernel_rfl) (fun _ _ _ h => h) (by rfl) ?_ (fun _ => HBd.out) ?_
    rotate_left
    · intro V'; go_simp <;> with_reducible rfl
    simp only [Act.put, List.setIfInBounds_toArray, List.set_cons_zero, List.set_cons_succ]
    refine takeT (i := 3) (v := ?_) rfl (by kernel_rfl) (by kernel_rfl) (by kernel_rfl) (by kernel_rfl) (fun _ _ _ h => h) (by rfl) ?_ HBd.out ?_
    rotate_left
    · intro V' hV; obtain ⟨y0, y1⟩ := HL.out V' hV; go_simp <;> with_reducible rfl
    simp only [Act.put, List.setIfInBounds_toArray, List.set_cons_zero, List.set_cons_succ]
    refine oneT (i := 4) rfl (by kernel_rfl) (by rfl) (fun K hK => ?_)
    go_simp
    refine (findO ((HR.out.under HBd.out).in_.own.weaker (Nat.zero_le _)) HKp.out HF.out).mono ?_
    rintro e V_1 ⟨rfl, hb_⟩
    have HB_1 := Lib.hid (show Below V.heap.size V V_1 from HBd.out.trans (hb_.mono HBd.out.size))
    clear hb_ HBd
    refine hK.out _ _ (fun _ => HB_1.out) ?_
    clear hK K
    refine takeP (i := 5) (v := ?_) rfl (by kernel_rfl) (by kernel_rfl) (by kernel_rfl) (by kernel_rfl) (fun _ _ _ h => h) (by rfl) ?_ (fun _ => HB_1.out) ?_
    rotate_left
    · intro V'; go_simp <;> with_reducible rfl
    simp only [Act.put, List.setIfInBounds_toArray, List.set_cons_zero, List.set_cons_succ]
    refine doneT (by kernel_rfl) ?_ _
    have HR1 := Lib.hid (HR.out.under HB_1.out)
    clear HL HR HB_1
    go_upto_region 12 with fail
    have HRr := Lib.hid (show RdK V_1 V_1.heap.size a.B p.kps.length p.kps from HR1.out.in_.own.kps.read)
    have HCd := Lib.hid (show p.kps.length ≤ a.d from own_capF HR1.out.in_.own.kps)
    have hhead := fun W => run_headF Tryd.underlying26 rfl info_kp a.B p.kps.length a.d i (by have := HCd.out; have := HIl.out; omega) W
    obtain ⟨A', hrest, hA'⟩ := run_restF Tryd.underlying26 rfl info_kp a.B p.kps.length a.d (i + 1) (by have := HIl.out; omega)
    have HIi := Lib.hid (show ((i + 1 : Nat) : Int) = (i : Int) + 1 by omega)
    rw [HBk.out] at hhead hrest
    have HH := Lib.hid hhead
    have HRe := Lib.hid hrest
    have HD := Lib.hid (show RdK V_1 V_1.heap.size A' (p.kps.length - (i + 1)) (p.kps.drop (i + 1)) from HRr.out.drop (by have := HIl.out; omega) (fun h b off e => hA' ⟨h, HCd.out⟩ b off e))
    have HTk := Lib.hid (show RdK V_1 V_1.heap.size (some ⟨bk, 0, none⟩) i (p.kps.take i) from by have h := HRr.out.take (k := i) (by have := HIl.out; omega); rwa [HBk.out] at h)
    clear hhead hrest hA'
    have HLk := Lib.hid (show (p.kps.take i).length = i by rw [List.length_take]; have := HIl.out; omega)
    have HPL := Lib.hid (show (p.kps.take i).length + (p.kps.length - (i + 1)) = L.length by rw [← HLL.out]; simp only [List.length_append, List.length_take, List.length_drop])
    have hwi : IntKind.i64.wrap ((i : Int) + 1) = (i : Int) + 1 := by have := HIl.out; have := HK9.out; rw [IntKind.wrap_i64]; omega
    have HL : Hid (∀ V', Below V_1.heap.size V_1 V' → V'.cell? ⟨w.heap.size, 19, none⟩ = some (.slice (some ⟨bk, 0, none⟩) p.kps.length a.d) ∧ True) := Lib.hid (fun V' hV => ⟨((HR1.out.under hV).in_.box.cell 19).trans (by simp [HBk.out]), trivial⟩)
    have HBd := Lib.hid (show Below V_1.heap.size V_1 V_1.drew from below_drewB (Below.refl _ _) 1)
    refine wp_region_T (ls := [13]) (T := (fun V' => Below V_1.heap.size V_1 V')) (by kernel_rfl) ?_
    refine takeP (i := 1) (v := ?_) rfl (by kernel_rfl) (by kernel_rfl) (by kernel_rfl) (by kernel_rfl) (fun _ _ _ h => h) (by rfl) ?_ (fun _ => HBd.out) ?_
    rotate_left
    · intro V'; go_simp <;> with_reducible rfl
    simp only [Act.put, List.setIfInBounds_toArray, List.set_cons_zero, List.set_cons_succ]
    refine takeT (i := 2) (v := ?_) rfl (by kernel_rfl) (by kernel_rfl) (by kernel_rfl) (by kernel_rfl) (fun _ _ _ h => h) (by rfl) ?_ HBd.out ?_
    rotate_left
    · intro V' hV; obtain ⟨y0, y1⟩ := HL.out V' hV; go_simp <;> with_reducible rfl
    simp only [Act.put, List.setIfInBounds_toArray, List.set_cons_zero, List.set_cons_succ]
    refine takeP (i := 3) (v := ?_) rfl (by kernel_rfl) (by kernel_rfl) (by kernel_rfl) (by kernel_rfl) (fun _ _ _ h => h) (by rfl) ?_ (fun _ => HBd.out) ?_
    rotate_left
    · intro V'; go_simp <;> with_reducible rfl
    simp only [Act.put, List.setIfInBounds_toArray, List.set_cons_zero, List.set_cons_succ]
    refine takeP (i := 4) (v := .slice (some ⟨bk, 0, none⟩) i a.d) rfl (by kernel_rfl) (by kernel_rfl) (by kernel_rfl) (by kernel_rfl) (fun _ _ _ h => h) (by rfl) ?_ (fun _ => HBd.out) ?_
    · intro V'; have hs := HH.out V'; go_simp <;> with_reducible rfl
    simp only [Act.put, List.setIfInBounds_toArray, List.set_cons_zero, List.set_cons_succ]
    refine takeP (i := 6) (v := ?_) rfl (by kernel_rfl) (by kernel_rfl) (by kernel_rfl) (by kernel_rfl) (fun _ _ _ h => h) (by rfl) ?_ (fun _ => HBd.out) ?_
    rotate_left
    · intro V'; go_simp <;> with_reducible rfl
    simp only [Act.put, List.setIfInBounds_toArray, List.set_cons_zero, List.set_cons_succ]
    refine takeT (i := 7) (v := ?_) rfl (by kernel_rfl) (by kernel_rfl) (by kernel_rfl) (by kernel_rfl) (fun _ _ _ h => h) (by rfl) ?_ HBd.out ?_
    rotate_left
    · intro V' hV; obtain ⟨y0, y1⟩ := HL.out V' hV; go_simp <;> with_reducible rfl
    simp only [Act.put, List.setIfInBounds_toArray, List.set_cons_zero, List.set_cons_succ]
    refine takeP (i := 8) (v := ?_) rfl (by kernel_rfl) (by kernel_rfl) (by kernel_rfl) (by kernel_rfl) (fun _ _ _ h => h) (by rfl) ?_ (fun _ => HBd.out) ?_
    rotate_left
    · intro V'; go_simp <;> with_reducible rfl
    simp only [Act.put, List.setIfInBounds_toArray, List.set_cons_zero, List.set_cons_succ]
    refine takeP (i := 9) (v := ?_) rfl (by kernel_rfl) (by kernel_rfl) (by kernel_rfl) (by kernel_rfl) (fun _ _ _ h => h) (by rfl) ?_ (fun _ => HBd.out) ?_
    rotate_left
    · intro V'; go_simp <;> with_reducible rfl
    simp only [Act.put, List.setIfInBounds_toArray, List.set_cons_zero, List.set_cons_succ]
    refine takeP (i := 10) (v := .slice A' (p.kps.length - (i + 1)) (a.d - (i + 1))) rfl (by kernel_rfl) (by kernel_rfl) (by kernel_rfl) (by kernel_rfl) (fun _ _ _ h => h) (by rfl) ?_ (fun _ => HBd.out) ?_
    · intro V'; have hs := HRe.out V'; rw [HIi.out] at hs; go_simp <;> with_reducible rfl
    simp only [Act.put, List.setIfInBounds_toArray, List.set_cons_zero, List.set_cons_succ]
    refine oneT (i := 0) rfl (by kernel_rfl) (by rfl) (fun K hK => ?_)
    obtain ⟨W1, hW⟩ : ∃ W, V_1.drew.alloc (.cells #[] 32) = W := ⟨_, rfl⟩
    have b_ : Below V_1.drew.heap.size V_1.drew W1 := by rw [← hW]; exact (Below.refl _ _).alloc (Nat.le_refl _) _
    have r_ : KpsAt V_1.heap.size W1 (.slice (some ⟨V_1.drew.heap.size, 0, none⟩) 0 0) [] := by rw [← hW]; exact World.ownsRow_made (base := V_1.heap.size) (e := 32) (size := 8) V_1.drew #[] 0 HBd.out.size (Nat.zero_le _) rfl
    go_simp
    clear hW
    have HU := Lib.hid (HBd.out.trans (b_.mono HBd.out.size))
    have R0 := Lib.hid r_
    clear b_ r_
    refine hK.out _ _ (fun _ => HU.out) ?_
    clear hK K
    refine oneT (i := 5) rfl (by kernel_rfl) (by rfl) (fun K hK => ?_)
    obtain ⟨A5, c5, W2, hrun, ho, hg, _⟩ := kps_app W1 V_1.heap.size _ [] R0.out V_1.heap.size (some ⟨bk, 0, none⟩) i a.d (p.kps.take i) (HTk.out.below HU.out) (by have := HIl.out; have := HK9.out; simp; omega) HU.out.size
    simp only [List.length_nil, Nat.zero_add, List.nil_append] at hrun ho
    have b_ : Below V_1.heap.size W1 W2 := below_row R0.out hg HU.out.size
    have HRun := Lib.hid hrun
    refine wp_appendH (by rfl) (by rfl) HRun.out ?_
    simp only [Act.put, List.setIfInBounds_toArray, List.set_cons_zero, List.set_cons_succ]
    clear hrun hg HRun R0
    have HU2 := Lib.hid (HU.out.trans b_)
    have R5 := Lib.hid ho
    clear b_ ho HU
    refine hK.out _ _ (fun _ => HU2.out) ?_
    clear hK K
    refine oneT (i := 11) rfl (by kernel_rfl) (by rfl) (fun K hK => ?_)
    obtain ⟨A11, c11, W3, hrun, ho, hg, _⟩ := kps_app W2 V_1.heap.size (.slice A5 i c5) (p.kps.take i) R5.out V_1.heap.size A' (p.kps.length - (i + 1)) (a.d - (i + 1)) (p.kps.drop (i + 1)) (HD.out.below HU2.out) (by have := HIl.out; have := HK9.out; have := HLk.out; omega) HU2.out.size
    rw [HPL.out] at hrun ho
    rw [HLL.out] at ho
    have b_ : Below V_1.heap.size W2 W3 := below_row R5.out hg HU2.out.size
    have HRun := Lib.hid hrun
    refine wp_appendH (by rfl) (by rfl) HRun.out ?_
    simp only [Act.put, List.setIfInBounds_toArray, List.set_cons_zero, List.set_cons_succ]
    clear hrun hg HRun R5
    have HU3 := Lib.hid (HU2.out.trans b_)
    have R11 := Lib.hid ho
    clear b_ ho HU2
    refine hK.out _ _ (fun _ => HU3.out) ?_
    clear hK K
    refine oneT (i := 12) rfl (by kernel_rfl) (by rfl) (fun K hK => ?_)
    go_simp
    refine hK.out _ _ (fun _ => HU3.out) ?_
    clear hK K
    have HR3 := Lib.hid (HR1.out.under HU3.out)
    have e19 := HR3.out.in_.box.cell 19
    have f19 := HR3.out.in_.box.frozen 19
    simp only [List.getElem?_toArray, List.getElem?_cons_zero, List.getElem?_cons_succ] at e19
    have r4 := HR3.out.kps19 (KpsAt.weaker R11.out (Nat.le_trans HR1.out.in_.ge (Nat.le_of_lt HR1.out.in_.lt)))
    refine oneL (i := 13) (by kernel_rfl) rfl (by kernel_rfl) (by rfl) (fun K hK => ?_)
    go_simp
    refine hK.out _ _ ?_
    clear hK K
    refine doneT (by kernel_rfl) ?_ _
    go_upto_region 19 with fail
    refine wpV (fun V5 hV5 => ?_)
    replace r4 : Rz base w { p with kps := L } ⟨a.C, a.e, a.A, a.c, A11, c11⟩ V5 := by rw [← hV5]; exact r4
    have HR4 := Lib.hid r4
    clear e19 f19 r4 hV5 HL HBd HU3 R11 HR3 HR1 HH HRe HD HTk HRr
    go_wp2_with (first | (refine wpList_loadB (by rfl) _ rfl w.heap.size { p with kps := L } _ (by rfl) HR4.out.in_.box ?_) | (refine wpList_storeB rfl _ _ rfl (w.heap.size + 1) { p with kps := L } _ _ (by rfl) (by rfl) (by rfl) HR4.out.res ?_; intro W9 hW9))
    obtain ⟨t1, t2, t3⟩ := HR4.out.tell hW9
    subst hW9
    exact brain_end (k := 6) rfl (by rfl) t1 rfl ⟨_, rfl, t2, t3⟩
  by_cases k9 : k = 9
  · subst k9
    clear hk
    have hnn : n = 2 := by unfold manyB at hn; simp at hn; omega
    subst hnn
    clear hn
    rw [show fitB p ((9 : Nat) : Int) x0 x1 x2 x3 x4 = guardB p x0 x1 from rfl]
    obtain ⟨b, off, rfl, hbl, _⟩ := HLs.out.2 (by omega)
    have y0 : w.cell? ⟨b, off, none⟩ = some (.int .i64 x0) := by
      obtain ⟨b', off', e, _, h⟩ := at_of (k := 0) HLs.out (by omega)
      injection e with e; injection e with e1 e2; subst e1; subst e2
      rw [HX0.out] at h; exact h
    have Y0 := Lib.hid y0
    have y1 : w.cell? ⟨b, off + 1, none⟩ = some (.int .i64 x1) := by
      obtain ⟨b', off', e, _, h⟩ := at_of (k := 1) HLs.out (by omega)
      injection e with e; injection e with e1 e2; subst e1; subst e2
      rw [HX1.out] at h; exact h
    have Y1 := Lib.hid y1
    have HBl := Lib.hid hbl
    clear hbl y0 y1
    have e8 : (((9 : Nat) : Int) == 8) = false := by decide
    have e6 : (((9 : Nat) : Int) == 6) = false := by decide
    have e7 : (((9 : Nat) : Int) == 7) = false := by decide
    have e9 : (((9 : Nat) : Int) == 9) = true := by decide
    rcases hidx with ⟨_, hkn, rfl⟩ | ⟨i, x, hfi, hx, hks, rfl⟩
    · rw [show guardB p x0 x1 = p by unfold guardB; rw [if_pos hkn]]
      have d0 : decide ((-1 : Int) < 0) = true := by decide
      clear hkn
      go_enter Tryd.func43, Tryd.ntmps43
      go_upto_region 1 with fail
      refine wpV (fun V2 hV2 => ?_)
      obtain rfl : V = V2 := HV.out.symm.trans hV2
      clear HV hV2
      have HL : Hid (∀ V', Below V.heap.size V V' → Whole V' w.heap.size 30 (brC p a) ∧ V'.cell? ⟨b, off, none⟩ = some (.int .i64 x0)) := Lib.hid (fun V' hV => ⟨(HR.out.under hV).in_.box, ((HR.out.under hV).stp.below.cell (p := ⟨b, off, none⟩) HBl.out).trans Y0.out⟩)
      have HBd := Lib.hid (show Below V.heap.size V V.drew from below_drewB (Below.refl _ _) 1)
      refine wp_region_T (ls := []) (T := (fun V' => Below V.heap.size V V')) (by kernel_rfl) ?_
      refine takeT (i := 0) (v := brV p a) rfl (by kernel_rfl) (by kernel_rfl) (by kernel_rfl) (by kernel_rfl) (fun _ _ _ h => h) (by rfl) ?_ HBd.out ?_
      · intro V' hV; obtain ⟨y0, y1⟩ := HL.out V' hV; exact exec_load_brain rfl y0
      simp only [Act.put, List.setIfInBounds_toArray, List.set_cons_zero, List.set_cons_succ]
      refine takeP (i := 1) (v := ?_) rfl (by kernel_rfl) (by kernel_rfl) (by kernel_rfl) (by kernel_rfl) (fun _ _ _ h => h) (by rfl) ?_ (fun _ => HBd.out) ?_
      rotate_left
      · intro V'; go_simp <;> with_reducible rfl
      simp only [Act.put, List.setIfInBounds_toArray, List.set_cons_zero, List.set_cons_succ]
      refine takeP (i := 2) (v := ?_) rfl (by kernel_rfl) (by kernel_rfl) (by kernel_rfl) (by kernel_rfl) (fun _ _ _ h => h) (by rfl) ?_ (fun _ => HBd.out) ?_
      rotate_left
      · intro V'; go_simp <;> with_reducible rfl
      simp only [Act.put, List.setIfInBounds_toArray, List.set_cons_zero, List.set_cons_succ]
      refine takeT (i := 3) (v := ?_) rfl (by kernel_rfl) (by kernel_rfl) (by kernel_rfl) (by kernel_rfl) (fun _ _ _ h => h) (by rfl) ?_ HBd.out ?_
      rotate_left
      · intro V' hV; obtain ⟨y0, y1⟩ := HL.out V' hV; go_simp <;> with_reducible rfl
      simp only [Act.put, List.setIfInBounds_toArray, List.set_cons_zero, List.set_cons_succ]
      refine oneT (i := 4) rfl (by kernel_rfl) (by rfl) (fun K hK => ?_)
      go_simp
      refine (findO ((HR.out.under HBd.out).in_.own.weaker (Nat.zero_le _)) HKp.out HF.out).mono ?_
      rintro e V_1 ⟨rfl, hb_⟩
      have HB_1 := Lib.hid (show Below V.heap.size V V_1 from HBd.out.trans (hb_.mono HBd.out.size))
      clear hb_ HBd
      refine hK.out _ _ (fun _ => HB_1.out) ?_
      clear hK K
      refine takeP (i := 5) (v := ?_) rfl (by kernel_rfl) (by kernel_rfl) (by kernel_rfl) (by kernel_rfl) (fun _ _ _ h => h) (by rfl) ?_ (fun _ => HB_1.out) ?_
      rotate_left
      · intro V'; go_simp <;> with_reducible rfl
      simp only [Act.put, List.setIfInBounds_toArray, List.set_cons_zero, List.set_cons_succ]
      refine doneT (by kernel_rfl) ?_ _
      have HR1 := Lib.hid (HR.out.under HB_1.out)
      clear HL HR HB_1
      go_wp2_with (first | (refine wpList_loadB (by rfl) _ rfl w.heap.size p a (by rfl) HR1.out.in_.box ?_) | (refine wpList_storeB rfl _ _ rfl (w.heap.size + 1) p a _ (by rfl) (by rfl) (by rfl) HR1.out.res ?_; intro W9 hW9))
      obtain ⟨t1, t2, t3⟩ := HR1.out.tell hW9
      subst hW9
      exact brain_end (k := 6) rfl (by rfl) t1 rfl ⟨_, rfl, t2, t3⟩
    have d0 : decide ((i : Int) < 0) = false := by simp
    have hI : (i : Int) < (p.kps.length : Int) := by have := (List.getElem?_eq_some_iff.1 hx).1; omega
    obtain ⟨bk, hB, hbk, hbv⟩ := kps_at (i := i) HR.out.in_ hx
    have HBk := Lib.hid hB
    have HXk := Lib.hid hx
    have HFi := Lib.hid hfi
    clear hB hbk hbv hx hfi
    by_cases h2 : x1 < 2
    rotate_left
    · rw [show guardB p x0 x1 = p by unfold guardB; rw [if_neg (by rw [hks]; simp), if_neg h2]]
      have d1 : decide (x1 < 2) = false := by simpa using h2
      clear hks h2
      go_enter Tryd.func43, Tryd.ntmps43
      go_upto_region 1 with fail
      refine wpV (fun V2 hV2 => ?_)
      obtain rfl : V = V2 := HV.out.symm.trans hV2
      clear HV hV2
      have HL : Hid (∀ V', Below V.heap.size V V' → Whole V' w.heap.size 30 (brC p a) ∧ V'.cell? ⟨b, off, none⟩ = some (.int .i64 x0)) := Lib.hid (fun V' hV => ⟨(HR.out.under hV).in_.box, ((HR.out.under hV).stp.below.cell (p := ⟨b, off, none⟩) HBl.out).trans Y0.out⟩)
      have HBd := Lib.hid (show Below V.heap.size V V.drew from below_drewB (Below.refl _ _) 1)
      refine wp_region_T (ls := []) (T := (fun V' => Below V.heap.size V V')) (by kernel_rfl) ?_
      refine takeT (i := 0) (v := brV p a) rfl (by kernel_rfl) (by kernel_rfl) (by kernel_rfl) (by kernel_rfl) (fun _ _ _ h => h) (by rfl) ?_ HBd.out ?_
      · intro V' hV; obtain ⟨y0, y1⟩ := HL.out V' hV; exact exec_load_brain rfl y0
      simp only [Act.put, List.setIfInBounds_toArray, List.set_cons_zero, List.set_cons_succ]
      refine takeP (i := 1) (v := ?_) rfl (by kernel_rfl) (by kernel_rfl) (by kernel_rfl) (by kernel_rfl) (fun _ _ _ h => h) (by rfl) ?_ (fun _ => HBd.out) ?_
      rotate_left
      · intro V'; go_simp <;> with_reducible rfl
      simp only [Act.put, List.setIfInBounds_toArray, List.set_cons_zero, List.set_cons_succ]
      refine takeP (i := 2) (v := ?_) rfl (by kernel_rfl) (by kernel_rfl) (by kernel_rfl) (by kernel_rfl) (fun _ _ _ h => h) (by rfl) ?_ (fun _ => HBd.out) ?_
      rotate_left
      · intro V'; go_simp <;> with_reducible rfl
      simp only [Act.put, List.setIfInBounds_toArray, List.set_cons_zero, List.set_cons_succ]
      refine takeT (i := 3) (v := ?_) rfl (by kernel_rfl) (by kernel_rfl) (by kernel_rfl) (by kernel_rfl) (fun _ _ _ h => h) (by rfl) ?_ HBd.out ?_
      rotate_left
      · intro V' hV; obtain ⟨y0, y1⟩ := HL.out V' hV; go_simp <;> with_reducible rfl
      simp only [Act.put, List.setIfInBounds_toArray, List.set_cons_zero, List.set_cons_succ]
      refine oneT (i := 4) rfl (by kernel_rfl) (by rfl) (fun K hK => ?_)
      go_simp
      refine (findO ((HR.out.under HBd.out).in_.own.weaker (Nat.zero_le _)) HKp.out HF.out).mono ?_
      rintro e V_1 ⟨rfl, hb_⟩
      have HB_1 := Lib.hid (show Below V.heap.size V V_1 from HBd.out.trans (hb_.mono HBd.out.size))
      clear hb_ HBd
      refine hK.out _ _ (fun _ => HB_1.out) ?_
      clear hK K
      refine takeP (i := 5) (v := ?_) rfl (by kernel_rfl) (by kernel_rfl) (by kernel_rfl) (by kernel_rfl) (fun _ _ _ h => h) (by rfl) ?_ (fun _ => HB_1.out) ?_
      rotate_left
      · intro V'; go_simp <;> with_reducible rfl
      simp only [Act.put, List.setIfInBounds_toArray, List.set_cons_zero, List.set_cons_succ]
      refine doneT (by kernel_rfl) ?_ _
      have HR1 := Lib.hid (HR.out.under HB_1.out)
      clear HL HR HB_1
      have y1 := (HR1.out.stp.below.cell (p := ⟨b, off + 1, none⟩) HBl.out).trans Y1.out
      go_wp2_with (first | (refine wpList_loadB (by rfl) _ rfl w.heap.size p a (by rfl) HR1.out.in_.box ?_) | (refine wpList_storeB rfl _ _ rfl (w.heap.size + 1) p a _ (by rfl) (by rfl) (by rfl) HR1.out.res ?_; intro W9 hW9))
      obtain ⟨t1, t2, t3⟩ := HR1.out.tell hW9
      subst hW9
      exact brain_end (k := 6) rfl (by rfl) t1 rfl ⟨_, rfl, t2, t3⟩
    obtain ⟨gv, hgv⟩ : ∃ gv, decide (x1 = 1) = gv := ⟨_, rfl⟩
    have hg2 : (x1 == 1) = gv := by rw [← hgv]; exact beq_dec x1 1
    rw [show guardB p x0 x1 = { p with kps := p.kps.set i { x with guard := gv } } by unfold guardB; rw [if_neg (by rw [hks]; simp), if_pos h2, setK_set HFi.out HXk.out, hgv]]
    have d1 : decide (x1 < 2) = true := by simpa using h2
    clear hks h2 hgv
    go_enter Tryd.func43, Tryd.ntmps43
    go_upto_region 1 with fail
    refine wpV (fun V2 hV2 => ?_)
    obtain rfl : V = V2 := HV.out.symm.trans hV2
    clear HV hV2
    have HL : Hid (∀ V', Below V.heap.size V V' → Whole V' w.heap.size 30 (brC p a) ∧ V'.cell? ⟨b, off, none⟩ = some (.int .i64 x0)) := Lib.hid (fun V' hV => ⟨(HR.out.under hV).in_.box, ((HR.out.under hV).stp.below.cell (p := ⟨b, off, none⟩) HBl.out).trans Y0.out⟩)
    have HBd := Lib.hid (show Below V.heap.size V V.drew from below_drewB (Below.refl _ _) 1)
    refine wp_region_T (ls := []) (T := (fun V' => Below V.heap.size V V')) (by kernel_rfl) ?_
    refine takeT (i := 0) (v := brV p a) rfl (by kernel_rfl) (by kernel_rfl) (by kernel_rfl) (by kernel_rfl) (fun _ _ _ h => h) (by rfl) ?_ HBd.out ?_
    · intro V' hV; obtain ⟨y0, y1⟩ := HL.out V' hV; exact exec_load_brain rfl y0
    simp only [Act.put, List.setIfInBounds_toArray, List.set_cons_zero, List.set_cons_succ]
    refine takeP (i := 1) (v := ?_) rfl (by kernel_rfl) (by kernel_rfl) (by kernel_rfl) (by kernel_rfl) (fun _ _ _ h => h) (by rfl) ?_ (fun _ => HBd.out) ?_
    rotate_left
    · intro V'; go_simp <;> with_reducible rfl
    simp only [Act.put, List.setIfInBounds_toArray, List.set_cons_zero, List.set_cons_succ]
    refine takeP (i := 2) (v := ?_) rfl (by kernel_rfl) (by kernel_rfl) (by kernel_rfl) (by kernel_rfl) (fun _ _ _ h => h) (by rfl) ?_ (fun _ => HBd.out) ?_
    rotate_left
    · intro V'; go_simp <;> with_reducible rfl
    simp only [Act.put, List.setIfInBounds_toArray, List.set_cons_zero, List.set_cons_succ]
    refine takeT (i := 3) (v := ?_) rfl (by kernel_rfl) (by kernel_rfl) (by kernel_rfl) (by kernel_rfl) (fun _ _ _ h => h) (by rfl) ?_ HBd.out ?_
    rotate_left
    · intro V' hV; obtain ⟨y0, y1⟩ := HL.out V' hV; go_simp <;> with_reducible rfl
    simp only [Act.put, List.setIfInBounds_toArray, List.set_cons_zero, List.set_cons_succ]
    refine oneT (i := 4) rfl (by kernel_rfl) (by rfl) (fun K hK => ?_)
    go_simp
    refine (findO ((HR.out.under HBd.out).in_.own.weaker (Nat.zero_le _)) HKp.out HF.out).mono ?_
    rintro e V_1 ⟨rfl, hb_⟩
    have HB_1 := Lib.hid (show Below V.heap.size V V_1 from HBd.out.trans (hb_.mono HBd.out.size))
    clear hb_ HBd
    refine hK.out _ _ (fun _ => HB_1.out) ?_
    clear hK K
    refine takeP (i := 5) (v := ?_) rfl (by kernel_rfl) (by kernel_rfl) (by kernel_rfl) (by kernel_rfl) (fun _ _ _ h => h) (by rfl) ?_ (fun _ => HB_1.out) ?_
    rotate_left
    · intro V'; go_simp <;> with_reducible rfl
    simp only [Act.put, List.setIfInBounds_toArray, List.set_cons_zero, List.set_cons_succ]
    refine doneT (by kernel_rfl) ?_ _
    have HR1 := Lib.hid (HR.out.under HB_1.out)
    clear HL HR HB_1
    have y1 := (HR1.out.stp.below.cell (p := ⟨b, off + 1, none⟩) HBl.out).trans Y1.out
    go_upto_region 15 with fail
    clear y1
    have HL : Hid (∀ V', Below V_1.heap.size V_1 V' → V'.cell? ⟨b, off + 1, none⟩ = some (.int .i64 x1) ∧ V'.cell? ⟨w.heap.size, 19, none⟩ = some (.slice (some ⟨bk, 0, none⟩) p.kps.length a.d)) := Lib.hid (fun V' hV => ⟨((HR1.out.under hV).stp.below.cell (p := ⟨b, off + 1, none⟩) HBl.out).trans Y1.out, ((HR1.out.under hV).in_.box.cell 19).trans (by simp [HBk.out])⟩)
    have HBd := Lib.hid (show Below V_1.heap.size V_1 V_1.drew from below_drewB (Below.refl _ _) 1)
    refine wp_region_T (ls := [9]) (T := (fun V' => Below V_1.heap.size V_1 V')) (by kernel_rfl) ?_
    refine takeP (i := 0) (v := ?_) rfl (by kernel_rfl) (by kernel_rfl) (by kernel_rfl) (by kernel_rfl) (fun _ _ _ h => h) (by rfl) ?_ (fun _ => HBd.out) ?_
    rotate_left
    · intro V'; go_simp <;> with_reducible rfl
    simp only [Act.put, List.setIfInBounds_toArray, List.set_cons_zero, List.set_cons_succ]
    refine takeT (i := 1) (v := ?_) rfl (by kernel_rfl) (by kernel_rfl) (by kernel_rfl) (by kernel_rfl) (fun _ _ _ h => h) (by rfl) ?_ HBd.out ?_
    rotate_left
    · intro V' hV; obtain ⟨y0, y1⟩ := HL.out V' hV; go_simp <;> with_reducible rfl
    simp only [Act.put, List.setIfInBounds_toArray, List.set_cons_zero, List.set_cons_succ]
    refine takeP (i := 2) (v := ?_) rfl (by kernel_rfl) (by kernel_rfl) (by kernel_rfl) (by kernel_rfl) (fun _ _ _ h => h) (by rfl) ?_ (fun _ => HBd.out) ?_
    rotate_left
    · intro V'; go_simp <;> with_reducible rfl
    simp only [Act.put, List.setIfInBounds_toArray, List.set_cons_zero, List.set_cons_succ]
    refine takeP (i := 3) (v := ?_) rfl (by kernel_rfl) (by kernel_rfl) (by kernel_rfl) (by kernel_rfl) (fun _ _ _ h => h) (by rfl) ?_ (fun _ => HBd.out) ?_
    rotate_left
    · intro V'; go_simp <;> with_reducible rfl
    simp only [Act.put, List.setIfInBounds_toArray, List.set_cons_zero, List.set_cons_succ]
    refine takeP (i := 4) (v := ?_) rfl (by kernel_rfl) (by kernel_rfl) (by kernel_rfl) (by kernel_rfl) (fun _ _ _ h => h) (by rfl) ?_ (fun _ => HBd.out) ?_
    rotate_left
    · intro V'; go_simp <;> with_reducible rfl
    simp only [Act.put, List.setIfInBounds_toArray, List.set_cons_zero, List.set_cons_succ]
    refine takeT (i := 5) (v := ?_) rfl (by kernel_rfl) (by kernel_rfl) (by kernel_rfl) (by kernel_rfl) (fun _ _ _ h => h) (by rfl) ?_ HBd.out ?_
    rotate_left
    · intro V' hV; obtain ⟨y0, y1⟩ := HL.out V' hV; go_simp <;> with_reducible rfl
    simp only [Act.put, List.setIfInBounds_toArray, List.set_cons_zero, List.set_cons_succ]
    refine takeP (i := 6) (v := ?_) rfl (by kernel_rfl) (by kernel_rfl) (by kernel_rfl) (by kernel_rfl) (fun _ _ _ h => h) (by rfl) ?_ (fun _ => HBd.out) ?_
    rotate_left
    · intro V'; go_simp <;> with_reducible rfl
    simp only [Act.put, List.setIfInBounds_toArray, List.set_cons_zero, List.set_cons_succ]
    refine takeP (i := 7) (v := ?_) rfl (by kernel_rfl) (by kernel_rfl) (by kernel_rfl) (by kernel_rfl) (fun _ _ _ h => h) (by rfl) ?_ (fun _ => HBd.out) ?_
    rotate_left
    · intro V'; go_simp <;> with_reducible rfl
    simp only [Act.put, List.setIfInBounds_toArray, List.set_cons_zero, List.set_cons_succ]
    refine takeP (i := 8) (v := ?_) rfl (by kernel_rfl) (by kernel_rfl) (by kernel_rfl) (by kernel_rfl) (fun _ _ _ h => h) (by rfl) ?_ (fun _ => HBd.out) ?_
    rotate_left
    · intro V'; go_simp <;> with_reducible rfl
    simp only [Act.put, List.setIfInBounds_toArray, List.set_cons_zero, List.set_cons_succ]
    obtain ⟨q6, f6, r3⟩ := (HR1.out.under HBd.out).cell HBk.out (i := i) (j := 6) (x := x) (y := { x with guard := gv }) (u := .bool gv) HXk.out (by omega) rfl
    simp only [Kp.vs, List.getElem?_cons_succ, List.getElem?_cons_zero] at q6
    refine oneL (i := 9) (by kernel_rfl) rfl (by kernel_rfl) (by rfl) (fun K hK => ?_)
    go_simp
    refine hK.out _ _ ?_
    clear hK K
    refine doneT (by kernel_rfl) ?_ _
    go_upto_region 19 with fail
    refine wpV (fun V3 hV3 => ?_)
    replace r3 : Rz base w { p with kps := p.kps.set i { x with guard := gv } } a V3 := by rw [← hV3]; exact r3
    have HR3 := Lib.hid r3
    clear q6 f6 r3 hV3 HL HBd HR1 hg2
    go_wp2_with (first | (refine wpList_loadB (by rfl) _ rfl w.heap.size { p with kps := p.kps.set i { x with guard := gv } } a (by rfl) HR3.out.in_.box ?_) | (refine wpList_storeB rfl _ _ rfl (w.heap.size + 1) { p with kps := p.kps.set i { x with guard := gv } } a _ (by rfl) (by rfl) (by rfl) HR3.out.res ?_; intro W9 hW9))
    obtain ⟨t1, t2, t3⟩ := HR3.out.tell hW9
    subst hW9
    exact brain_end (k := 6) rfl (by rfl) t1 rfl ⟨_, rfl, t2, t3⟩
  · have k10 : k = 10 := by
      rcases hk with h | h | h | h | h
      · exact absurd h k6
      · exact absurd h k7
      · exact absurd h k8
      · exact absurd h k9
      · exact h
    subst k10
    clear hk
    have hnn : n = 1 := by unfold manyB at hn; simp at hn; omega
    subst hnn
    clear hn
    rw [show fitB p ((10 : Nat) : Int) x0 x1 x2 x3 x4 = doneB p x0 from rfl]
    obtain ⟨b, off, rfl, hbl, _⟩ := HLs.out.2 (by omega)
    have y0 : w.cell? ⟨b, off, none⟩ = some (.int .i64 x0) := by
      obtain ⟨b', off', e, _, h⟩ := at_of (k := 0) HLs.out (by omega)
      injection e with e; injection e with e1 e2; subst e1; subst e2
      rw [HX0.out] at h; exact h
    have Y0 := Lib.hid y0
    have HBl := Lib.hid hbl
    clear hbl y0
    have e8 : (((10 : Nat) : Int) == 8) = false := by decide
    have e6 : (((10 : Nat) : Int) == 6) = false := by decide
    have e7 : (((10 : Nat) : Int) == 7) = false := by decide
    have e9 : (((10 : Nat) : Int) == 9) = false := by decide
    have e10 : (((10 : Nat) : Int) == 10) = true := by decide
    rcases hidx with ⟨_, hkn, rfl⟩ | ⟨i, x, hfi, hx, hks, rfl⟩
    · rw [show doneB p x0 = p by unfold doneB; rw [hkn]]
      have d0 : decide ((-1 : Int) < 0) = true := by decide
      clear hkn
      go_enter Tryd.func43, Tryd.ntmps43
      go_upto_region 1 with fail
      refine wpV (fun V2 hV2 => ?_)
      obtain rfl : V = V2 := HV.out.symm.trans hV2
      clear HV hV2
      have HL : Hid (∀ V', Below V.heap.size V V' → Whole V' w.heap.size 30 (brC p a) ∧ V'.cell? ⟨b, off, none⟩ = some (.int .i64 x0)) := Lib.hid (fun V' hV => ⟨(HR.out.under hV).in_.box, ((HR.out.under hV).stp.below.cell (p := ⟨b, off, none⟩) HBl.out).trans Y0.out⟩)
      have HBd := Lib.hid (show Below V.heap.size V V.drew from below_drewB (Below.refl _ _) 1)
      refine wp_region_T (ls := []) (T := (fun V' => Below V.heap.size V V')) (by kernel_rfl) ?_
      refine takeT (i := 0) (v := brV p a) rfl (by kernel_rfl) (by kernel_rfl) (by kernel_rfl) (by kernel_rfl) (fun _ _ _ h => h) (by rfl) ?_ HBd.out ?_
      · intro V' hV; obtain ⟨y0, y1⟩ := HL.out V' hV; exact exec_load_brain rfl y0
      simp only [Act.put, List.setIfInBounds_toArray, List.set_cons_zero, List.set_cons_succ]
      refine takeP (i := 1) (v := ?_) rfl (by kernel_rfl) (by kernel_rfl) (by kernel_rfl) (by kernel_rfl) (fun _ _ _ h => h) (by rfl) ?_ (fun _ => HBd.out) ?_
      rotate_left
      · intro V'; go_simp <;> with_reducible rfl
      simp only [Act.put, List.setIfInBounds_toArray, List.set_cons_zero, List.set_cons_succ]
      refine takeP (i := 2) (v := ?_) rfl (by kernel_rfl) (by kernel_rfl) (by kernel_rfl) (by kernel_rfl) (fun _ _ _ h => h) (by rfl) ?_ (fun _ => HBd.out) ?_
      rotate_left
      · intro V'; go_simp <;> with_reducible rfl
      simp only [Act.put, List.setIfInBounds_toArray, List.set_cons_zero, List.set_cons_succ]
      refine takeT (i := 3) (v := ?_) rfl (by kernel_rfl) (by kernel_rfl) (by kernel_rfl) (by kernel_rfl) (fun _ _ _ h => h) (by rfl) ?_ HBd.out ?_
      rotate_left
      · intro V' hV; obtain ⟨y0, y1⟩ := HL.out V' hV; go_simp <;> with_reducible rfl
      simp only [Act.put, List.setIfInBounds_toArray, List.set_cons_zero, List.set_cons_succ]
      refine oneT (i := 4) rfl (by kernel_rfl) (by rfl) (fun K hK => ?_)
      go_simp
      refine (findO ((HR.out.under HBd.out).in_.own.weaker (Nat.zero_le _)) HKp.out HF.out).mono ?_
      rintro e V_1 ⟨rfl, hb_⟩
      have HB_1 := Lib.hid (show Below V.heap.size V V_1 from HBd.out.trans (hb_.mono HBd.out.size))
      clear hb_ HBd
      refine hK.out _ _ (fun _ => HB_1.out) ?_
      clear hK K
      refine takeP (i := 5) (v := ?_) rfl (by kernel_rfl) (by kernel_rfl) (by kernel_rfl) (by kernel_rfl) (fun _ _ _ h => h) (by rfl) ?_ (fun _ => HB_1.out) ?_
      rotate_left
      · intro V'; go_simp <;> with_reducible rfl
      simp only [Act.put, List.setIfInBounds_toArray, List.set_cons_zero, List.set_cons_succ]
      refine doneT (by kernel_rfl) ?_ _
      have HR1 := Lib.hid (HR.out.under HB_1.out)
      clear HL HR HB_1
      go_wp2_with (first | (refine wpList_loadB (by rfl) _ rfl w.heap.size p a (by rfl) HR1.out.in_.box ?_) | (refine wpList_storeB rfl _ _ rfl (w.heap.size + 1) p a _ (by rfl) (by rfl) (by rfl) HR1.out.res ?_; intro W9 hW9))
      obtain ⟨t1, t2, t3⟩ := HR1.out.tell hW9
      subst hW9
      exact brain_end (k := 6) rfl (by rfl) t1 rfl ⟨_, rfl, t2, t3⟩
    have d0 : decide ((i : Int) < 0) = false := by simp
    have hI : (i : Int) < (p.kps.length : Int) := by have := (List.getElem?_eq_some_iff.1 hx).1; omega
    obtain ⟨bk, hB, hbk, hbv⟩ := kps_at (i := i) HR.out.in_ hx
    have HBk := Lib.hid hB
    have HXk := Lib.hid hx
    have HFi := Lib.hid hfi
    clear hB hbk hbv hx hfi
    by_cases h1 : x.phase = 1
    · rw [show doneB p x0 = { p with kps := p.kps.set i { x with done := true } } by unfold doneB; rw [hks]; exact (if_pos (.inl h1)).trans (by rw [setK_set HFi.out HXk.out])]
      have d1 : (x.phase == 1) = true := by simpa using h1
      clear hks h1
      go_enter Tryd.func43, Tryd.ntmps43
      go_upto_region 1 with fail
      refine wpV (fun V2 hV2 => ?_)
      obtain rfl : V = V2 := HV.out.symm.trans hV2
      clear HV hV2
      have HL : Hid (∀ V', Below V.heap.size V V' → Whole V' w.heap.size 30 (brC p a) ∧ V'.cell? ⟨b, off, none⟩ = some (.int .i64 x0)) := Lib.hid (fun V' hV => ⟨(HR.out.under hV).in_.box, ((HR.out.under hV).stp.below.cell (p := ⟨b, off, none⟩) HBl.out).trans Y0.out⟩)
      have HBd := Lib.hid (show Below V.heap.size V V.drew from below_drewB (Below.refl _ _) 1)
      refine wp_region_T (ls := []) (T := (fun V' => Below V.heap.size V V')) (by kernel_rfl) ?_
      refine takeT (i := 0) (v := brV p a) rfl (by kernel_rfl) (by kernel_rfl) (by kernel_rfl) (by kernel_rfl) (fun _ _ _ h => h) (by rfl) ?_ HBd.out ?_
      · intro V' hV; obtain ⟨y0, y1⟩ := HL.out V' hV; exact exec_load_brain rfl y0
      simp only [Act.put, List.setIfInBounds_toArray, List.set_cons_zero, List.set_cons_succ]
      refine takeP (i := 1) (v := ?_) rfl (by kernel_rfl) (by kernel_rfl) (by kernel_rfl) (by kernel_rfl) (fun _ _ _ h => h) (by rfl) ?_ (fun _ => HBd.out) ?_
      rotate_left
      · intro V'; go_simp <;> with_reducible rfl
      simp only [Act.put, List.setIfInBounds_toArray, List.set_cons_zero, List.set_cons_succ]
      refine takeP (i := 2) (v := ?_) rfl (by kernel_rfl) (by kernel_rfl) (by kernel_rfl) (by kernel_rfl) (fun _ _ _ h => h) (by rfl) ?_ (fun _ => HBd.out) ?_
      rotate_left
      · intro V'; go_simp <;> with_reducible rfl
      simp only [Act.put, List.setIfInBounds_toArray, List.set_cons_zero, List.set_cons_succ]
      refine takeT (i := 3) (v := ?_) rfl (by kernel_rfl) (by kernel_rfl) (by kernel_rfl) (by kernel_rfl) (fun _ _ _ h => h) (by rfl) ?_ HBd.out ?_
      rotate_left
      · intro V' hV; obtain ⟨y0, y1⟩ := HL.out V' hV; go_simp <;> with_reducible rfl
      simp only [Act.put, List.setIfInBounds_toArray, List.set_cons_zero, List.set_cons_succ]
      refine oneT (i := 4) rfl (by kernel_rfl) (by rfl) (fun K hK => ?_)
      go_simp
      refine (findO ((HR.out.under HBd.out).in_.own.weaker (Nat.zero_le _)) HKp.out HF.out).mono ?_
      rintro e V_1 ⟨rfl, hb_⟩
      have HB_1 := Lib.hid (show Below V.heap.size V V_1 from HBd.out.trans (hb_.mono HBd.out.size))
      clear hb_ HBd
      refine hK.out _ _ (fun _ => HB_1.out) ?_
      clear hK K
      refine takeP (i := 5) (v := ?_) rfl (by kernel_rfl) (by kernel_rfl) (by kernel_rfl) (by kernel_rfl) (fun _ _ _ h => h) (by rfl) ?_ (fun _ => HB_1.out) ?_
      rotate_left
      · intro V'; go_simp <;> with_reducible rfl
      simp only [Act.put, List.setIfInBounds_toArray, List.set_cons_zero, List.set_cons_succ]
      refine doneT (by kernel_rfl) ?_ _
      have HR1 := Lib.hid (HR.out.under HB_1.out)
      clear HL HR HB_1
      obtain ⟨q4, _, _⟩ := HR1.out.cell HBk.out (i := i) (j := 4) (x := x) (y := x) (u := .int .u8 x.phase) HXk.out (by omega) rfl
      obtain ⟨q7, f7, r3⟩ := HR1.out.cell HBk.out (i := i) (j := 7) (x := x) (y := { x with done := true }) (u := .bool true) HXk.out (by omega) rfl
      simp only [Kp.vs, List.getElem?_cons_succ, List.getElem?_cons_zero] at q4 q7
      have c19 : V_1.cell? ⟨w.heap.size, 19, none⟩ = some (.slice (some ⟨bk, 0, none⟩) p.kps.length a.d) := (HR1.out.in_.box.cell 19).trans (by simp [HBk.out])
      go_upto_region 19 with fail
      refine wpV (fun V3 hV3 => ?_)
      replace r3 : Rz base w { p with kps := p.kps.set i { x with done := true } } a V3 := by rw [← hV3]; exact r3
      have HR3 := Lib.hid r3
      clear q4 q7 f7 r3 hV3 HR1 c19
      go_wp2_with (first | (refine wpList_loadB (by rfl) _ rfl w.heap.size { p with kps := p.kps.set i { x with done := true } } a (by rfl) HR3.out.in_.box ?_) | (refine wpList_storeB rfl _ _ rfl (w.heap.size + 1) { p with kps := p.kps.set i { x with done := true } } a _ (by rfl) (by rfl) (by rfl) HR3.out.res ?_; intro W9 hW9))
      obtain ⟨t1, t2, t3⟩ := HR3.out.tell hW9
      subst hW9
      exact brain_end (k := 6) rfl (by rfl) t1 rfl ⟨_, rfl, t2, t3⟩
    have d1 : (x.phase == 1) = false := by simpa using h1
    by_cases h7 : x.phase = 7
    · rw [show doneB p x0 = { p with kps := p.kps.set i { x with done := true } } by unfold doneB; rw [hks]; exact (if_pos (.inr h7)).trans (by rw [setK_set HFi.out HXk.out])]
      have d7 : (x.phase == 7) = true := by simpa using h7
      clear hks h1 h7
      go_enter Tryd.func43, Tryd.ntmps43
      go_upto_region 1 with fail
      refine wpV (fun V2 hV2 => ?_)
      obtain rfl : V = V2 := HV.out.symm.trans hV2
      clear HV hV2
      have HL : Hid (∀ V', Below V.heap.size V V' → Whole V' w.heap.size 30 (brC p a) ∧ V'.cell? ⟨b, off, none⟩ = some (.int .i64 x0)) := Lib.hid (fun V' hV => ⟨(HR.out.under hV).in_.box, ((HR.out.under hV).stp.below.cell (p := ⟨b, off, none⟩) HBl.out).trans Y0.out⟩)
      have HBd := Lib.hid (show Below V.heap.size V V.drew from below_drewB (Below.refl _ _) 1)
      refine wp_region_T (ls := []) (T := (fun V' => Below V.heap.size V V')) (by kernel_rfl) ?_
      refine takeT (i := 0) (v := brV p a) rfl (by kernel_rfl) (by kernel_rfl) (by kernel_rfl) (by kernel_rfl) (fun _ _ _ h => h) (by rfl) ?_ HBd.out ?_
      · intro V' hV; obtain ⟨y0, y1⟩ := HL.out V' hV; exact exec_load_brain rfl y0
      simp only [Act.put, List.setIfInBounds_toArray, List.set_cons_zero, List.set_cons_succ]
      refine takeP (i := 1) (v := ?_) rfl (by kernel_rfl) (by kernel_rfl) (by kernel_rfl) (by kernel_rfl) (fun _ _ _ h => h) (by rfl) ?_ (fun _ => HBd.out) ?_
      rotate_left
      · intro V'; go_simp <;> with_reducible rfl
      simp only [Act.put, List.setIfInBounds_toArray, List.set_cons_zero, List.set_cons_succ]
      refine takeP (i := 2) (v := ?_) rfl (by kernel_rfl) (by kernel_rfl) (by kernel_rfl) (by kernel_rfl) (fun _ _ _ h => h) (by rfl) ?_ (fun _ => HBd.out) ?_
      rotate_left
      · intro V'; go_simp <;> with_reducible rfl
      simp only [Act.put, List.setIfInBounds_toArray, List.set_cons_zero, List.set_cons_succ]
      refine takeT (i := 3) (v := ?_) rfl (by kernel_rfl) (by kernel_rfl) (by kernel_rfl) (by kernel_rfl) (fun _ _ _ h => h) (by rfl) ?_ HBd.out ?_
      rotate_left
      · intro V' hV; obtain ⟨y0, y1⟩ := HL.out V' hV; go_simp <;> with_reducible rfl
      simp only [Act.put, List.setIfInBounds_toArray, List.set_cons_zero, List.set_cons_succ]
      refine oneT (i := 4) rfl (by kernel_rfl) (by rfl) (fun K hK => ?_)
      go_simp
      refine (findO ((HR.out.under HBd.out).in_.own.weaker (Nat.zero_le _)) HKp.out HF.out).mono ?_
      rintro e V_1 ⟨rfl, hb_⟩
      have HB_1 := Lib.hid (show Below V.heap.size V V_1 from HBd.out.trans (hb_.mono HBd.out.size))
      clear hb_ HBd
      refine hK.out _ _ (fun _ => HB_1.out) ?_
      clear hK K
      refine takeP (i := 5) (v := ?_) rfl (by kernel_rfl) (by kernel_rfl) (by kernel_rfl) (by kernel_rfl) (fun _ _ _ h => h) (by rfl) ?_ (fun _ => HB_1.out) ?_
      rotate_left
      · intro V'; go_simp <;> with_reducible rfl
      simp only [Act.put, List.setIfInBounds_toArray, List.set_cons_zero, List.set_cons_succ]
      refine doneT (by kernel_rfl) ?_ _
      have HR1 := Lib.hid (HR.out.under HB_1.out)
      clear HL HR HB_1
      obtain ⟨q4, _, _⟩ := HR1.out.cell HBk.out (i := i) (j := 4) (x := x) (y := x) (u := .int .u8 x.phase) HXk.out (by omega) rfl
      obtain ⟨q7, f7, r3⟩ := HR1.out.cell HBk.out (i := i) (j := 7) (x := x) (y := { x with done := true }) (u := .bool true) HXk.out (by omega) rfl
      simp only [Kp.vs, List.getElem?_cons_succ, List.getElem?_cons_zero] at q4 q7
      have c19 : V_1.cell? ⟨w.heap.size, 19, none⟩ = some (.slice (some ⟨bk, 0, none⟩) p.kps.length a.d) := (HR1.out.in_.box.cell 19).trans (by simp [HBk.out])
      go_upto_region 19 with fail
      refine wpV (fun V3 hV3 => ?_)
      replace r3 : Rz base w { p with kps := p.kps.set i { x with done := true } } a V3 := by rw [← hV3]; exact r3
      have HR3 := Lib.hid r3
      clear q4 q7 f7 r3 hV3 HR1 c19
      go_wp2_with (first | (refine wpList_loadB (by rfl) _ rfl w.heap.size { p with kps := p.kps.set i { x with done := true } } a (by rfl) HR3.out.in_.box ?_) | (refine wpList_storeB rfl _ _ rfl (w.heap.size + 1) { p with kps := p.kps.set i { x with done := true } } a _ (by rfl) (by rfl) (by rfl) HR3.out.res ?_; intro W9 hW9))
      obtain ⟨t1, t2, t3⟩ := HR3.out.tell hW9
      subst hW9
      exact brain_end (k := 6) rfl (by rfl) t1 rfl ⟨_, rfl, t2, t3⟩
    rw [show doneB p x0 = p by unfold doneB; rw [hks]; exact if_neg (fun h => h.elim h1 h7)]
    have d7 : (x.phase == 7) = false := by simpa using h7
    clear hks h1 h7
    go_enter Tryd.func43, Tryd.ntmps43
    go_upto_region 1 with fail
    refine wpV (fun V2 hV2 => ?_)
    obtain rfl : V = V2 := HV.out.symm.trans hV2
    clear HV hV2
    have HL : Hid (∀ V', Below V.heap.size V V' → Whole V' w.heap.size 30 (brC p a) ∧ V'.cell? ⟨b, off, none⟩ = some (.int .i64 x0)) := Lib.hid (fun V' hV => ⟨(HR.out.under hV).in_.box, ((HR.out.under hV).stp.below.cell (p := ⟨b, off, none⟩) HBl.out).trans Y0.out⟩)
    have HBd := Lib.hid (show Below V.heap.size V V.drew from below_drewB (Below.refl _ _) 1)
    refine wp_region_T (ls := []) (T := (fun V' => Below V.heap.size V V')) (by kernel_rfl) ?_
    refine takeT (i := 0) (v := brV p a) rfl (by kernel_rfl) (by kernel_rfl) (by kernel_rfl) (by kernel_rfl) (fun _ _ _ h => h) (by rfl) ?_ HBd.out ?_
    · intro V' hV; obtain ⟨y0, y1⟩ := HL.out V' hV; exact exec_load_brain rfl y0
    simp only [Act.put, List.setIfInBounds_toArray, List.set_cons_zero, List.set_cons_succ]
    refine takeP (i := 1) (v := ?_) rfl (by kernel_rfl) (by kernel_rfl) (by kernel_rfl) (by kernel_rfl) (fun _ _ _ h => h) (by rfl) ?_ (fun _ => HBd.out) ?_
    rotate_left
    · intro V'; go_simp <;> with_reducible rfl
    simp only [Act.put, List.setIfInBounds_toArray, List.set_cons_zero, List.set_cons_succ]
    refine takeP (i := 2) (v := ?_) rfl (by kernel_rfl) (by kernel_rfl) (by kernel_rfl) (by kernel_rfl) (fun _ _ _ h => h) (by rfl) ?_ (fun _ => HBd.out) ?_
    rotate_left
    · intro V'; go_simp <;> with_reducible rfl
    simp only [Act.put, List.setIfInBounds_toArray, List.set_cons_zero, List.set_cons_succ]
    refine takeT (i := 3) (v := ?_) rfl (by kernel_rfl) (by kernel_rfl) (by kernel_rfl) (by kernel_rfl) (fun _ _ _ h => h) (by rfl) ?_ HBd.out ?_
    rotate_left
    · intro V' hV; obtain ⟨y0, y1⟩ := HL.out V' hV; go_simp <;> with_reducible rfl
    simp only [Act.put, List.setIfInBounds_toArray, List.set_cons_zero, List.set_cons_succ]
    refine oneT (i := 4) rfl (by kernel_rfl) (by rfl) (fun K hK => ?_)
    go_simp
    refine (findO ((HR.out.under HBd.out).in_.own.weaker (Nat.zero_le _)) HKp.out HF.out).mono ?_
    rintro e V_1 ⟨rfl, hb_⟩
    have HB_1 := Lib.hid (show Below V.heap.size V V_1 from HBd.out.trans (hb_.mono HBd.out.size))
    clear hb_ HBd
    refine hK.out _ _ (fun _ => HB_1.out) ?_
    clear hK K
    refine takeP (i := 5) (v := ?_) rfl (by kernel_rfl) (by kernel_rfl) (by kernel_rfl) (by kernel_rfl) (fun _ _ _ h => h) (by rfl) ?_ (fun _ => HB_1.out) ?_
    rotate_left
    · intro V'; go_simp <;> with_reducible rfl
    simp only [Act.put, List.setIfInBounds_toArray, List.set_cons_zero, List.set_cons_succ]
    refine doneT (by kernel_rfl) ?_ _
    have HR1 := Lib.hid (HR.out.under HB_1.out)
    clear HL HR HB_1
    obtain ⟨q4, _, _⟩ := HR1.out.cell HBk.out (i := i) (j := 4) (x := x) (y := x) (u := .int .u8 x.phase) HXk.out (by omega) rfl
    obtain ⟨q7, f7, r3⟩ := HR1.out.cell HBk.out (i := i) (j := 7) (x := x) (y := { x with done := true }) (u := .bool true) HXk.out (by omega) rfl
    simp only [Kp.vs, List.getElem?_cons_succ, List.getElem?_cons_zero] at q4 q7
    have c19 : V_1.cell? ⟨w.heap.size, 19, none⟩ = some (.slice (some ⟨bk, 0, none⟩) p.kps.length a.d) := (HR1.out.in_.box.cell 19).trans (by simp [HBk.out])
    clear q7 f7 r3
    go_wp2_with (first | (refine wpList_loadB (by rfl) _ rfl w.heap.size p a (by rfl) HR1.out.in_.box ?_) | (refine wpList_storeB rfl _ _ rfl (w.heap.size + 1) p a _ (by rfl) (by rfl) (by rfl) HR1.out.res ?_; intro W9 hW9))
    obtain ⟨t1, t2, t3⟩ := HR1.out.tell hW9
    subst hW9
    exact brain_end (k := 6) rfl (by rfl) t1 rfl ⟨_, rfl, t2, t3⟩

end Go.Proofs.YtplejbgecihnpaaDoor
