/-
  Texts that the walk of a statement over brains leans on, joined (BrRMade). Conditions: those that each theorem names.
-/
import Derived.Test.YtplejbgecihnpaaDoorK15
import Derived.Test.YtplejbgecihnpaaDoorK16

namespace Go.Proofs.YtplejbgecihnpaaDoor
open Go.RowKit Go.Shelf

set_option maxRecDepth 100000 in
theorem set18M {w : World} {g : Nat} {p : Br} {a : Ad} (h : Whole w g 30 (brC p a)) (l : List It) (A : Option Addr) (c : Nat) : Whole (w.setCell ⟨g, 18, none⟩ (.slice A l.length c)) g 30 (brC { p with its := l } ⟨a.C, a.e, A, c, a.B, a.d⟩) := by
  have h1 := h.set 18 (.slice A l.length c)
  simp only [List.setIfInBounds_toArray, List.set_cons_zero, List.set_cons_succ] at h1
  exact h1
set_option maxRecDepth 100000 in
/-- Other ones meant. -/
theorem Rz.its18 {base : Nat} {w W : World} {p : Br} {a : Ad} (h : Rz base w p a W) {l : List It} {A : Option Addr} {c : Nat} (ho : ItsAt base W (.slice A l.length c) l) : Rz base w { p with its := l } ⟨a.C, a.e, A, c, a.B, a.d⟩ (W.setCell ⟨w.heap.size, 18, none⟩ (.slice A l.length c)) := by
  have k := Only.set W w.heap.size 18 (.slice A l.length c)
  exact ⟨⟨set18M h.in_.box l A c, ⟨k.own h.in_.own.ms h.in_.box (by decide), ho.only k h.in_.box (by decide), h.in_.own.kps.only k h.in_.box (by decide)⟩, h.in_.ge⟩, k.far h.res (by omega), h.stp.trans (Stp.set h.in_.box (by decide) h.in_.ge 18 _)⟩
set_option maxRecDepth 100000 in
theorem its_at {base : Nat} {w : World} {p : Br} {a : Ad} {g i : Nat} {x : It} (h : BrIn base g w p a) (hx : p.its[i]? = some x) : ∃ bi, a.A = some ⟨bi, 0, none⟩ := by
  have hi : i < p.its.length := (List.getElem?_eq_some_iff.1 hx).1
  have ho := h.own.its
  unfold ItsAt at ho
  obtain ⟨b', cs, hb', _⟩ := RowIn.of_own ho (by omega)
  exact ⟨b', hb'⟩
set_option maxRecDepth 100000 in
/-- One number of a kept one's box is laid anew. -/
theorem Rz.past {base b : Nat} {w W : World} {p : Br} {a : Ad} {cs : Array Value} (h : Rz base w p a W) (hb : Whole W b 32 cs) (hge : base ≤ b) (hne : (Value.slice a.B p.kps.length a.d).ownBlock ≠ some b) {i : Nat} {v : Value} : Rz base w p a (W.setCell ⟨b, i, none⟩ v) := by
  have k := Only.set W b i v
  exact ⟨⟨k.far h.in_.box (whole_ne h.in_.box hb (by decide)), ⟨k.own h.in_.own.ms hb (by decide), h.in_.own.its.only k hb (by decide), ownsRow_setCell_other h.in_.own.kps hne v⟩, h.in_.ge⟩, k.far h.res (whole_ne h.res hb (by decide)), h.stp.trans (Stp.set hb (by decide) hge i v)⟩
set_option maxRecDepth 100000 in
/-- The brain is told by a call. -/
theorem Rz.told {base : Nat} {w W W2 W3 : World} {p q : Br} {a a2 : Ad} {cs2 : Array Value} (h : Rz base w p a W) (hs2 : Stp base W W2) (hc2 : Whole W2 (w.heap.size + 1) 30 cs2) (hz2 : cs2.size = 27) (ho2 : OwB base W2 q a2) (hW : W3 = W2.setRow (w.heap.size + 1) (brC q a2)) :
    Whole W3 (w.heap.size + 1) 30 (brC q a2) ∧ OwB base W3 q a2 ∧ Stp base w W3 := by
  have hge := h.in_.ge
  rw [hW]
  exact ⟨setRow_heap _ _ _ _ _ _ hc2, ho2.rowset hc2 (by decide) (by decide) (by decide) _, (h.stp.trans hs2).trans (stp_row hc2 (by rw [hz2]; rfl) (by omega))⟩

set_option maxRecDepth 100000 in
set_option maxHeartbeats 8000000 in
theorem rmade_any (p : Br) (a : Ad) (A : Option Addr) (n c : Nat) (l : List Int) (base : Nat) (w : World) (hw : OwB base w p a) (hbase : base ≤ w.heap.size) (hl : Rd w base A n (iv l)) (hn : n = 3) (hkp : p.kps.length ≤ 900) (hit : p.its.length ≤ 900) :
    Calls Tryd.prog 42 #[brV p a, .slice A n c] w (StV base (madeB p (l.getD 0 0) (l.getD 1 0) (l.getD 2 0)) w) := by
  subst hn
  obtain ⟨hb0, w0, w1⟩ := two_new w 30 30 (brC p a) (brC br0 ad0)
  obtain ⟨V, hV⟩ : ∃ V, (w.alloc (.cells (brC p a) 30)).alloc (.cells (brC br0 ad0) 30) = V := ⟨_, rfl⟩
  rw [hV] at hb0 w0 w1
  have HV := Lib.hid hV
  have HR := Lib.hid (show Rz base w p a V from ⟨⟨w0, hw.under hb0, hbase⟩, w1, Stp.of_below hb0 hbase⟩)
  have HKp := Lib.hid (show p.kps.length ≤ 1000 by omega)
  have HIt := Lib.hid (show p.its.length ≤ 1000 by omega)
  have HI9 := Lib.hid hit
  obtain ⟨x0, hx0⟩ : ∃ x0, l.getD 0 0 = x0 := ⟨_, rfl⟩
  obtain ⟨x1, hx1⟩ : ∃ x1, l.getD 1 0 = x1 := ⟨_, rfl⟩
  obtain ⟨x2, hx2⟩ : ∃ x2, l.getD 2 0 = x2 := ⟨_, rfl⟩
  rw [hx0, hx1, hx2]
  obtain ⟨b0, off0, ea0, hbl0, y0⟩ := at_of (k := 0) hl (by omega)
  rw [hx0] at y0
  obtain ⟨b1, off1, ea1, hbl1, y1⟩ := at_of (k := 1) hl (by omega)
  rw [hx1] at y1
  obtain ⟨b2, off2, ea2, hbl2, y2⟩ := at_of (k := 2) hl (by omega)
  rw [hx2] at y2
  subst ea0
  injection ea1 with ea1; injection ea1 with e1 e2; subst e1; subst e2
  injection ea2 with ea2; injection ea2 with e1 e2; subst e1; subst e2
  obtain ⟨b, hb⟩ : ∃ b, b0 = b := ⟨_, rfl⟩
  obtain ⟨off, hoff⟩ : ∃ off, off0 = off := ⟨_, rfl⟩
  subst hb
  subst hoff
  have Y0 := Lib.hid (show w.cell? ⟨b0, off0, none⟩ = some (.int .i64 x0) from y0)
  have Y1 := Lib.hid y1
  have Y2 := Lib.hid y2
  have HBl := Lib.hid hbl0
  clear hV hb0 w0 w1 hw hbase hl hx0 hx1 hx2 hkp hit y0 y1 y2 hbl0 hbl1 hbl2
  have htok := meant_idx p x0
  obtain ⟨fv, hfv⟩ : ∃ fv, tokenB p x0 = fv := ⟨_, rfl⟩
  rw [hfv] at htok
  have HF := Lib.hid hfv
  obtain ⟨kv, hkv⟩ : ∃ kv, findB p x1 = kv := ⟨_, rfl⟩
  have HG := Lib.hid hkv
  clear hfv
  rcases htok with ⟨_, hmn, rfl⟩ | ⟨i, x, hfi, hx, hms, rfl⟩
  · rw [show madeB p x0 x1 x2 = p by unfold madeB; rw [hmn]]
    have d0 : decide ((-1 : Int) < 0) = true := by decide
    clear hmn hkv
    go_enter Tryd.func42, Tryd.ntmps42
    go_upto_region 1 with fail
    refine wpV (fun V2 hV2 => ?_)
    obtain rfl : V = V2 := HV.out.symm.trans hV2
    clear HV hV2
    have HL : Hid (∀ V', Below V.heap.size V V' → Whole V' w.heap.size 30 (brC p a) ∧ V'.cell? ⟨b0, off0, none⟩ = some (.int .i64 x0)) := Lib.hid (fun V' hV => ⟨(HR.out.under hV).in_.box, ((HR.out.under hV).stp.below.cell (p := ⟨b0, off0, none⟩) HBl.out).trans Y0.out⟩)
    have HBd := Lib.hid (show Below V.heap.size V V.drew from below_drewB (Below.refl _ _) 1)
    refine wp_region_T (ls := []) (T := (fun V' => Below V.heap.size V V')) (by kernel_rfl) ?_
    refine takeT (i := 0) (v := brV p a) rfl (by kernel_rfl) (by kernel_rfl) (by kernel_rfl) (by kernel_rfl) (fun _ _ _ h => h) (by rfl) ?_ HBd.out ?_
    · intro V' hV; obtain ⟨y0, y1⟩ := HL.out V' hV; exact exec_load_brain rfl y0
    simp only [Act.put, List.setIfInBounds_toArray, List.set_cons_zero, List.set_cons_succ]
    refine takeP (i := 1) (v := ?_) rfl (by kernel_rfl) (by kernel_rfl) (by kernel_rfl) (by kernel_rfl) (fun _ _ _ h => h) (by rfl) ?_ (fun _ => HBd.out) ?_
    rotate_left
    · intro V'; go_simp <;> with_reducible rfl
    simp only [Act.put, List.setIfInBounds_toArray, List.set_cons_zero, List.set_cons_succ]
    refine takeP (i := 2) (v := ?_) rfl (by kernel_rfl) (by kernel_rfl) (by kernel_rfl) (by kernel_rfl) (fun _ _ _ h => h) (by rfl) ?_ (fun _ => HBd.out) ?_
    rotate_left
    · intro V'; go_simp <;> with_reducible rfl
    simp only [Act.put, List.setIfInBounds_toArray, List.set_cons_zero, List.set_cons_succ]
    refine takeT (i := 3) (v := ?_) rfl (by kernel_rfl) (by kernel_rfl) (by kernel_rfl) (by kernel_rfl) (fun _ _ _ h => h) (by rfl) ?_ HBd.out ?_
    rotate_left
    · intro V' hV; obtain ⟨y0, y1⟩ := HL.out V' hV; go_simp <;> with_reducible rfl
    simp only [Act.put, List.setIfInBounds_toArray, List.set_cons_zero, List.set_cons_succ]
    refine oneT (i := 4) rfl (by kernel_rfl) (by rfl) (fun K hK => ?_)
    go_simp
    refine (tokO ((HR.out.under HBd.out).in_.own.weaker (Nat.zero_le _)) HIt.out HF.out).mono ?_
    rintro e V_1 ⟨rfl, hb_⟩
    have HB_1 := Lib.hid (show Below V.heap.size V V_1 from HBd.out.trans (hb_.mono HBd.out.size))
    clear hb_ HBd
    refine hK.out _ _ (fun _ => HB_1.out) ?_
    clear hK K
    refine takeP (i := 5) (v := ?_) rfl (by kernel_rfl) (by kernel_rfl) (by kernel_rfl) (by kernel_rfl) (fun _ _ _ h => h) (by rfl) ?_ (fun _ => HB_1.out) ?_
    rotate_left
    · intro V'; go_simp <;> with_reducible rfl
    simp only [Act.put, List.setIfInBounds_toArray, List.set_cons_zero, List.set_cons_succ]
    refine doneT (by kernel_rfl) ?_ _
    have HR1 := Lib.hid (HR.out.under HB_1.out)
    clear HL HR HB_1
    go_upto_region 2 with fail
    have HL : Hid (∀ V', Below V_1.heap.size V_1 V' → Whole V' w.heap.size 30 (brC p a) ∧ V'.cell? ⟨b0, off0 + 1, none⟩ = some (.int .i64 x1)) := Lib.hid (fun V' hV => ⟨(HR1.out.under hV).in_.box, ((HR1.out.under hV).stp.below.cell (p := ⟨b0, off0 + 1, none⟩) HBl.out).trans Y1.out⟩)
    have HBd := Lib.hid (show Below V_1.heap.size V_1 V_1.drew from below_drewB (Below.refl _ _) 1)
    refine wp_region_T (ls := []) (T := (fun V' => Below V_1.heap.size V_1 V')) (by kernel_rfl) ?_
    refine takeP (i := 0) (v := ?_) rfl (by kernel_rfl) (by kernel_rfl) (by kernel_rfl) (by kernel_rfl) (fun _ _ _ h => h) (by rfl) ?_ (fun _ => HBd.out) ?_
    rotate_left
    · intro V'; go_simp <;> with_reducible rfl
    simp only [Act.put, List.setIfInBounds_toArray, List.set_cons_zero, List.set_cons_succ]
    refine takeP (i := 1) (v := ?_) rfl (by kernel_rfl) (by kernel_rfl) (by kernel_rfl) (by kernel_rfl) (fun _ _ _ h => h) (by rfl) ?_ (fun _ => HBd.out) ?_
    rotate_left
    · intro V'; go_simp <;> with_reducible rfl
    simp only [Act.put, List.setIfInBounds_toArray, List.set_cons_zero, List.set_cons_succ]
    refine takeP (i := 2) (v := ?_) rfl (by kernel_rfl) (by kernel_rfl) (by kernel_rfl) (by kernel_rfl) (fun _ _ _ h => h) (by rfl) ?_ (fun _ => HBd.out) ?_
    rotate_left
    · intro V'; go_simp <;> with_reducible rfl
    simp only [Act.put, List.setIfInBounds_toArray, List.set_cons_zero, List.set_cons_succ]
    refine skipT (i := 3) rfl (by kernel_rfl) (by kernel_rfl) (by kernel_rfl) (by kernel_rfl) (fun _ _ _ h => h) (by rfl) (fun _ => HBd.out) ?_
    simp only [Act.put, List.setIfInBounds_toArray, List.set_cons_zero, List.set_cons_succ]
    refine skipT (i := 4) rfl (by kernel_rfl) (by kernel_rfl) (by kernel_rfl) (by kernel_rfl) (fun _ _ _ h => h) (by rfl) (fun _ => HBd.out) ?_
    simp only [Act.put, List.setIfInBounds_toArray, List.set_cons_zero, List.set_cons_succ]
    refine skipT (i := 5) rfl (by kernel_rfl) (by kernel_rfl) (by kernel_rfl) (by kernel_rfl) (fun _ _ _ h => h) (by rfl) (fun _ => HBd.out) ?_
    simp only [Act.put, List.setIfInBounds_toArray, List.set_cons_zero, List.set_cons_succ]
    refine skipT (i := 6) rfl (by kernel_rfl) (by kernel_rfl) (by kernel_rfl) (by kernel_rfl) (fun _ _ _ h => h) (by rfl) (fun _ => HBd.out) ?_
    simp only [Act.put, List.setIfInBounds_toArray, List.set_cons_zero, List.set_cons_succ]
    refine takeP (i := 7) (v := ?_) rfl (by kernel_rfl) (by kernel_rfl) (by kernel_rfl) (by kernel_rfl) (fun _ _ _ h => h) (by rfl) ?_ (fun _ => HBd.out) ?_
    rotate_left
    · intro V'; go_simp <;> with_reducible rfl
    simp only [Act.put, List.setIfInBounds_toArray, List.set_cons_zero, List.set_cons_succ]
    refine takeP (i := 8) (v := ?_) rfl (by kernel_rfl) (by kernel_rfl) (by kernel_rfl) (by kernel_rfl) (fun _ _ _ h => h) (by rfl) ?_ (fun _ => HBd.out) ?_
    rotate_left
    · intro V'; go_simp <;> with_reducible rfl
    simp only [Act.put, List.setIfInBounds_toArray, List.set_cons_zero, List.set_cons_succ]
    refine skipT (i := 9) rfl (by kernel_rfl) (by kernel_rfl) (by kernel_rfl) (by kernel_rfl) (fun _ _ _ h => h) (by rfl) (fun _ => HBd.out) ?_
    simp only [Act.put, List.setIfInBounds_toArray, List.set_cons_zero, List.set_cons_succ]
    refine skipT (i := 10) rfl (by kernel_rfl) (by kernel_rfl) (by kernel_rfl) (by kernel_rfl) (fun _ _ _ h => h) (by rfl) (fun _ => HBd.out) ?_
    simp only [Act.put, List.setIfInBounds_toArray, List.set_cons_zero, List.set_cons_succ]
    refine skipT (i := 11) rfl (by kernel_rfl) (by kernel_rfl) (by kernel_rfl) (by kernel_rfl) (fun _ _ _ h => h) (by rfl) (fun _ => HBd.out) ?_
    simp only [Act.put, List.setIfInBounds_toArray, List.set_cons_zero, List.set_cons_succ]
    refine skipT (i := 12) rfl (by kernel_rfl) (by kernel_rfl) (by kernel_rfl) (by kernel_rfl) (fun _ _ _ h => h) (by rfl) (fun _ => HBd.out) ?_
    simp only [Act.put, List.setIfInBounds_toArray, List.set_cons_zero, List.set_cons_succ]
    refine skipT (i := 13) rfl (by kernel_rfl) (by kernel_rfl) (by kernel_rfl) (by kernel_rfl) (fun _ _ _ h => h) (by rfl) (fun _ => HBd.out) ?_
    simp only [Act.put, List.setIfInBounds_toArray, List.set_cons_zero, List.set_cons_succ]
    refine skipT (i := 14) rfl (by kernel_rfl) (by kernel_rfl) (by kernel_rfl) (by kernel_rfl) (fun _ _ _ h => h) (by rfl) (fun _ => HBd.out) ?_
    simp only [Act.put, List.setIfInBounds_toArray, List.set_cons_zero, List.set_cons_succ]
    refine takeP (i := 15) (v := ?_) rfl (by kernel_rfl) (by kernel_rfl) (by kernel_rfl) (by kernel_rfl) (fun _ _ _ h => h) (by rfl) ?_ (fun _ => HBd.out) ?_
    rotate_left
    · intro V'; go_simp <;> with_reducible rfl
    simp only [Act.put, List.setIfInBounds_toArray, List.set_cons_zero, List.set_cons_succ]
    refine doneT (by kernel_rfl) ?_ _
    have HR2 := Lib.hid (HR1.out.under HBd.out)
    clear HL HR1 HBd
    go_wp2_with (first | (refine wpList_loadB (by rfl) _ rfl w.heap.size p a (by rfl) HR2.out.in_.box ?_) | (refine wpList_storeB rfl _ _ rfl (w.heap.size + 1) p a _ (by rfl) (by rfl) (by rfl) HR2.out.res ?_; intro W9 hW9))
    obtain ⟨t1, t2, t3⟩ := HR2.out.tell hW9
    subst hW9
    exact brain_end (k := 4) rfl (by rfl) t1 rfl ⟨_, rfl, t2, t3⟩
  have d0 : decide ((i : Int) < 0) = false := by simp
  have hI : (i : Int) < (p.its.length : Int) := by have := (List.getElem?_eq_some_iff.1 hx).1; omega
  have HX := Lib.hid hx
  have HFi := Lib.hid hfi
  clear hx hfi
  by_cases h1 : 1 ≤ x1
  rotate_left
  · rw [show madeB p x0 x1 x2 = p by unfold madeB; rw [hms]; exact if_neg (fun h => h1 h.1)]
    have d1 : decide (x1 < 1) = true := by simp; omega
    clear hms h1 hkv
    go_enter Tryd.func42, Tryd.ntmps42
    go_upto_region 1 with fail
    refine wpV (fun V2 hV2 => ?_)
    obtain rfl : V = V2 := HV.out.symm.trans hV2
    clear HV hV2
    have HL : Hid (∀ V', Below V.heap.size V V' → Whole V' w.heap.size 30 (brC p a) ∧ V'.cell? ⟨b0, off0, none⟩ = some (.int .i64 x0)) := Lib.hid (fun V' hV => ⟨(HR.out.under hV).in_.box, ((HR.out.under hV).stp.below.cell (p := ⟨b0, off0, none⟩) HBl.out).trans Y0.out⟩)
    have HBd := Lib.hid (show Below V.heap.size V V.drew from below_drewB (Below.refl _ _) 1)
    refine wp_region_T (ls := []) (T := (fun V' => Below V.heap.size V V')) (by kernel_rfl) ?_
    refine takeT (i := 0) (v := brV p a) rfl (by kernel_rfl) (by kernel_rfl) (by kernel_rfl) (by kernel_rfl) (fun _ _ _ h => h) (by rfl) ?_ HBd.out ?_
    · intro V' hV; obtain ⟨y0, y1⟩ := HL.out V' hV; exact exec_load_brain rfl y0
    simp only [Act.put, List.setIfInBounds_toArray, List.set_cons_zero, List.set_cons_succ]
    refine takeP (i := 1) (v := ?_) rfl (by kernel_rfl) (by kernel_rfl) (by kernel_rfl) (by kernel_rfl) (fun _ _ _ h => h) (by rfl) ?_ (fun _ => HBd.out) ?_
    rotate_left
    · intro V'; go_simp <;> with_reducible rfl
    simp only [Act.put, List.setIfInBounds_toArray, List.set_cons_zero, List.set_cons_succ]
    refine takeP (i := 2) (v := ?_) rfl (by kernel_rfl) (by kernel_rfl) (by kernel_rfl) (by kernel_rfl) (fun _ _ _ h => h) (by rfl) ?_ (fun _ => HBd.out) ?_
    rotate_left
    · intro V'; go_simp <;> with_reducible rfl
    simp only [Act.put, List.setIfInBounds_toArray, List.set_cons_zero, List.set_cons_succ]
    refine takeT (i := 3) (v := ?_) rfl (by kernel_rfl) (by kernel_rfl) (by kernel_rfl) (by kernel_rfl) (fun _ _ _ h => h) (by rfl) ?_ HBd.out ?_
    rotate_left
    · intro V' hV; obtain ⟨y0, y1⟩ := HL.out V' hV; go_simp <;> with_reducible rfl
    simp only [Act.put, List.setIfInBounds_toArray, List.set_cons_zero, List.set_cons_succ]
    refine oneT (i := 4) rfl (by kernel_rfl) (by rfl) (fun K hK => ?_)
    go_simp
    refine (tokO ((HR.out.under HBd.out).in_.own.weaker (Nat.zero_le _)) HIt.out HF.out).mono ?_
    rintro e V_1 ⟨rfl, hb_⟩
    have HB_1 := Lib.hid (show Below V.heap.size V V_1 from HBd.out.trans (hb_.mono HBd.out.size))
    clear hb_ HBd
    refine hK.out _ _ (fun _ => HB_1.out) ?_
    clear hK K
    refine takeP (i := 5) (v := ?_) rfl (by kernel_rfl) (by kernel_rfl) (by kernel_rfl) (by kernel_rfl) (fun _ _ _ h => h) (by rfl) ?_ (fun _ => HB_1.out) ?_
    rotate_left
    · intro V'; go_simp <;> with_reducible rfl
    simp only [Act.put, List.setIfInBounds_toArray, List.set_cons_zero, List.set_cons_succ]
    refine doneT (by kernel_rfl) ?_ _
    have HR1 := Lib.hid (HR.out.under HB_1.out)
    clear HL HR HB_1
    go_upto_region 2 with fail
    have HL : Hid (∀ V', Below V_1.heap.size V_1 V' → Whole V' w.heap.size 30 (brC p a) ∧ V'.cell? ⟨b0, off0 + 1, none⟩ = some (.int .i64 x1)) := Lib.hid (fun V' hV => ⟨(HR1.out.under hV).in_.box, ((HR1.out.under hV).stp.below.cell (p := ⟨b0, off0 + 1, none⟩) HBl.out).trans Y1.out⟩)
    have HBd := Lib.hid (show Below V_1.heap.size V_1 V_1.drew from below_drewB (Below.refl _ _) 1)
    refine wp_region_T (ls := []) (T := (fun V' => Below V_1.heap.size V_1 V')) (by kernel_rfl) ?_
    refine takeP (i := 0) (v := ?_) rfl (by kernel_rfl) (by kernel_rfl) (by kernel_rfl) (by kernel_rfl) (fun _ _ _ h => h) (by rfl) ?_ (fun _ => HBd.out) ?_
    rotate_left
    · intro V'; go_simp <;> with_reducible rfl
    simp only [Act.put, List.setIfInBounds_toArray, List.set_cons_zero, List.set_cons_succ]
    refine takeP (i := 1) (v := ?_) rfl (by kernel_rfl) (by kernel_rfl) (by kernel_rfl) (by kernel_rfl) (fun _ _ _ h => h) (by rfl) ?_ (fun _ => HBd.out) ?_
    rotate_left
    · intro V'; go_simp <;> with_reducible rfl
    simp only [Act.put, List.setIfInBounds_toArray, List.set_cons_zero, List.set_cons_succ]
    refine takeP (i := 2) (v := ?_) rfl (by kernel_rfl) (by kernel_rfl) (by kernel_rfl) (by kernel_rfl) (fun _ _ _ h => h) (by rfl) ?_ (fun _ => HBd.out) ?_
    rotate_left
    · intro V'; go_simp <;> with_reducible rfl
    simp only [Act.put, List.setIfInBounds_toArray, List.set_cons_zero, List.set_cons_succ]
    refine takeP (i := 3) (v := ?_) rfl (by kernel_rfl) (by kernel_rfl) (by kernel_rfl) (by kernel_rfl) (fun _ _ _ h => h) (by rfl) ?_ (fun _ => HBd.out) ?_
    rotate_left
    · intro V'; go_simp <;> with_reducible rfl
    simp only [Act.put, List.setIfInBounds_toArray, List.set_cons_zero, List.set_cons_succ]
    refine takeP (i := 4) (v := ?_) rfl (by kernel_rfl) (by kernel_rfl) (by kernel_rfl) (by kernel_rfl) (fun _ _ _ h => h) (by rfl) ?_ (fun _ => HBd.out) ?_
    rotate_left
    · intro V'; go_simp <;> with_reducible rfl
    simp only [Act.put, List.setIfInBounds_toArray, List.set_cons_zero, List.set_cons_succ]
    refine takeT (i := 5) (v := ?_) rfl (by kernel_rfl) (by kernel_rfl) (by kernel_rfl) (by kernel_rfl) (fun _ _ _ h => h) (by rfl) ?_ HBd.out ?_
    rotate_left
    · intro V' hV; obtain ⟨y0, y1⟩ := HL.out V' hV; go_simp <;> with_reducible rfl
    simp only [Act.put, List.setIfInBounds_toArray, List.set_cons_zero, List.set_cons_succ]
    refine takeP (i := 6) (v := ?_) rfl (by kernel_rfl) (by kernel_rfl) (by kernel_rfl) (by kernel_rfl) (fun _ _ _ h => h) (by rfl) ?_ (fun _ => HBd.out) ?_
    rotate_left
    · intro V'; go_simp <;> with_reducible rfl
    simp only [Act.put, List.setIfInBounds_toArray, List.set_cons_zero, List.set_cons_succ]
    refine takeP (i := 7) (v := ?_) rfl (by kernel_rfl) (by kernel_rfl) (by kernel_rfl) (by kernel_rfl) (fun _ _ _ h => h) (by rfl) ?_ (fun _ => HBd.out) ?_
    rotate_left
    · intro V'; go_simp <;> with_reducible rfl
    simp only [Act.put, List.setIfInBounds_toArray, List.set_cons_zero, List.set_cons_succ]
    refine takeP (i := 8) (v := ?_) rfl (by kernel_rfl) (by kernel_rfl) (by kernel_rfl) (by kernel_rfl) (fun _ _ _ h => h) (by rfl) ?_ (fun _ => HBd.out) ?_
    rotate_left
    · intro V'; go_simp <;> with_reducible rfl
    simp only [Act.put, List.setIfInBounds_toArray, List.set_cons_zero, List.set_cons_succ]
    refine skipT (i := 9) rfl (by kernel_rfl) (by kernel_rfl) (by kernel_rfl) (by kernel_rfl) (fun _ _ _ h => h) (by rfl) (fun _ => HBd.out) ?_
    simp only [Act.put, List.setIfInBounds_toArray, List.set_cons_zero, List.set_cons_succ]
    refine skipT (i := 10) rfl (by kernel_rfl) (by kernel_rfl) (by kernel_rfl) (by kernel_rfl) (fun _ _ _ h => h) (by rfl) (fun _ => HBd.out) ?_
    simp only [Act.put, List.setIfInBounds_toArray, List.set_cons_zero, List.set_cons_succ]
    refine skipT (i := 11) rfl (by kernel_rfl) (by kernel_rfl) (by kernel_rfl) (by kernel_rfl) (fun _ _ _ h => h) (by rfl) (fun _ => HBd.out) ?_
    simp only [Act.put, List.setIfInBounds_toArray, List.set_cons_zero, List.set_cons_succ]
    refine skipT (i := 12) rfl (by kernel_rfl) (by kernel_rfl) (by kernel_rfl) (by kernel_rfl) (fun _ _ _ h => h) (by rfl) (fun _ => HBd.out) ?_
    simp only [Act.put, List.setIfInBounds_toArray, List.set_cons_zero, List.set_cons_succ]
    refine skipT (i := 13) rfl (by kernel_rfl) (by kernel_rfl) (by kernel_rfl) (by kernel_rfl) (fun _ _ _ h => h) (by rfl) (fun _ => HBd.out) ?_
    simp only [Act.put, List.setIfInBounds_toArray, List.set_cons_zero, List.set_cons_succ]
    refine skipT (i := 14) rfl (by kernel_rfl) (by kernel_rfl) (by kernel_rfl) (by kernel_rfl) (fun _ _ _ h => h) (by rfl) (fun _ => HBd.out) ?_
    simp only [Act.put, List.setIfInBounds_toArray, List.set_cons_zero, List.set_cons_succ]
    refine takeP (i := 15) (v := ?_) rfl (by kernel_rfl) (by kernel_rfl) (by kernel_rfl) (by kernel_rfl) (fun _ _ _ h => h) (by rfl) ?_ (fun _ => HBd.out) ?_
    rotate_left
    · intro V'; go_simp <;> with_reducible rfl
    simp only [Act.put, List.setIfInBounds_toArray, List.set_cons_zero, List.set_cons_succ]
    refine doneT (by kernel_rfl) ?_ _
    have HR2 := Lib.hid (HR1.out.under HBd.out)
    clear HL HR1 HBd
    go_wp2_with (first | (refine wpList_loadB (by rfl) _ rfl w.heap.size p a (by rfl) HR2.out.in_.box ?_) | (refine wpList_storeB rfl _ _ rfl (w.heap.size + 1) p a _ (by rfl) (by rfl) (by rfl) HR2.out.res ?_; intro W9 hW9))
    obtain ⟨t1, t2, t3⟩ := HR2.out.tell hW9
    subst hW9
    exact brain_end (k := 4) rfl (by rfl) t1 rfl ⟨_, rfl, t2, t3⟩
  have d1 : decide (x1 < 1) = false := by simp; omega
  rcases kept_idx p x1 with ⟨_, hkn, hk2⟩ | ⟨i2, x2_, _, _, hks, hk2⟩
  rotate_left
  · rw [show madeB p x0 x1 x2 = p by unfold madeB; rw [hms]; exact if_neg (fun h => by rw [hks] at h; exact absurd h.2 (by simp))]
    have d2 : decide (0 ≤ kv) = true := by rw [← hkv, hk2]; simp
    clear hms h1 hkv hks hk2
    go_enter Tryd.func42, Tryd.ntmps42
    go_upto_region 1 with fail
    refine wpV (fun V2 hV2 => ?_)
    obtain rfl : V = V2 := HV.out.symm.trans hV2
    clear HV hV2
    have HL : Hid (∀ V', Below V.heap.size V V' → Whole V' w.heap.size 30 (brC p a) ∧ V'.cell? ⟨b0, off0, none⟩ = some (.int .i64 x0)) := Lib.hid (fun V' hV => ⟨(HR.out.under hV).in_.box, ((HR.out.under hV).stp.below.cell (p := ⟨b0, off0, none⟩) HBl.out).trans Y0.out⟩)
    have HBd := Lib.hid (show Below V.heap.size V V.drew from below_drewB (Below.refl _ _) 1)
    refine wp_region_T (ls := []) (T := (fun V' => Below V.heap.size V V')) (by kernel_rfl) ?_
    refine takeT (i := 0) (v := brV p a) rfl (by kernel_rfl) (by kernel_rfl) (by kernel_rfl) (by kernel_rfl) (fun _ _ _ h => h) (by rfl) ?_ HBd.out ?_
    · intro V' hV; obtain ⟨y0, y1⟩ := HL.out V' hV; exact exec_load_brain rfl y0
    simp only [Act.put, List.setIfInBounds_toArray, List.set_cons_zero, List.set_cons_succ]
    refine takeP (i := 1) (v := ?_) rfl (by kernel_rfl) (by kernel_rfl) (by kernel_rfl) (by kernel_rfl) (fun _ _ _ h => h) (by rfl) ?_ (fun _ => HBd.out) ?_
    rotate_left
    · intro V'; go_simp <;> with_reducible rfl
    simp only [Act.put, List.setIfInBounds_toArray, List.set_cons_zero, List.set_cons_succ]
    refine takeP (i := 2) (v := ?_) rfl (by kernel_rfl) (by kernel_rfl) (by kernel_rfl) (by kernel_rfl) (fun _ _ _ h => h) (by rfl) ?_ (fun _ => HBd.out) ?_
    rotate_left
    · intro V'; go_simp <;> with_reducible rfl
    simp only [Act.put, List.setIfInBounds_toArray, List.set_cons_zero, List.set_cons_succ]
    refine takeT (i := 3) (v := ?_) rfl (by kernel_rfl) (by kernel_rfl) (by kernel_rfl) (by kernel_rfl) (fun _ _ _ h => h) (by rfl) ?_ HBd.out ?_
    rotate_left
    · intro V' hV; obtain ⟨y0, y1⟩ := HL.out V' hV; go_simp <;> with_reducible rfl
    simp only [Act.put, List.setIfInBounds_toArray, List.set_cons_zero, List.set_cons_succ]
    refine oneT (i := 4) rfl (by kernel_rfl) (by rfl) (fun K hK => ?_)
    go_simp
    refine (tokO ((HR.out.under HBd.out).in_.own.weaker (Nat.zero_le _)) HIt.out HF.out).mono ?_
    rintro e V_1 ⟨rfl, hb_⟩
    have HB_1 := Lib.hid (show Below V.heap.size V V_1 from HBd.out.trans (hb_.mono HBd.out.size))
    clear hb_ HBd
    refine hK.out _ _ (fun _ => HB_1.out) ?_
    clear hK K
    refine takeP (i := 5) (v := ?_) rfl (by kernel_rfl) (by kernel_rfl) (by kernel_rfl) (by kernel_rfl) (fun _ _ _ h => h) (by rfl) ?_ (fun _ => HB_1.out) ?_
    rotate_left
    · intro V'; go_simp <;> with_reducible rfl
    simp only [Act.put, List.setIfInBounds_toArray, List.set_cons_zero, List.set_cons_succ]
    refine doneT (by kernel_rfl) ?_ _
    have HR1 := Lib.hid (HR.out.under HB_1.out)
    clear HL HR HB_1
    go_upto_region 2 with fail
    have HL : Hid (∀ V', Below V_1.heap.size V_1 V' → Whole V' w.heap.size 30 (brC p a) ∧ V'.cell? ⟨b0, off0 + 1, none⟩ = some (.int .i64 x1)) := Lib.hid (fun V' hV => ⟨(HR1.out.under hV).in_.box, ((HR1.out.under hV).stp.below.cell (p := ⟨b0, off0 + 1, none⟩) HBl.out).trans Y1.out⟩)
    have HBd := Lib.hid (show Below V_1.heap.size V_1 V_1.drew from below_drewB (Below.refl _ _) 1)
    refine wp_region_T (ls := []) (T := (fun V' => Below V_1.heap.size V_1 V')) (by kernel_rfl) ?_
    refine takeP (i := 0) (v := ?_) rfl (by kernel_rfl) (by kernel_rfl) (by kernel_rfl) (by kernel_rfl) (fun _ _ _ h => h) (by rfl) ?_ (fun _ => HBd.out) ?_
    rotate_left
    · intro V'; go_simp <;> with_reducible rfl
    simp only [Act.put, List.setIfInBounds_toArray, List.set_cons_zero, List.set_cons_succ]
    refine takeP (i := 1) (v := ?_) rfl (by kernel_rfl) (by kernel_rfl) (by kernel_rfl) (by kernel_rfl) (fun _ _ _ h => h) (by rfl) ?_ (fun _ => HBd.out) ?_
    rotate_left
    · intro V'; go_simp <;> with_reducible rfl
    simp only [Act.put, List.setIfInBounds_toArray, List.set_cons_zero, List.set_cons_succ]
    refine takeP (i := 2) (v := ?_) rfl (by kernel_rfl) (by kernel_rfl) (by kernel_rfl) (by kernel_rfl) (fun _ _ _ h => h) (by rfl) ?_ (fun _ => HBd.out) ?_
    rotate_left
    · intro V'; go_simp <;> with_reducible rfl
    simp only [Act.put, List.setIfInBounds_toArray, List.set_cons_zero, List.set_cons_succ]
    refine takeP (i := 3) (v := ?_) rfl (by kernel_rfl) (by kernel_rfl) (by kernel_rfl) (by kernel_rfl) (fun _ _ _ h => h) (by rfl) ?_ (fun _ => HBd.out) ?_
    rotate_left
    · intro V'; go_simp <;> with_reducible rfl
    simp only [Act.put, List.setIfInBounds_toArray, List.set_cons_zero, List.set_cons_succ]
    refine takeP (i := 4) (v := ?_) rfl (by kernel_rfl) (by kernel_rfl) (by kernel_rfl) (by kernel_rfl) (fun _ _ _ h => h) (by rfl) ?_ (fun _ => HBd.out) ?_
    rotate_left
    · intro V'; go_simp <;> with_reducible rfl
    simp only [Act.put, List.setIfInBounds_toArray, List.set_cons_zero, List.set_cons_succ]
    refine takeT (i := 5) (v := ?_) rfl (by kernel_rfl) (by kernel_rfl) (by kernel_rfl) (by kernel_rfl) (fun _ _ _ h => h) (by rfl) ?_ HBd.out ?_
    rotate_left
    · intro V' hV; obtain ⟨y0, y1⟩ := HL.out V' hV; go_simp <;> with_reducible rfl
    simp only [Act.put, List.setIfInBounds_toArray, List.set_cons_zero, List.set_cons_succ]
    refine takeP (i := 6) (v := ?_) rfl (by kernel_rfl) (by kernel_rfl) (by kernel_rfl) (by kernel_rfl) (fun _ _ _ h => h) (by rfl) ?_ (fun _ => HBd.out) ?_
    rotate_left
    · intro V'; go_simp <;> with_reducible rfl
    simp only [Act.put, List.setIfInBounds_toArray, List.set_cons_zero, List.set_cons_succ]
    refine takeP (i := 7) (v := ?_) rfl (by kernel_rfl) (by kernel_rfl) (by kernel_rfl) (by kernel_rfl) (fun _ _ _ h => h) (by rfl) ?_ (fun _ => HBd.out) ?_
    rotate_left
    · intro V'; go_simp <;> with_reducible rfl
    simp only [Act.put, List.setIfInBounds_toArray, List.set_cons_zero, List.set_cons_succ]
    refine takeP (i := 8) (v := ?_) rfl (by kernel_rfl) (by kernel_rfl) (by kernel_rfl) (by kernel_rfl) (fun _ _ _ h => h) (by rfl) ?_ (fun _ => HBd.out) ?_
    rotate_left
    · intro V'; go_simp <;> with_reducible rfl
    simp only [Act.put, List.setIfInBounds_toArray, List.set_cons_zero, List.set_cons_succ]
    refine takeT (i := 9) (v := brV p a) rfl (by kernel_rfl) (by kernel_rfl) (by kernel_rfl) (by kernel_rfl) (fun _ _ _ h => h) (by rfl) ?_ HBd.out ?_
    · intro V' hV; obtain ⟨y0, y1⟩ := HL.out V' hV; exact exec_load_brain rfl y0
    simp only [Act.put, List.setIfInBounds_toArray, List.set_cons_zero, List.set_cons_succ]
    refine takeP (i := 10) (v := ?_) rfl (by kernel_rfl) (by kernel_rfl) (by kernel_rfl) (by kernel_rfl) (fun _ _ _ h => h) (by rfl) ?_ (fun _ => HBd.out) ?_
    rotate_left
    · intro V'; go_simp <;> with_reducible rfl
    simp only [Act.put, List.setIfInBounds_toArray, List.set_cons_zero, List.set_cons_succ]
    refine takeP (i := 11) (v := ?_) rfl (by kernel_rfl) (by kernel_rfl) (by kernel_rfl) (by kernel_rfl) (fun _ _ _ h => h) (by rfl) ?_ (fun _ => HBd.out) ?_
    rotate_left
    · intro V'; go_simp <;> with_reducible rfl
    simp only [Act.put, List.setIfInBounds_toArray, List.set_cons_zero, List.set_cons_succ]
    refine takeT (i := 12) (v := ?_) rfl (by kernel_rfl) (by kernel_rfl) (by kernel_rfl) (by kernel_rfl) (fun _ _ _ h => h) (by rfl) ?_ HBd.out ?_
    rotate_left
    · intro V' hV; obtain ⟨y0, y1⟩ := HL.out V' hV; go_simp <;> with_reducible rfl
    simp only [Act.put, List.setIfInBounds_toArray, List.set_cons_zero, List.set_cons_succ]
    refine oneT (i := 13) rfl (by kernel_rfl) (by rfl) (fun K hK => ?_)
    go_simp
    refine (findO ((HR1.out.under HBd.out).in_.own.weaker (Nat.zero_le _)) HKp.out HG.out).mono ?_
    rintro e V_1_1 ⟨rfl, hb_⟩
    have HB_1 := Lib.hid (show Below V_1.heap.size V_1 V_1_1 from HBd.out.trans (hb_.mono HBd.out.size))
    clear hb_ HBd
    refine hK.out _ _ (fun _ => HB_1.out) ?_
    clear hK K
    refine takeP (i := 14) (v := ?_) rfl (by kernel_rfl) (by kernel_rfl) (by kernel_rfl) (by kernel_rfl) (fun _ _ _ h => h) (by rfl) ?_ (fun _ => HB_1.out) ?_
    rotate_left
    · intro V'; go_simp <;> with_reducible rfl
    simp only [Act.put, List.setIfInBounds_toArray, List.set_cons_zero, List.set_cons_succ]
    refine takeP (i := 15) (v := ?_) rfl (by kernel_rfl) (by kernel_rfl) (by kernel_rfl) (by kernel_rfl) (fun _ _ _ h => h) (by rfl) ?_ (fun _ => HB_1.out) ?_
    rotate_left
    · intro V'; go_simp <;> with_reducible rfl
    simp only [Act.put, List.setIfInBounds_toArray, List.set_cons_zero, List.set_cons_succ]
    refine doneT (by kernel_rfl) ?_ _
    have HR2 := Lib.hid (HR1.out.under HB_1.out)
    clear HL HR1 HB_1
    go_wp2_with (first | (refine wpList_loadB (by rfl) _ rfl w.heap.size p a (by rfl) HR2.out.in_.box ?_) | (refine wpList_storeB rfl _ _ rfl (w.heap.size + 1) p a _ (by rfl) (by rfl) (by rfl) HR2.out.res ?_; intro W9 hW9))
    obtain ⟨t1, t2, t3⟩ := HR2.out.tell hW9
    subst hW9
    exact brain_end (k := 4) rfl (by rfl) t1 rfl ⟨_, rfl, t2, t3⟩
  have d2 : decide (0 ≤ kv) = false := by rw [← hkv, hk2]; decide
  obtain ⟨L, hL⟩ : ∃ L, p.its.take i ++ p.its.drop (i + 1) = L := ⟨_, rfl⟩
  obtain ⟨ph, hph⟩ : ∃ ph : Int, (if x.warm then (9 : Int) else 1) = ph := ⟨_, rfl⟩
  obtain ⟨rf', hrf⟩ : ∃ rf', (if p.rf.st = 1 then { p.rf with fails := 0 } else p.rf) = rf' := ⟨_, rfl⟩
  rw [show madeB p x0 x1 x2 = { p with its := L, kps := putK p.kps ⟨x1, x.tok, x.ver, x.zone, ph, x2, false, false⟩, rf := rf' } by unfold madeB; rw [hms]; exact (if_pos ⟨h1, hkn⟩).trans (by rw [← dropI_at HFi.out, hL, hph, hrf])]
  have HLL := Lib.hid hL
  have HPh := Lib.hid hph
  have HRf := Lib.hid hrf
  have HIl := Lib.hid (List.getElem?_eq_some_iff.1 HX.out).1
  clear hms h1 hkv hkn hk2 hL hph hrf
  go_enter Tryd.func42, Tryd.ntmps42
  go_upto_region 1 with fail
  refine wpV (fun V2 hV2 => ?_)
  obtain rfl : V = V2 := HV.out.symm.trans hV2
  clear HV hV2
  have HL : Hid (∀ V', Below V.heap.size V V' → Whole V' w.heap.size 30 (brC p a) ∧ V'.cell? ⟨b0, off0, none⟩ = some (.int .i64 x0)) := Lib.hid (fun V' hV => ⟨(HR.out.under hV).in_.box, ((HR.out.under hV).stp.below.cell (p := ⟨b0, off0, none⟩) HBl.out).trans Y0.out⟩)
  have HBd := Lib.hid (show Below V.heap.size V V.drew from below_drewB (Below.refl _ _) 1)
  refine wp_region_T (ls := []) (T := (fun V' => Below V.heap.size V V')) (by kernel_rfl) ?_
  refine takeT (i := 0) (v := brV p a) rfl (by kernel_rfl) (by kernel_rfl) (by kernel_rfl) (by kernel_rfl) (fun _ _ _ h => h) (by rfl) ?_ HBd.out ?_
  · intro V' hV; obtain ⟨y0, y1⟩ := HL.out V' hV; exact exec_load_brain rfl y0
  simp only [Act.put, List.setIfInBounds_toArray, List.set_cons_zero, List.set_cons_succ]
  refine takeP (i := 1) (v := ?_) rfl (by kernel_rfl) (by kernel_rfl) (by kernel_rfl) (by kernel_rfl) (fun _ _ _ h => h) (by rfl) ?_ (fun _ => HBd.out) ?_
  rotate_left
  · intro V'; go_simp <;> with_reducible rfl
  simp only [Act.put, List.setIfInBounds_toArray, List.set_cons_zero, List.set_cons_succ]
  refine takeP (i := 2) (v := ?_) rfl (by kernel_rfl) (by kernel_rfl) (by kernel_rfl) (by kernel_rfl) (fun _ _ _ h => h) (by rfl) ?_ (fun _ => HBd.out) ?_
  rotate_left
  · intro V'; go_simp <;> with_reducible rfl
  simp only [Act.put, List.setIfInBounds_toArray, List.set_cons_zero, List.set_cons_succ]
  refine takeT (i := 3) (v := ?_) rfl (by kernel_rfl) (by kernel_rfl) (by kernel_rfl) (by kernel_rfl) (fun _ _ _ h => h) (by rfl) ?_ HBd.out ?_
  rotate_left
  · intro V' hV; obtain ⟨y0, y1⟩ := HL.out V' hV; go_simp <;> with_reducible rfl
  simp only [Act.put, List.setIfInBounds_toArray, List.set_cons_zero, List.set_cons_succ]
  refine oneT (i := 4) rfl (by kernel_rfl) (by rfl) (fun K hK => ?_)
  go_simp
  refine (tokO ((HR.out.under HBd.out).in_.own.weaker (Nat.zero_le _)) HIt.out HF.out).mono ?_
  rintro e V_1 ⟨rfl, hb_⟩
  have HB_1 := Lib.hid (show Below V.heap.size V V_1 from HBd.out.trans (hb_.mono HBd.out.size))
  clear hb_ HBd
  refine hK.out _ _ (fun _ => HB_1.out) ?_
  clear hK K
  refine takeP (i := 5) (v := ?_) rfl (by kernel_rfl) (by kernel_rfl) (by kernel_rfl) (by kernel_rfl) (fun _ _ _ h => h) (by rfl) ?_ (fun _ => HB_1.out) ?_
  rotate_left
  · intro V'; go_simp <;> with_reducible rfl
  simp only [Act.put, List.setIfInBounds_toArray, List.set_cons_zero, List.set_cons_succ]
  refine doneT (by kernel_rfl) ?_ _
  have HR1 := Lib.hid (HR.out.under HB_1.out)
  clear HL HR HB_1
  go_upto_region 2 with fail
  have HL : Hid (∀ V', Below V_1.heap.size V_1 V' → Whole V' w.heap.size 30 (brC p a) ∧ V'.cell? ⟨b0, off0 + 1, none⟩ = some (.int .i64 x1)) := Lib.hid (fun V' hV => ⟨(HR1.out.under hV).in_.box, ((HR1.out.under hV).stp.below.cell (p := ⟨b0, off0 + 1, none⟩) HBl.out).trans Y1.out⟩)
  have HBd := Lib.hid (show Below V_1.heap.size V_1 V_1.drew from below_drewB (Below.refl _ _) 1)
  refine wp_region_T (ls := []) (T := (fun V' => Below V_1.heap.size V_1 V')) (by kernel_rfl) ?_
  refine takeP (i := 0) (v := ?_) rfl (by kernel_rfl) (by kernel_rfl) (by kernel_rfl) (by kernel_rfl) (fun _ _ _ h => h) (by rfl) ?_ (fun _ => HBd.out) ?_
  rotate_left
  · intro V'; go_simp <;> with_reducible rfl
  simp only [Act.put, List.setIfInBounds_toArray, List.set_cons_zero, List.set_cons_succ]
  refine takeP (i := 1) (v := ?_) rfl (by kernel_rfl) (by kernel_rfl) (by kernel_rfl) (by kernel_rfl) (fun _ _ _ h => h) (by rfl) ?_ (fun _ => HBd.out) ?_
  rotate_left
  · intro V'; go_simp <;> with_reducible rfl
  simp only [Act.put, List.setIfInBounds_toArray, List.set_cons_zero, List.set_cons_succ]
  refine takeP (i := 2) (v := ?_) rfl (by kernel_rfl) (by kernel_rfl) (by kernel_rfl) (by kernel_rfl) (fun _ _ _ h => h) (by rfl) ?_ (fun _ => HBd.out) ?_
  rotate_left
  · intro V'; go_simp <;> with_reducible rfl
  simp only [Act.put, List.setIfInBounds_toArray, List.set_cons_zero, List.set_cons_succ]
  refine takeP (i := 3) (v := ?_) rfl (by kernel_rfl) (by kernel_rfl) (by kernel_rfl) (by kernel_rfl) (fun _ _ _ h => h) (by rfl) ?_ (fun _ => HBd.out) ?_
  rotate_left
  · intro V'; go_simp <;> with_reducible rfl
  simp only [Act.put, List.setIfInBounds_toArray, List.set_cons_zero, List.set_cons_succ]
  refine takeP (i := 4) (v := ?_) rfl (by kernel_rfl) (by kernel_rfl) (by kernel_rfl) (by kernel_rfl) (fun _ _ _ h => h) (by rfl) ?_ (fun _ => HBd.out) ?_
  rotate_left
  · intro V'; go_simp <;> with_reducible rfl
  simp only [Act.put, List.setIfInBounds_toArray, List.set_cons_zero, List.set_cons_succ]
  refine takeT (i := 5) (v := ?_) rfl (by kernel_rfl) (by kernel_rfl) (by kernel_rfl) (by kernel_rfl) (fun _ _ _ h => h) (by rfl) ?_ HBd.out ?_
  rotate_left
  · intro V' hV; obtain ⟨y0, y1⟩ := HL.out V' hV; go_simp <;> with_reducible rfl
  simp only [Act.put, List.setIfInBounds_toArray, List.set_cons_zero, List.set_cons_succ]
  refine takeP (i := 6) (v := ?_) rfl (by kernel_rfl) (by kernel_rfl) (by kernel_rfl) (by kernel_rfl) (fun _ _ _ h => h) (by rfl) ?_ (fun _ => HBd.out) ?_
  rotate_left
  · intro V'; go_simp <;> with_reducible rfl
  simp only [Act.put, List.setIfInBounds_toArray, List.set_cons_zero, List.set_cons_succ]
  refine takeP (i := 7) (v := ?_) rfl (by kernel_rfl) (by kernel_rfl) (by kernel_rfl) (by kernel_rfl) (fun _ _ _ h => h) (by rfl) ?_ (fun _ => HBd.out) ?_
  rotate_left
  · intro V'; go_simp <;> with_reducible rfl
  simp only [Act.put, List.setIfInBounds_toArray, List.set_cons_zero, List.set_cons_succ]
  refine takeP (i := 8) (v := ?_) rfl (by kernel_rfl) (by kernel_rfl) (by kernel_rfl) (by kernel_rfl) (fun _ _ _ h => h) (by rfl) ?_ (fun _ => HBd.out) ?_
  rotate_left
  · intro V'; go_simp <;> with_reducible rfl
  simp only [Act.put, List.setIfInBounds_toArray, List.set_cons_zero, List.set_cons_succ]
  refine takeT (i := 9) (v := brV p a) rfl (by kernel_rfl) (by kernel_rfl) (by kernel_rfl) (by kernel_rfl) (fun _ _ _ h => h) (by rfl) ?_ HBd.out ?_
  · intro V' hV; obtain ⟨y0, y1⟩ := HL.out V' hV; exact exec_load_brain rfl y0
  simp only [Act.put, List.setIfInBounds_toArray, List.set_cons_zero, List.set_cons_succ]
  refine takeP (i := 10) (v := ?_) rfl (by kernel_rfl) (by kernel_rfl) (by kernel_rfl) (by kernel_rfl) (fun _ _ _ h => h) (by rfl) ?_ (fun _ => HBd.out) ?_
  rotate_left
  · intro V'; go_simp <;> with_reducible rfl
  simp only [Act.put, List.setIfInBounds_toArray, List.set_cons_zero, List.set_cons_succ]
  refine takeP (i := 11) (v := ?_) rfl (by kernel_rfl) (by kernel_rfl) (by kernel_rfl) (by kernel_rfl) (fun _ _ _ h => h) (by rfl) ?_ (fun _ => HBd.out) ?_
  rotate_left
  · intro V'; go_simp <;> with_reducible rfl
  simp only [Act.put, List.setIfInBounds_toArray, List.set_cons_zero, List.set_cons_succ]
  refine takeT (i := 12) (v := ?_) rfl (by kernel_rfl) (by kernel_rfl) (by kernel_rfl) (by kernel_rfl) (fun _ _ _ h => h) (by rfl) ?_ HBd.out ?_
  rotate_left
  · intro V' hV; obtain ⟨y0, y1⟩ := HL.out V' hV; go_simp <;> with_reducible rfl
  simp only [Act.put, List.setIfInBounds_toArray, List.set_cons_zero, List.set_cons_succ]
  refine oneT (i := 13) rfl (by kernel_rfl) (by rfl) (fun K hK => ?_)
  go_simp
  refine (findO ((HR1.out.under HBd.out).in_.own.weaker (Nat.zero_le _)) HKp.out HG.out).mono ?_
  rintro e V_1_1 ⟨rfl, hb_⟩
  have HB_1 := Lib.hid (show Below V_1.heap.size V_1 V_1_1 from HBd.out.trans (hb_.mono HBd.out.size))
  clear hb_ HBd
  refine hK.out _ _ (fun _ => HB_1.out) ?_
  clear hK K
  refine takeP (i := 14) (v := ?_) rfl (by kernel_rfl) (by kernel_rfl) (by kernel_rfl) (by kernel_rfl) (fun _ _ _ h => h) (by rfl) ?_ (fun _ => HB_1.out) ?_
  rotate_left
  · intro V'; go_simp <;> with_reducible rfl
  simp only [Act.put, List.setIfInBounds_toArray, List.set_cons_zero, List.set_cons_succ]
  refine takeP (i := 15) (v := ?_) rfl (by kernel_rfl) (by kernel_rfl) (by kernel_rfl) (by kernel_rfl) (fun _ _ _ h => h) (by rfl) ?_ (fun _ => HB_1.out) ?_
  rotate_left
  · intro V'; go_simp <;> with_reducible rfl
  simp only [Act.put, List.setIfInBounds_toArray, List.set_cons_zero, List.set_cons_succ]
  refine doneT (by kernel_rfl) ?_ _
  have HR2 := Lib.hid (HR1.out.under HB_1.out)
  clear HL HR1 HB_1
  go_upto_region 4 with fail
  obtain ⟨bi, hbi⟩ := its_at HR2.out.in_ HX.out
  have HBi := Lib.hid hbi
  have hia := HR2.out.in_.own.its.read.at_ (by have := HIl.out; omega)
  obtain ⟨bi', oi', e_, hblt, hci⟩ := hia
  rw [hbi] at e_
  injection e_ with e_
  injection e_ with e1 e2
  subst e1
  subst e2
  have HCi := Lib.hid (hci i x HX.out)
  have HBlt := Lib.hid hblt
  clear hbi hci hblt
  have c18 : V_1_1.cell? ⟨w.heap.size, 18, none⟩ = some (.slice (some ⟨bi, 0, none⟩) p.its.length a.c) := (HR2.out.in_.box.cell 18).trans (by simp [HBi.out])
  have i0 : V_1_1.cell? ⟨bi, i * 4, none⟩ = some (.int .i64 x.tok) := (by have := HCi.out.c0; simpa using this)
  have i1 : V_1_1.cell? ⟨bi, i * 4 + 1, none⟩ = some (.int .i64 x.ver) := (by have := HCi.out.c1; simpa using this)
  have i2 : V_1_1.cell? ⟨bi, i * 4 + 2, none⟩ = some (.int .i64 x.zone) := (by have := HCi.out.c2; simpa using this)
  have i3 : V_1_1.cell? ⟨bi, i * 4 + 3, none⟩ = some (.bool x.warm) := (by have := HCi.out.c3; simpa using this)
  go_upto_region 5 with (refine wpList_store_at (by rfl) 34 _ _ rfl V_1_1.heap.size 0 x.vs.toArray (by rfl) (by rfl) 34 _ (Whole.new _ _ _) (by kernel_rfl) (by simp [It.vs]) (by simp [It.vs, Value.oneCell']) ?_)
  simp only [Act.put]
  refine wpV (fun W2 hW2 => ?_)
  have b2 : Below V_1_1.heap.size V_1_1 W2 := by rw [← hW2]; exact below_rowsetB ((Below.refl _ _).alloc (Nat.le_refl _) _) (Nat.le_refl _) _
  have r2 : Whole W2 V_1_1.heap.size 34 #[.int .i64 x.tok, .int .i64 x.ver, .int .i64 x.zone, .bool x.warm] := by rw [← hW2]; exact setRow_heap _ _ _ _ _ _ (Whole.new _ _ _)
  obtain ⟨b6, hb6⟩ : ∃ b6, V_1_1.heap.size = b6 := ⟨_, rfl⟩
  rw [hb6] at r2 ⊢
  have X6 := Lib.hid r2
  have HR3 := Lib.hid (HR2.out.under b2)
  clear hb6 hW2 b2 r2 HR2 HCi HBlt c18 i0 i1 i2 i3
  have HRr := Lib.hid (show RdI W2 W2.heap.size a.A p.its.length p.its from HR3.out.in_.own.its.read)
  have HCd := Lib.hid (show p.its.length ≤ a.c from own_capF HR3.out.in_.own.its)
  have hhead := fun W => run_headF Tryd.underlying25 rfl info_it a.A p.its.length a.c i (by have := HCd.out; have := HIl.out; omega) W
  obtain ⟨A', hrest, hA'⟩ := run_restF Tryd.underlying25 rfl info_it a.A p.its.length a.c (i + 1) (by have := HIl.out; omega)
  have HIi := Lib.hid (show ((i + 1 : Nat) : Int) = (i : Int) + 1 by omega)
  rw [HBi.out] at hhead hrest
  have HH := Lib.hid hhead
  have HRe := Lib.hid hrest
  have HD := Lib.hid (show RdI W2 W2.heap.size A' (p.its.length - (i + 1)) (p.its.drop (i + 1)) from HRr.out.drop (by have := HIl.out; omega) (fun h b off e => hA' ⟨h, HCd.out⟩ b off e))
  have HTk := Lib.hid (show RdI W2 W2.heap.size (some ⟨bi, 0, none⟩) i (p.its.take i) from by have h := HRr.out.take (k := i) (by have := HIl.out; omega); rwa [HBi.out] at h)
  clear hhead hrest hA'
  have HLk := Lib.hid (show (p.its.take i).length = i by rw [List.length_take]; have := HIl.out; omega)
  have HPL := Lib.hid (show (p.its.take i).length + (p.its.length - (i + 1)) = L.length by rw [← HLL.out]; simp only [List.length_append, List.length_take, List.length_drop])
  have hwi : IntKind.i64.wrap ((i : Int) + 1) = (i : Int) + 1 := by have := HIl.out; have := HI9.out; rw [IntKind.wrap_i64]; omega
  have HL : Hid (∀ V', Below W2.heap.size W2 V' → V'.cell? ⟨w.heap.size, 18, none⟩ = some (.slice (some ⟨bi, 0, none⟩) p.its.length a.c) ∧ True) := Lib.hid (fun V' hV => ⟨((HR3.out.under hV).in_.box.cell 18).trans (by simp [HBi.out]), trivial⟩)
  have HBd := Lib.hid (show Below W2.heap.size W2 W2.drew from below_drewB (Below.refl _ _) 1)
  refine wp_region_T (ls := [13]) (T := (fun V' => Below W2.heap.size W2 V')) (by kernel_rfl) ?_
  refine takeP (i := 1) (v := ?_) rfl (by kernel_rfl) (by kernel_rfl) (by kernel_rfl) (by kernel_rfl) (fun _ _ _ h => h) (by rfl) ?_ (fun _ => HBd.out) ?_
  rotate_left
  · intro V'; go_simp <;> with_reducible rfl
  simp only [Act.put, List.setIfInBounds_toArray, List.set_cons_zero, List.set_cons_succ]
  refine takeT (i := 2) (v := ?_) rfl (by kernel_rfl) (by kernel_rfl) (by kernel_rfl) (by kernel_rfl) (fun _ _ _ h => h) (by rfl) ?_ HBd.out ?_
  rotate_left
  · intro V' hV; obtain ⟨y0, y1⟩ := HL.out V' hV; go_simp <;> with_reducible rfl
  simp only [Act.put, List.setIfInBounds_toArray, List.set_cons_zero, List.set_cons_succ]
  refine takeP (i := 3) (v := ?_) rfl (by kernel_rfl) (by kernel_rfl) (by kernel_rfl) (by kernel_rfl) (fun _ _ _ h => h) (by rfl) ?_ (fun _ => HBd.out) ?_
  rotate_left
  · intro V'; go_simp <;> with_reducible rfl
  simp only [Act.put, List.setIfInBounds_toArray, List.set_cons_zero, List.set_cons_succ]
  refine takeP (i := 4) (v := .slice (some ⟨bi, 0, none⟩) i a.c) rfl (by kernel_rfl) (by kernel_rfl) (by kernel_rfl) (by kernel_rfl) (fun _ _ _ h => h) (by rfl) ?_ (fun _ => HBd.out) ?_
  · intro V'; have hs := HH.out V'; go_simp <;> with_reducible rfl
  simp only [Act.put, List.setIfInBounds_toArray, List.set_cons_zero, List.set_cons_succ]
  refine takeP (i := 6) (v := ?_) rfl (by kernel_rfl) (by kernel_rfl) (by kernel_rfl) (by kernel_rfl) (fun _ _ _ h => h) (by rfl) ?_ (fun _ => HBd.out) ?_
  rotate_left
  · intro V'; go_simp <;> with_reducible rfl
  simp only [Act.put, List.setIfInBounds_toArray, List.set_cons_zero, List.set_cons_succ]
  refine takeT (i := 7) (v := ?_) rfl (by kernel_rfl) (by kernel_rfl) (by kernel_rfl) (by kernel_rfl) (fun _ _ _ h => h) (by rfl) ?_ HBd.out ?_
  rotate_left
  · intro V' hV; obtain ⟨y0, y1⟩ := HL.out V' hV; go_simp <;> with_reducible rfl
  simp only [Act.put, List.setIfInBounds_toArray, List.set_cons_zero, List.set_cons_succ]
  refine takeP (i := 8) (v := ?_) rfl (by kernel_rfl) (by kernel_rfl) (by kernel_rfl) (by kernel_rfl) (fun _ _ _ h => h) (by rfl) ?_ (fun _ => HBd.out) ?_
  rotate_left
  · intro V'; go_simp <;> with_reducible rfl
  simp only [Act.put, List.setIfInBounds_toArray, List.set_cons_zero, List.set_cons_succ]
  refine takeP (i := 9) (v := ?_) rfl (by kernel_rfl) (by kernel_rfl) (by kernel_rfl) (by kernel_rfl) (fun _ _ _ h => h) (by rfl) ?_ (fun _ => HBd.out) ?_
  rotate_left
  · intro V'; go_simp <;> with_reducible rfl
  simp only [Act.put, List.setIfInBounds_toArray, List.set_cons_zero, List.set_cons_succ]
  refine takeP (i := 10) (v := .slice A' (p.its.length - (i + 1)) (a.c - (i + 1))) rfl (by kernel_rfl) (by kernel_rfl) (by kernel_rfl) (by kernel_rfl) (fun _ _ _ h => h) (by rfl) ?_ (fun _ => HBd.out) ?_
  · intro V'; have hs := HRe.out V'; rw [HIi.out] at hs; go_simp <;> with_reducible rfl
  simp only [Act.put, List.setIfInBounds_toArray, List.set_cons_zero, List.set_cons_succ]
  refine oneT (i := 0) rfl (by kernel_rfl) (by rfl) (fun K hK => ?_)
  obtain ⟨W3, hW⟩ : ∃ W, W2.drew.alloc (.cells #[] 34) = W := ⟨_, rfl⟩
  have b_ : Below W2.drew.heap.size W2.drew W3 := by rw [← hW]; exact (Below.refl _ _).alloc (Nat.le_refl _) _
  have r_ : ItsAt W2.heap.size W3 (.slice (some ⟨W2.drew.heap.size, 0, none⟩) 0 0) [] := by rw [← hW]; exact World.ownsRow_made (base := W2.heap.size) (e := 34) (size := 4) W2.drew #[] 0 HBd.out.size (Nat.zero_le _) rfl
  go_simp
  clear hW
  have HU := Lib.hid (HBd.out.trans (b_.mono HBd.out.size))
  have R0 := Lib.hid r_
  clear b_ r_
  refine hK.out _ _ (fun _ => HU.out) ?_
  clear hK K
  refine oneT (i := 5) rfl (by kernel_rfl) (by rfl) (fun K hK => ?_)
  obtain ⟨A5, c5, W4, hrun, ho, hg, _⟩ := its_app W3 W2.heap.size _ [] R0.out W2.heap.size (some ⟨bi, 0, none⟩) i a.c (p.its.take i) (HTk.out.below HU.out) (by have := HIl.out; have := HI9.out; simp; omega) HU.out.size
  simp only [List.length_nil, Nat.zero_add, List.nil_append] at hrun ho
  have b_ : Below W2.heap.size W3 W4 := below_row R0.out hg HU.out.size
  have HRun := Lib.hid hrun
  refine wp_appendH (by rfl) (by rfl) HRun.out ?_
  simp only [Act.put, List.setIfInBounds_toArray, List.set_cons_zero, List.set_cons_succ]
  clear hrun hg HRun R0
  have HU2 := Lib.hid (HU.out.trans b_)
  have R5 := Lib.hid ho
  clear b_ ho HU
  refine hK.out _ _ (fun _ => HU2.out) ?_
  clear hK K
  refine oneT (i := 11) rfl (by kernel_rfl) (by rfl) (fun K hK => ?_)
  obtain ⟨A11, c11, W5, hrun, ho, hg, _⟩ := its_app W4 W2.heap.size (.slice A5 i c5) (p.its.take i) R5.out W2.heap.size A' (p.its.length - (i + 1)) (a.c - (i + 1)) (p.its.drop (i + 1)) (HD.out.below HU2.out) (by have := HIl.out; have := HI9.out; have := HLk.out; omega) HU2.out.size
  rw [HPL.out] at hrun ho
  rw [HLL.out] at ho
  have b_ : Below W2.heap.size W4 W5 := below_row R5.out hg HU2.out.size
  have HRun := Lib.hid hrun
  refine wp_appendH (by rfl) (by rfl) HRun.out ?_
  simp only [Act.put, List.setIfInBounds_toArray, List.set_cons_zero, List.set_cons_succ]
  clear hrun hg HRun R5
  have HU3 := Lib.hid (HU2.out.trans b_)
  have R11 := Lib.hid ho
  clear b_ ho HU2
  refine hK.out _ _ (fun _ => HU3.out) ?_
  clear hK K
  refine oneT (i := 12) rfl (by kernel_rfl) (by rfl) (fun K hK => ?_)
  go_simp
  refine hK.out _ _ (fun _ => HU3.out) ?_
  clear hK K
  have HR5 := Lib.hid (HR3.out.under HU3.out)
  have X65 := Lib.hid (X6.out.under HU3.out)
  have e18 := HR5.out.in_.box.cell 18
  have f18 := HR5.out.in_.box.frozen 18
  simp only [List.getElem?_toArray, List.getElem?_cons_zero, List.getElem?_cons_succ] at e18
  have r6 := HR5.out.its18 (ItsAt.weaker R11.out (Nat.le_trans HR3.out.in_.ge (Nat.le_of_lt HR3.out.in_.lt)))
  have x6 := (Only.set W5 w.heap.size 18 (.slice A11 L.length c11)).far X65.out (whole_ne X65.out HR5.out.in_.box (by decide))
  refine oneL (i := 13) (by kernel_rfl) rfl (by kernel_rfl) (by rfl) (fun K hK => ?_)
  go_simp
  refine hK.out _ _ ?_
  clear hK K
  refine doneT (by kernel_rfl) ?_ _
  go_upto_region 6 with fail
  refine wpV (fun W6 hW6 => ?_)
  replace r6 : Rz base w { p with its := L } ⟨a.C, a.e, A11, c11, a.B, a.d⟩ W6 := by rw [← hW6]; exact r6
  replace x6 : Whole W6 b6 34 #[.int .i64 x.tok, .int .i64 x.ver, .int .i64 x.zone, .bool x.warm] := by rw [← hW6]; exact x6
  have HR6 := Lib.hid r6
  have X66 := Lib.hid x6
  clear e18 f18 r6 x6 hW6 HL HBd HU3 R11 HR5 HR3 HH HRe HD HTk HRr X6 X65 hwi
  have HL : Hid (∀ V', Below W6.heap.size W6 V' → V'.cell? ⟨b0, off0 + 1, none⟩ = some (.int .i64 x1) ∧ V'.cell? ⟨b0, off0 + 2, none⟩ = some (.int .i64 x2) ∧ V'.cell? ⟨b6, 0, none⟩ = some (.int .i64 x.tok) ∧ V'.cell? ⟨b6, 1, none⟩ = some (.int .i64 x.ver) ∧ V'.cell? ⟨b6, 2, none⟩ = some (.int .i64 x.zone)) := Lib.hid (fun V' hV => ⟨((HR6.out.under hV).stp.below.cell (p := ⟨b0, off0 + 1, none⟩) HBl.out).trans Y1.out, ((HR6.out.under hV).stp.below.cell (p := ⟨b0, off0 + 2, none⟩) HBl.out).trans Y2.out, (X66.out.under hV).cell 0, (X66.out.under hV).cell 1, (X66.out.under hV).cell 2⟩)
  have HBd := Lib.hid (show Below W6.heap.size W6 W6.drew from below_drewB (Below.refl _ _) 1)
  refine wp_region_T (ls := [14]) (T := (fun V' => Below W6.heap.size W6 V')) (by kernel_rfl) ?_
  refine takeP (i := 0) (v := ?_) rfl (by kernel_rfl) (by kernel_rfl) (by kernel_rfl) (by kernel_rfl) (fun _ _ _ h => h) (by rfl) ?_ (fun _ => HBd.out) ?_
  rotate_left
  · intro V'; go_simp <;> with_reducible rfl
  simp only [Act.put, List.setIfInBounds_toArray, List.set_cons_zero, List.set_cons_succ]
  refine takeP (i := 1) (v := ?_) rfl (by kernel_rfl) (by kernel_rfl) (by kernel_rfl) (by kernel_rfl) (fun _ _ _ h => h) (by rfl) ?_ (fun _ => HBd.out) ?_
  rotate_left
  · intro V'; go_simp <;> with_reducible rfl
  simp only [Act.put, List.setIfInBounds_toArray, List.set_cons_zero, List.set_cons_succ]
  refine takeT (i := 2) (v := ?_) rfl (by kernel_rfl) (by kernel_rfl) (by kernel_rfl) (by kernel_rfl) (fun _ _ _ h => h) (by rfl) ?_ HBd.out ?_
  rotate_left
  · intro V' hV; obtain ⟨y0, y1, y2, y3, y4⟩ := HL.out V' hV; go_simp <;> with_reducible rfl
  simp only [Act.put, List.setIfInBounds_toArray, List.set_cons_zero, List.set_cons_succ]
  refine takeP (i := 3) (v := ?_) rfl (by kernel_rfl) (by kernel_rfl) (by kernel_rfl) (by kernel_rfl) (fun _ _ _ h => h) (by rfl) ?_ (fun _ => HBd.out) ?_
  rotate_left
  · intro V'; go_simp <;> with_reducible rfl
  simp only [Act.put, List.setIfInBounds_toArray, List.set_cons_zero, List.set_cons_succ]
  refine takeT (i := 4) (v := ?_) rfl (by kernel_rfl) (by kernel_rfl) (by kernel_rfl) (by kernel_rfl) (fun _ _ _ h => h) (by rfl) ?_ HBd.out ?_
  rotate_left
  · intro V' hV; obtain ⟨y0, y1, y2, y3, y4⟩ := HL.out V' hV; go_simp <;> with_reducible rfl
  simp only [Act.put, List.setIfInBounds_toArray, List.set_cons_zero, List.set_cons_succ]
  refine takeP (i := 5) (v := ?_) rfl (by kernel_rfl) (by kernel_rfl) (by kernel_rfl) (by kernel_rfl) (fun _ _ _ h => h) (by rfl) ?_ (fun _ => HBd.out) ?_
  rotate_left
  · intro V'; go_simp <;> with_reducible rfl
  simp only [Act.put, List.setIfInBounds_toArray, List.set_cons_zero, List.set_cons_succ]
  refine takeT (i := 6) (v := ?_) rfl (by kernel_rfl) (by kernel_rfl) (by kernel_rfl) (by kernel_rfl) (fun _ _ _ h => h) (by rfl) ?_ HBd.out ?_
  rotate_left
  · intro V' hV; obtain ⟨y0, y1, y2, y3, y4⟩ := HL.out V' hV; go_simp <;> with_reducible rfl
  simp only [Act.put, List.setIfInBounds_toArray, List.set_cons_zero, List.set_cons_succ]
  refine takeP (i := 7) (v := ?_) rfl (by kernel_rfl) (by kernel_rfl) (by kernel_rfl) (by kernel_rfl) (fun _ _ _ h => h) (by rfl) ?_ (fun _ => HBd.out) ?_
  rotate_left
  · intro V'; go_simp <;> with_reducible rfl
  simp only [Act.put, List.setIfInBounds_toArray, List.set_cons_zero, List.set_cons_succ]
  refine takeT (i := 8) (v := ?_) rfl (by kernel_rfl) (by kernel_rfl) (by kernel_rfl) (by kernel_rfl) (fun _ _ _ h => h) (by rfl) ?_ HBd.out ?_
  rotate_left
  · intro V' hV; obtain ⟨y0, y1, y2, y3, y4⟩ := HL.out V' hV; go_simp <;> with_reducible rfl
  simp only [Act.put, List.setIfInBounds_toArray, List.set_cons_zero, List.set_cons_succ]
  refine takeP (i := 9) (v := ?_) rfl (by kernel_rfl) (by kernel_rfl) (by kernel_rfl) (by kernel_rfl) (fun _ _ _ h => h) (by rfl) ?_ (fun _ => HBd.out) ?_
  rotate_left
  · intro V'; go_simp <;> with_reducible rfl
  simp only [Act.put, List.setIfInBounds_toArray, List.set_cons_zero, List.set_cons_succ]
  refine takeP (i := 10) (v := ?_) rfl (by kernel_rfl) (by kernel_rfl) (by kernel_rfl) (by kernel_rfl) (fun _ _ _ h => h) (by rfl) ?_ (fun _ => HBd.out) ?_
  rotate_left
  · intro V'; go_simp <;> with_reducible rfl
  simp only [Act.put, List.setIfInBounds_toArray, List.set_cons_zero, List.set_cons_succ]
  refine takeT (i := 11) (v := ?_) rfl (by kernel_rfl) (by kernel_rfl) (by kernel_rfl) (by kernel_rfl) (fun _ _ _ h => h) (by rfl) ?_ HBd.out ?_
  rotate_left
  · intro V' hV; obtain ⟨y0, y1, y2, y3, y4⟩ := HL.out V' hV; go_simp <;> with_reducible rfl
  simp only [Act.put, List.setIfInBounds_toArray, List.set_cons_zero, List.set_cons_succ]
  refine takeP (i := 12) (v := ?_) rfl (by kernel_rfl) (by kernel_rfl) (by kernel_rfl) (by kernel_rfl) (fun _ _ _ h => h) (by rfl) ?_ (fun _ => HBd.out) ?_
  rotate_left
  · intro V'; go_simp <;> with_reducible rfl
  simp only [Act.put, List.setIfInBounds_toArray, List.set_cons_zero, List.set_cons_succ]
  refine oneT (i := 13) rfl (by kernel_rfl) (by rfl) (fun K hK => ?_)
  obtain ⟨W7, hW⟩ : ∃ W, W6.drew.alloc (.cells #[.int .i64 0, .int .i64 0, .int .i64 0, .int .i64 0, .int .u8 0, .int .i64 0, .bool false, .bool false] 32) = W := ⟨_, rfl⟩
  have b_ : Below W6.drew.heap.size W6.drew W7 := by rw [← hW]; exact (Below.refl _ _).alloc (Nat.le_refl _) _
  have r_ : Whole W7 W6.drew.heap.size 32 #[.int .i64 0, .int .i64 0, .int .i64 0, .int .i64 0, .int .u8 0, .int .i64 0, .bool false, .bool false] := by rw [← hW]; exact Whole.new _ _ _
  go_simp
  clear hW
  have HU := Lib.hid (HBd.out.trans (b_.mono HBd.out.size))
  have R0 := Lib.hid r_
  clear b_ r_
  refine hK.out _ _ (fun _ => HU.out) ?_
  clear hK K
  refine oneL (i := 14) (by kernel_rfl) rfl (by kernel_rfl) (by rfl) (fun K hK => ?_)
  refine wp_store_at 32 _ _ rfl W6.drew.heap.size 0 #[.int .i64 x1, .int .i64 x.tok, .int .i64 x.ver, .int .i64 x.zone, .int .u8 1, .int .i64 x2, .bool false, .bool false] (by rfl) (by rfl) 32 _ R0.out (by kernel_rfl) (by simp) (by simp [Value.oneCell']) ?_
  have b2 := below_rowsetB HU.out (show W6.heap.size ≤ W6.drew.heap.size from Nat.le_refl _) (#[.int .i64 x1, .int .i64 x.tok, .int .i64 x.ver, .int .i64 x.zone, .int .u8 1, .int .i64 x2, .bool false, .bool false])
  have r2 : Whole (W7.setRow W6.drew.heap.size #[.int .i64 x1, .int .i64 x.tok, .int .i64 x.ver, .int .i64 x.zone, .int .u8 1, .int .i64 x2, .bool false, .bool false]) W6.drew.heap.size 32 #[.int .i64 x1, .int .i64 x.tok, .int .i64 x.ver, .int .i64 x.zone, .int .u8 1, .int .i64 x2, .bool false, .bool false] := setRow_heap _ _ _ _ _ _ R0.out
  refine hK.out _ _ ?_
  clear hK K
  refine doneT (by kernel_rfl) ?_ _
  simp only [Act.put]
  go_upto_region 7 with fail
  refine wpV (fun W8 hW8 => ?_)
  replace b2 : Below W6.heap.size W6 W8 := by rw [← hW8]; exact b2
  replace r2 : Whole W8 W6.heap.size 32 #[.int .i64 x1, .int .i64 x.tok, .int .i64 x.ver, .int .i64 x.zone, .int .u8 1, .int .i64 x2, .bool false, .bool false] := by rw [← hW8]; exact r2
  obtain ⟨b7, hb7⟩ : ∃ b7, W6.heap.size = b7 := ⟨_, rfl⟩
  rw [hb7] at r2 ⊢
  have HB7 := Lib.hid (show base ≤ b7 by rw [← hb7]; exact Nat.le_trans HR6.out.in_.ge (Nat.le_of_lt HR6.out.in_.lt))
  have HBO := Lib.hid (show (Value.slice a.B p.kps.length a.d).ownBlock ≠ some b7 by
    intro e
    have h := ((show W6.ownsRow base 32 8 (.slice a.B p.kps.length a.d) p.kps.length (p.kps.flatMap Kp.vs) from HR6.out.in_.own.kps).lt _ e).2
    rw [← hb7] at h
    exact absurd h (Nat.lt_irrefl _))
  have X7 := Lib.hid r2
  have HR8 := Lib.hid (HR6.out.under b2)
  have c3 := (X66.out.under b2).cell 3
  simp only [List.getElem?_toArray, List.getElem?_cons_zero, List.getElem?_cons_succ] at c3
  clear hb7 hW8 b2 r2 HL HBd HU R0 HR6 X66
  cases hwm : x.warm with
  | true =>
    rw [hwm] at c3
    have hph := HPh.out
    rw [hwm] at hph
    simp only [if_true] at hph
    subst hph
    clear hwm
    have c4 := X7.out.cell 4
    have f4 := X7.out.frozen 4
    simp only [List.getElem?_toArray, List.getElem?_cons_zero, List.getElem?_cons_succ] at c4
    have hne := whole_ne X7.out HR8.out.in_.box (by decide)
    have hne2 := whole_ne X7.out HR8.out.res (by decide)
    go_upto_region 9 with fail
    refine wpV (fun W9 hW9 => ?_)
    have k_ := Only.set W8 b7 4 (.int .u8 9)
    have r9 : Rz base w { p with its := L } ⟨a.C, a.e, A11, c11, a.B, a.d⟩ W9 := by
      rw [← hW9]
      exact HR8.out.past X7.out HB7.out HBO.out
    have x9 : Whole W9 b7 32 #[.int .i64 x1, .int .i64 x.tok, .int .i64 x.ver, .int .i64 x.zone, .int .u8 9, .int .i64 x2, .bool false, .bool false] := by
      rw [← hW9]
      have h := X7.out.set 4 (.int .u8 9)
      simp only [List.setIfInBounds_toArray, List.set_cons_zero, List.set_cons_succ] at h
      exact h
    have HR9 := Lib.hid r9
    have X9 := Lib.hid x9
    clear c4 f4 hne hne2 k_ r9 x9 hW9 HR8 X7 c3
    have c20 := HR9.out.in_.box.cell 20
    simp only [List.getElem?_toArray, List.getElem?_cons_zero, List.getElem?_cons_succ] at c20
    by_cases hst : p.rf.st = 1
    · have ds : (p.rf.st == 1) = true := by simpa using hst
      have hrf := HRf.out
      rw [if_pos hst] at hrf
      subst hrf
      have c26 := HR9.out.in_.box.cell 26
      have f26 := HR9.out.in_.box.frozen 26
      simp only [List.getElem?_toArray, List.getElem?_cons_zero, List.getElem?_cons_succ] at c26
      clear hst
      go_upto_region 11 with fail
      refine wpV (fun W10 hW10 => ?_)
      have r10 := HR9.out.set (p' := { p with its := L, rf := { p.rf with fails := 0 } }) 26 (.int .i64 0) rfl rfl rfl rfl
      have x10 := (Only.set W9 w.heap.size 26 (.int .i64 0)).far X9.out (whole_ne X9.out HR9.out.in_.box (by decide))
      replace r10 : Rz base w { p with its := L, rf := { p.rf with fails := 0 } } ⟨a.C, a.e, A11, c11, a.B, a.d⟩ W10 := by rw [← hW10]; exact r10
      replace x10 : Whole W10 b7 32 #[.int .i64 x1, .int .i64 x.tok, .int .i64 x.ver, .int .i64 x.zone, .int .u8 9, .int .i64 x2, .bool false, .bool false] := by rw [← hW10]; exact x10
      have HR10 := Lib.hid r10
      have X10 := Lib.hid x10
      clear c26 f26 c20 hW10 r10 x10 HR9 X9 ds
      have HKs := Lib.hid (rkeepS_any { p with its := L, rf := { p.rf with fails := 0 } } ⟨a.C, a.e, A11, c11, a.B, a.d⟩ ⟨x1, x.tok, x.ver, x.zone, 9, x2, false, false⟩ base W10 HR10.out.in_.own (Nat.le_trans HR10.out.in_.ge (Nat.le_of_lt HR10.out.in_.lt)) HKp.out)
      go_wp2_with (first | (refine wpList_loadB (by rfl) _ rfl w.heap.size { p with its := L, rf := { p.rf with fails := 0 } } ⟨a.C, a.e, A11, c11, a.B, a.d⟩ (by rfl) HR10.out.in_.box ?_) | (refine wpList_load_row (by rfl) 32 _ rfl b7 (by rfl) 32 _ (0, 0) _ X10.out Tryd.underlying32 rfl (by kernel_rfl) ?_))
      refine HKs.out.mono ?_
      rintro e V3 ⟨a2, rfl, ho2, hs2⟩
      obtain ⟨cs2, hc2, hz2⟩ := hs2.brn _ _ HR10.out.res
      have hz3 : cs2.size = 27 := by rw [hz2]; rfl
      have HZa := Lib.hid hc2
      have HT := fun W3 hW => HR10.out.told (W3 := W3) hs2 hc2 hz3 ho2 hW
      clear HKs hz2 ho2 hs2 hc2
      have HTT := Lib.hid HT
      clear HT
      go_wp2_with (refine wpList_storeB rfl _ _ rfl (w.heap.size + 1) { { p with its := L, rf := { p.rf with fails := 0 } } with kps := putK p.kps ⟨x1, x.tok, x.ver, x.zone, 9, x2, false, false⟩ } a2 cs2 hz3 (by rfl) (by rfl) HZa.out ?_; intro W11 hW11)
      obtain ⟨t1, t2, t3⟩ := HTT.out W11 hW11
      subst hW11
      exact brain_end (k := 4) rfl (by rfl) t1 rfl ⟨_, rfl, t2, t3⟩
    · have ds : (p.rf.st == 1) = false := by simpa using hst
      have hrf := HRf.out
      rw [if_neg hst] at hrf
      subst hrf
      clear hst
      go_upto_region 11 with fail
      clear c20 ds
      have HKs := Lib.hid (rkeepS_any { p with its := L } ⟨a.C, a.e, A11, c11, a.B, a.d⟩ ⟨x1, x.tok, x.ver, x.zone, 9, x2, false, false⟩ base W9 HR9.out.in_.own (Nat.le_trans HR9.out.in_.ge (Nat.le_of_lt HR9.out.in_.lt)) HKp.out)
      go_wp2_with (first | (refine wpList_loadB (by rfl) _ rfl w.heap.size { p with its := L } ⟨a.C, a.e, A11, c11, a.B, a.d⟩ (by rfl) HR9.out.in_.box ?_) | (refine wpList_load_row (by rfl) 32 _ rfl b7 (by rfl) 32 _ (0, 0) _ X9.out Tryd.underlying32 rfl (by kernel_rfl) ?_))
      refine HKs.out.mono ?_
      rintro e V3 ⟨a2, rfl, ho2, hs2⟩
      obtain ⟨cs2, hc2, hz2⟩ := hs2.brn _ _ HR9.out.res
      have hz3 : cs2.size = 27 := by rw [hz2]; rfl
      have HZa := Lib.hid hc2
      have HT := fun W3 hW => HR9.out.told (W3 := W3) hs2 hc2 hz3 ho2 hW
      clear HKs hz2 ho2 hs2 hc2
      have HTT := Lib.hid HT
      clear HT
      go_wp2_with (refine wpList_storeB rfl _ _ rfl (w.heap.size + 1) { { p with its := L } with kps := putK p.kps ⟨x1, x.tok, x.ver, x.zone, 9, x2, false, false⟩ } a2 cs2 hz3 (by rfl) (by rfl) HZa.out ?_; intro W11 hW11)
      obtain ⟨t1, t2, t3⟩ := HTT.out W11 hW11
      subst hW11
      exact brain_end (k := 4) rfl (by rfl) t1 rfl ⟨_, rfl, t2, t3⟩
  | false =>
    rw [hwm] at c3
    have hph := HPh.out
    rw [hwm] at hph
    simp only [Bool.false_eq_true, if_false] at hph
    subst hph
    clear hwm
    go_upto_region 9 with fail
    have HR9 := HR8
    have X9 := X7
    clear HR8 X7 c3
    have c20 := HR9.out.in_.box.cell 20
    simp only [List.getElem?_toArray, List.getElem?_cons_zero, List.getElem?_cons_succ] at c20
    by_cases hst : p.rf.st = 1
    · have ds : (p.rf.st == 1) = true := by simpa using hst
      have hrf := HRf.out
      rw [if_pos hst] at hrf
      subst hrf
      have c26 := HR9.out.in_.box.cell 26
      have f26 := HR9.out.in_.box.frozen 26
      simp only [List.getElem?_toArray, List.getElem?_cons_zero, List.getElem?_cons_succ] at c26
      clear hst
      go_upto_region 11 with fail
      refine wpV (fun W10 hW10 => ?_)
      have r10 := HR9.out.set (p' := { p with its := L, rf := { p.rf with fails := 0 } }) 26 (.int .i64 0) rfl rfl rfl rfl
      have x10 := (Only.set W8 w.heap.size 26 (.int .i64 0)).far X9.out (whole_ne X9.out HR9.out.in_.box (by decide))
      replace r10 : Rz base w { p with its := L, rf := { p.rf with fails := 0 } } ⟨a.C, a.e, A11, c11, a.B, a.d⟩ W10 := by rw [← hW10]; exact r10
      replace x10 : Whole W10 b7 32 #[.int .i64 x1, .int .i64 x.tok, .int .i64 x.ver, .int .i64 x.zone, .int .u8 1, .int .i64 x2, .bool false, .bool false] := by rw [← hW10]; exact x10
      have HR10 := Lib.hid r10
      have X10 := Lib.hid x10
      clear c26 f26 c20 hW10 r10 x10 HR9 X9 ds
      have HKs := Lib.hid (rkeepS_any { p with its := L, rf := { p.rf with fails := 0 } } ⟨a.C, a.e, A11, c11, a.B, a.d⟩ ⟨x1, x.tok, x.ver, x.zone, 1, x2, false, false⟩ base W10 HR10.out.in_.own (Nat.le_trans HR10.out.in_.ge (Nat.le_of_lt HR10.out.in_.lt)) HKp.out)
      go_wp2_with (first | (refine wpList_loadB (by rfl) _ rfl w.heap.size { p with its := L, rf := { p.rf with fails := 0 } } ⟨a.C, a.e, A11, c11, a.B, a.d⟩ (by rfl) HR10.out.in_.box ?_) | (refine wpList_load_row (by rfl) 32 _ rfl b7 (by rfl) 32 _ (0, 0) _ X10.out Tryd.underlying32 rfl (by kernel_rfl) ?_))
      refine HKs.out.mono ?_
      rintro e V3 ⟨a2, rfl, ho2, hs2⟩
      obtain ⟨cs2, hc2, hz2⟩ := hs2.brn _ _ HR10.out.res
      have hz3 : cs2.size = 27 := by rw [hz2]; rfl
      have HZa := Lib.hid hc2
      have HT := fun W3 hW => HR10.out.told (W3 := W3) hs2 hc2 hz3 ho2 hW
      clear HKs hz2 ho2 hs2 hc2
      have HTT := Lib.hid HT
      clear HT
      go_wp2_with (refine wpList_storeB rfl _ _ rfl (w.heap.size + 1) { { p with its := L, rf := { p.rf with fails := 0 } } with kps := putK p.kps ⟨x1, x.tok, x.ver, x.zone, 1, x2, false, false⟩ } a2 cs2 hz3 (by rfl) (by rfl) HZa.out ?_; intro W11 hW11)
      obtain ⟨t1, t2, t3⟩ := HTT.out W11 hW11
      subst hW11
      exact brain_end (k := 4) rfl (by rfl) t1 rfl ⟨_, rfl, t2, t3⟩
    · have ds : (p.rf.st == 1) = false := by simpa using hst
      have hrf := HRf.out
      rw [if_neg hst] at hrf
      subst hrf
      clear hst
      go_upto_region 11 with fail
      clear c20 ds
      have HKs := Lib.hid (rkeepS_any { p with its := L } ⟨a.C, a.e, A11, c11, a.B, a.d⟩ ⟨x1, x.tok, x.ver, x.zone, 1, x2, false, false⟩ base W8 HR9.out.in_.own (Nat.le_trans HR9.out.in_.ge (Nat.le_of_lt HR9.out.in_.lt)) HKp.out)
      go_wp2_with (first | (refine wpList_loadB (by rfl) _ rfl w.heap.size { p with its := L } ⟨a.C, a.e, A11, c11, a.B, a.d⟩ (by rfl) HR9.out.in_.box ?_) | (refine wpList_load_row (by rfl) 32 _ rfl b7 (by rfl) 32 _ (0, 0) _ X9.out Tryd.underlying32 rfl (by kernel_rfl) ?_))
      refine HKs.out.mono ?_
      rintro e V3 ⟨a2, rfl, ho2, hs2⟩
      obtain ⟨cs2, hc2, hz2⟩ := hs2.brn _ _ HR9.out.res
      have hz3 : cs2.size = 27 := by rw [hz2]; rfl
      have HZa := Lib.hid hc2
      have HT := fun W3 hW => HR9.out.told (W3 := W3) hs2 hc2 hz3 ho2 hW
      clear HKs hz2 ho2 hs2 hc2
      have HTT := Lib.hid HT
      clear HT
      go_wp2_with (refine wpList_storeB rfl _ _ rfl (w.heap.size + 1) { { p with its := L } with kps := putK p.kps ⟨x1, x.tok, x.ver, x.zone, 1, x2, false, false⟩ } a2 cs2 hz3 (by rfl) (by rfl) HZa.out ?_; intro W11 hW11)
      obtain ⟨t1, t2, t3⟩ := HTT.out W11 hW11
      subst hW11
      exact brain_end (k := 4) rfl (by rfl) t1 rfl ⟨_, rfl, t2, t3⟩

end Go.Proofs.YtplejbgecihnpaaDoor
