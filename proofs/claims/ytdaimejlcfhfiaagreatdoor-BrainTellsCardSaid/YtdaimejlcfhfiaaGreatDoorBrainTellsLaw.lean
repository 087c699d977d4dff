/-
  The walk of the statement BrainTells. Conditions: those that the theorem names.
-/
import Derived.Test.YtdaimejlcfhfiaaGreatDoorKQ
import Derived.Test.YtdaimejlcfhfiaaGreatDoorK28
set_option maxRecDepth 100000

namespace Go.Proofs.YtdaimejlcfhfiaaGreatDoor
open Go.RowKit Go.Shelf

theorem rapO {p : Br} {a : Ad} {z : RE} {W : World} {q : Br} (hr : RdB_ W W.heap.size p a) (hz : ReOk W z) (hzn : z.n ≤ 1000) (hm : p.cf.ms.length ≤ 1000) (hg : Good 800 p) (e : applyB p (z.k : Int) z.zs = q) :
    Calls Tryz.prog 13 #[brV p a, .agg #[.int .u8 (z.k : Int), .slice z.A z.n z.c]] W (ApPost q W) := by
  subst e
  exact rapply_any p a z W hr hz hzn hm hg
theorem rallO {p : Br} {a : Ad} {A : Option Addr} {n c : Nat} {xs : List RE} {W : World} {q : Br} (hr : RdB_ W W.heap.size p a) (hx : RdR W W.heap.size A n xs) (hcx : ∀ x ∈ xs, x.n ≤ x.c ∧ x.c ≤ maxLen) (h60 : xs.length ≤ 60) (h40 : ∀ x ∈ xs, x.n ≤ 40) (hm : p.cf.ms.length ≤ 1000) (hg : Good 80 p) (e : allB p (recsB xs) = q) :
    Calls Tryz.prog 15 #[brV p a, .slice A n c] W (AlO q W) := by
  subst e
  exact rall_any p a A n c xs W hr hx hcx h60 h40 hm hg
/-- What each operation yields where it is asked what is too great. -/
def TellR (lo : Nat) (p o : Br) (a b : Ad) (A : Option Addr) (n c : Nat) (xs : List RE) (z : RE) (i : Nat) (v : Value) (w : World) : Prop := match i with
  | 0 => SlRec lo 0 0 [] v w | 1 => v = .slice A n c | 2 => ∃ k, SlRec lo n k xs v w ∧ (n = 0 → k = 0) | 3 => v = .agg #[.int .u8 (z.k : Int), .slice z.A z.n z.c] | 4 => SlRec lo 1 1 [z] v w | 5 => ∃ k, SlRec lo (n + 1) k (xs ++ [z]) v w
  | 6 => v = brV p a | 7 => v = brV o b | 8 => ∃ bb, v = .slice (some ⟨bb, 0, none⟩) 2 2 ∧ Whole w bb 30 ((brC p a).toList ++ (brC o b).toList).toArray | _ => True
section
variable {lo : Nat} {p o : Br} {a b : Ad} {A : Option Addr} {n c : Nat} {xs : List RE} {z : RE}
theorem TellR.under (i : Nat) (v : Value) (w w' : World) (hb : Below w.heap.size w w') (h : TellR lo p o a b A n c xs z i v w) : TellR lo p o a b A n c xs z i v w' := by
  match i, h with
  | 0, h => exact SlRec.under hb h
  | 1, h => exact h
  | 2, h => obtain ⟨k, h, e⟩ := h; exact ⟨k, SlRec.under hb h, e⟩
  | 3, h => exact h
  | 4, h => exact SlRec.under hb h
  | 5, h => obtain ⟨k, h⟩ := h; exact ⟨k, SlRec.under hb h⟩
  | 6, h => exact h
  | 7, h => exact h
  | 8, h => obtain ⟨bb, e, h⟩ := h; exact ⟨bb, e, h.under hb⟩
  | n + 9, h => trivial
theorem TellR.past {w : World} {g : Nat} {us : List Value} (hn : 1 ≤ n) (hg : ∀ b cs, Whole w b 30 cs → b ≠ g) (i : Nat) (v : Value) (h5 : i ≠ 5) (h : TellR lo p o a b A n c xs z i v w) : TellR lo p o a b A n c xs z i v (w.setCells g (n * 2) us) := by
  match i, h with
  | 0, h => obtain ⟨b, e1, h⟩ := h; exact ⟨b, e1, own_pasts us h (by omega)⟩
  | 1, h => exact h
  | 2, h => obtain ⟨k, ⟨b, e1, h⟩, e⟩ := h; exact ⟨k, ⟨b, e1, own_pasts us h (Nat.le_refl _)⟩, e⟩
  | 3, h => exact h
  | 4, h => obtain ⟨b, e1, h⟩ := h; exact ⟨b, e1, own_pasts us h (by omega)⟩
  | 5, h => exact absurd rfl h5
  | 6, h => exact h
  | 7, h => exact h
  | 8, h => obtain ⟨bb, e, h⟩ := h; exact ⟨bb, e, whole_pasts (hg bb _ h) us h⟩
  | n + 9, h => trivial
end
section
variable {K : Act → World → Prop} {Q : Exit → Act → World → Prop} {a : Act} {w : World} {d : Tmp} {t : TypeId} {pos : String} {after : Array Edge} {x y : Operand}
set_option maxHeartbeats 2000000 in
theorem opB_two {p o : Br} {ad bd : Ad} (hx : a.eval x = brV p ad) (hy : a.eval y = brV o bd)
    (h : ∀ v w', Below w.heap.size w w' → (∃ bb, v = .slice (some ⟨bb, 0, none⟩) 2 2 ∧ Whole w' bb 30 ((brC p ad).toList ++ (brC o bd).toList).toArray) → K (a.put (some d) v) w') :
    ({ dst := some d, op := .buildSlice 53 2 #[(0, x), (1, y)], type := t, pos := pos, after := after, guard := none } : Oper).wp Tryz.prog a w K Q := by
  have hb : Below w.heap.size w (w.alloc (.cells ((brC p ad).toList ++ (brC o bd).toList).toArray 30)) := (Below.refl _ _).alloc (Nat.le_refl _) _
  have HB := Lib.hid hb
  have HW := Lib.hid (Whole.new w 30 ((brC p ad).toList ++ (brC o bd).toList).toArray)
  clear hb
  unfold Oper.wp execOp
  simp only [hx, hy, List.map_toArray, List.map_cons, List.map_nil]
  go_simp
  exact h _ _ HB.out ⟨_, rfl, HW.out⟩
end

set_option maxHeartbeats 8000000 in
theorem brainTells_any (p o : Br) (a b : Ad) (z : RE) (A : Option Addr) (n c : Nat) (xs : List RE) (nn : Int) (w : World) (hp : BrAny w p a) (ho : BrAny w o b) (hz : ReOk w z) (hx : RdR w w.heap.size A n xs) (hcx : ∀ x ∈ xs, x.n ≤ x.c ∧ x.c ≤ maxLen) (hreach : n * 32 ≤ 140737488351232) (hT : Tab w) (hH : TabH w) :
    Calls Tryz.prog 3 #[brV p a, brV o b, .agg #[.int .u8 (z.k : Int), .slice z.A z.n z.c], .slice A n c, .int .i64 nn] w (TruePostB w) := by
  obtain ⟨hb0, w0, w1, w2⟩ := three_new w 30 30 32 (brC p a) (brC o b) #[.int .u8 (z.k : Int), .slice z.A z.n z.c]
  obtain ⟨V, hV⟩ : ∃ V, ((w.alloc (.cells (brC p a) 30)).alloc (.cells (brC o b) 30)).alloc (.cells #[.int .u8 (z.k : Int), .slice z.A z.n z.c] 32) = V := ⟨_, rfl⟩
  rw [hV] at hb0 w0 w1 w2
  have HV := Lib.hid hV
  have XB := Lib.hid w0
  have XO := Lib.hid w1
  have XR := Lib.hid w2
  have HB := Lib.hid hb0
  have HP := Lib.hid hp
  have HO := Lib.hid ho
  have HRp := Lib.hid (hp.rd.up hb0)
  have HRo := Lib.hid (ho.rd.up hb0)
  have HZ := Lib.hid (show ReOk V z from ⟨hz.1, (hz.2.1.below hb0).more hb0.size, hz.2.2⟩)
  have HX := Lib.hid ((hx.below hb0).more hb0.size)
  have HCx := Lib.hid hcx
  have HT := Lib.hid (hT.under hb0)
  have HH := Lib.hid (hH.under hb0)
  have HLx := Lib.hid (show xs.length = n from hx.1)
  have HW := fun W (h : Below V.heap.size V W) => Lib.hid (wakes_any W (HT.out.under h) (HH.out.under h))
  clear hV hb0 w0 w1 w2 hp ho hz hx hcx hT hH
  have HN6 := Lib.hid hreach
  clear hreach
  go_enter Tryz.func3, Tryz.ntmps3
  go_upto_region 1 with fail
  refine wpV (fun V2 hV2 => ?_)
  obtain rfl : V = V2 := HV.out.symm.trans hV2
  clear HV hV2
  refine region_stayT (by kernel_rfl) (by kernel_rfl) 9 [11, 12, 13, 14, 15, 16, 17, 18, 19] (by kernel_rfl) (by simp) (TellR V.heap.size p o a b A n c xs z) ?_ ?_
  · intro i o_ d_ a_ w_ hi ho hd hag hbel hgot K hK
    rcases (by omega : i = 0 ∨ i = 1 ∨ i = 2 ∨ i = 3 ∨ i = 4 ∨ i = 5 ∨ i = 6 ∨ i = 7 ∨ i = 8) with rfl | rfl | rfl | rfl | rfl | rfl | rfl | rfl | rfl
    all_goals
      simp only [List.getElem?_toArray, List.getElem?_cons_zero, List.getElem?_cons_succ, Option.some.injEq] at ho
      subst ho
      injection hd with hd
      subst hd
      have hK' := fun v w_' hb hr => hK v w_' (stay_grow TellR.under hbel.size hb) hr
    · exact opR_lit0 V.heap.size hbel.size hK'
    · exact opB_move (hag.eval (t := 3) (by decide)) (hK' _ _ (Below.refl _ _) rfl)
    · refine opR_app2 (n := 0) (c := 0) (xs := []) (m := n) (ys := xs) V.heap.size hbel.size (hgot 0 11 (by kernel_rfl) rfl) (hgot 1 12 (by kernel_rfl) rfl) ((HX.out.below hbel).more hbel.size).rows (by have := HN6.out; omega) (fun v w_' hv hc => ?_)
      rw [Nat.zero_add] at hv
      rcases hc with hb | ⟨g, us, h0, h1, _⟩
      · exact hK' v w_' hb hv
      · omega
    · exact opB_loadRec (hag.eval (t := 7) (by decide)) ((XR.out.under hbel).cell 0) ((XR.out.under hbel).cell 1) (hK' _ _ (Below.refl _ _) rfl)
    · exact opR_lit1 V.heap.size hbel.size (hgot 3 14 (by kernel_rfl) rfl) hK'
    · obtain ⟨k3, h3, e3⟩ := hgot 2 13 (by kernel_rfl) rfl
      obtain ⟨b4, e4, h4⟩ := hgot 4 15 (by kernel_rfl) rfl
      rw [e4] at h4
      refine opR_app2 (n := n) (c := k3) (xs := xs) (m := 1) (ys := [z]) V.heap.size hbel.size h3 e4 (RdF.of_own recF_len (by decide) h4) (by have := HN6.out; omega) (fun v w_' hv hc => hK v w_' ?_ (hv.elim fun k h => ⟨k, h.1⟩))
      rcases hc with hb | ⟨g, us, h0, h1, hlg, rfl, hne⟩
      · exact stay_grow TellR.under hbel.size hb
      · have hn1 : 1 ≤ n := by
          rcases Nat.eq_zero_or_pos n with e0 | e0
          · have := e3 e0
            omega
          · exact e0
        exact ⟨below_pasts hlg us (Below.refl _ _), fun j v' hj hj5 hw hr => TellR.past hn1 hne j v' hj5 hr⟩
    · exact opB_load (hag.eval (t := 5) (by decide)) (XB.out.under hbel) (hK' _ _ (Below.refl _ _) rfl)
    · exact opB_load (hag.eval (t := 6) (by decide)) (XO.out.under hbel) (hK' _ _ (Below.refl _ _) rfl)
    · exact opB_two (hgot 6 17 (by kernel_rfl) rfl) (hgot 7 18 (by kernel_rfl) rfl) hK'
  intro o_ a_ w1_ ho hag hbel hgot K hK
  simp only [List.getElem?_toArray, List.getElem?_cons_zero, List.getElem?_cons_succ, Option.some.injEq] at ho
  subst ho
  obtain ⟨k5, b5, e5, h5⟩ := hgot 5 16 (by decide) rfl
  obtain ⟨bb, e8, h8⟩ := hgot 8 19 (by decide) rfl
  rw [e5] at h5
  have HG := Lib.hid (great2_any (some ⟨b5, 0, none⟩) (n + 1) k5 (xs ++ [z]) w1_.heap.size p o a b bb w1_ (SlRec.reads h5 (fun r hr => by
    rcases List.mem_append.1 hr with h | h
    · exact ((HX.out.below hbel).more hbel.size).2.2 r h
    · simp only [List.mem_singleton] at h
      subst h
      exact ⟨HZ.out.1, (HZ.out.2.1.below hbel).more hbel.size⟩)) (Nat.le_refl _) h8)
  obtain ⟨gr, hgr⟩ : ∃ gr, ((gB p || gB o) || gR (xs ++ [z])) = gr := ⟨_, rfl⟩
  rw [hgr] at HG
  have HBel := Lib.hid hbel
  have hf : a_.eval (.func 9) = .func (.func 9) #[] #[] := rfl
  clear h5 h8
  unfold Oper.wp execOp
  simp only [resolve, List.map_toArray, List.map_cons, List.map_nil, e5, e8, hf]
  go_simp
  refine HG.out.mono ?_
  rintro e W1 ⟨rfl, b1⟩
  refine hK _ _ ?_
  have HB1 := Lib.hid (HBel.out.trans (b1.mono HBel.out.size))
  obtain ⟨σ, hσ⟩ : ∃ σ : Nat → Value, (fun d => a_.eval (.tmp d)) = σ := ⟨_, rfl⟩
  have ha := hag.lay (by simp)
  rw [hσ] at ha
  clear hσ hag hgot hK hbel HBel b1 HG e5 e8 hf
  subst ha
  simp only [lay, List.foldl_cons, List.foldl_nil, Act.put, List.setIfInBounds_toArray, List.set_cons_zero, List.set_cons_succ]
  obtain ⟨u11, hu11⟩ : ∃ u, σ 11 = u := ⟨_, rfl⟩
  rw [hu11]
  obtain ⟨u12, hu12⟩ : ∃ u, σ 12 = u := ⟨_, rfl⟩
  rw [hu12]
  obtain ⟨u13, hu13⟩ : ∃ u, σ 13 = u := ⟨_, rfl⟩
  rw [hu13]
  obtain ⟨u14, hu14⟩ : ∃ u, σ 14 = u := ⟨_, rfl⟩
  rw [hu14]
  obtain ⟨u15, hu15⟩ : ∃ u, σ 15 = u := ⟨_, rfl⟩
  rw [hu15]
  obtain ⟨u16, hu16⟩ : ∃ u, σ 16 = u := ⟨_, rfl⟩
  rw [hu16]
  obtain ⟨u17, hu17⟩ : ∃ u, σ 17 = u := ⟨_, rfl⟩
  rw [hu17]
  obtain ⟨u18, hu18⟩ : ∃ u, σ 18 = u := ⟨_, rfl⟩
  rw [hu18]
  obtain ⟨u19, hu19⟩ : ∃ u, σ 19 = u := ⟨_, rfl⟩
  rw [hu19]
  clear hu11 hu12 hu13 hu14 hu15 hu16 hu17 hu18 hu19
  cases gr with
  | true =>
    have HWk := HW _ HB1.out
    clear hgr
    go_wp2_with fail
    refine HWk.out.mono ?_
    rintro e Vl ⟨rfl, bl⟩
    have HBl := Lib.hid (HB.out.trans ((HB1.out.trans (bl.mono HB1.out.size)).mono HB.out.size))
    clear bl HWk HW
    go_wp2_with fail
    go_ret
    exact ⟨rfl, HBl.out⟩
  | false =>
  simp only [Bool.or_eq_false_iff] at hgr
  obtain ⟨hgood, hms⟩ := HP.out.good hgr.1.1
  have hgR := gR_no hgr.2
  have HGood := Lib.hid hgood
  have HMs := Lib.hid hms
  have HIt := Lib.hid (show p.its.length ≤ 1000 by have := hgood.len; omega)
  have HKp := Lib.hid (show p.kps.length ≤ 1000 by have := hgood.len; omega)
  have H60 := Lib.hid (show xs.length ≤ 60 by have := hgR.1; rw [List.length_append] at this; omega)
  have H40 := Lib.hid (show ∀ x ∈ xs, x.n ≤ 40 from fun x hx => hgR.2 x (List.mem_append_left _ hx))
  have HZn := Lib.hid (show z.n ≤ 40 from hgR.2 z (List.mem_append_right _ (List.mem_singleton.2 rfl)))
  clear hgr hgood hms hgR
  obtain ⟨q1, hq1⟩ : ∃ q1, applyB p (z.k : Int) z.zs = q1 := ⟨_, rfl⟩
  obtain ⟨q2, hq2⟩ : ∃ q2, allB p (recsB xs) = q2 := ⟨_, rfl⟩
  have HQ1 := Lib.hid hq1
  have HQ2 := Lib.hid hq2
  have HGq1 := Lib.hid (show Good 81 q1 by rw [← hq1]; exact good_apply HGood.out _ _)
  have HMq1 := Lib.hid (show q1.cf.ms.length ≤ 1000 by rw [← hq1]; exact ms_apply HMs.out)
  have HGq2 := Lib.hid (show Good 140 q2 by rw [← hq2]; exact good_mono (good_all HGood.out xs) (by have := H60.out; omega))
  have HMq2 := Lib.hid (show q2.cf.ms.length ≤ 1000 by rw [← hq2]; exact ms_all HMs.out _)
  have HG400 := Lib.hid (good_mono HGood.out (show 80 ≤ 400 by omega))
  have HG800 := Lib.hid (good_mono HGood.out (show 80 ≤ 800 by omega))
  clear hq1 hq2
  go_upto_region 3 with fail
  have XB1 := Lib.hid (XB.out.under HB1.out)
  have XO1 := Lib.hid (XO.out.under HB1.out)
  have XR1 := Lib.hid (XR.out.under HB1.out)
  have HRp1 := Lib.hid (HRp.out.up HB1.out)
  have HRo1 := Lib.hid (HRo.out.up HB1.out)
  have HX1 := Lib.hid ((HX.out.below HB1.out).more HB1.out.size)
  have HZ1 := Lib.hid (show ReOk W1 z from ⟨HZ.out.1, (HZ.out.2.1.below HB1.out).more HB1.out.size, HZ.out.2.2⟩)
  have HT1 := Lib.hid (show Tab W1 from HT.out.under HB1.out)
  have HH1 := Lib.hid (show TabH W1 from HH.out.under HB1.out)
  have HL : Hid (∀ V', Below W1.heap.size W1 V' → Whole V' w.heap.size 30 (brC p a) ∧ V'.cell? ⟨w.heap.size + 1 + 1, 0, none⟩ = some (.int .u8 (z.k : Int)) ∧ V'.cell? ⟨w.heap.size + 1 + 1, 1, none⟩ = some (.slice z.A z.n z.c)) := Lib.hid (fun V' hV => ⟨XB1.out.under hV, (XR1.out.under hV).cell 0, (XR1.out.under hV).cell 1⟩)
  have HBd := Lib.hid (show Below W1.heap.size W1 W1.drew from below_drewB (Below.refl _ _) 1)
  refine wp_region_T (ls := []) (T := (fun V' => Below W1.heap.size W1 V')) (by kernel_rfl) ?_
  refine kT 0 (brV p a) rfl ?_ HBd.out ?_
  · intro V' hV; obtain ⟨y0, y1, y2⟩ := HL.out V' hV; exact exec_load_brain rfl y0
  simp only [Act.put, lA, lZ, lS]
  refine kT 1 ?_ rfl ?_ HBd.out ?_
  rotate_left
  · intro V' hV; obtain ⟨y0, y1, y2⟩ := HL.out V' hV; go_simp <;> with_reducible rfl
  simp only [Act.put, lA, lZ, lS]
  refine kT 3 (brV p a) rfl ?_ HBd.out ?_
  · intro V' hV; obtain ⟨y0, y1, y2⟩ := HL.out V' hV; exact exec_load_brain rfl y0
  simp only [Act.put, lA, lZ, lS]
  refine kT 4 ?_ rfl ?_ HBd.out ?_
  rotate_left
  · intro V' hV; obtain ⟨y0, y1, y2⟩ := HL.out V' hV; go_simp <;> with_reducible rfl
  simp only [Act.put, lA, lZ, lS]
  refine oneT (i := 2) rfl (by kernel_rfl) (by rfl) (fun K hK => ?_)
  go_simp
  refine (apO (HRp1.out.up HBd.out) ⟨HZ1.out.1, (HZ1.out.2.1.below HBd.out).more HBd.out.size, HZ1.out.2.2⟩ HMs.out HG400.out (HT1.out.under HBd.out) (HH1.out.under HBd.out) HQ1.out).mono ?_
  rintro e W1_1 ⟨a_, rfl, ho_, hb_⟩
  have HB_1 := Lib.hid (show Below W1.heap.size W1 W1_1 from HBd.out.trans (hb_.mono HBd.out.size))
  clear hb_ HBd
  have O1 := Lib.hid ho_
  clear ho_
  refine hK.out _ _ (fun _ => HB_1.out) ?_
  clear hK K
  refine oneT (i := 5) rfl (by kernel_rfl) (by rfl) (fun K hK => ?_)
  go_simp
  refine (rapO (HRp1.out.up HB_1.out) ⟨HZ1.out.1, (HZ1.out.2.1.below HB_1.out).more HB_1.out.size, HZ1.out.2.2⟩ (by have := HZn.out; omega) HMs.out HG800.out HQ1.out).mono ?_
  rintro e W1_2 ⟨a2_, rfl, ho_, hb_⟩
  have O1b := Lib.hid (O1.out.under hb_)
  clear O1
  have HB_2 := Lib.hid (show Below W1.heap.size W1 W1_2 from HB_1.out.trans (hb_.mono HB_1.out.size))
  clear hb_ HB_1
  have O2 := Lib.hid ho_
  clear ho_
  refine hK.out _ _ (fun _ => HB_2.out) ?_
  clear hK K
  refine oneT (i := 6) rfl (by kernel_rfl) (by rfl) (fun K hK => ?_)
  go_simp
  refine (smO O1b.out.reads O2.out.reads HMq1.out (by have := HGq1.out.len; omega) (by have := HGq1.out.len; omega) (sameB_refl q1)).mono ?_
  rintro e W1_3 ⟨rfl, hb_⟩
  have HB_3 := Lib.hid (show Below W1.heap.size W1 W1_3 from HB_2.out.trans (hb_.mono HB_2.out.size))
  clear hb_ HB_2
  clear O1b O2
  refine hK.out _ _ (fun _ => HB_3.out) ?_
  clear hK K
  refine kP 7 ?_ rfl ?_ (fun _ => HB_3.out) ?_
  rotate_left
  · intro V'; go_simp <;> with_reducible rfl
  simp only [Act.put, lA, lZ, lS]
  refine kP 8 ?_ rfl ?_ (fun _ => HB_3.out) ?_
  rotate_left
  · intro V'; go_simp <;> with_reducible rfl
  simp only [Act.put, lA, lZ, lS]
  refine kT 9 (brV p a) rfl ?_ HB_3.out ?_
  · intro V' hV; obtain ⟨y0, y1, y2⟩ := HL.out V' hV; exact exec_load_brain rfl y0
  simp only [Act.put, lA, lZ, lS]
  refine kP 10 ?_ rfl ?_ (fun _ => HB_3.out) ?_
  rotate_left
  · intro V'; go_simp <;> with_reducible rfl
  simp only [Act.put, lA, lZ, lS]
  refine kT 12 (brV p a) rfl ?_ HB_3.out ?_
  · intro V' hV; obtain ⟨y0, y1, y2⟩ := HL.out V' hV; exact exec_load_brain rfl y0
  simp only [Act.put, lA, lZ, lS]
  refine kP 13 ?_ rfl ?_ (fun _ => HB_3.out) ?_
  rotate_left
  · intro V'; go_simp <;> with_reducible rfl
  simp only [Act.put, lA, lZ, lS]
  refine oneT (i := 11) rfl (by kernel_rfl) (by rfl) (fun K hK => ?_)
  go_simp
  refine (allO (c := c) (HRp1.out.up HB_3.out) ((HX1.out.below HB_3.out).more HB_3.out.size) HCx.out (by have := H60.out; have := HLx.out; omega) HMs.out HG400.out (HT1.out.under HB_3.out) (HH1.out.under HB_3.out) HQ2.out).mono ?_
  rintro e W1_4 ⟨a3_, rfl, ho_, hb_⟩
  have HB_4 := Lib.hid (show Below W1.heap.size W1 W1_4 from HB_3.out.trans (hb_.mono HB_3.out.size))
  clear hb_ HB_3
  have O3 := Lib.hid ho_
  clear ho_
  refine hK.out _ _ (fun _ => HB_4.out) ?_
  clear hK K
  refine oneT (i := 14) rfl (by kernel_rfl) (by rfl) (fun K hK => ?_)
  go_simp
  refine (rallO (c := c) (HRp1.out.up HB_4.out) ((HX1.out.below HB_4.out).more HB_4.out.size) HCx.out H60.out H40.out HMs.out HGood.out HQ2.out).mono ?_
  rintro e W1_5 ⟨a4_, rfl, ho_, hb_⟩
  have O3b := Lib.hid (O3.out.under hb_)
  clear O3
  have HB_5 := Lib.hid (show Below W1.heap.size W1 W1_5 from HB_4.out.trans (hb_.mono HB_4.out.size))
  clear hb_ HB_4
  have O4 := Lib.hid ho_
  clear ho_
  refine hK.out _ _ (fun _ => HB_5.out) ?_
  clear hK K
  refine oneT (i := 15) rfl (by kernel_rfl) (by rfl) (fun K hK => ?_)
  go_simp
  refine (smO O3b.out.reads O4.out.reads HMq2.out (by have := HGq2.out.len; omega) (by have := HGq2.out.len; omega) (sameB_refl q2)).mono ?_
  rintro e W1_6 ⟨rfl, hb_⟩
  have HB_6 := Lib.hid (show Below W1.heap.size W1 W1_6 from HB_5.out.trans (hb_.mono HB_5.out.size))
  clear hb_ HB_5
  clear O3b O4
  refine hK.out _ _ (fun _ => HB_6.out) ?_
  clear hK K
  refine kP 16 ?_ rfl ?_ (fun _ => HB_6.out) ?_
  rotate_left
  · intro V'; go_simp <;> with_reducible rfl
  simp only [Act.put, lA, lZ, lS]
  refine kP 17 ?_ rfl ?_ (fun _ => HB_6.out) ?_
  rotate_left
  · intro V'; go_simp <;> with_reducible rfl
  simp only [Act.put, lA, lZ, lS]
  refine kP 18 ?_ rfl ?_ (fun _ => HB_6.out) ?_
  rotate_left
  · intro V'; go_simp <;> with_reducible rfl
  simp only [Act.put, lA, lZ, lS]
  refine kT 19 (brV p a) rfl ?_ HB_6.out ?_
  · intro V' hV; obtain ⟨y0, y1, y2⟩ := HL.out V' hV; exact exec_load_brain rfl y0
  simp only [Act.put, lA, lZ, lS]
  refine kT 21 (brV p a) rfl ?_ HB_6.out ?_
  · intro V' hV; obtain ⟨y0, y1, y2⟩ := HL.out V' hV; exact exec_load_brain rfl y0
  simp only [Act.put, lA, lZ, lS]
  refine oneT (i := 20) rfl (by kernel_rfl) (by rfl) (fun K hK => ?_)
  go_simp
  refine (bownB_any p a W1_6.heap.size W1_6 (HRp1.out.up HB_6.out) (Nat.le_refl _) HMs.out HIt.out HKp.out).mono ?_
  rintro e W1_7 ⟨a5_, rfl, ho_, hb_⟩
  have HB_7 := Lib.hid (show Below W1.heap.size W1 W1_7 from HB_6.out.trans (hb_.mono HB_6.out.size))
  clear hb_ HB_6
  have O5 := Lib.hid ho_
  clear ho_
  refine hK.out _ _ (fun _ => HB_7.out) ?_
  clear hK K
  refine oneT (i := 22) rfl (by kernel_rfl) (by rfl) (fun K hK => ?_)
  go_simp
  refine (smO O5.out.reads (HRp1.out.up HB_7.out) HMs.out HIt.out HKp.out (sameB_refl p)).mono ?_
  rintro e W1_8 ⟨rfl, hb_⟩
  have HB_8 := Lib.hid (show Below W1.heap.size W1 W1_8 from HB_7.out.trans (hb_.mono HB_7.out.size))
  clear hb_ HB_7
  clear O5
  refine hK.out _ _ (fun _ => HB_8.out) ?_
  clear hK K
  refine kP 23 ?_ rfl ?_ (fun _ => HB_8.out) ?_
  rotate_left
  · intro V'; go_simp <;> with_reducible rfl
  simp only [Act.put, lA, lZ, lS]
  refine kP 24 ?_ rfl ?_ (fun _ => HB_8.out) ?_
  rotate_left
  · intro V'; go_simp <;> with_reducible rfl
  simp only [Act.put, lA, lZ, lS]
  refine doneT (by kernel_rfl) ?_ _
  have HB2 := Lib.hid (HB1.out.trans (HB_8.out.mono HB1.out.size))
  have XB2 := Lib.hid (XB1.out.under HB_8.out)
  have XO2 := Lib.hid (XO1.out.under HB_8.out)
  have HRp2 := Lib.hid (HRp1.out.up HB_8.out)
  have HRo2 := Lib.hid (HRo1.out.up HB_8.out)
  have HT2 := Lib.hid (show Tab W1_8 from HT1.out.under HB_8.out)
  clear HL HB_8 HB1 XB1 XO1 XR1 HRp1 HRo1 HX1 HZ1 HT1 HH1 HQ1 HQ2 HGq1 HGq2 HMq1 HMq2
  obtain ⟨fv, hfv⟩ : ∃ fv, findB p nn = fv := ⟨_, rfl⟩
  obtain ⟨tv, htv⟩ : ∃ tv, tokenB p nn = tv := ⟨_, rfl⟩
  obtain ⟨rv, hrv⟩ : ∃ rv, rightBb p = rv := ⟨_, rfl⟩
  obtain ⟨sv, hsv⟩ : ∃ sv, sameB p o = sv := ⟨_, rfl⟩
  have HF := fun W (h : RdB_ W W.heap.size p a) => Lib.hid (bfind_any p a nn W.heap.size W h (Nat.le_refl _) HKp.out)
  have HF2 := fun W (h : RdB_ W W.heap.size p a) => Lib.hid (rfindB_any p a nn W.heap.size W h (Nat.le_refl _) HKp.out)
  have HK := fun W (h : RdB_ W W.heap.size p a) => Lib.hid (btoken_any p a nn W.heap.size W h (Nat.le_refl _) HIt.out)
  have HK2 := fun W (h : RdB_ W W.heap.size p a) => Lib.hid (rtokenB_any p a nn W.heap.size W h (Nat.le_refl _) HIt.out)
  have HRt := fun W (h : RdB_ W W.heap.size p a) (ht : Tab W) => Lib.hid (bright_any p a W.heap.size W h (Nat.le_refl _) HIt.out HKp.out ht)
  have HRt2 := fun W (h : RdB_ W W.heap.size p a) => Lib.hid (rrightB_any p a W.heap.size W h (Nat.le_refl _) HMs.out HIt.out HKp.out)
  have HSm := fun W (h : RdB_ W W.heap.size p a) (h2 : RdB_ W W.heap.size o b) => Lib.hid (bsame_any p o a b W.heap.size W.heap.size W h h2 (Nat.le_refl _) (Nat.le_refl _) HMs.out HIt.out HKp.out)
  have HSm2 := fun W (h : RdB_ W W.heap.size p a) (h2 : RdB_ W W.heap.size o b) => Lib.hid (rsameB_any p o a b W.heap.size W.heap.size W h h2 (Nat.le_refl _) (Nat.le_refl _) HMs.out HIt.out HKp.out)
  simp only [hfv] at HF HF2
  simp only [htv] at HK HK2
  simp only [hrv] at HRt HRt2
  simp only [hsv] at HSm HSm2
  clear hfv htv hrv hsv
  go_upto_region 5 with fail
  have HL : Hid (∀ V', Below W1_8.heap.size W1_8 V' → Whole V' w.heap.size 30 (brC p a) ∧ Whole V' (w.heap.size + 1) 30 (brC o b)) := Lib.hid (fun V' hV => ⟨XB2.out.under hV, XO2.out.under hV⟩)
  have HBd := Lib.hid (show Below W1_8.heap.size W1_8 W1_8.drew from below_drewB (Below.refl _ _) 1)
  refine wp_region_T (ls := []) (T := (fun V' => Below W1_8.heap.size W1_8 V')) (by kernel_rfl) ?_
  refine kT 0 (brV p a) rfl ?_ HBd.out ?_
  · intro V' hV; obtain ⟨y0, y1⟩ := HL.out V' hV; exact exec_load_brain rfl y0
  simp only [Act.put, lA, lZ, lS]
  refine kP 1 ?_ rfl ?_ (fun _ => HBd.out) ?_
  rotate_left
  · intro V'; go_simp <;> with_reducible rfl
  simp only [Act.put, lA, lZ, lS]
  refine kT 3 (brV p a) rfl ?_ HBd.out ?_
  · intro V' hV; obtain ⟨y0, y1⟩ := HL.out V' hV; exact exec_load_brain rfl y0
  simp only [Act.put, lA, lZ, lS]
  refine kP 4 ?_ rfl ?_ (fun _ => HBd.out) ?_
  rotate_left
  · intro V'; go_simp <;> with_reducible rfl
  simp only [Act.put, lA, lZ, lS]
  refine oneT (i := 2) rfl (by kernel_rfl) (by rfl) (fun K hK => ?_)
  go_simp
  refine ((HF _ (HRp2.out.up HBd.out)).out).mono ?_
  rintro e W1_8_1 ⟨rfl, hb_⟩
  have HB_1 := Lib.hid (show Below W1_8.heap.size W1_8 W1_8_1 from HBd.out.trans (hb_.mono HBd.out.size))
  clear hb_ HBd
  refine hK.out _ _ (fun _ => HB_1.out) ?_
  clear hK K
  refine oneT (i := 5) rfl (by kernel_rfl) (by rfl) (fun K hK => ?_)
  go_simp
  refine ((HF2 _ (HRp2.out.up HB_1.out)).out).mono ?_
  rintro e W1_8_2 ⟨rfl, hb_⟩
  have HB_2 := Lib.hid (show Below W1_8.heap.size W1_8 W1_8_2 from HB_1.out.trans (hb_.mono HB_1.out.size))
  clear hb_ HB_1
  refine hK.out _ _ (fun _ => HB_2.out) ?_
  clear hK K
  refine kP 6 ?_ rfl ?_ (fun _ => HB_2.out) ?_
  rotate_left
  · intro V'; go_simp <;> with_reducible rfl
  simp only [Act.put, lA, lZ, lS]
  refine kP 7 ?_ rfl ?_ (fun _ => HB_2.out) ?_
  rotate_left
  · intro V'; go_simp <;> with_reducible rfl
  simp only [Act.put, lA, lZ, lS]
  refine kT 8 (brV p a) rfl ?_ HB_2.out ?_
  · intro V' hV; obtain ⟨y0, y1⟩ := HL.out V' hV; exact exec_load_brain rfl y0
  simp only [Act.put, lA, lZ, lS]
  refine kP 9 ?_ rfl ?_ (fun _ => HB_2.out) ?_
  rotate_left
  · intro V'; go_simp <;> with_reducible rfl
  simp only [Act.put, lA, lZ, lS]
  refine kT 11 (brV p a) rfl ?_ HB_2.out ?_
  · intro V' hV; obtain ⟨y0, y1⟩ := HL.out V' hV; exact exec_load_brain rfl y0
  simp only [Act.put, lA, lZ, lS]
  refine kP 12 ?_ rfl ?_ (fun _ => HB_2.out) ?_
  rotate_left
  · intro V'; go_simp <;> with_reducible rfl
  simp only [Act.put, lA, lZ, lS]
  refine oneT (i := 10) rfl (by kernel_rfl) (by rfl) (fun K hK => ?_)
  go_simp
  refine ((HK _ (HRp2.out.up HB_2.out)).out).mono ?_
  rintro e W1_8_3 ⟨rfl, hb_⟩
  have HB_3 := Lib.hid (show Below W1_8.heap.size W1_8 W1_8_3 from HB_2.out.trans (hb_.mono HB_2.out.size))
  clear hb_ HB_2
  refine hK.out _ _ (fun _ => HB_3.out) ?_
  clear hK K
  refine oneT (i := 13) rfl (by kernel_rfl) (by rfl) (fun K hK => ?_)
  go_simp
  refine ((HK2 _ (HRp2.out.up HB_3.out)).out).mono ?_
  rintro e W1_8_4 ⟨rfl, hb_⟩
  have HB_4 := Lib.hid (show Below W1_8.heap.size W1_8 W1_8_4 from HB_3.out.trans (hb_.mono HB_3.out.size))
  clear hb_ HB_3
  refine hK.out _ _ (fun _ => HB_4.out) ?_
  clear hK K
  refine kP 14 ?_ rfl ?_ (fun _ => HB_4.out) ?_
  rotate_left
  · intro V'; go_simp <;> with_reducible rfl
  simp only [Act.put, lA, lZ, lS]
  refine kP 15 ?_ rfl ?_ (fun _ => HB_4.out) ?_
  rotate_left
  · intro V'; go_simp <;> with_reducible rfl
  simp only [Act.put, lA, lZ, lS]
  refine kP 16 ?_ rfl ?_ (fun _ => HB_4.out) ?_
  rotate_left
  · intro V'; go_simp <;> with_reducible rfl
  simp only [Act.put, lA, lZ, lS]
  refine kT 17 (brV p a) rfl ?_ HB_4.out ?_
  · intro V' hV; obtain ⟨y0, y1⟩ := HL.out V' hV; exact exec_load_brain rfl y0
  simp only [Act.put, lA, lZ, lS]
  refine kT 19 (brV p a) rfl ?_ HB_4.out ?_
  · intro V' hV; obtain ⟨y0, y1⟩ := HL.out V' hV; exact exec_load_brain rfl y0
  simp only [Act.put, lA, lZ, lS]
  refine oneT (i := 18) rfl (by kernel_rfl) (by rfl) (fun K hK => ?_)
  go_simp
  refine ((HRt _ (HRp2.out.up HB_4.out) (HT2.out.under HB_4.out)).out).mono ?_
  rintro e W1_8_5 ⟨rfl, hb_⟩
  have HB_5 := Lib.hid (show Below W1_8.heap.size W1_8 W1_8_5 from HB_4.out.trans (hb_.mono HB_4.out.size))
  clear hb_ HB_4
  refine hK.out _ _ (fun _ => HB_5.out) ?_
  clear hK K
  refine oneT (i := 20) rfl (by kernel_rfl) (by rfl) (fun K hK => ?_)
  go_simp
  refine ((HRt2 _ (HRp2.out.up HB_5.out)).out).mono ?_
  rintro e W1_8_6 ⟨rfl, hb_⟩
  have HB_6 := Lib.hid (show Below W1_8.heap.size W1_8 W1_8_6 from HB_5.out.trans (hb_.mono HB_5.out.size))
  clear hb_ HB_5
  refine hK.out _ _ (fun _ => HB_6.out) ?_
  clear hK K
  refine kP 21 ?_ rfl ?_ (fun _ => HB_6.out) ?_
  rotate_left
  · intro V'; go_simp <;> with_reducible rfl
  simp only [Act.put, lA, lZ, lS]
  refine kP 22 ?_ rfl ?_ (fun _ => HB_6.out) ?_
  rotate_left
  · intro V'; go_simp <;> with_reducible rfl
  simp only [Act.put, lA, lZ, lS]
  refine kP 23 ?_ rfl ?_ (fun _ => HB_6.out) ?_
  rotate_left
  · intro V'; go_simp <;> with_reducible rfl
  simp only [Act.put, lA, lZ, lS]
  refine kT 24 (brV p a) rfl ?_ HB_6.out ?_
  · intro V' hV; obtain ⟨y0, y1⟩ := HL.out V' hV; exact exec_load_brain rfl y0
  simp only [Act.put, lA, lZ, lS]
  refine kT 25 (brV o b) rfl ?_ HB_6.out ?_
  · intro V' hV; obtain ⟨y0, y1⟩ := HL.out V' hV; exact exec_load_brain rfl y1
  simp only [Act.put, lA, lZ, lS]
  refine kT 27 (brV p a) rfl ?_ HB_6.out ?_
  · intro V' hV; obtain ⟨y0, y1⟩ := HL.out V' hV; exact exec_load_brain rfl y0
  simp only [Act.put, lA, lZ, lS]
  refine kT 28 (brV o b) rfl ?_ HB_6.out ?_
  · intro V' hV; obtain ⟨y0, y1⟩ := HL.out V' hV; exact exec_load_brain rfl y1
  simp only [Act.put, lA, lZ, lS]
  refine oneT (i := 26) rfl (by kernel_rfl) (by rfl) (fun K hK => ?_)
  go_simp
  refine ((HSm _ (HRp2.out.up HB_6.out) (HRo2.out.up HB_6.out)).out).mono ?_
  rintro e W1_8_7 ⟨rfl, hb_⟩
  have HB_7 := Lib.hid (show Below W1_8.heap.size W1_8 W1_8_7 from HB_6.out.trans (hb_.mono HB_6.out.size))
  clear hb_ HB_6
  refine hK.out _ _ (fun _ => HB_7.out) ?_
  clear hK K
  refine oneT (i := 29) rfl (by kernel_rfl) (by rfl) (fun K hK => ?_)
  go_simp
  refine ((HSm2 _ (HRp2.out.up HB_7.out) (HRo2.out.up HB_7.out)).out).mono ?_
  rintro e W1_8_8 ⟨rfl, hb_⟩
  have HB_8 := Lib.hid (show Below W1_8.heap.size W1_8 W1_8_8 from HB_7.out.trans (hb_.mono HB_7.out.size))
  clear hb_ HB_7
  refine hK.out _ _ (fun _ => HB_8.out) ?_
  clear hK K
  refine kP 30 ?_ rfl ?_ (fun _ => HB_8.out) ?_
  rotate_left
  · intro V'; go_simp <;> with_reducible rfl
  simp only [Act.put, lA, lZ, lS]
  refine kP 31 ?_ rfl ?_ (fun _ => HB_8.out) ?_
  rotate_left
  · intro V'; go_simp <;> with_reducible rfl
  simp only [Act.put, lA, lZ, lS]
  refine kP 32 ?_ rfl ?_ (fun _ => HB_8.out) ?_
  rotate_left
  · intro V'; go_simp <;> with_reducible rfl
  simp only [Act.put, lA, lZ, lS]
  refine oneT (i := 33) rfl (by kernel_rfl) (by rfl) (fun K hK => ?_)
  go_simp
  refine ((HW _ (HB2.out.trans (HB_8.out.mono HB2.out.size))).out).mono ?_
  rintro e W1_8_9 ⟨rfl, hb_⟩
  have HB_9 := Lib.hid (show Below W1_8.heap.size W1_8 W1_8_9 from HB_8.out.trans (hb_.mono HB_8.out.size))
  clear hb_ HB_8
  refine hK.out _ _ (fun _ => HB_9.out) ?_
  clear hK K
  refine kP 34 ?_ rfl ?_ (fun _ => HB_9.out) ?_
  rotate_left
  · intro V'; go_simp <;> with_reducible rfl
  simp only [Act.put, lA, lZ, lS]
  refine kP 35 ?_ rfl ?_ (fun _ => HB_9.out) ?_
  rotate_left
  · intro V'; go_simp <;> with_reducible rfl
  simp only [Act.put, lA, lZ, lS]
  refine doneT (by kernel_rfl) ?_ _
  have HBl := Lib.hid (HB.out.trans ((HB2.out.trans (HB_9.out.mono HB2.out.size)).mono HB.out.size))
  clear HL HB_9 HW HF HF2 HK HK2 HRt HRt2 HSm HSm2
  go_wp2_with fail
  go_ret
  exact ⟨rfl, HBl.out⟩

end Go.Proofs.YtdaimejlcfhfiaaGreatDoor
