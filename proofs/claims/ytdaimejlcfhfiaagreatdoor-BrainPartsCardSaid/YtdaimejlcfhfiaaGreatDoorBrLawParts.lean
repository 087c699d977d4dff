/-
  The walk of the statement BrainParts. Conditions: those that the theorem names.
-/
import Derived.Test.YtdaimejlcfhfiaaGreatDoorBrRecRow
namespace Go.Proofs.YtdaimejlcfhfiaaGreatDoor
open Go.RowKit Go.Shelf

/-- What each operation yields where a brain is taken through both rows. -/
def PartR (lo : Nat) (p : Br) (a : Ad) (A : Option Addr) (n c : Nat) (xs : List RE) (B : Option Addr) (m e : Nat) (ys : List RE) (i : Nat) (v : Value) (w : World) : Prop := match i with
  | 0 => v = brV p a | 1 => SlRec lo 0 0 [] v w | 2 => v = .slice A n c | 3 => ∃ k, SlRec lo n k xs v w | 4 => v = .slice B m e | 5 => ∃ k, SlRec lo (n + m) k (xs ++ ys) v w
  | 6 => BrIs (allB p (recsB (xs ++ ys))) v w | 7 => BoxIs lo v w | _ => True
section
variable {lo : Nat} {p : Br} {a : Ad} {A : Option Addr} {n c : Nat} {xs : List RE} {B : Option Addr} {m e : Nat} {ys : List RE}
theorem PartR.under (i : Nat) (v : Value) (w w' : World) (hb : Below w.heap.size w w') (h : PartR lo p a A n c xs B m e ys i v w) : PartR lo p a A n c xs B m e ys i v w' := by
  match i, h with
  | 0, h => exact h
  | 1, h => exact SlRec.under hb h
  | 2, h => exact h
  | 3, h => obtain ⟨k, h⟩ := h; exact ⟨k, SlRec.under hb h⟩
  | 4, h => exact h
  | 5, h => obtain ⟨k, h⟩ := h; exact ⟨k, SlRec.under hb h⟩
  | 6, h => exact BrIs.under hb h
  | 7, h => exact BoxIs.under hb h
  | n + 8, h => trivial
theorem PartR.past {w : World} {g : Nat} {us : List Value} (hg : ∀ b cs, Whole w b 30 cs → b ≠ g) (i : Nat) (v : Value) (h5 : i ≠ 5) (h6 : i ≠ 6) (h : PartR lo p a A n c xs B m e ys i v w) : PartR lo p a A n c xs B m e ys i v (w.setCells g (n * 2) us) := by
  match i, h with
  | 0, h => exact h
  | 1, h => obtain ⟨b, e1, h⟩ := h; exact ⟨b, e1, own_pasts us h (by omega)⟩
  | 2, h => exact h
  | 3, h => obtain ⟨k, b, e1, h⟩ := h; exact ⟨k, b, e1, own_pasts us h (Nat.le_refl _)⟩
  | 4, h => exact h
  | 5, h => exact absurd rfl h5
  | 6, h => exact absurd rfl h6
  | 7, h => obtain ⟨b, e1, h1, h2⟩ := h; exact ⟨b, e1, h1, whole_pasts (hg b _ h2) us h2⟩
  | n + 8, h => trivial
end
/-- What holds ahead of each record that is taken alone. -/
structure PtAt (U : World) (p : Br) (xs : List RE) (j : Nat) (q : Br) (W : World) : Prop where
  box : ∃ a, Whole W U.heap.size 30 (brC q a) ∧ OwB 0 W q a
  is_ : q = allB p (recsB (xs.take j))
  below : Below U.heap.size U W
  good : Good (80 + j) q
  ms : q.cf.ms.length ≤ 1000
  le : j ≤ xs.length
theorem take_rec {p : Br} {xs : List RE} {j : Nat} {x : RE} (h : xs[j]? = some x) : allB p (recsB (xs.take (j + 1))) = applyB (allB p (recsB (xs.take j))) (x.k : Int) x.zs := by
  obtain ⟨hj, rfl⟩ := List.getElem?_eq_some_iff.1 h
  rw [List.take_succ_eq_append_getElem hj, recs_snoc]

set_option maxRecDepth 100000 in
set_option maxHeartbeats 8000000 in
theorem brainParts_any (p : Br) (a : Ad) (A : Option Addr) (n c : Nat) (xs : List RE) (B : Option Addr) (m d : Nat) (ys : List RE) (w : World) (hp : BrAny w p a) (hx : RdR w w.heap.size A n xs) (hcx : ∀ x ∈ xs, x.n ≤ x.c ∧ x.c ≤ maxLen) (hy : RdR w w.heap.size B m ys) (hcy : ∀ x ∈ ys, x.n ≤ x.c ∧ x.c ≤ maxLen) (hT : Tab w) (hH : TabH w) :
    Calls Tryz.prog 6 #[brV p a, .slice A n c, .slice B m d] w (TruePostB w) := by
  obtain ⟨V, hV⟩ : ∃ V, w.alloc (.cells (brC p a) 30) = V := ⟨_, rfl⟩
  have hw : Whole V w.heap.size 30 (brC p a) := by rw [← hV]; exact Whole.new _ _ _
  have hb : Below w.heap.size w V := by rw [← hV]; exact (Below.refl _ _).alloc (Nat.le_refl _) _
  obtain ⟨V1, hV1⟩ : ∃ V1, V.alloc (.cells (brC p a) 30) = V1 := ⟨_, rfl⟩
  have hw1 : Whole V1 V.heap.size 30 (brC p a) := by rw [← hV1]; exact Whole.new _ _ _
  have hb1 : Below V.heap.size V V1 := by rw [← hV1]; exact (Below.refl _ _).alloc (Nat.le_refl _) _
  have hsV : V.heap.size = w.heap.size + 1 := by rw [← hV]; simp
  have HV := Lib.hid hV
  have HV1 := Lib.hid hV1
  have X0 := Lib.hid hw
  have HB := Lib.hid (hb.trans (hb1.mono hb.size))
  have HP := Lib.hid hp
  have HX := Lib.hid hx
  have HY := Lib.hid hy
  have HCx := Lib.hid hcx
  have HCy := Lib.hid hcy
  have HT := Lib.hid hT
  have HH := Lib.hid hH
  have HLx := Lib.hid (show xs.length = n from hx.1)
  have HLy := Lib.hid (show ys.length = m from hy.1)
  have HW := fun W (h : Below w.heap.size w W) => Lib.hid (wakes_any W (hT.below (Nat.le_refl _) h) (hH.under h))
  have HG := Lib.hid (great1_any A n c xs w.heap.size p a V.heap.size V1 (hx.below (hb.trans (hb1.mono hb.size))) (hb.trans (hb1.mono hb.size)).size hw1)
  have X1 := Lib.hid (hw.under hb1)
  rw [hsV] at HG
  clear hV hV1 hw hw1 hb hb1 hp hx hy hcx hcy hT hH
  cases hgr : (gB p || gR xs) with
  | true =>
    rw [hgr] at HG
    clear hgr
    go_enter Tryz.func6, Tryz.ntmps6
    go_upto_region 1 with fail
    refine wpV (fun V2 hV2 => ?_)
    obtain rfl : V = V2 := HV.out.symm.trans hV2
    clear HV hV2
    go_wp2_with (refine wpList_loadB (by rfl) _ rfl w.heap.size p a (by rfl) X0.out ?_)
    refine ((by rw [HV1.out]; exact HG.out) : Calls Tryz.prog 9 #[.slice A n c, .slice (some ⟨w.heap.size + 1, 0, none⟩) 1 1] (V.alloc (.cells (brC p a) 30)) (BoolPost true V1)).mono ?_
    rintro e V3 ⟨rfl, b3⟩
    have HB3 := Lib.hid (HB.out.trans (b3.mono HB.out.size))
    clear b3 HB HG X0 X1
    have HWk := HW V3 HB3.out
    go_wp2_with fail
    refine HWk.out.mono ?_
    rintro e Vl ⟨rfl, bl⟩
    have HBl_ := Lib.hid (HB3.out.trans (bl.mono HB3.out.size))
    clear bl HWk HW
    go_wp2_with fail
    go_ret
    exact ⟨rfl, HBl_.out⟩
  | false =>
    rw [hgr] at HG
    simp only [Bool.or_eq_false_iff] at hgr
    have HGB := Lib.hid hgr.1
    have HGR := Lib.hid (gR_no hgr.2)
    clear hgr
    go_enter Tryz.func6, Tryz.ntmps6
    go_upto_region 1 with fail
    refine wpV (fun V2 hV2 => ?_)
    obtain rfl : V = V2 := HV.out.symm.trans hV2
    clear HV hV2
    go_wp2_with (refine wpList_loadB (by rfl) _ rfl w.heap.size p a (by rfl) X0.out ?_)
    refine ((by rw [HV1.out]; exact HG.out) : Calls Tryz.prog 9 #[.slice A n c, .slice (some ⟨w.heap.size + 1, 0, none⟩) 1 1] (V.alloc (.cells (brC p a) 30)) (BoolPost false V1)).mono ?_
    rintro e V3 ⟨rfl, b3⟩
    have HB3 := Lib.hid (HB.out.trans (b3.mono HB.out.size))
    have X3 := Lib.hid (X1.out.under b3)
    obtain ⟨hgood, hms⟩ := HP.out.good HGB.out
    have HGood := Lib.hid hgood
    have HMs := Lib.hid hms
    have HIt := Lib.hid (show p.its.length ≤ 1000 by have := hgood.len; omega)
    have HKp := Lib.hid (show p.kps.length ≤ 1000 by have := hgood.len; omega)
    have HG2 := Lib.hid (great0_any B m d ys w.heap.size V3 (HY.out.below HB3.out))
    clear b3 HB HG X0 X1 hgood hms
    cases hg2 : gR ys with
    | true =>
      rw [hg2] at HG2
      clear hg2
      go_wp2_with fail
      refine HG2.out.mono ?_
      rintro e V4 ⟨rfl, b4⟩
      have HB4 := Lib.hid (HB3.out.trans (b4.mono HB3.out.size))
      clear b4 HB3 HG2 X3
      have HWk := HW V4 HB4.out
      go_wp2_with fail
      refine HWk.out.mono ?_
      rintro e Vl ⟨rfl, bl⟩
      have HBl_ := Lib.hid (HB4.out.trans (bl.mono HB4.out.size))
      clear bl HWk HW
      go_wp2_with fail
      go_ret
      exact ⟨rfl, HBl_.out⟩
    | false =>
      rw [hg2] at HG2
      have HGR2 := Lib.hid (gR_no hg2)
      clear hg2
      have hnm : IntKind.i64.wrap ((n : Int) + (m : Int)) = (n : Int) + (m : Int) := by
        have h1 := HGR.out.1
        have h2 := HGR2.out.1
        have h3 := HLx.out
        have h4 := HLy.out
        rw [IntKind.wrap_i64]
        omega
      go_wp2_with fail
      refine HG2.out.mono ?_
      rintro e V4 ⟨rfl, b4⟩
      have HB4 := Lib.hid (HB3.out.trans (b4.mono HB3.out.size))
      have XB4 := Lib.hid (X3.out.under b4)
      clear b4 HB3 HG2 X3
      by_cases h60 : 60 < n + m
      · have d60 : decide (60 < n + m) = true := by simp; omega
        have d60i : decide ((60 : Int) < (n : Int) + (m : Int)) = true := by simp; omega
        clear h60
        have HWk := HW V4 HB4.out
        go_wp2_with fail
        refine HWk.out.mono ?_
        rintro e Vl ⟨rfl, bl⟩
        have HBl_ := Lib.hid (HB4.out.trans (bl.mono HB4.out.size))
        clear bl HWk HW
        go_wp2_with fail
        go_ret
        exact ⟨rfl, HBl_.out⟩
      · have d60 : decide (60 < n + m) = false := by simp; omega
        have d60i : decide ((60 : Int) < (n : Int) + (m : Int)) = false := by simp; omega
        have HNm := Lib.hid h60
        clear h60
        have HA := Lib.hid (rownB_any p a V4.heap.size V4 (HP.out.rd.up HB4.out) (Nat.le_refl _) HMs.out HIt.out HKp.out)
        go_wp2_with (refine wpList_loadB (by rfl) _ rfl w.heap.size p a (by rfl) XB4.out ?_)
        refine HA.out.mono ?_
        rintro e W5 ⟨a5, rfl, ho, hb⟩
        have HO := Lib.hid ho
        have HB5 := Lib.hid (HB4.out.trans (hb.mono HB4.out.size))
        have XB5 := Lib.hid (XB4.out.under hb)
        clear ho hb HA HB4 XB4 hnm d60 d60i
        go_upto_region 4 with (refine wpList_storeB rfl _ _ rfl W5.heap.size p a5 _ (by rfl) (by rfl) (by rfl) (Whole.new _ _ _) ?_; intro W6 hW6)
        simp only [Act.put]
        obtain ⟨x6, o6, b6⟩ := newbox hW6 HO.out
        have XA6 := Lib.hid x6
        have OA6 := Lib.hid (o6.weaker (Nat.zero_le _))
        have XB6 := Lib.hid (XB5.out.under b6)
        have HB6 := Lib.hid (HB5.out.trans (b6.mono HB5.out.size))
        clear hW6 x6 o6 b6 HO HB5 XB5
        have HX6 := Lib.hid ((HX.out.below HB6.out).more HB6.out.size)
        have HY6 := Lib.hid ((HY.out.below HB6.out).more HB6.out.size)
        have HRd6 := Lib.hid (HP.out.rd.up HB6.out)
        have HT6 := Lib.hid (show Tab W6 from HT.out.under HB6.out)
        have HH6 := Lib.hid (show TabH W6 from HH.out.under HB6.out)
        have HCxy := Lib.hid (show ∀ r ∈ xs ++ ys, r.n ≤ r.c ∧ r.c ≤ maxLen by
          intro r hr
          rcases List.mem_append.1 hr with h | h
          · exact HCx.out r h
          · exact HCy.out r h)
        refine region_stay (by kernel_rfl) (by kernel_rfl) 8 [33, 34, 35, 36, 37, 38, 39, 8] (by kernel_rfl) (by simp) (PartR W6.heap.size p a A n c xs B m d ys) ?_ ?_
        · intro i o d_ a_ w_ hi ho hd hag hbel hgot K hK
          rcases (by omega : i = 0 ∨ i = 1 ∨ i = 2 ∨ i = 3 ∨ i = 4 ∨ i = 5 ∨ i = 6 ∨ i = 7) with rfl | rfl | rfl | rfl | rfl | rfl | rfl | rfl
          all_goals
            simp only [List.getElem?_toArray, List.getElem?_cons_zero, List.getElem?_cons_succ, Option.some.injEq] at ho
            subst ho
            injection hd with hd
            subst hd
            have hK' := fun v w_' hb hr => hK v w_' (stay_grow PartR.under hbel.size hb) hr
          · exact opB_load (hag.eval (t := 3) (by decide)) (XB6.out.under hbel) (hK' _ _ (Below.refl _ _) rfl)
          · exact opR_lit0 W6.heap.size hbel.size hK'
          · exact opB_move (hag.eval (t := 1) (by decide)) (hK' _ _ (Below.refl _ _) rfl)
          · refine opR_app (n := 0) (c := 0) (xs := []) (m := n) (ys := xs) W6.heap.size hbel.size (hgot 1 34 (by kernel_rfl) rfl) (hgot 2 35 (by kernel_rfl) rfl) ((HX6.out.below hbel).more hbel.size).rows (by have := HGR.out.1; have := HLx.out; omega) (fun v w_' hv hc => ?_)
            rw [Nat.zero_add] at hv
            rcases hc with hb | ⟨g, us, h0, h1, _⟩
            · exact hK' v w_' hb hv
            · omega
          · exact opB_move (hag.eval (t := 2) (by decide)) (hK' _ _ (Below.refl _ _) rfl)
          · obtain ⟨k3, h3⟩ := hgot 3 36 (by kernel_rfl) rfl
            refine opR_app (n := n) (c := k3) (xs := xs) (m := m) (ys := ys) W6.heap.size hbel.size h3 (hgot 4 37 (by kernel_rfl) rfl) ((HY6.out.below hbel).more hbel.size).rows (by have := HNm.out; omega) (fun v w_' hv hc => hK v w_' ?_ hv)
            rcases hc with hb | ⟨g, us, h0, h1, hlg, rfl, hne⟩
            · exact stay_grow PartR.under hbel.size hb
            · refine ⟨below_pasts hlg us (Below.refl _ _), fun j v' hj hj5 hw hr => PartR.past hne j v' hj5 (fun e => ?_) hr⟩
              subst e
              exact Bool.false_ne_true ((hw _ rfl).symm.trans (by kernel_rfl))
          · obtain ⟨k5, h5⟩ := hgot 5 38 (by kernel_rfl) rfl
            refine opB_allP (hgot 0 33 (by kernel_rfl) rfl) (HRd6.out.up hbel) h5 (fun r hr => ?_) HCxy.out (by have := HNm.out; omega) HMs.out (good_mono HGood.out (by omega)) (HT6.out.under hbel) (HH6.out.under hbel) hK'
            rcases List.mem_append.1 hr with h | h
            · exact ((HX6.out.below hbel).more hbel.size).2.2 r h
            · exact ((HY6.out.below hbel).more hbel.size).2.2 r h
          · exact opB_alloc hbel.size hK'
        intro o a_ w1_ ho hag hbel hgot K hK
        simp only [List.getElem?_toArray, List.getElem?_cons_zero, List.getElem?_cons_succ, Option.some.injEq] at ho
        subst ho
        obtain ⟨b8, e8, hlo8, hw8⟩ := hgot 7 8 (by decide) rfl
        obtain ⟨a8, f8, ho8⟩ := hgot 6 39 (by decide) rfl
        refine wp_storeB _ _ rfl b8 (allB p (recsB (xs ++ ys))) a8 _ (by rfl) e8 f8 hw8 (fun W8 hW_ => hK _ _ ?_)
        have X1_8 := Lib.hid (show Whole W8 b8 30 (brC (allB p (recsB (xs ++ ys))) a8) by rw [hW_]; exact setRow_heap _ _ _ _ _ _ hw8)
        have O1_8 := Lib.hid (show OwB 0 W8 (allB p (recsB (xs ++ ys))) a8 by rw [hW_]; exact ho8.rowset hw8 (by decide) (by decide) (by decide) _)
        have HBe := Lib.hid (show Below W6.heap.size W6 W8 by rw [hW_]; exact below_rowsetB hbel hlo8 _)
        have XB8 := Lib.hid (XB6.out.under HBe.out)
        have XA8 := Lib.hid (XA6.out.under HBe.out)
        have OA8 := Lib.hid (OA6.out.under HBe.out)
        have HB8 := Lib.hid (HB6.out.trans (HBe.out.mono HB6.out.size))
        obtain ⟨σ, hσ⟩ : ∃ σ : Nat → Value, (fun d => a_.eval (.tmp d)) = σ := ⟨_, rfl⟩
        have ha := hag.lay (by simp)
        rw [hσ] at ha
        have s_ : σ 8 = .pointer (some ⟨b8, 0, none⟩) := by rw [← hσ]; exact e8
        clear hσ hag hgot hK hbel hW_ e8 f8 ho8 hw8 hlo8 HBe HB6 XB6 XA6 OA6 HX6 HY6 HRd6 HT6 HH6 HCxy
        subst ha
        simp only [lay, List.foldl_cons, List.foldl_nil, Act.put, List.setIfInBounds_toArray, List.set_cons_zero, List.set_cons_succ, s_]
        obtain ⟨u33, hu33⟩ : ∃ u, σ 33 = u := ⟨_, rfl⟩
        rw [hu33]
        obtain ⟨u34, hu34⟩ : ∃ u, σ 34 = u := ⟨_, rfl⟩
        rw [hu34]
        obtain ⟨u35, hu35⟩ : ∃ u, σ 35 = u := ⟨_, rfl⟩
        rw [hu35]
        obtain ⟨u36, hu36⟩ : ∃ u, σ 36 = u := ⟨_, rfl⟩
        rw [hu36]
        obtain ⟨u37, hu37⟩ : ∃ u, σ 37 = u := ⟨_, rfl⟩
        rw [hu37]
        obtain ⟨u38, hu38⟩ : ∃ u, σ 38 = u := ⟨_, rfl⟩
        rw [hu38]
        obtain ⟨u39, hu39⟩ : ∃ u, σ 39 = u := ⟨_, rfl⟩
        rw [hu39]
        clear hu33 hu34 hu35 hu36 hu37 hu38 hu39 s_
        obtain ⟨q1, hq1⟩ : ∃ q1, allB p (recsB xs) = q1 := ⟨_, rfl⟩
        obtain ⟨q2, hq2⟩ : ∃ q2, allB q1 (recsB ys) = q2 := ⟨_, rfl⟩
        have e12 : allB p (recsB (xs ++ ys)) = q2 := by rw [recsB_append, all_append, hq1, hq2]
        rw [e12] at X1_8 O1_8
        have HQ1 := Lib.hid hq1
        have HQ2 := Lib.hid hq2
        have HN60 := Lib.hid (show n ≤ 60 ∧ m ≤ 60 from ⟨by have := HGR.out.1; have := HLx.out; omega, by have := HGR2.out.1; have := HLy.out; omega⟩)
        have HGq1 := Lib.hid (show Good 140 q1 by rw [← hq1]; exact good_mono (good_all HGood.out xs) (by have := HN60.out; have := HLx.out; omega))
        have HMq1 := Lib.hid (show q1.cf.ms.length ≤ 1000 by rw [← hq1]; exact ms_all HMs.out _)
        have HGq2 := Lib.hid (show Good 200 q2 by rw [← hq2]; exact good_mono (good_all HGq1.out ys) (by have := HN60.out; have := HLy.out; omega))
        have HMq2 := Lib.hid (show q2.cf.ms.length ≤ 1000 by rw [← hq2]; exact ms_all HMq1.out _)
        have HG400 := Lib.hid (good_mono HGood.out (show 80 ≤ 400 by omega))
        have HA1 := Lib.hid (allO (c := c) (HP.out.rd.up HB8.out) ((HX.out.below HB8.out).more HB8.out.size) HCx.out (by have := HN60.out; omega) HMs.out HG400.out (HT.out.under HB8.out) (HH.out.under HB8.out) hq1)
        clear hq1 hq2 e12
        go_wp2_with (refine wpList_loadB (by rfl) _ rfl w.heap.size p a (by rfl) XB8.out ?_)
        refine HA1.out.mono ?_
        rintro e W9 ⟨a9, rfl, ho9, hb9⟩
        have HB9 := Lib.hid (HB8.out.trans (hb9.mono HB8.out.size))
        have XB9 := Lib.hid (XB8.out.under hb9)
        have XA9 := Lib.hid (XA8.out.under hb9)
        have OA9 := Lib.hid (OA8.out.under hb9)
        have X1_9 := Lib.hid (X1_8.out.under hb9)
        have O1_9 := Lib.hid (O1_8.out.under hb9)
        clear XB8 XA8 OA8 X1_8 O1_8
        have HA2 := Lib.hid (allO (c := d) ho9.reads ((HY.out.below HB9.out).more HB9.out.size) HCy.out (by have := HN60.out; omega) HMq1.out (good_mono HGq1.out (by omega)) (HT.out.under HB9.out) (HH.out.under HB9.out) HQ2.out)
        clear ho9 hb9 HA1 HB8
        go_wp2_with fail
        refine HA2.out.mono ?_
        rintro e W10 ⟨a10, rfl, ho10, hb10⟩
        have HB10 := Lib.hid (HB9.out.trans (hb10.mono HB9.out.size))
        have XB10 := Lib.hid (XB9.out.under hb10)
        have XA10 := Lib.hid (XA9.out.under hb10)
        have OA10 := Lib.hid (OA9.out.under hb10)
        have X1_10 := Lib.hid (X1_9.out.under hb10)
        have O1_10 := Lib.hid (O1_9.out.under hb10)
        clear XB9 XA9 OA9 X1_9 O1_9
        have HO := Lib.hid ho10
        clear ho10 hb10 HA2 HB9
        go_upto_region 6 with (refine wpList_storeB rfl _ _ rfl W10.heap.size q2 a10 _ (by rfl) (by rfl) (by rfl) (Whole.new _ _ _) ?_; intro W11 hW11)
        simp only [Act.put]
        obtain ⟨x11, o11, b11⟩ := newbox hW11 HO.out
        have X2_11 := Lib.hid x11
        have O2_11 := Lib.hid (o11.weaker (Nat.zero_le _))
        have XB11 := Lib.hid (XB10.out.under b11)
        have XA11 := Lib.hid (XA10.out.under b11)
        have OA11 := Lib.hid (OA10.out.under b11)
        have X1_11 := Lib.hid (X1_10.out.under b11)
        have O1_11 := Lib.hid (O1_10.out.under b11)
        clear XB10 XA10 OA10 X1_10 O1_10
        have HB11 := Lib.hid (HB10.out.trans (b11.mono HB10.out.size))
        have HA3 := Lib.hid (bownB_any p a W11.heap.size W11 (HP.out.rd.up HB11.out) (Nat.le_refl _) HMs.out HIt.out HKp.out)
        clear hW11 x11 o11 b11 HO HB10
        go_wp2_with (refine wpList_loadB (by rfl) _ rfl w.heap.size p a (by rfl) XB11.out ?_)
        refine HA3.out.mono ?_
        rintro e U ⟨a12, rfl, ho12, hb12⟩
        have XB12 := Lib.hid (XB11.out.under hb12)
        have XA12 := Lib.hid (XA11.out.under hb12)
        have OA12 := Lib.hid (OA11.out.under hb12)
        have X1_12 := Lib.hid (X1_11.out.under hb12)
        have O1_12 := Lib.hid (O1_11.out.under hb12)
        have X2_12 := Lib.hid (X2_11.out.under hb12)
        have O2_12 := Lib.hid (O2_11.out.under hb12)
        clear XB11 XA11 OA11 X1_11 O1_11 X2_11 O2_11
        have HB12 := Lib.hid (HB11.out.trans (hb12.mono HB11.out.size))
        have HO := Lib.hid ho12
        clear ho12 hb12 HA3 HB11
        go_upto_region 7 with (refine wpList_storeB rfl _ _ rfl U.heap.size p a12 _ (by rfl) (by rfl) (by rfl) (Whole.new _ _ _) ?_; intro W13 hW13)
        simp only [Act.put]
        obtain ⟨x13, o13, b13⟩ := newbox hW13 HO.out
        have HB13 := Lib.hid b13
        have XS := Lib.hid x13
        have OS := Lib.hid (o13.weaker (Nat.zero_le _))
        clear hW13 x13 o13 b13 HO
        go_wp2_with fail
        go_loopw [11] (fun v wr => ∃ (j : Nat) (q : Br), v = .int .i64 (j : Int) ∧ PtAt U p xs j q wr) (fun v _ => n - (intOf v).toNat)
        case atStart => exact ⟨0, p, rfl, ⟨⟨a12, XS.out, OS.out⟩, rfl, HB13.out, HGood.out, HMs.out, Nat.zero_le _⟩⟩
        case round =>
          obtain ⟨j, q, rfl, hI⟩ := hrel
          have HI := Lib.hid hI
          have HBw := Lib.hid (show Below w.heap.size w wr from HB12.out.trans (hI.below.mono HB12.out.size))
          clear hI HB13 XS OS
          by_cases hlt : j < n
          · have HLt := Lib.hid hlt
            have hd1 : decide (j < n) = true := by simp; omega
            obtain ⟨aq, hbx, hs⟩ := HI.out.box
            have HBx := Lib.hid hbx
            have HS := Lib.hid hs
            obtain ⟨x, hx⟩ : ∃ x, xs[j]? = some x := ⟨_, List.getElem?_eq_getElem (by have := HLx.out; omega)⟩
            have HXj := Lib.hid hx
            obtain ⟨b, off, hA, hb, hc⟩ := HX.out.2.1 (by omega)
            have hmx := List.mem_of_getElem? hx
            have HC := Lib.hid (show wr.cell? ⟨b, off + j * 2, none⟩ = some (.int .u8 (x.k : Int)) ∧ wr.cell? ⟨b, off + j * 2 + 1, none⟩ = some (.slice x.A x.n x.c) from ⟨(HBw.out.cell (p := ⟨b, off + j * 2, none⟩) hb).trans (hc j x hx).1, (HBw.out.cell (p := ⟨b, off + j * 2 + 1, none⟩) hb).trans (hc j x hx).2⟩)
            have HBl := Lib.hid (show b < wr.heap.size from Nat.lt_of_lt_of_le hb HBw.out.size)
            have HRd := Lib.hid (show Rd wr wr.heap.size x.A x.n (iv x.zs) from ((HX.out.2.2 x hmx).2.below HBw.out).more HBw.out.size)
            have HK := Lib.hid (HX.out.2.2 x hmx).1
            have HCp := Lib.hid (HCx.out x hmx)
            have HGd := Lib.hid (good_mono HI.out.good (show 80 + j ≤ 400 by have := HN60.out; have := HLt.out; omega))
            have HTw := Lib.hid (show Tab wr from HT.out.under HBw.out)
            have HHw := Lib.hid (show TabH wr from HH.out.under HBw.out)
            have HAa := Lib.hid hA
            clear hlt hbx hs hx hb hc hmx hA
            go_upto_region 10 with fail
            refine region_grow (by kernel_rfl) (by kernel_rfl) 6 [53, 54, 55, 56, 57, 58] (by kernel_rfl) (by simp)
              (fun i v w => match i with | 0 => BrR q v w | 1 => v = .slice (some ⟨b, off, none⟩) n c | 2 => v = .int .i64 (j : Int) | 3 => v = .pointer (some ⟨b, off + j * 2, none⟩) | 4 => v = .agg #[.int .u8 (x.k : Int), .slice x.A x.n x.c] | 5 => BrIs (applyB q (x.k : Int) x.zs) v w | _ => True) ?_ ?_ ?_
            · intro i v w w' hb h
              match i, h with
              | 0, h => exact BrR.under hb h
              | 1, h => exact h
              | 2, h => exact h
              | 3, h => exact h
              | 4, h => exact h
              | 5, h => exact BrIs.under hb h
              | n + 6, h => trivial
            · intro i o d a w_ hi ho hd hag hbel hgot K hK
              rcases (by omega : i = 0 ∨ i = 1 ∨ i = 2 ∨ i = 3 ∨ i = 4 ∨ i = 5) with rfl | rfl | rfl | rfl | rfl | rfl
              all_goals
                simp only [List.getElem?_toArray, List.getElem?_cons_zero, List.getElem?_cons_succ, Option.some.injEq] at ho
                subst ho
                injection hd with hd
                subst hd
              · exact opB_load (hag.eval (t := 10) (by decide)) (HBx.out.under hbel) (hK _ _ (Below.refl _ _) ⟨aq, rfl, (HS.out.under hbel).reads⟩)
              · exact opB_move ((hag.eval (t := 1) (by decide)).trans (by rw [← HAa.out]; rfl)) (hK _ _ (Below.refl _ _) rfl)
              · exact opB_move (hag.eval (t := 11) (by decide)) (hK _ _ (Below.refl _ _) rfl)
              · exact opB_recAt (hgot 1 54 (by kernel_rfl) rfl) (hgot 2 55 (by kernel_rfl) rfl) HLt.out (hK _ _ (Below.refl _ _) rfl)
              · exact opB_loadRec (hgot 3 56 (by kernel_rfl) rfl) ((hbel.cell (p := ⟨b, off + j * 2, none⟩) HBl.out).trans HC.out.1) ((hbel.cell (p := ⟨b, off + j * 2 + 1, none⟩) HBl.out).trans HC.out.2) (hK _ _ (Below.refl _ _) rfl)
              · exact opB_applyR (z := x) (hgot 0 53 (by kernel_rfl) rfl) (hgot 4 57 (by kernel_rfl) rfl) HK.out ((HRd.out.below hbel).more hbel.size) HCp.out HI.out.ms HGd.out (HTw.out.under hbel) (HHw.out.under hbel) hK
            intro o a_ w1_ ho hag hbel hgot K hK
            simp only [List.getElem?_toArray, List.getElem?_cons_zero, List.getElem?_cons_succ, Option.some.injEq] at ho
            subst ho
            obtain ⟨a6, f6, ho6⟩ := hgot 5 58 (by decide) rfl
            refine wp_storeB _ _ rfl U.heap.size (applyB q (x.k : Int) x.zs) a6 _ (by rfl) (hag.eval (t := 10) (by decide)) f6 (HBx.out.under hbel) (fun Wk hW_ => hK _ _ ?_)
            have XSk := Lib.hid (show Whole Wk U.heap.size 30 (brC (applyB q (x.k : Int) x.zs) a6) by rw [hW_]; exact setRow_heap _ _ _ _ _ _ (HBx.out.under hbel))
            have OSk := Lib.hid (show OwB 0 Wk (applyB q (x.k : Int) x.zs) a6 by rw [hW_]; exact ho6.rowset (HBx.out.under hbel) (by decide) (by decide) (by decide) _)
            have HBk := Lib.hid (show Below U.heap.size U Wk by rw [hW_]; exact below_rowsetB (HI.out.below.trans (hbel.mono HI.out.below.size)) (Nat.le_refl _) _)
            obtain ⟨σ, hσ⟩ : ∃ σ : Nat → Value, (fun d => a_.eval (.tmp d)) = σ := ⟨_, rfl⟩
            have ha := hag.lay (by simp)
            rw [hσ] at ha
            clear hσ hag hgot hK hbel hW_ f6 ho6
            subst ha
            simp only [lay, List.foldl_cons, List.foldl_nil, Act.put, List.setIfInBounds_toArray, List.set_cons_zero, List.set_cons_succ]
            obtain ⟨u53, hu53⟩ : ∃ u, σ 53 = u := ⟨_, rfl⟩
            rw [hu53]
            obtain ⟨u54, hu54⟩ : ∃ u, σ 54 = u := ⟨_, rfl⟩
            rw [hu54]
            obtain ⟨u55, hu55⟩ : ∃ u, σ 55 = u := ⟨_, rfl⟩
            rw [hu55]
            obtain ⟨u56, hu56⟩ : ∃ u, σ 56 = u := ⟨_, rfl⟩
            rw [hu56]
            obtain ⟨u57, hu57⟩ : ∃ u, σ 57 = u := ⟨_, rfl⟩
            rw [hu57]
            obtain ⟨u58, hu58⟩ : ∃ u, σ 58 = u := ⟨_, rfl⟩
            rw [hu58]
            clear hu53 hu54 hu55 hu56 hu57 hu58
            have HQk := Lib.hid (show applyB q (x.k : Int) x.zs = allB p (recsB (xs.take (j + 1))) by rw [take_rec HXj.out, ← HI.out.is_])
            clear HBx HS HC HBl HRd HTw HHw HBw HK HCp HGd HAa
            go_wp2_with fail
            go_roundw
            case rel => exact ⟨j + 1, _, by rw [wr1 (by have := HLt.out; have := HN60.out; omega)], ⟨⟨a6, XSk.out, OSk.out⟩, HQk.out, HBk.out, good_apply HI.out.good _ _, ms_apply HI.out.ms, by have := HLt.out; have := HLx.out; omega⟩⟩
            case measure => have := HLt.out; rw [wr1 (by have := HN60.out; omega)]; simp [intOf]; omega
          · have hge : decide (j < n) = false := by simp; omega
            obtain ⟨aq, hbx, hs⟩ := HI.out.box
            have hqe : q = q1 := by rw [HI.out.is_, ← HQ1.out, List.take_of_length_le (by have := HLx.out; omega)]
            subst hqe
            refine wpV (fun Y hY => ?_)
            have hY' := hY.symm
            subst hY'
            have hbU := HI.out.below
            have XSy := Lib.hid hbx
            have OSy := Lib.hid hs
            have XBy := Lib.hid (XB12.out.under hbU)
            have XAy := Lib.hid (XA12.out.under hbU)
            have OAy := Lib.hid (OA12.out.under hbU)
            have X1_y := Lib.hid (X1_12.out.under hbU)
            have O1_y := Lib.hid (O1_12.out.under hbU)
            have X2_y := Lib.hid (X2_12.out.under hbU)
            have O2_y := Lib.hid (O2_12.out.under hbU)
            clear XB12 XA12 OA12 X1_12 O1_12 X2_12 O2_12
            have HA4 := Lib.hid (bownB_any p a Y.heap.size Y (HP.out.rd.up HBw.out) (Nat.le_refl _) HMs.out HIt.out HKp.out)
            clear hlt hbx hs hbU HI hY
            go_wp2_with (refine wpList_loadB (by rfl) _ rfl w.heap.size p a (by rfl) XBy.out ?_)
            refine HA4.out.mono ?_
            rintro e W15 ⟨a15, rfl, ho15, hb15⟩
            have HO := Lib.hid ho15
            have HBy := Lib.hid hb15
            clear ho15 hb15 HA4
            go_upto_region 12 with (refine wpList_storeB rfl _ _ rfl W15.heap.size p a15 _ (by rfl) (by rfl) (by rfl) (Whole.new _ _ _) ?_; intro W16 hW16)
            simp only [Act.put]
            obtain ⟨x16, o16, b16⟩ := newbox hW16 HO.out
            have HB16 := Lib.hid (HBy.out.trans (b16.mono HBy.out.size))
            have XO := Lib.hid x16
            have HR16 := Lib.hid (fun h => kps_block o16.kps h)
            obtain ⟨nk, hnk⟩ : ∃ nk, p.kps.length = nk := ⟨_, rfl⟩
            have HNk := Lib.hid hnk
            rw [hnk] at HR16
            clear hW16 x16 o16 b16 HO HBy hnk hge
            go_wp2_with fail
            go_loopw [13] (fun v wy => ∃ i : Nat, v = .int .i64 (i : Int) ∧ Below Y.heap.size Y wy ∧ Whole wy W15.heap.size 30 (brC p a15) ∧ (0 < nk → ∃ g cur, a15.B = some ⟨g, 0, none⟩ ∧ Y.heap.size ≤ g ∧ Whole wy g 47 cur ∧ nk * 8 ≤ cur.size)) (fun v _ => nk - (intOf v).toNat)
            case atStart => exact ⟨0, rfl, HB16.out, XO.out, HR16.out⟩
            case round =>
              obtain ⟨i, rfl, hbk, hxo, hrow⟩ := hrel
              have HBk := Lib.hid hbk
              have XOk := Lib.hid hxo
              have HRk := Lib.hid hrow
              clear hbk hrow HB16 XO HR16
              by_cases hi : i < nk
              · obtain ⟨g, cur, hg, hlg, hwg, hcs⟩ := HRk.out (by omega)
                have c19 : wr.cell? ⟨W15.heap.size, 19, none⟩ = some (.slice (some ⟨g, 0, none⟩) nk a15.d) := by rw [← hg, ← HNk.out]; exact hxo.cell 19
                have HWg := Lib.hid hwg
                have HCs := Lib.hid hcs
                have HLg := Lib.hid hlg
                have HGe := Lib.hid hg
                obtain ⟨u8, hu8⟩ : ∃ u, wr.cell? ⟨g, i * 8, none⟩ = some u := ⟨cur[i * 8]'(by omega), by rw [hwg.cell, Array.getElem?_eq_getElem (by omega)]⟩
                have f8 := hwg.frozen (i * 8)
                have hI2 : (i : Int) < (nk : Int) := by omega
                have HIl := Lib.hid hi
                clear hxo hg hlg hwg hcs hi
                go_wp2_with fail
                go_roundw
                case rel =>
                  refine ⟨i + 1, by rw [wr1 (by have := HIl.out; have := HNk.out; have := HKp.out; omega)], HBk.out.setCell (p := ⟨g, i * 8, none⟩) HLg.out _, XOk.out.far (p := ⟨g, i * 8, none⟩) (whole_ne XOk.out HWg.out (by decide)) _, fun _ => ⟨g, cur.setIfInBounds (i * 8) (.int .i64 (-5)), HGe.out, HLg.out, HWg.out.set (i * 8) _, by rw [Array.size_setIfInBounds]; exact HCs.out⟩⟩
                case measure => have := HIl.out; rw [wr1 (by have := HNk.out; have := HKp.out; omega)]; simp [intOf]; omega
              · have di : decide (i < nk) = false := by simp; omega
                have c19 : wr.cell? ⟨W15.heap.size, 19, none⟩ = some (.slice a15.B nk a15.d) := by rw [← HNk.out]; exact hxo.cell 19
                clear hxo hi
                go_upto_region 16 with fail
                clear c19 di
                have hbk := HBk.out
                have HBz := Lib.hid (HBw.out.trans (hbk.mono HBw.out.size))
                have XBk := Lib.hid (XBy.out.under hbk)
                have XAk := Lib.hid (XAy.out.under hbk)
                have OAk := Lib.hid (OAy.out.under hbk)
                have X1_k := Lib.hid (X1_y.out.under hbk)
                have O1_k := Lib.hid (O1_y.out.under hbk)
                have X2_k := Lib.hid (X2_y.out.under hbk)
                have O2_k := Lib.hid (O2_y.out.under hbk)
                have XSk := Lib.hid (XSy.out.under hbk)
                have OSk := Lib.hid (OSy.out.under hbk)
                clear XBy XAy OAy X1_y O1_y X2_y O2_y XSy OSy
                have HRdk := Lib.hid (HP.out.rd.up HBz.out)
                have HXk := Lib.hid ((HX.out.below HBz.out).more HBz.out.size)
                have HTk := Lib.hid (show Tab wr from HT.out.under HBz.out)
                have HHk := Lib.hid (show TabH wr from HH.out.under HBz.out)
                clear hbk HRk XOk HBk
                have HL : Hid (∀ V', Below wr.heap.size wr V' → Whole V' b8 30 (brC q2 a8) ∧ Whole V' W10.heap.size 30 (brC q2 a10) ∧ Whole V' U.heap.size 30 (brC q aq) ∧ Whole V' w.heap.size 30 (brC p a) ∧ Whole V' W5.heap.size 30 (brC p a5)) := Lib.hid (fun V' hV => ⟨X1_k.out.under hV, X2_k.out.under hV, XSk.out.under hV, XBk.out.under hV, XAk.out.under hV⟩)
                have HBd := Lib.hid (show Below wr.heap.size wr wr.drew from below_drewB (Below.refl _ _) 1)
                refine wp_region_T (ls := []) (T := (fun V' => Below wr.heap.size wr V')) (by kernel_rfl) ?_
                refine takeT (i := 0) (v := brV q2 a8) rfl (by kernel_rfl) (by kernel_rfl) (by kernel_rfl) (by kernel_rfl) (fun _ _ _ h => h) (by rfl) ?_ HBd.out ?_
                · intro V' hV; obtain ⟨y0, y1, y2, y3, y4⟩ := HL.out V' hV; exact exec_load_brain rfl y0
                simp only [Act.put, List.setIfInBounds_toArray, List.set_cons_zero, List.set_cons_succ]
                refine takeT (i := 1) (v := brV q2 a10) rfl (by kernel_rfl) (by kernel_rfl) (by kernel_rfl) (by kernel_rfl) (fun _ _ _ h => h) (by rfl) ?_ HBd.out ?_
                · intro V' hV; obtain ⟨y0, y1, y2, y3, y4⟩ := HL.out V' hV; exact exec_load_brain rfl y1
                simp only [Act.put, List.setIfInBounds_toArray, List.set_cons_zero, List.set_cons_succ]
                refine oneT (i := 2) rfl (by kernel_rfl) (by rfl) (fun K hK => ?_)
                go_simp
                refine (smO (O1_k.out.under HBd.out).reads (O2_k.out.under HBd.out).reads HMq2.out (by have := HGq2.out.len; omega) (by have := HGq2.out.len; omega) (sameB_refl q2)).mono ?_
                rintro e wr_1 ⟨rfl, hb_⟩
                have HB_1 := Lib.hid (show Below wr.heap.size wr wr_1 from HBd.out.trans (hb_.mono HBd.out.size))
                clear hb_ HBd
                refine hK.out _ _ (fun _ => HB_1.out) ?_
                clear hK K
                refine takeP (i := 3) (v := ?_) rfl (by kernel_rfl) (by kernel_rfl) (by kernel_rfl) (by kernel_rfl) (fun _ _ _ h => h) (by rfl) ?_ (fun _ => HB_1.out) ?_
                rotate_left
                · intro V'; go_simp <;> with_reducible rfl
                simp only [Act.put, List.setIfInBounds_toArray, List.set_cons_zero, List.set_cons_succ]
                refine takeT (i := 4) (v := brV q aq) rfl (by kernel_rfl) (by kernel_rfl) (by kernel_rfl) (by kernel_rfl) (fun _ _ _ h => h) (by rfl) ?_ HB_1.out ?_
                · intro V' hV; obtain ⟨y0, y1, y2, y3, y4⟩ := HL.out V' hV; exact exec_load_brain rfl y2
                simp only [Act.put, List.setIfInBounds_toArray, List.set_cons_zero, List.set_cons_succ]
                refine takeT (i := 5) (v := brV p a) rfl (by kernel_rfl) (by kernel_rfl) (by kernel_rfl) (by kernel_rfl) (fun _ _ _ h => h) (by rfl) ?_ HB_1.out ?_
                · intro V' hV; obtain ⟨y0, y1, y2, y3, y4⟩ := HL.out V' hV; exact exec_load_brain rfl y3
                simp only [Act.put, List.setIfInBounds_toArray, List.set_cons_zero, List.set_cons_succ]
                refine takeP (i := 6) (v := ?_) rfl (by kernel_rfl) (by kernel_rfl) (by kernel_rfl) (by kernel_rfl) (fun _ _ _ h => h) (by rfl) ?_ (fun _ => HB_1.out) ?_
                rotate_left
                · intro V'; go_simp <;> with_reducible rfl
                simp only [Act.put, List.setIfInBounds_toArray, List.set_cons_zero, List.set_cons_succ]
                refine oneT (i := 7) rfl (by kernel_rfl) (by rfl) (fun K hK => ?_)
                go_simp
                refine (allO (c := c) (HRdk.out.up HB_1.out) ((HXk.out.below HB_1.out).more HB_1.out.size) HCx.out (by have := HN60.out; omega) HMs.out HG400.out (HTk.out.under HB_1.out) (HHk.out.under HB_1.out) HQ1.out).mono ?_
                rintro e wr_2 ⟨a_, rfl, ho_, hb_⟩
                have HB_2 := Lib.hid (show Below wr.heap.size wr wr_2 from HB_1.out.trans (hb_.mono HB_1.out.size))
                clear hb_ HB_1
                have HO_ := Lib.hid ho_
                clear ho_
                refine hK.out _ _ (fun _ => HB_2.out) ?_
                clear hK K
                refine oneT (i := 8) rfl (by kernel_rfl) (by rfl) (fun K hK => ?_)
                go_simp
                refine (smO (OSk.out.under HB_2.out).reads HO_.out.reads HMq1.out (by have := HGq1.out.len; omega) (by have := HGq1.out.len; omega) (sameB_refl _)).mono ?_
                rintro e wr_3 ⟨rfl, hb_⟩
                have HB_3 := Lib.hid (show Below wr.heap.size wr wr_3 from HB_2.out.trans (hb_.mono HB_2.out.size))
                clear hb_ HB_2
                refine hK.out _ _ (fun _ => HB_3.out) ?_
                clear hK K
                refine takeP (i := 9) (v := ?_) rfl (by kernel_rfl) (by kernel_rfl) (by kernel_rfl) (by kernel_rfl) (fun _ _ _ h => h) (by rfl) ?_ (fun _ => HB_3.out) ?_
                rotate_left
                · intro V'; go_simp <;> with_reducible rfl
                simp only [Act.put, List.setIfInBounds_toArray, List.set_cons_zero, List.set_cons_succ]
                refine takeP (i := 10) (v := ?_) rfl (by kernel_rfl) (by kernel_rfl) (by kernel_rfl) (by kernel_rfl) (fun _ _ _ h => h) (by rfl) ?_ (fun _ => HB_3.out) ?_
                rotate_left
                · intro V'; go_simp <;> with_reducible rfl
                simp only [Act.put, List.setIfInBounds_toArray, List.set_cons_zero, List.set_cons_succ]
                refine takeT (i := 11) (v := brV p a) rfl (by kernel_rfl) (by kernel_rfl) (by kernel_rfl) (by kernel_rfl) (fun _ _ _ h => h) (by rfl) ?_ HB_3.out ?_
                · intro V' hV; obtain ⟨y0, y1, y2, y3, y4⟩ := HL.out V' hV; exact exec_load_brain rfl y3
                simp only [Act.put, List.setIfInBounds_toArray, List.set_cons_zero, List.set_cons_succ]
                refine takeT (i := 12) (v := brV p a5) rfl (by kernel_rfl) (by kernel_rfl) (by kernel_rfl) (by kernel_rfl) (fun _ _ _ h => h) (by rfl) ?_ HB_3.out ?_
                · intro V' hV; obtain ⟨y0, y1, y2, y3, y4⟩ := HL.out V' hV; exact exec_load_brain rfl y4
                simp only [Act.put, List.setIfInBounds_toArray, List.set_cons_zero, List.set_cons_succ]
                refine oneT (i := 13) rfl (by kernel_rfl) (by rfl) (fun K hK => ?_)
                go_simp
                refine (smO (HRdk.out.up HB_3.out) (OAk.out.under HB_3.out).reads HMs.out HIt.out HKp.out (sameB_refl p)).mono ?_
                rintro e wr_4 ⟨rfl, hb_⟩
                have HB_4 := Lib.hid (show Below wr.heap.size wr wr_4 from HB_3.out.trans (hb_.mono HB_3.out.size))
                clear hb_ HB_3
                refine hK.out _ _ (fun _ => HB_4.out) ?_
                clear hK K
                refine takeP (i := 14) (v := ?_) rfl (by kernel_rfl) (by kernel_rfl) (by kernel_rfl) (by kernel_rfl) (fun _ _ _ h => h) (by rfl) ?_ (fun _ => HB_4.out) ?_
                rotate_left
                · intro V'; go_simp <;> with_reducible rfl
                simp only [Act.put, List.setIfInBounds_toArray, List.set_cons_zero, List.set_cons_succ]
                refine takeP (i := 15) (v := ?_) rfl (by kernel_rfl) (by kernel_rfl) (by kernel_rfl) (by kernel_rfl) (fun _ _ _ h => h) (by rfl) ?_ (fun _ => HB_4.out) ?_
                rotate_left
                · intro V'; go_simp <;> with_reducible rfl
                simp only [Act.put, List.setIfInBounds_toArray, List.set_cons_zero, List.set_cons_succ]
                refine oneT (i := 16) rfl (by kernel_rfl) (by rfl) (fun K hK => ?_)
                go_simp
                refine ((HW _ (HBz.out.trans (HB_4.out.mono HBz.out.size))).out).mono ?_
                rintro e wr_5 ⟨rfl, hb_⟩
                have HB_5 := Lib.hid (show Below wr.heap.size wr wr_5 from HB_4.out.trans (hb_.mono HB_4.out.size))
                clear hb_ HB_4
                refine hK.out _ _ (fun _ => HB_5.out) ?_
                clear hK K
                refine takeP (i := 17) (v := ?_) rfl (by kernel_rfl) (by kernel_rfl) (by kernel_rfl) (by kernel_rfl) (fun _ _ _ h => h) (by rfl) ?_ (fun _ => HB_5.out) ?_
                rotate_left
                · intro V'; go_simp <;> with_reducible rfl
                simp only [Act.put, List.setIfInBounds_toArray, List.set_cons_zero, List.set_cons_succ]
                refine takeP (i := 18) (v := ?_) rfl (by kernel_rfl) (by kernel_rfl) (by kernel_rfl) (by kernel_rfl) (fun _ _ _ h => h) (by rfl) ?_ (fun _ => HB_5.out) ?_
                rotate_left
                · intro V'; go_simp <;> with_reducible rfl
                simp only [Act.put, List.setIfInBounds_toArray, List.set_cons_zero, List.set_cons_succ]
                refine doneT (by kernel_rfl) ?_ _
                have HBl := Lib.hid (HBz.out.trans (HB_5.out.mono HBz.out.size))
                clear HL HB_5 HO_ HW
                go_wp2_with fail
                go_ret
                exact ⟨rfl, HBl.out⟩

end Go.Proofs.YtdaimejlcfhfiaaGreatDoor
