/-
  Texts that the walk of a statement over brains leans on, joined (BrRAll, BrGreat2, RegStayT, BrEqual, BrSame). Conditions: those that each theorem names.
-/
import Derived.Test.YtdaimejlcfhfiaaGreatDoorKQ
import Derived.Test.YtdaimejlcfhfiaaGreatDoorK6
import Derived.Test.YtdaimejlcfhfiaaGreatDoorK20
import Derived.Test.YtdaimejlcfhfiaaGreatDoorK27
import Derived.Deep.MidRow
import Derived.Deep.DeepCutAuto
set_option maxRecDepth 100000

namespace Go.Proofs.YtdaimejlcfhfiaaGreatDoor
open Go.RowKit Go.Shelf

set_option maxHeartbeats 2000000 in
theorem opB_rapply {K : Act → World → Prop} {Q : Exit → Act → World → Prop} {a : Act} {w : World} {d : Tmp} {t : TypeId} {pos : String} {after : Array Edge} {x y : Operand} {z : RE} {p : Br} (hx : BrR p (a.eval x) w) (hy : a.eval y = .agg #[.int .u8 (z.k : Int), .slice z.A z.n z.c]) (hz : ReOk w z) (hzn : z.n ≤ 1000) (hm : p.cf.ms.length ≤ 1000) (hg : Good 800 p)
    (h : ∀ v w', Below w.heap.size w w' → BrIs (applyB p (z.k : Int) z.zs) v w' → K (a.put (some d) v) w') :
    ({ dst := some d, op := .call { callee := .value (.func 13), args := #[x, y], argTypes := #[30, 32] }, type := t, pos := pos, after := after, guard := none } : Oper).wp Tryz.prog a w K Q := by
  obtain ⟨ad, e1, hr⟩ := hx
  have hf : a.eval (.func 13) = .func (.func 13) #[] #[] := rfl
  have HA := Lib.hid (rapply_any p ad z w hr hz hzn hm hg)
  clear hr hz hzn hm hg
  unfold Oper.wp execOp
  simp only [resolve, List.map_toArray, List.map_cons, List.map_nil, e1, hy, hf]
  go_simp
  refine HA.out.mono ?_
  rintro e w' ⟨a', rfl, ho, hb⟩
  exact h _ _ hb ⟨a', rfl, ho.weaker (Nat.zero_le _)⟩
/-- What comes of a call that tells a brain of one's own. -/
def AlO (q : Br) (w : World) (e : Ending) (w' : World) : Prop := ∃ a, e = .returned (brV q a) ∧ OwB 0 w' q a ∧ Below w.heap.size w w'
/-- What holds ahead of each record. -/
structure RaAt (w : World) (p : Br) (xs : List RE) (j : Nat) (q : Br) (W : World) : Prop where
  box : ∃ a, Whole W w.heap.size 30 (brC q a) ∧ OwB 0 W q a
  res : Whole W (w.heap.size + 1) 30 (brC br0 ad0)
  is_ : q = allB p (recsB (xs.take j))
  below : Below w.heap.size w W
  good : Good (80 + j) q
  ms : q.cf.ms.length ≤ 1000
  le : j ≤ xs.length
theorem take_recR {p : Br} {xs : List RE} {j : Nat} {x : RE} (h : xs[j]? = some x) : allB p (recsB (xs.take (j + 1))) = applyB (allB p (recsB (xs.take j))) (x.k : Int) x.zs := by
  obtain ⟨hj, rfl⟩ := List.getElem?_eq_some_iff.1 h
  rw [List.take_succ_eq_append_getElem hj, recs_snoc]

set_option maxHeartbeats 8000000 in
theorem rall_any (p : Br) (a : Ad) (A : Option Addr) (n c : Nat) (xs : List RE) (w : World) (hr : RdB_ w w.heap.size p a) (hx : RdR w w.heap.size A n xs) (hcx : ∀ x ∈ xs, x.n ≤ x.c ∧ x.c ≤ maxLen) (h60 : xs.length ≤ 60) (h40 : ∀ x ∈ xs, x.n ≤ 40) (hm : p.cf.ms.length ≤ 1000) (hg : Good 80 p) :
    Calls Tryz.prog 15 #[brV p a, .slice A n c] w (AlO (allB p (recsB xs)) w) := by
  obtain ⟨hb0, w0, w1⟩ := two_new w 30 30 (brC p a) (brC br0 ad0)
  obtain ⟨V, hV⟩ : ∃ V, (w.alloc (.cells (brC p a) 30)).alloc (.cells (brC br0 ad0) 30) = V := ⟨_, rfl⟩
  rw [hV] at hb0 w0 w1
  have HV := Lib.hid hV
  have hlen := hg.len
  have HOw := Lib.hid (rownB_any p a V.heap.size V (hr.up hb0) (Nat.le_refl _) hm (by omega) (by omega))
  have X0 := Lib.hid w0
  have X1 := Lib.hid w1
  have HB := Lib.hid hb0
  have HX := Lib.hid hx
  have HCx := Lib.hid hcx
  have H40 := Lib.hid h40
  have HGd0 := Lib.hid hg
  have HMs := Lib.hid hm
  have HLx := Lib.hid (show xs.length = n from hx.1)
  have HN60 := Lib.hid (show n ≤ 60 by rw [← HLx.out]; exact h60)
  obtain ⟨qe, hqe0⟩ : ∃ qe, allB p (recsB xs) = qe := ⟨_, rfl⟩
  rw [hqe0]
  have HQe := Lib.hid hqe0
  clear hV hb0 w0 w1 hr hx hcx h60 h40 hm hg hlen hqe0
  go_enter Tryz.func15, Tryz.ntmps15
  go_upto_region 1 with fail
  refine wpV (fun V2 hV2 => ?_)
  obtain rfl : V = V2 := HV.out.symm.trans hV2
  clear HV hV2
  go_wp2_with (refine wpList_loadB (by rfl) _ rfl w.heap.size p a (by rfl) X0.out ?_)
  refine HOw.out.mono ?_
  rintro e W1 ⟨a1, rfl, ho, hb⟩
  have HO1 := Lib.hid ho
  have X01 := Lib.hid (X0.out.under hb)
  have X11 := Lib.hid (X1.out.under hb)
  have HB1 := Lib.hid (HB.out.trans (hb.mono HB.out.size))
  clear ho hb HOw X0 X1 HB
  go_upto_region 2 with (refine wpList_storeB rfl _ _ rfl w.heap.size p a1 _ (by rfl) (by rfl) (by rfl) X01.out ?_; intro W2 hW2)
  simp only [Act.put]
  have HI0 := Lib.hid (show RaAt w p xs 0 p W2 by
    rw [hW2]
    exact ⟨⟨a1, setRow_heap _ _ _ _ _ _ X01.out, (HO1.out.weaker (Nat.zero_le _)).rowset X01.out (by decide) (by decide) (by decide) _⟩, (setRow_other W1 _ _ _ (by omega)).trans X11.out, rfl, below_rowsetB HB1.out (Nat.le_refl _) _, HGd0.out, HMs.out, Nat.zero_le _⟩)
  clear hW2 X01 X11 HO1 HB1
  go_wp2_with fail
  go_loopw [5] (fun v wr => ∃ (j : Nat) (q : Br), v = .int .i64 (j : Int) ∧ RaAt w p xs j q wr) (fun v _ => n - (intOf v).toNat)
  case atStart => exact ⟨0, p, rfl, HI0.out⟩
  case round =>
    clear HI0
    obtain ⟨j, q, rfl, hI⟩ := hrel
    have HI := Lib.hid hI
    have HBw := Lib.hid hI.below
    clear hI
    by_cases hlt : j < n
    · have HLt := Lib.hid hlt
      have hd1 : decide (j < n) = true := by simp; omega
      obtain ⟨aq, hbx, hs⟩ := HI.out.box
      have HBx := Lib.hid hbx
      have HS := Lib.hid hs
      obtain ⟨x, hx⟩ : ∃ x, xs[j]? = some x := ⟨_, List.getElem?_eq_getElem (by have := HLx.out; omega)⟩
      have HXj := Lib.hid hx
      obtain ⟨b, off, hA, hb, hc⟩ := HX.out.2.1 (by omega)
      have hmx := List.mem_of_getElem? hx
      have HC := Lib.hid (show wr.cell? ⟨b, off + j * 2, none⟩ = some (.int .u8 (x.k : Int)) ∧ wr.cell? ⟨b, off + j * 2 + 1, none⟩ = some (.slice x.A x.n x.c) from ⟨(HBw.out.cell (p := ⟨b, off + j * 2, none⟩) hb).trans (hc j x hx).1, (HBw.out.cell (p := ⟨b, off + j * 2 + 1, none⟩) hb).trans (hc j x hx).2⟩)
      have HBl := Lib.hid (show b < wr.heap.size from Nat.lt_of_lt_of_le hb HBw.out.size)
      have HRd := Lib.hid (show Rd wr wr.heap.size x.A x.n (iv x.zs) from ((HX.out.2.2 x hmx).2.below HBw.out).more HBw.out.size)
      have HK := Lib.hid (HX.out.2.2 x hmx).1
      have HCp := Lib.hid (HCx.out x hmx)
      have HGd := Lib.hid (good_mono HI.out.good (show 80 + j ≤ 800 by have := HN60.out; have := HLt.out; omega))
      have HZn := Lib.hid (show x.n ≤ 1000 by have := H40.out x hmx; omega)
      have HAa := Lib.hid hA
      clear hlt hbx hs hx hb hc hmx hA
      go_upto_region 5 with fail
      refine region_grow (by kernel_rfl) (by kernel_rfl) 6 [14, 15, 16, 17, 18, 19] (by kernel_rfl) (by simp)
        (fun i v w => match i with | 0 => BrR q v w | 1 => v = .slice (some ⟨b, off, none⟩) n c | 2 => v = .int .i64 (j : Int) | 3 => v = .pointer (some ⟨b, off + j * 2, none⟩) | 4 => v = .agg #[.int .u8 (x.k : Int), .slice x.A x.n x.c] | 5 => BrIs (applyB q (x.k : Int) x.zs) v w | _ => True) ?_ ?_ ?_
      · intro i v w w' hb h
        match i, h with
        | 0, h => exact BrR.under hb h
        | 1, h => exact h
        | 2, h => exact h
        | 3, h => exact h
        | 4, h => exact h
        | 5, h => exact BrIs.under hb h
        | n + 6, h => trivial
      · intro i o d a w_ hi ho hd hag hbel hgot K hK
        rcases (by omega : i = 0 ∨ i = 1 ∨ i = 2 ∨ i = 3 ∨ i = 4 ∨ i = 5) with rfl | rfl | rfl | rfl | rfl | rfl
        all_goals
          simp only [List.getElem?_toArray, List.getElem?_cons_zero, List.getElem?_cons_succ, Option.some.injEq] at ho
          subst ho
          injection hd with hd
          subst hd
        · exact opB_load (hag.eval (t := 2) (by decide)) (HBx.out.under hbel) (hK _ _ (Below.refl _ _) ⟨aq, rfl, (HS.out.under hbel).reads⟩)
        · exact opB_move ((hag.eval (t := 1) (by decide)).trans (by rw [← HAa.out]; rfl)) (hK _ _ (Below.refl _ _) rfl)
        · exact opB_move (hag.eval (t := 5) (by decide)) (hK _ _ (Below.refl _ _) rfl)
        · exact opB_recAt (hgot 1 15 (by kernel_rfl) rfl) (hgot 2 16 (by kernel_rfl) rfl) HLt.out (hK _ _ (Below.refl _ _) rfl)
        · exact opB_loadRec (hgot 3 17 (by kernel_rfl) rfl) ((hbel.cell (p := ⟨b, off + j * 2, none⟩) HBl.out).trans HC.out.1) ((hbel.cell (p := ⟨b, off + j * 2 + 1, none⟩) HBl.out).trans HC.out.2) (hK _ _ (Below.refl _ _) rfl)
        · exact opB_rapply (z := x) (hgot 0 14 (by kernel_rfl) rfl) (hgot 4 18 (by kernel_rfl) rfl) ⟨HK.out, (HRd.out.below hbel).more hbel.size, HCp.out⟩ HZn.out HI.out.ms HGd.out hK
      intro o a_ w1_ ho hag hbel hgot K hK
      simp only [List.getElem?_toArray, List.getElem?_cons_zero, List.getElem?_cons_succ, Option.some.injEq] at ho
      subst ho
      obtain ⟨a6, f6, ho6⟩ := hgot 5 19 (by decide) rfl
      refine wp_storeB _ _ rfl w.heap.size (applyB q (x.k : Int) x.zs) a6 _ (by rfl) (hag.eval (t := 2) (by decide)) f6 (HBx.out.under hbel) (fun Wk hW_ => hK _ _ ?_)
      have HN := Lib.hid (show RaAt w p xs (j + 1) (applyB q (x.k : Int) x.zs) Wk by
        rw [hW_]
        exact ⟨⟨a6, setRow_heap _ _ _ _ _ _ (HBx.out.under hbel), ho6.rowset (HBx.out.under hbel) (by decide) (by decide) (by decide) _⟩, (setRow_other w1_ _ _ _ (by omega)).trans (HI.out.res.under hbel), by rw [take_recR HXj.out, ← HI.out.is_], below_rowsetB (HI.out.below.trans (hbel.mono HI.out.below.size)) (Nat.le_refl _) _, good_apply HI.out.good _ _, ms_apply HI.out.ms, by have := HLt.out; have := HLx.out; omega⟩)
      obtain ⟨σ, hσ⟩ : ∃ σ : Nat → Value, (fun d => a_.eval (.tmp d)) = σ := ⟨_, rfl⟩
      have ha := hag.lay (by simp)
      rw [hσ] at ha
      clear hσ hag hgot hK hbel hW_ f6 ho6
      subst ha
      simp only [lay, List.foldl_cons, List.foldl_nil, Act.put, List.setIfInBounds_toArray, List.set_cons_zero, List.set_cons_succ]
      obtain ⟨u14, hu14⟩ : ∃ u, σ 14 = u := ⟨_, rfl⟩
      rw [hu14]
      obtain ⟨u15, hu15⟩ : ∃ u, σ 15 = u := ⟨_, rfl⟩
      rw [hu15]
      obtain ⟨u16, hu16⟩ : ∃ u, σ 16 = u := ⟨_, rfl⟩
      rw [hu16]
      obtain ⟨u17, hu17⟩ : ∃ u, σ 17 = u := ⟨_, rfl⟩
      rw [hu17]
      obtain ⟨u18, hu18⟩ : ∃ u, σ 18 = u := ⟨_, rfl⟩
      rw [hu18]
      obtain ⟨u19, hu19⟩ : ∃ u, σ 19 = u := ⟨_, rfl⟩
      rw [hu19]
      clear hu14 hu15 hu16 hu17 hu18 hu19
      clear HBx HS HC HBl HRd HBw HK HCp HGd HAa HZn HI
      go_wp2_with fail
      go_roundw
      case rel => exact ⟨j + 1, _, by rw [wr1 (by have := HLt.out; have := HN60.out; omega)], HN.out⟩
      case measure => have := HLt.out; rw [wr1 (by have := HN60.out; omega)]; simp [intOf]; omega
    · have hge : decide (j < n) = false := by simp; omega
      obtain ⟨aq, hbx, hs⟩ := HI.out.box
      have hqe : qe = q := by rw [← HQe.out, HI.out.is_, List.take_of_length_le (by have := HLx.out; omega)]
      subst hqe
      have HBx := Lib.hid hbx
      have HS := Lib.hid hs
      have HRs := Lib.hid HI.out.res
      clear hbx hs hlt
      go_upto_region 6 with fail
      go_wp2_with (first | (refine wpList_loadB (by rfl) _ rfl w.heap.size qe aq (by rfl) HBx.out ?_) | (refine wpList_storeB rfl _ _ rfl (w.heap.size + 1) qe aq _ (by rfl) (by rfl) (by rfl) HRs.out ?_; intro W9 hW9))
      subst hW9
      exact brain_end (k := 4) rfl (by rfl) (setRow_heap _ _ _ _ _ _ HRs.out) rfl ⟨_, rfl, HS.out.rowset HRs.out (by decide) (by decide) (by decide) _, below_rowsetB HBw.out (by omega) _⟩

end Go.Proofs.YtdaimejlcfhfiaaGreatDoor

namespace Go.Proofs.YtdaimejlcfhfiaaGreatDoor
open Go.RowKit Go.Shelf

theorem two_ranges {w : World} {bb : Nat} {p o : Br} {a b : Ad} (h : Whole w bb 30 ((brC p a).toList ++ (brC o b).toList).toArray) : w.rangeAt bb 0 (brC p a).toList ∧ w.rangeAt bb 27 (brC o b).toList := by
  have hl : (brC p a).toList.length = 27 := rfl
  refine ⟨fun j v hv => ?_, fun j v hv => ?_⟩
  · have hj : j < 27 := by rw [← hl]; exact (List.getElem?_eq_some_iff.1 hv).1
    rw [Nat.zero_add, h.cell j, List.getElem?_toArray, List.getElem?_append_left (by rw [hl]; exact hj)]
    exact hv
  · rw [h.cell (27 + j), List.getElem?_toArray, List.getElem?_append_right (by rw [hl]; omega), hl, show 27 + j - 27 = j by omega]
    exact hv
set_option maxHeartbeats 4000000 in
theorem great2_any (A : Option Addr) (n c : Nat) (xs : List RE) (Z : Nat) (p o : Br) (a b : Ad) (bb : Nat) (w : World) (hx : RdR w Z A n xs) (hZ : Z ≤ w.heap.size) (hb : Whole w bb 30 ((brC p a).toList ++ (brC o b).toList).toArray) : Calls Tryz.prog 9 #[.slice A n c, .slice (some ⟨bb, 0, none⟩) 2 2] w (BoolPost ((gB p || gB o) || gR xs) w) := by
  have hl := hx.1
  have HX0 := Lib.hid hx
  have HG := Lib.hid (greatB_any p a w)
  have HR0 := Lib.hid (two_ranges hb).1
  have HBB := Lib.hid hb
  have HZ := Lib.hid hZ
  cases hg : gB p with
  | true =>
    rw [hg] at HG
    clear hx hb hg hZ
    go_enter Tryz.func9, Tryz.ntmps9
    go_wp2_with fail
    refine wp_loop_rounds 3 ?_
    rw [rounds_succ]
    go_wp2_with (refine wpList_load_mid (by rfl) 30 _ (by rfl) bb 0 (by rfl) (brC p a).toList _ HR0.out Tryz.underlying30 rfl (by kernel_rfl) ?_)
    refine HG.out.mono ?_
    rintro e V ⟨rfl, hb1⟩
    have HB := Lib.hid hb1
    clear hb1 HG
    go_wp2_with fail
    go_ret
    exact ⟨by simp, HB.out⟩
  | false =>
    rw [hg] at HG
    clear hx hb hg hZ
    cases hgo : gB o with
    | true =>
    go_enter Tryz.func9, Tryz.ntmps9
    go_wp2_with fail
    refine wp_loop_rounds 3 ?_
    rw [rounds_succ]
    go_wp2_with (refine wpList_load_mid (by rfl) 30 _ (by rfl) bb 0 (by rfl) (brC p a).toList _ HR0.out Tryz.underlying30 rfl (by kernel_rfl) ?_)
    refine HG.out.mono ?_
    rintro e V0 ⟨rfl, hb1⟩
    have HB0 := Lib.hid hb1
    have HR1 := Lib.hid (two_ranges (HBB.out.under hb1)).2
    have HG2 := Lib.hid (greatB_any o b V0)
    rw [hgo] at HG2
    clear hb1 HG hgo
    go_wp2_with fail
    rw [rounds_succ]
    go_wp2_with (refine wpList_load_mid (by rfl) 30 _ (by rfl) bb 27 (by rfl) (brC o b).toList _ HR1.out Tryz.underlying30 rfl (by kernel_rfl) ?_)
    refine HG2.out.mono ?_
    rintro e V ⟨rfl, hb1⟩
    have HB := Lib.hid (HB0.out.trans (hb1.mono HB0.out.size))
    clear hb1 HG2 HX0 HB0 HR0 HR1
    go_wp2_with fail
    go_ret
    exact ⟨by simp, HB.out⟩
    | false =>
    rw [show (((false || false) || gR xs) = gR xs) by simp]
    go_enter Tryz.func9, Tryz.ntmps9
    go_wp2_with fail
    refine wp_loop_rounds 3 ?_
    rw [rounds_succ]
    go_wp2_with (refine wpList_load_mid (by rfl) 30 _ (by rfl) bb 0 (by rfl) (brC p a).toList _ HR0.out Tryz.underlying30 rfl (by kernel_rfl) ?_)
    refine HG.out.mono ?_
    rintro e V0 ⟨rfl, hb1⟩
    have HB0 := Lib.hid hb1
    have HR1 := Lib.hid (two_ranges (HBB.out.under hb1)).2
    have HG2 := Lib.hid (greatB_any o b V0)
    rw [hgo] at HG2
    clear hb1 HG hgo
    go_wp2_with fail
    rw [rounds_succ]
    go_wp2_with (refine wpList_load_mid (by rfl) 30 _ (by rfl) bb 27 (by rfl) (brC o b).toList _ HR1.out Tryz.underlying30 rfl (by kernel_rfl) ?_)
    refine HG2.out.mono ?_
    rintro e V ⟨rfl, hb1⟩
    have HB := Lib.hid (HB0.out.trans (hb1.mono HB0.out.size))
    have HX := Lib.hid (HX0.out.below (HB.out.mono HZ.out))
    clear hb1 HG2 HX0 HB0 HR0 HR1
    go_wp2_with fail
    rw [rounds_succ]
    go_wp2_with fail
    go_loopw [6] (fun i wr => ∃ j : Nat, i = .int .i64 (j : Int) ∧ j ≤ n ∧ j ≤ 61 ∧ (∀ x ∈ xs.take j, ¬ 40 < x.n) ∧ wr = V) (fun i _ => n - (intOf i).toNat)
    case atStart => exact ⟨0, rfl, Nat.zero_le _, Nat.zero_le _, by simp, rfl⟩
    case round =>
      obtain ⟨j, rfl, hj, hj6, hno, rfl⟩ := hrel
      by_cases hin : j < n ∧ j ≤ 60
      rotate_left
      · have HE := Lib.hid (show gR xs = decide ((60 : Int) < (n : Int)) by
          rw [gR_end hno (by omega : j = xs.length ∨ j = 61), hl]
          by_cases h : 60 < n
          · rw [decide_eq_true h, decide_eq_true (by omega)]
          · rw [decide_eq_false h, decide_eq_false (by omega)])
        by_cases hjn : j < n
        · have d1 : decide (j < n) = true := by simp; omega
          have d2 : decide ((j : Int) ≤ 60) = false := by simp; omega
          clear hno hin hjn hj hj6
          go_wp2_with fail
          go_ret
          exact ⟨by rw [HE.out]; rfl, HB.out⟩
        · have d1 : decide (j < n) = false := by simp; omega
          clear hno hin hjn hj hj6
          go_wp2_with fail
          go_ret
          exact ⟨by rw [HE.out]; rfl, HB.out⟩
      · have d1 : decide (j < n) = true := by simp; omega
        have d2 : decide ((j : Int) ≤ 60) = true := by simp; omega
        have hlt : (j : Int) < (n : Int) := by omega
        obtain ⟨x, hx⟩ : ∃ x, xs[j]? = some x := ⟨_, List.getElem?_eq_getElem (by omega)⟩
        obtain ⟨b, off, rfl, hb, hc⟩ := HX.out.2.1 (by omega)
        have c1 := (hc j x hx).2
        by_cases h40 : 40 < x.n
        · have d3 : decide ((40 : Int) < (x.n : Int)) = true := by simp; omega
          have HY := Lib.hid (gR_yes hx hin.2 h40)
          clear hno hin hj hj6 hc h40 hx hb
          go_wp2_with fail
          go_ret
          exact ⟨by rw [HY.out]; rfl, HB.out⟩
        · have d3 : decide ((40 : Int) < (x.n : Int)) = false := by simp; omega
          have HNo := Lib.hid (show ∀ y ∈ xs.take (j + 1), ¬ 40 < y.n by
            intro y hy
            rw [List.take_add_one, hx, List.mem_append] at hy
            rcases hy with hy | hy
            · exact hno y hy
            · simp only [Option.toList_some, List.mem_singleton] at hy
              rw [hy]; exact h40)
          have hj61 : j < 61 := by omega
          have HIn := Lib.hid hin
          clear hno hin hj hj6 hc h40 hx hb
          go_wp2_with fail
          go_roundw
          case rel => exact ⟨j + 1, by simp, by have := HIn.out.1; omega, by have := HIn.out.2; omega, HNo.out, trivial⟩
          case measure => have := HIn.out.1; simp [intOf]; omega

end Go.Proofs.YtdaimejlcfhfiaaGreatDoor

namespace Go.Proofs.YtdaimejlcfhfiaaGreatDoor
open Go.RowKit Go.Shelf

section
variable {P : Program} {ops : Array Oper} {Q : Exit → Act → World → Prop}
/-- Each but the last one has no guard and yields into a slot of its own, one of ds; each is waited for by a later one. -/
def growOkT (ops : Array Oper) (n : Nat) (ds : List Nat) : Bool :=
  ((List.range n).all fun i => match dstAt ops i with
    | some d => ds.contains d && (List.range n).all fun j => i == j || dstAt ops j != some d
    | none => false) &&
  (((List.range (n + 1)).all fun i => match ops[i]? with
    | some o => o.guard.isNone
    | none => false) &&
  (((List.range n).all fun i => (List.range (n + 1)).any fun j => decide (i < j) && match ops[j]? with
    | some o => waits o i
    | none => false) && ops.size == n + 1))
theorem region_stayT {id : Nat} {a0 : Act} {W : World} (hm : P.follows .mixedOrders = true) (hl : lowOnly ops = true) (n : Nat) (ds : List Nat) (hk : growOkT ops n ds = true) (hds : ∀ d ∈ ds, d < a0.tmps.size)
    (R : Nat → Value → World → Prop)
    (step : ∀ i o d a w, i < n → ops[i]? = some o → o.dst = some d → Agree ds a0 a → Below W.heap.size W w → (∀ j d', waits o j = true → dstAt ops j = some d' → R j (a.eval (.tmp d')) w) → ∀ K : Act → World → Prop, (∀ v w', Stay ops n W R i w w' → R i v w' → K (a.put (some d) v) w') → o.wp P a w K Q)
    (last : ∀ o a w, ops[n]? = some o → Agree ds a0 a → Below W.heap.size W w → (∀ i d, i < n → dstAt ops i = some d → R i (a.eval (.tmp d)) w) → ∀ K : Act → World → Prop, (∀ a' w', Q .normal a' w' → K a' w') → o.wp P a w K Q) : (Code.region id ops true).wp P Q a0 W := by
  unfold growOkT at hk
  simp only [Bool.and_eq_true, List.all_eq_true, List.mem_range, beq_iff_eq] at hk
  obtain ⟨h1, h2, h3, hsz⟩ := hk
  have hd : ∀ i, i < n → ∃ d, dstAt ops i = some d ∧ d ∈ ds ∧ ∀ j, j < n → j ≠ i → dstAt ops j ≠ some d := by
    intro i hi
    have := h1 i hi
    split at this
    · rename_i d e
      simp only [Bool.and_eq_true, List.all_eq_true, List.mem_range, Bool.or_eq_true, beq_iff_eq, bne_iff_ne] at this
      refine ⟨d, e, by simpa using this.1, fun j hj hne => ?_⟩
      rcases this.2 j hj with h | h
      · exact absurd h.symm hne
      · exact h
    · cases this
  have hgd : ∀ (i : Nat) (o : Oper), ops[i]? = some o → o.guard = none := by
    intro i o ho
    have hlt := (Array.getElem?_eq_some_iff.1 ho).1
    have := h2 i (by omega)
    rw [ho] at this
    simpa using this
  obtain ⟨ol, hol⟩ : ∃ o : Oper, ops[n]? = some o := ⟨_, Array.getElem?_eq_getElem (by omega)⟩
  have anc : ∀ {L : Nat → Bool}, (∀ j oj, ops[j]? = some oj → L j = true → ∀ e ∈ oj.after, Region.binds .any e = true → L e.on = true) → (∀ e ∈ ol.after, Region.binds .any e = true → L e.on = true) → ∀ m i, n - i ≤ m → i < n → L i = true := by
    intro L hclo hall m
    induction m with
    | zero => intro i h hi; omega
    | succ m ih =>
      intro i h hi
      have h4 := h3 i hi
      rw [List.any_eq_true] at h4
      obtain ⟨j, hj, h5⟩ := h4
      rw [List.mem_range] at hj
      simp only [Bool.and_eq_true, decide_eq_true_eq] at h5
      obtain ⟨hij, h6⟩ := h5
      have hall' : ∀ oj, ops[j]? = some oj → ∀ e ∈ oj.after, Region.binds .any e = true → L e.on = true := by
        intro oj hoj
        rcases Nat.lt_or_ge j n with hjn | hjn
        · exact hclo j oj hoj (ih j (by omega) hjn)
        · have : j = n := by omega
          subst this
          rw [hol] at hoj
          cases hoj
          exact hall
      cases hoj : ops[j]? with
      | none => rw [hoj] at h6; cases h6
      | some oj =>
        rw [hoj] at h6
        unfold waits at h6
        rw [Array.any_eq_true'] at h6
        obtain ⟨e, he, h7⟩ := h6
        simp only [Bool.and_eq_true, beq_iff_eq] at h7
        have := hall' oj hoj e he h7.1
        rwa [h7.2] at this
  have run : ∀ {i : Nat} {o : Oper} {K : Act → World → Prop} {a : Act} {w : World}, ops[i]? = some o → o.wp P a w K Q → wpOp P ops Q i K a w := by
    intro i o K a w ho h
    unfold wpOp
    rw [ho]
    dsimp only
    rw [if_pos (by unfold Region.wanted; rw [hgd i o ho])]
    exact .inl h
  refine region_clo hm hl (fun L a w => (L n = true → Q .normal a w) ∧ (L n = false → Agree ds a0 a ∧ Below W.heap.size W w ∧ ∀ i d, i < n → L i = true → dstAt ops i = some d → R i (a.eval (.tmp d)) w)) ⟨fun h => (by cases h), fun _ => ⟨Agree.refl _ _, ⟨rfl, rfl, rfl, Nat.le_refl _, fun _ _ => rfl⟩, fun _ _ _ h => (by cases h)⟩⟩ ?_ (fun L a w hall h => h.1 (hall n (by omega)))
  intro i o L a w ho hi hclo hall h
  have hlt : i < n + 1 := by have := (Array.getElem?_eq_some_iff.1 ho).1; omega
  have hLn : L n = false ∨ L n = true := by cases L n <;> simp
  rcases Nat.lt_or_ge i n with hin | hin
  · have hn0 : L n = false := by
      rcases hLn with h0 | h0
      · exact h0
      · have := anc hclo (hclo n ol hol h0) n i (by omega) hin
        rw [hi] at this
        cases this
    obtain ⟨hag, hbel, hgot⟩ := h.2 hn0
    obtain ⟨d, hdi, hdm, hdne⟩ := hd i hin
    have hdo : o.dst = some d := by unfold dstAt at hdi; rw [ho] at hdi; exact hdi
    refine run ho (step i o d a w hin ho hdo hag hbel (fun j d' hw hj => ?_) _ (fun v w' hb hv => ⟨fun h0 => ?_, fun _ => ⟨hag.put hdm v, hbel.trans hb.1, fun j d' hj hLj hdj => ?_⟩⟩))
    · unfold waits at hw
      rw [Array.any_eq_true'] at hw
      obtain ⟨e, he, h5⟩ := hw
      simp only [Bool.and_eq_true, beq_iff_eq] at h5
      have h6 := hall e he h5.1
      rw [h5.2] at h6
      have h7 := lowOnly_at hl ho e he h5.1
      exact hgot j d' (by omega) h6 hj
    · replace h0 : (if n = i then true else L n) = true := h0
      rw [if_neg (by omega)] at h0
      rw [hn0] at h0; cases h0
    · by_cases hji : j = i
      · subst hji
        rw [hdi] at hdj
        cases hdj
        rw [eval_new (by rw [hag.size]; exact hds d hdm)]
        exact hv
      · replace hLj : (if j = i then true else L j) = true := hLj
        rw [if_neg hji] at hLj
        rw [eval_old (fun e => hdne j hj hji (by rw [hdj, e]))]
        refine hb.2 j _ hj hji (fun oj hoj => ?_) (hgot j d' hj hLj hdj)
        cases hwt : waits oj i with
        | false => rfl
        | true =>
          unfold waits at hwt
          rw [Array.any_eq_true'] at hwt
          obtain ⟨e, he, h5⟩ := hwt
          simp only [Bool.and_eq_true, beq_iff_eq] at h5
          have h8 := hclo j oj hoj hLj e he h5.1
          rw [h5.2, hi] at h8
          cases h8
  · have hin' : i = n := by omega
    subst hin'
    obtain ⟨hag, hbel, hgot⟩ := h.2 hi
    rw [hol] at ho
    cases ho
    refine run hol (last ol a w hol hag hbel (fun j d hj hdj => hgot j d hj ?_ hdj) _ (fun a' w' hq => ⟨fun _ => hq, fun h0 => (by simp at h0)⟩))
    exact anc hclo hall _ j (Nat.le_refl _) hj
end

end Go.Proofs.YtdaimejlcfhfiaaGreatDoor

namespace Go.Proofs.YtdaimejlcfhfiaaGreatDoor
open Go.RowKit Go.Shelf

def QYes (v : Bool) (w : World) (e : Ending) (w' : World) : Prop := e = .returned (.bool v) ∧ ∃ k, w' = w.drewN k
set_option maxHeartbeats 2000000 in
theorem equalI_any (A A' : Option Addr) (n c n' c' : Nat) (l l' : List It) (B B' : Nat) (w : World) (hr : RdI w B A n l) (hr' : RdI w B' A' n' l') (hn : n ≤ 1000) :
    Calls Tryz.prog 50 #[.slice A n c, .slice A' n' c'] w (QYes (decide (l = l')) w) := by
  have hl := hr.1
  have hl' := hr'.1
  by_cases hne : n = n'
  · subst hne
    have HR := Lib.hid hr
    have HR' := Lib.hid hr'
    have HL := Lib.hid hl
    have HL' := Lib.hid hl'
    clear hr hr' hl hl'
    go_enter Tryz.func50, Tryz.ntmps50
    go_wp2_with fail
    go_loopw [5, 13] (fun _ i wr => ∃ j : Nat, i = .int .i64 (j : Int) ∧ j ≤ n ∧ l.take j = l'.take j ∧ ∃ k, wr = w.drewN k) (fun _ i _ => n - (intOf i).toNat)
    case atStart => exact ⟨0, rfl, Nat.zero_le _, rfl, 0, rfl⟩
    case round =>
      obtain ⟨j, rfl, hj, hT, k, rfl⟩ := hrel
      have HT := Lib.hid hT
      clear hT
      by_cases hlt : j < n
      · obtain ⟨b, off, rfl, _, hc⟩ := RdI.at_ HR.out (by omega)
        obtain ⟨b', off', rfl, _, hc'⟩ := RdI.at_ HR'.out (by omega)
        obtain ⟨x, hx⟩ : ∃ x, l[j]? = some x := ⟨_, List.getElem?_eq_getElem (by rw [HL.out]; exact hlt)⟩
        obtain ⟨y, hy⟩ : ∃ y, l'[j]? = some y := ⟨_, List.getElem?_eq_getElem (by rw [HL'.out]; exact hlt)⟩
        obtain ⟨c0, c1, c2, c3⟩ := hc j x hx
        obtain ⟨d0, d1, d2, d3⟩ := hc' j y hy
        have hI : (j : Int) < (n : Int) := by omega
        have HX := Lib.hid hx
        have HY := Lib.hid hy
        clear hc hc' hx hy
        by_cases hxy : x = y
        · subst hxy
          go_wp2_with fail
          go_quiet (fail)
          go_wp2_with fail
          go_roundw
          case rel => exact ⟨j + 1, by go_num, by omega, take_growB HT.out HX.out HY.out, _, rfl⟩
          case measure => simp [intOf]; omega
        · have hq := fun W => (run_neqIt W x y).trans (by rw [decide_eq_false hxy, Bool.not_false])
          have HF := Lib.hid (show decide (l = l') = false by rw [decide_eq_false_iff_not]; rintro rfl; have h3 := HX.out; rw [HY.out] at h3; exact hxy (Option.some.inj h3).symm)
          clear hxy
          go_wp2_with fail
          go_quiet (fail)
          go_wp2_with fail
          go_ret
          exact ⟨by rw [HF.out]; rfl, _, World.drewN_drewN _ _ _⟩
      · have HF := Lib.hid (show decide (l = l') = true by
          rw [decide_eq_true_eq]
          have h1 := HT.out
          rwa [List.take_of_length_le (by have := HL.out; omega), List.take_of_length_le (by have := HL'.out; omega)] at h1)
        go_wp2_with fail
        go_ret
        exact ⟨by rw [HF.out]; rfl, _, rfl⟩
  · have HF := Lib.hid (show decide (l = l') = false by rw [decide_eq_false_iff_not]; rintro rfl; omega)
    rw [HF.out]
    have hb : ((n : Int) == (n' : Int)) = false := by rw [beq_eq_false_iff_ne]; omega
    have hb2 : ((n : Int) != (n' : Int)) = true := by simp [bne, hb]
    clear hr hr' hl hl' hne HF
    go_enter Tryz.func50, Tryz.ntmps50
    go_wp2_with fail
    go_ret
    exact ⟨rfl, 0, rfl⟩

set_option maxHeartbeats 2000000 in
theorem equalKp_any (A A' : Option Addr) (n c n' c' : Nat) (l l' : List Kp) (B B' : Nat) (w : World) (hr : RdK w B A n l) (hr' : RdK w B' A' n' l') (hn : n ≤ 1000) :
    Calls Tryz.prog 51 #[.slice A n c, .slice A' n' c'] w (QYes (decide (l = l')) w) := by
  have hl := hr.1
  have hl' := hr'.1
  by_cases hne : n = n'
  · subst hne
    have HR := Lib.hid hr
    have HR' := Lib.hid hr'
    have HL := Lib.hid hl
    have HL' := Lib.hid hl'
    clear hr hr' hl hl'
    go_enter Tryz.func51, Tryz.ntmps51
    go_wp2_with fail
    go_loopw [5, 13] (fun _ i wr => ∃ j : Nat, i = .int .i64 (j : Int) ∧ j ≤ n ∧ l.take j = l'.take j ∧ ∃ k, wr = w.drewN k) (fun _ i _ => n - (intOf i).toNat)
    case atStart => exact ⟨0, rfl, Nat.zero_le _, rfl, 0, rfl⟩
    case round =>
      obtain ⟨j, rfl, hj, hT, k, rfl⟩ := hrel
      have HT := Lib.hid hT
      clear hT
      by_cases hlt : j < n
      · obtain ⟨b, off, rfl, _, hc⟩ := RdK.at_ HR.out (by omega)
        obtain ⟨b', off', rfl, _, hc'⟩ := RdK.at_ HR'.out (by omega)
        obtain ⟨x, hx⟩ : ∃ x, l[j]? = some x := ⟨_, List.getElem?_eq_getElem (by rw [HL.out]; exact hlt)⟩
        obtain ⟨y, hy⟩ : ∃ y, l'[j]? = some y := ⟨_, List.getElem?_eq_getElem (by rw [HL'.out]; exact hlt)⟩
        obtain ⟨c0, c1, c2, c3, c4, c5, c6, c7⟩ := hc j x hx
        obtain ⟨d0, d1, d2, d3, d4, d5, d6, d7⟩ := hc' j y hy
        have hI : (j : Int) < (n : Int) := by omega
        have HX := Lib.hid hx
        have HY := Lib.hid hy
        clear hc hc' hx hy
        by_cases hxy : x = y
        · subst hxy
          go_wp2_with fail
          go_quiet (fail)
          go_wp2_with fail
          go_roundw
          case rel => exact ⟨j + 1, by go_num, by omega, take_growB HT.out HX.out HY.out, _, rfl⟩
          case measure => simp [intOf]; omega
        · have hq := fun W => (run_neqKp W x y).trans (by rw [decide_eq_false hxy, Bool.not_false])
          have HF := Lib.hid (show decide (l = l') = false by rw [decide_eq_false_iff_not]; rintro rfl; have h3 := HX.out; rw [HY.out] at h3; exact hxy (Option.some.inj h3).symm)
          clear hxy
          go_wp2_with fail
          go_quiet (fail)
          go_wp2_with fail
          go_ret
          exact ⟨by rw [HF.out]; rfl, _, World.drewN_drewN _ _ _⟩
      · have HF := Lib.hid (show decide (l = l') = true by
          rw [decide_eq_true_eq]
          have h1 := HT.out
          rwa [List.take_of_length_le (by have := HL.out; omega), List.take_of_length_le (by have := HL'.out; omega)] at h1)
        go_wp2_with fail
        go_ret
        exact ⟨by rw [HF.out]; rfl, _, rfl⟩
  · have HF := Lib.hid (show decide (l = l') = false by rw [decide_eq_false_iff_not]; rintro rfl; omega)
    rw [HF.out]
    have hb : ((n : Int) == (n' : Int)) = false := by rw [beq_eq_false_iff_ne]; omega
    have hb2 : ((n : Int) != (n' : Int)) = true := by simp [bne, hb]
    clear hr hr' hl hl' hne HF
    go_enter Tryz.func51, Tryz.ntmps51
    go_wp2_with fail
    go_ret
    exact ⟨rfl, 0, rfl⟩

end Go.Proofs.YtdaimejlcfhfiaaGreatDoor

namespace Go.Proofs.YtdaimejlcfhfiaaGreatDoor
open Go.RowKit Go.Shelf

theorem run_eqRf (w : World) (x y : Rf) : (binOp .eql 28 (.agg #[.int .u8 x.st, .int .i64 x.fr, .int .i64 x.to_, .int .i64 x.step, .bool x.paused, .int .i64 x.since, .int .i64 x.fails]) (.agg #[.int .u8 y.st, .int .i64 y.fr, .int .i64 y.to_, .int .i64 y.step, .bool y.paused, .int .i64 y.since, .int .i64 y.fails])).run Tryz.prog w = .ok (.bool (decide (x = y))) w := by
  go_simp
  by_cases h : x = y
  · subst h; simp
  · rw [decide_eq_false h]
    repeat' (first | rfl | split)
    exfalso
    apply h
    cases x
    cases y
    simp_all
set_option maxHeartbeats 8000000 in
theorem bsame_any (p q : Br) (a b : Ad) (Z Z' : Nat) (w : World) (hr : RdB_ w Z p a) (hr' : RdB_ w Z' q b) (hZ : Z ≤ w.heap.size) (hZ' : Z' ≤ w.heap.size) (hm : p.cf.ms.length ≤ 1000) (hi : p.its.length ≤ 1000) (hk : p.kps.length ≤ 1000) :
    Calls Tryz.prog 23 #[brV p a, brV q b] w (BoolPost (sameB p q) w) := by
  obtain ⟨hb, w0, w1⟩ := two_new w 30 30 (brC p a) (brC q b)
  obtain ⟨V, hV⟩ : ∃ V, (w.alloc (.cells (brC p a) 30)).alloc (.cells (brC q b) 30) = V := ⟨_, rfl⟩
  rw [hV] at hb w0 w1
  have hs := sameC_any (cfM p a) (cfM q b) Z Z' V (hr.below (hb.mono hZ)).lies (hr'.below (hb.mono hZ')).lies (Nat.le_trans hZ hb.size) (Nat.le_trans hZ' hb.size) (by simp only; omega)
  have hsc : sameC (cfM p a) (cfM q b) = sameC p.cf q.cf := rfl
  rw [hsc] at hs
  have HR := Lib.hid (hr.below (hb.mono hZ))
  have HR' := Lib.hid (hr'.below (hb.mono hZ'))
  have HB := Lib.hid hb
  have X0 := Lib.hid w0
  have X1 := Lib.hid w1
  have HV := Lib.hid hV
  obtain ⟨sc, hsv⟩ : ∃ sc, sameC p.cf q.cf = sc := ⟨_, rfl⟩
  rw [hsv] at hs
  have HS := Lib.hid hs
  obtain ⟨r, hres⟩ : ∃ r, sameB p q = r := ⟨_, rfl⟩
  rw [hres]
  unfold sameB at hres
  rw [hsv] at hres
  have HRes := Lib.hid hres
  have HZ := Lib.hid (And.intro (Nat.le_trans hZ hb.size) (Nat.le_trans hZ' hb.size))
  clear hb w0 w1 hr hr' hZ hZ' hV hs hsc hsv hres
  by_cases t0 : p.ep = q.ep
  rotate_left
  · have HF := Lib.hid (show r = false by rw [← HRes.out]; simp [t0])
    have b0 : (p.ep == q.ep) = false := by simp [t0]
    clear t0
    go_enter Tryz.func23, Tryz.ntmps23
    go_upto_region 1 with fail
    refine wpV (fun V2 hV2 => ?_)
    obtain rfl : V = V2 := HV.out.symm.trans hV2
    clear HV hV2
    obtain ⟨c0, c1, c2, c3, c4, c5, c6, c7, c8, c9, c10, c11, c12, c13, c14, c15, c16, c17, c18, c19, c20, c21, c22, c23, c24, c25, c26⟩ := cells27 X0.out
    obtain ⟨d0, d1, d2, d3, d4, d5, d6, d7, d8, d9, d10, d11, d12, d13, d14, d15, d16, d17, d18, d19, d20, d21, d22, d23, d24, d25, d26⟩ := cells27 X1.out
    go_wp2_with fail
    go_ret
    exact ⟨by rw [HF.out]; rfl, HB.out⟩
  have b0 : (p.ep == q.ep) = true := by simp [t0]
  have HT0 := Lib.hid t0
  clear t0
  by_cases t1 : p.sq = q.sq
  rotate_left
  · have HF := Lib.hid (show r = false by rw [← HRes.out]; simp [t1])
    have b1 : (p.sq == q.sq) = false := by simp [t1]
    clear t1
    go_enter Tryz.func23, Tryz.ntmps23
    go_upto_region 1 with fail
    refine wpV (fun V2 hV2 => ?_)
    obtain rfl : V = V2 := HV.out.symm.trans hV2
    clear HV hV2
    obtain ⟨c0, c1, c2, c3, c4, c5, c6, c7, c8, c9, c10, c11, c12, c13, c14, c15, c16, c17, c18, c19, c20, c21, c22, c23, c24, c25, c26⟩ := cells27 X0.out
    obtain ⟨d0, d1, d2, d3, d4, d5, d6, d7, d8, d9, d10, d11, d12, d13, d14, d15, d16, d17, d18, d19, d20, d21, d22, d23, d24, d25, d26⟩ := cells27 X1.out
    go_wp2_with fail
    go_ret
    exact ⟨by rw [HF.out]; rfl, HB.out⟩
  have b1 : (p.sq == q.sq) = true := by simp [t1]
  have HT1 := Lib.hid t1
  clear t1
  by_cases t2 : p.set = q.set
  rotate_left
  · have HF := Lib.hid (show r = false by rw [← HRes.out]; simp [t2])
    have b2 : (p.set == q.set) = false := by simp [t2]
    have b2' : decide (p.set = q.set) = false := decide_eq_false t2
    clear t2
    go_enter Tryz.func23, Tryz.ntmps23
    go_upto_region 1 with fail
    refine wpV (fun V2 hV2 => ?_)
    obtain rfl : V = V2 := HV.out.symm.trans hV2
    clear HV hV2
    obtain ⟨c0, c1, c2, c3, c4, c5, c6, c7, c8, c9, c10, c11, c12, c13, c14, c15, c16, c17, c18, c19, c20, c21, c22, c23, c24, c25, c26⟩ := cells27 X0.out
    obtain ⟨d0, d1, d2, d3, d4, d5, d6, d7, d8, d9, d10, d11, d12, d13, d14, d15, d16, d17, d18, d19, d20, d21, d22, d23, d24, d25, d26⟩ := cells27 X1.out
    go_wp2_with fail
    go_ret
    exact ⟨by rw [HF.out]; rfl, HB.out⟩
  have b2 : (p.set == q.set) = true := by simp [t2]
  have b2' : decide (p.set = q.set) = true := decide_eq_true t2
  have HT2 := Lib.hid t2
  clear t2
  by_cases t3 : p.rf = q.rf
  rotate_left
  · have HF := Lib.hid (show r = false by rw [← HRes.out]; simp [t3])
    have b3 := fun W => (run_eqRf W p.rf q.rf).trans (by rw [decide_eq_false t3])
    clear t3
    go_enter Tryz.func23, Tryz.ntmps23
    go_upto_region 1 with fail
    refine wpV (fun V2 hV2 => ?_)
    obtain rfl : V = V2 := HV.out.symm.trans hV2
    clear HV hV2
    obtain ⟨c0, c1, c2, c3, c4, c5, c6, c7, c8, c9, c10, c11, c12, c13, c14, c15, c16, c17, c18, c19, c20, c21, c22, c23, c24, c25, c26⟩ := cells27 X0.out
    obtain ⟨d0, d1, d2, d3, d4, d5, d6, d7, d8, d9, d10, d11, d12, d13, d14, d15, d16, d17, d18, d19, d20, d21, d22, d23, d24, d25, d26⟩ := cells27 X1.out
    go_wp2_with fail
    go_ret
    exact ⟨by rw [HF.out]; rfl, HB.out⟩
  have b3 := fun W => (run_eqRf W p.rf q.rf).trans (by rw [decide_eq_true t3])
  have HT3 := Lib.hid t3
  clear t3
  by_cases t4 : sc = true
  rotate_left
  · obtain rfl : sc = false := by simpa using t4
    have HF := Lib.hid (show r = false by rw [← HRes.out]; simp)
    clear t4
    go_enter Tryz.func23, Tryz.ntmps23
    go_upto_region 1 with fail
    refine wpV (fun V2 hV2 => ?_)
    obtain rfl : V = V2 := HV.out.symm.trans hV2
    clear HV hV2
    obtain ⟨c0, c1, c2, c3, c4, c5, c6, c7, c8, c9, c10, c11, c12, c13, c14, c15, c16, c17, c18, c19, c20, c21, c22, c23, c24, c25, c26⟩ := cells27 X0.out
    obtain ⟨d0, d1, d2, d3, d4, d5, d6, d7, d8, d9, d10, d11, d12, d13, d14, d15, d16, d17, d18, d19, d20, d21, d22, d23, d24, d25, d26⟩ := cells27 X1.out
    go_wp2_with fail
    refine HS.out.mono ?_
    rintro e w2 ⟨rfl, hb2⟩
    clear c0 c1 c2 c3 c4 c5 c6 c7 c8 c9 c10 c11 c12 c13 c14 c15 c16 c17 c18 c19 c20 c21 c22 c23 c24 c25 c26 d0 d1 d2 d3 d4 d5 d6 d7 d8 d9 d10 d11 d12 d13 d14 d15 d16 d17 d18 d19 d20 d21 d22 d23 d24 d25 d26
    have X0a := Lib.hid (X0.out.under hb2)
    have X1a := Lib.hid (X1.out.under hb2)
    obtain ⟨c0, c1, c2, c3, c4, c5, c6, c7, c8, c9, c10, c11, c12, c13, c14, c15, c16, c17, c18, c19, c20, c21, c22, c23, c24, c25, c26⟩ := cells27 X0a.out
    obtain ⟨d0, d1, d2, d3, d4, d5, d6, d7, d8, d9, d10, d11, d12, d13, d14, d15, d16, d17, d18, d19, d20, d21, d22, d23, d24, d25, d26⟩ := cells27 X1a.out
    have HBa := Lib.hid (HB.out.trans (hb2.mono HB.out.size))
    have HRa := Lib.hid (HR.out.below (hb2.mono HZ.out.1))
    have HRa' := Lib.hid (HR'.out.below (hb2.mono HZ.out.2))
    have HZa := Lib.hid (And.intro (Nat.le_trans HZ.out.1 hb2.size) (Nat.le_trans HZ.out.2 hb2.size))
    clear hb2 HB X0 X1 HR HR' HZ
    go_wp2_with fail
    go_ret
    exact ⟨by rw [HF.out]; rfl, HBa.out⟩
  obtain rfl : sc = true := t4
  by_cases t5 : p.its = q.its
  rotate_left
  · have HF := Lib.hid (show r = false by rw [← HRes.out]; simp [t5])
    have HE5 := Lib.hid (decide_eq_false t5)
    clear t5
    go_enter Tryz.func23, Tryz.ntmps23
    go_upto_region 1 with fail
    refine wpV (fun V2 hV2 => ?_)
    obtain rfl : V = V2 := HV.out.symm.trans hV2
    clear HV hV2
    obtain ⟨c0, c1, c2, c3, c4, c5, c6, c7, c8, c9, c10, c11, c12, c13, c14, c15, c16, c17, c18, c19, c20, c21, c22, c23, c24, c25, c26⟩ := cells27 X0.out
    obtain ⟨d0, d1, d2, d3, d4, d5, d6, d7, d8, d9, d10, d11, d12, d13, d14, d15, d16, d17, d18, d19, d20, d21, d22, d23, d24, d25, d26⟩ := cells27 X1.out
    go_wp2_with fail
    refine HS.out.mono ?_
    rintro e w2 ⟨rfl, hb2⟩
    clear c0 c1 c2 c3 c4 c5 c6 c7 c8 c9 c10 c11 c12 c13 c14 c15 c16 c17 c18 c19 c20 c21 c22 c23 c24 c25 c26 d0 d1 d2 d3 d4 d5 d6 d7 d8 d9 d10 d11 d12 d13 d14 d15 d16 d17 d18 d19 d20 d21 d22 d23 d24 d25 d26
    have X0a := Lib.hid (X0.out.under hb2)
    have X1a := Lib.hid (X1.out.under hb2)
    obtain ⟨c0, c1, c2, c3, c4, c5, c6, c7, c8, c9, c10, c11, c12, c13, c14, c15, c16, c17, c18, c19, c20, c21, c22, c23, c24, c25, c26⟩ := cells27 X0a.out
    obtain ⟨d0, d1, d2, d3, d4, d5, d6, d7, d8, d9, d10, d11, d12, d13, d14, d15, d16, d17, d18, d19, d20, d21, d22, d23, d24, d25, d26⟩ := cells27 X1a.out
    have HBa := Lib.hid (HB.out.trans (hb2.mono HB.out.size))
    have HRa := Lib.hid (HR.out.below (hb2.mono HZ.out.1))
    have HRa' := Lib.hid (HR'.out.below (hb2.mono HZ.out.2))
    have HZa := Lib.hid (And.intro (Nat.le_trans HZ.out.1 hb2.size) (Nat.le_trans HZ.out.2 hb2.size))
    clear hb2 HB X0 X1 HR HR' HZ
    go_wp2_with fail
    refine (equalI_any a.A b.A p.its.length a.c q.its.length b.c p.its q.its Z Z' w2 HRa.out.its HRa'.out.its hi).mono ?_
    rintro e w3 ⟨rfl, k3, hk3⟩
    rw [HE5.out]
    have hb3 : Below w2.heap.size w2 w3 := by rw [hk3]; exact below_drewB (Below.refl _ _) _
    clear hk3
    clear c0 c1 c2 c3 c4 c5 c6 c7 c8 c9 c10 c11 c12 c13 c14 c15 c16 c17 c18 c19 c20 c21 c22 c23 c24 c25 c26 d0 d1 d2 d3 d4 d5 d6 d7 d8 d9 d10 d11 d12 d13 d14 d15 d16 d17 d18 d19 d20 d21 d22 d23 d24 d25 d26
    have X0b := Lib.hid (X0a.out.under hb3)
    have X1b := Lib.hid (X1a.out.under hb3)
    obtain ⟨c0, c1, c2, c3, c4, c5, c6, c7, c8, c9, c10, c11, c12, c13, c14, c15, c16, c17, c18, c19, c20, c21, c22, c23, c24, c25, c26⟩ := cells27 X0b.out
    obtain ⟨d0, d1, d2, d3, d4, d5, d6, d7, d8, d9, d10, d11, d12, d13, d14, d15, d16, d17, d18, d19, d20, d21, d22, d23, d24, d25, d26⟩ := cells27 X1b.out
    have HBb := Lib.hid (HBa.out.trans (hb3.mono HBa.out.size))
    have HRb := Lib.hid (HRa.out.below (hb3.mono HZa.out.1))
    have HRb' := Lib.hid (HRa'.out.below (hb3.mono HZa.out.2))
    have HZb := Lib.hid (And.intro (Nat.le_trans HZa.out.1 hb3.size) (Nat.le_trans HZa.out.2 hb3.size))
    clear hb3 HBa X0a X1a HRa HRa' HZa
    go_wp2_with fail
    go_ret
    exact ⟨by rw [HF.out]; rfl, HBb.out⟩
  have HE5 := Lib.hid (decide_eq_true t5)
  have HT5 := Lib.hid t5
  clear t5
  by_cases t6 : p.kps = q.kps
  rotate_left
  · have HF := Lib.hid (show r = false by rw [← HRes.out]; simp [t6])
    have HE6 := Lib.hid (decide_eq_false t6)
    clear t6
    go_enter Tryz.func23, Tryz.ntmps23
    go_upto_region 1 with fail
    refine wpV (fun V2 hV2 => ?_)
    obtain rfl : V = V2 := HV.out.symm.trans hV2
    clear HV hV2
    obtain ⟨c0, c1, c2, c3, c4, c5, c6, c7, c8, c9, c10, c11, c12, c13, c14, c15, c16, c17, c18, c19, c20, c21, c22, c23, c24, c25, c26⟩ := cells27 X0.out
    obtain ⟨d0, d1, d2, d3, d4, d5, d6, d7, d8, d9, d10, d11, d12, d13, d14, d15, d16, d17, d18, d19, d20, d21, d22, d23, d24, d25, d26⟩ := cells27 X1.out
    go_wp2_with fail
    refine HS.out.mono ?_
    rintro e w2 ⟨rfl, hb2⟩
    clear c0 c1 c2 c3 c4 c5 c6 c7 c8 c9 c10 c11 c12 c13 c14 c15 c16 c17 c18 c19 c20 c21 c22 c23 c24 c25 c26 d0 d1 d2 d3 d4 d5 d6 d7 d8 d9 d10 d11 d12 d13 d14 d15 d16 d17 d18 d19 d20 d21 d22 d23 d24 d25 d26
    have X0a := Lib.hid (X0.out.under hb2)
    have X1a := Lib.hid (X1.out.under hb2)
    obtain ⟨c0, c1, c2, c3, c4, c5, c6, c7, c8, c9, c10, c11, c12, c13, c14, c15, c16, c17, c18, c19, c20, c21, c22, c23, c24, c25, c26⟩ := cells27 X0a.out
    obtain ⟨d0, d1, d2, d3, d4, d5, d6, d7, d8, d9, d10, d11, d12, d13, d14, d15, d16, d17, d18, d19, d20, d21, d22, d23, d24, d25, d26⟩ := cells27 X1a.out
    have HBa := Lib.hid (HB.out.trans (hb2.mono HB.out.size))
    have HRa := Lib.hid (HR.out.below (hb2.mono HZ.out.1))
    have HRa' := Lib.hid (HR'.out.below (hb2.mono HZ.out.2))
    have HZa := Lib.hid (And.intro (Nat.le_trans HZ.out.1 hb2.size) (Nat.le_trans HZ.out.2 hb2.size))
    clear hb2 HB X0 X1 HR HR' HZ
    go_wp2_with fail
    refine (equalI_any a.A b.A p.its.length a.c q.its.length b.c p.its q.its Z Z' w2 HRa.out.its HRa'.out.its hi).mono ?_
    rintro e w3 ⟨rfl, k3, hk3⟩
    rw [HE5.out]
    have hb3 : Below w2.heap.size w2 w3 := by rw [hk3]; exact below_drewB (Below.refl _ _) _
    clear hk3
    clear c0 c1 c2 c3 c4 c5 c6 c7 c8 c9 c10 c11 c12 c13 c14 c15 c16 c17 c18 c19 c20 c21 c22 c23 c24 c25 c26 d0 d1 d2 d3 d4 d5 d6 d7 d8 d9 d10 d11 d12 d13 d14 d15 d16 d17 d18 d19 d20 d21 d22 d23 d24 d25 d26
    have X0b := Lib.hid (X0a.out.under hb3)
    have X1b := Lib.hid (X1a.out.under hb3)
    obtain ⟨c0, c1, c2, c3, c4, c5, c6, c7, c8, c9, c10, c11, c12, c13, c14, c15, c16, c17, c18, c19, c20, c21, c22, c23, c24, c25, c26⟩ := cells27 X0b.out
    obtain ⟨d0, d1, d2, d3, d4, d5, d6, d7, d8, d9, d10, d11, d12, d13, d14, d15, d16, d17, d18, d19, d20, d21, d22, d23, d24, d25, d26⟩ := cells27 X1b.out
    have HBb := Lib.hid (HBa.out.trans (hb3.mono HBa.out.size))
    have HRb := Lib.hid (HRa.out.below (hb3.mono HZa.out.1))
    have HRb' := Lib.hid (HRa'.out.below (hb3.mono HZa.out.2))
    have HZb := Lib.hid (And.intro (Nat.le_trans HZa.out.1 hb3.size) (Nat.le_trans HZa.out.2 hb3.size))
    clear hb3 HBa X0a X1a HRa HRa' HZa
    go_wp2_with fail
    refine (equalKp_any a.B b.B p.kps.length a.d q.kps.length b.d p.kps q.kps Z Z' w3 HRb.out.kps HRb'.out.kps hk).mono ?_
    rintro e w4 ⟨rfl, k4, hk4⟩
    rw [HE6.out]
    have hb4 : Below w3.heap.size w3 w4 := by rw [hk4]; exact below_drewB (Below.refl _ _) _
    clear hk4
    clear c0 c1 c2 c3 c4 c5 c6 c7 c8 c9 c10 c11 c12 c13 c14 c15 c16 c17 c18 c19 c20 c21 c22 c23 c24 c25 c26 d0 d1 d2 d3 d4 d5 d6 d7 d8 d9 d10 d11 d12 d13 d14 d15 d16 d17 d18 d19 d20 d21 d22 d23 d24 d25 d26
    have X0c := Lib.hid (X0b.out.under hb4)
    have X1c := Lib.hid (X1b.out.under hb4)
    obtain ⟨c0, c1, c2, c3, c4, c5, c6, c7, c8, c9, c10, c11, c12, c13, c14, c15, c16, c17, c18, c19, c20, c21, c22, c23, c24, c25, c26⟩ := cells27 X0c.out
    obtain ⟨d0, d1, d2, d3, d4, d5, d6, d7, d8, d9, d10, d11, d12, d13, d14, d15, d16, d17, d18, d19, d20, d21, d22, d23, d24, d25, d26⟩ := cells27 X1c.out
    have HBc := Lib.hid (HBb.out.trans (hb4.mono HBb.out.size))
    have HRc := Lib.hid (HRb.out.below (hb4.mono HZb.out.1))
    have HRc' := Lib.hid (HRb'.out.below (hb4.mono HZb.out.2))
    have HZc := Lib.hid (And.intro (Nat.le_trans HZb.out.1 hb4.size) (Nat.le_trans HZb.out.2 hb4.size))
    clear hb4 HBb X0b X1b HRb HRb' HZb
    go_wp2_with fail
    go_ret
    exact ⟨by rw [HF.out]; rfl, HBc.out⟩
  have HE6 := Lib.hid (decide_eq_true t6)
  have HT6 := Lib.hid t6
  clear t6
  have HF := Lib.hid (show r = true by rw [← HRes.out]; simp [HT0.out, HT1.out, HT2.out, HT3.out, HT5.out, HT6.out])
  go_enter Tryz.func23, Tryz.ntmps23
  go_upto_region 1 with fail
  refine wpV (fun V2 hV2 => ?_)
  obtain rfl : V = V2 := HV.out.symm.trans hV2
  clear HV hV2
  obtain ⟨c0, c1, c2, c3, c4, c5, c6, c7, c8, c9, c10, c11, c12, c13, c14, c15, c16, c17, c18, c19, c20, c21, c22, c23, c24, c25, c26⟩ := cells27 X0.out
  obtain ⟨d0, d1, d2, d3, d4, d5, d6, d7, d8, d9, d10, d11, d12, d13, d14, d15, d16, d17, d18, d19, d20, d21, d22, d23, d24, d25, d26⟩ := cells27 X1.out
  go_wp2_with fail
  refine HS.out.mono ?_
  rintro e w2 ⟨rfl, hb2⟩
  clear c0 c1 c2 c3 c4 c5 c6 c7 c8 c9 c10 c11 c12 c13 c14 c15 c16 c17 c18 c19 c20 c21 c22 c23 c24 c25 c26 d0 d1 d2 d3 d4 d5 d6 d7 d8 d9 d10 d11 d12 d13 d14 d15 d16 d17 d18 d19 d20 d21 d22 d23 d24 d25 d26
  have X0a := Lib.hid (X0.out.under hb2)
  have X1a := Lib.hid (X1.out.under hb2)
  obtain ⟨c0, c1, c2, c3, c4, c5, c6, c7, c8, c9, c10, c11, c12, c13, c14, c15, c16, c17, c18, c19, c20, c21, c22, c23, c24, c25, c26⟩ := cells27 X0a.out
  obtain ⟨d0, d1, d2, d3, d4, d5, d6, d7, d8, d9, d10, d11, d12, d13, d14, d15, d16, d17, d18, d19, d20, d21, d22, d23, d24, d25, d26⟩ := cells27 X1a.out
  have HBa := Lib.hid (HB.out.trans (hb2.mono HB.out.size))
  have HRa := Lib.hid (HR.out.below (hb2.mono HZ.out.1))
  have HRa' := Lib.hid (HR'.out.below (hb2.mono HZ.out.2))
  have HZa := Lib.hid (And.intro (Nat.le_trans HZ.out.1 hb2.size) (Nat.le_trans HZ.out.2 hb2.size))
  clear hb2 HB X0 X1 HR HR' HZ
  go_wp2_with fail
  refine (equalI_any a.A b.A p.its.length a.c q.its.length b.c p.its q.its Z Z' w2 HRa.out.its HRa'.out.its hi).mono ?_
  rintro e w3 ⟨rfl, k3, hk3⟩
  rw [HE5.out]
  have hb3 : Below w2.heap.size w2 w3 := by rw [hk3]; exact below_drewB (Below.refl _ _) _
  clear hk3
  clear c0 c1 c2 c3 c4 c5 c6 c7 c8 c9 c10 c11 c12 c13 c14 c15 c16 c17 c18 c19 c20 c21 c22 c23 c24 c25 c26 d0 d1 d2 d3 d4 d5 d6 d7 d8 d9 d10 d11 d12 d13 d14 d15 d16 d17 d18 d19 d20 d21 d22 d23 d24 d25 d26
  have X0b := Lib.hid (X0a.out.under hb3)
  have X1b := Lib.hid (X1a.out.under hb3)
  obtain ⟨c0, c1, c2, c3, c4, c5, c6, c7, c8, c9, c10, c11, c12, c13, c14, c15, c16, c17, c18, c19, c20, c21, c22, c23, c24, c25, c26⟩ := cells27 X0b.out
  obtain ⟨d0, d1, d2, d3, d4, d5, d6, d7, d8, d9, d10, d11, d12, d13, d14, d15, d16, d17, d18, d19, d20, d21, d22, d23, d24, d25, d26⟩ := cells27 X1b.out
  have HBb := Lib.hid (HBa.out.trans (hb3.mono HBa.out.size))
  have HRb := Lib.hid (HRa.out.below (hb3.mono HZa.out.1))
  have HRb' := Lib.hid (HRa'.out.below (hb3.mono HZa.out.2))
  have HZb := Lib.hid (And.intro (Nat.le_trans HZa.out.1 hb3.size) (Nat.le_trans HZa.out.2 hb3.size))
  clear hb3 HBa X0a X1a HRa HRa' HZa
  go_wp2_with fail
  refine (equalKp_any a.B b.B p.kps.length a.d q.kps.length b.d p.kps q.kps Z Z' w3 HRb.out.kps HRb'.out.kps hk).mono ?_
  rintro e w4 ⟨rfl, k4, hk4⟩
  rw [HE6.out]
  have hb4 : Below w3.heap.size w3 w4 := by rw [hk4]; exact below_drewB (Below.refl _ _) _
  clear hk4
  clear c0 c1 c2 c3 c4 c5 c6 c7 c8 c9 c10 c11 c12 c13 c14 c15 c16 c17 c18 c19 c20 c21 c22 c23 c24 c25 c26 d0 d1 d2 d3 d4 d5 d6 d7 d8 d9 d10 d11 d12 d13 d14 d15 d16 d17 d18 d19 d20 d21 d22 d23 d24 d25 d26
  have X0c := Lib.hid (X0b.out.under hb4)
  have X1c := Lib.hid (X1b.out.under hb4)
  obtain ⟨c0, c1, c2, c3, c4, c5, c6, c7, c8, c9, c10, c11, c12, c13, c14, c15, c16, c17, c18, c19, c20, c21, c22, c23, c24, c25, c26⟩ := cells27 X0c.out
  obtain ⟨d0, d1, d2, d3, d4, d5, d6, d7, d8, d9, d10, d11, d12, d13, d14, d15, d16, d17, d18, d19, d20, d21, d22, d23, d24, d25, d26⟩ := cells27 X1c.out
  have HBc := Lib.hid (HBb.out.trans (hb4.mono HBb.out.size))
  have HRc := Lib.hid (HRb.out.below (hb4.mono HZb.out.1))
  have HRc' := Lib.hid (HRb'.out.below (hb4.mono HZb.out.2))
  have HZc := Lib.hid (And.intro (Nat.le_trans HZb.out.1 hb4.size) (Nat.le_trans HZb.out.2 hb4.size))
  clear hb4 HBb X0b X1b HRb HRb' HZb
  go_wp2_with fail
  go_ret
  exact ⟨by rw [HF.out]; rfl, HBc.out⟩

end Go.Proofs.YtdaimejlcfhfiaaGreatDoor
