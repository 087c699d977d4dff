/-
  Texts that the walk of a statement over brains leans on, joined (CtOf, CtZones, CtOk, MemOpen). Conditions: those that each theorem names.
-/
import Derived.Test.YtplejbgecihnpaaDoorK0
import Derived.Test.YtplejbgecihnpaaDoorK6
import Derived.Test.YtplejbgecihnpaaDoorK9
import Derived.Lib.SmallJoins
import Derived.Deep.Fields
import Derived.ChangeSame

namespace Go.Proofs.YtplejbgecihnpaaDoor
open Go.RowKit Go.Shelf

theorem sum_old (p : Br) : sumT p 0 = oldB p := by
  simp only [sumT, qI, qK, oldB, itOld, kpOld, List.countP_eq_length_filter]
theorem sum_all (p : Br) : countB p = { (⟨verB p, sumT p 0, sumT p 1, sumT p 2, sumT p 3, sumT p 4, p.cf.f0, floorOf p.cf, boundOf p.cf⟩ : Cn) with want := wantB p } := by
  have h0 := sum_old p
  have h1 : sumT p 1 = itSt p.its + kpSt p.kps := by simp only [sumT, qI, qK, itSt, kpSt, List.countP_eq_length_filter]
  have h2 : sumT p 2 = itWarm p.its + kpWarm p.kps := by simp only [sumT, qI, qK, itWarm, kpWarm, List.countP_eq_length_filter]
  have h3 : sumT p 3 = p.its.length + p.kps.length := by
    simp only [sumT, qI, qK]
    rw [List.filter_eq_self.2 (fun _ _ => rfl), List.filter_eq_self.2 (fun _ _ => rfl)]
  have h4 : sumT p 4 = kpServe p.kps := by simp [sumT, qI, qK, kpServe, List.countP_eq_length_filter]
  simp only [countB, h0, h1, h2, h3, h4]
theorem hasOf {p : Br} {a : Ad} {w : World} (h : BrNow p a w) : Has (cfM p a) w := ⟨h.rd.lies, h.tab⟩

set_option maxRecDepth 100000 in
set_option maxHeartbeats 4000000 in
theorem of_any (p : Br) (a : Ad) (w : World) (hN : BrNow p a w) : Calls Tryd.prog 10 #[brV p a] w fun e w' => e = .returned (countB p).v ∧ Below w.heap.size w w' := by
  obtain ⟨hb, w0, w1⟩ := two_new w 30 38 (brC p a) cn0.cells
  obtain ⟨V, hV⟩ : ∃ V, (w.alloc (.cells (brC p a) 30)).alloc (.cells cn0.cells 38) = V := ⟨_, rfl⟩
  have hs : V.heap.size = w.heap.size + 1 + 1 := by rw [← hV]; simp
  rw [hV] at hb w0 w1
  have hni := hN.its
  have hnk := hN.kps
  have hnm := hN.ms
  have HNw := Lib.hid hN
  have HB := Lib.hid hb
  have HV := Lib.hid hV
  have W0 := Lib.hid w0
  have W1 := Lib.hid w1
  have HS := Lib.hid hs
  clear hb w0 w1 hs hV hN
  go_enter Tryd.func10, Tryd.ntmps10
  go_upto_region 1 with fail
  refine wpV (fun V2 hV2 => ?_)
  obtain rfl : V = V2 := HV.out.symm.trans hV2
  clear HV hV2
  go_wp2_with (refine wpList_loadB (by rfl) _ rfl w.heap.size p a (by rfl) W0.out ?_)
  refine (sizes_any p a V (HNw.out.under HB.out).rd hni hnk).mono ?_
  rintro e V1 ⟨rfl, hb1⟩
  have X0 := Lib.hid (W0.out.under hb1)
  have X1 := Lib.hid (W1.out.under hb1)
  have HB1 := Lib.hid (HB.out.trans (hb1.mono HB.out.size))
  have HS1 := Lib.hid (show w.heap.size + 1 + 1 ≤ V1.heap.size from HS.out ▸ hb1.size)
  clear hb1 W0 W1 HB HS
  go_upto_region 2 with (refine wpList_store5 (by rfl) _ _ rfl V1.heap.size (fun i => (sumT p i : Int)) (cells5 fun _ => 0) rfl (by rfl) (by rfl) (Whole.new V1 53 (cells5 fun _ => 0)) ?_; intro W2 hW2)
  simp only [Act.put]
  obtain ⟨U, hU⟩ : ∃ U, W2 = U := ⟨_, rfl⟩
  rw [hU] at hW2 ⊢
  have hU2 : U = (V1.alloc (.cells (cells5 fun _ => 0) 53)).setRow V1.heap.size (cells5 fun i => (sumT p i : Int)) := hW2
  have n0 := Whole.new V1 53 (cells5 fun _ => 0)
  have hbU : Below V1.heap.size V1 U := by rw [hU2]; exact (Only.row n0 _).bel ((Below.refl _ _).alloc (Nat.le_refl _) _) (Nat.le_refl _)
  have nU : Whole U V1.heap.size 53 (cells5 fun i => (sumT p i : Int)) := by rw [hU2]; exact setRow_heap _ _ _ _ _ _ n0
  have hsU : U.heap.size = V1.heap.size + 1 := by rw [hU2, setRow_size]; simp
  obtain ⟨nb, hnb⟩ : ∃ nb, V1.heap.size = nb := ⟨_, rfl⟩
  rw [hnb] at nU hsU ⊢
  have HSU := Lib.hid (show w.heap.size + 1 + 1 ≤ U.heap.size from Nat.le_trans HS1.out (by omega))
  have Y0 := Lib.hid (X0.out.under hbU)
  have Y1 := Lib.hid (X1.out.under hbU)
  have YN := Lib.hid nU
  have HBU := Lib.hid (HB1.out.trans (hbU.mono HB1.out.size))
  have HNU := Lib.hid (HNw.out.under HBU.out)
  clear hbU hU hU2 hW2 n0 nU hsU hnb X0 X1 HB1 HS1
  refine region_grow (by kernel_rfl) (by kernel_rfl) 23 [7, 8, 9, 10, 11, 12, 13, 14, 15, 16, 17, 18, 19, 20, 21, 22, 23, 24, 25, 26, 27, 28, 4] (by kernel_rfl) (by simp)
    (fun i v w' => match i with | 0 => v = brV p a | 1 => v = .int .i64 (verB p) | 2 => v = .pointer (some ⟨nb, 0, none⟩) | 3 => v = .int .i64 (sumT p 0 : Int) | 4 => v = .pointer (some ⟨nb, 1, none⟩) | 5 => v = .int .i64 (sumT p 1 : Int) | 6 => v = .pointer (some ⟨nb, 2, none⟩) | 7 => v = .int .i64 (sumT p 2 : Int) | 8 => v = .pointer (some ⟨nb, 3, none⟩) | 9 => v = .int .i64 (sumT p 3 : Int) | 10 => v = .pointer (some ⟨nb, 4, none⟩) | 11 => v = .int .i64 (sumT p 4 : Int) | 12 => v = .pointer (some ⟨w.heap.size, 3, none⟩) | 13 => v = .pointer (some ⟨w.heap.size, 3, none⟩) | 14 => v = .int .i64 p.cf.f0 | 15 => v = .pointer (some ⟨w.heap.size, 3, none⟩) | 16 => v = (cfM p a).v | 17 => v = .int .i64 (floorOf p.cf) | 18 => v = .pointer (some ⟨w.heap.size, 3, none⟩) | 19 => v = (cfM p a).v | 20 => v = .int .i64 (boundOf p.cf) | 21 => v = Cn.v ⟨verB p, sumT p 0, sumT p 1, sumT p 2, sumT p 3, sumT p 4, p.cf.f0, floorOf p.cf, boundOf p.cf⟩ | 22 => CboxIs U.heap.size v w' | _ => True) ?_ ?_ ?_
  · intro i v w1 w2 hb h
    match i, h with
    | 0, h => exact h
    | 1, h => exact h
    | 2, h => exact h
    | 3, h => exact h
    | 4, h => exact h
    | 5, h => exact h
    | 6, h => exact h
    | 7, h => exact h
    | 8, h => exact h
    | 9, h => exact h
    | 10, h => exact h
    | 11, h => exact h
    | 12, h => exact h
    | 13, h => exact h
    | 14, h => exact h
    | 15, h => exact h
    | 16, h => exact h
    | 17, h => exact h
    | 18, h => exact h
    | 19, h => exact h
    | 20, h => exact h
    | 21, h => exact h
    | 22, h => exact CboxIs.under hb h
    | n + 23, h => trivial
  · intro i o d a' w' hi ho hd hag hbel hgot K hK
    have g1 : a'.eval (.tmp 1) = .pointer (some ⟨w.heap.size, 0, none⟩) := hag.eval (t := 1) (by decide)
    have t1 : a'.tmps[1]?.getD undef = .pointer (some ⟨w.heap.size, 0, none⟩) := by rw [← Array.getD_eq_getD_getElem?]; exact g1
    have g3 : a'.eval (.tmp 3) = .pointer (some ⟨nb, 0, none⟩) := hag.eval (t := 3) (by decide)
    have t3 : a'.tmps[3]?.getD undef = .pointer (some ⟨nb, 0, none⟩) := by rw [← Array.getD_eq_getD_getElem?]; exact g3
    clear g3
    have HWb := Lib.hid (Y0.out.under hbel)
    have HWn := Lib.hid (YN.out.under hbel)
    rcases (by omega : i = 0 ∨ i = 1 ∨ i = 2 ∨ i = 3 ∨ i = 4 ∨ i = 5 ∨ i = 6 ∨ i = 7 ∨ i = 8 ∨ i = 9 ∨ i = 10 ∨ i = 11 ∨ i = 12 ∨ i = 13 ∨ i = 14 ∨ i = 15 ∨ i = 16 ∨ i = 17 ∨ i = 18 ∨ i = 19 ∨ i = 20 ∨ i = 21 ∨ i = 22) with rfl | rfl | rfl | rfl | rfl | rfl | rfl | rfl | rfl | rfl | rfl | rfl | rfl | rfl | rfl | rfl | rfl | rfl | rfl | rfl | rfl | rfl | rfl
    all_goals
      simp only [List.getElem?_toArray, List.getElem?_cons_zero, List.getElem?_cons_succ, Option.some.injEq] at ho
      subst ho
      injection hd with hd
      subst hd
    · exact opB_load g1 HWb.out (hK _ _ (Below.refl _ _) rfl)
    · clear g1
      have g7 : a'.eval (.tmp 7) = brV p a := hgot 0 7 (by kernel_rfl) rfl
      have e7 : a'.tmps[7]?.getD undef = brV p a := by rw [← Array.getD_eq_getD_getElem?]; exact g7
      clear g7
      go_simp
      refine (ver_any p a w').mono ?_
      rintro e w2 ⟨rfl, hb2⟩
      exact hK _ _ hb2 rfl
    · clear g1
      refine opQ (.pointer (some ⟨nb, 0, none⟩)) ?_ (hK _ _ (Below.refl _ _) rfl)
      go_simp <;> with_reducible rfl
    · clear g1
      have g9 : a'.eval (.tmp 9) = .pointer (some ⟨nb, 0, none⟩) := hgot 2 9 (by kernel_rfl) rfl
      have e9 : a'.tmps[9]?.getD undef = .pointer (some ⟨nb, 0, none⟩) := by rw [← Array.getD_eq_getD_getElem?]; exact g9
      clear g9
      have cn : w'.cell? ⟨nb, 0, none⟩ = some (.int .i64 (sumT p 0 : Int)) := HWn.out.cell 0
      refine opQ (.int .i64 (sumT p 0 : Int)) ?_ (hK _ _ (Below.refl _ _) rfl)
      go_simp <;> with_reducible rfl
    · clear g1
      refine opQ (.pointer (some ⟨nb, 1, none⟩)) ?_ (hK _ _ (Below.refl _ _) rfl)
      go_simp <;> with_reducible rfl
    · clear g1
      have g11 : a'.eval (.tmp 11) = .pointer (some ⟨nb, 1, none⟩) := hgot 4 11 (by kernel_rfl) rfl
      have e11 : a'.tmps[11]?.getD undef = .pointer (some ⟨nb, 1, none⟩) := by rw [← Array.getD_eq_getD_getElem?]; exact g11
      clear g11
      have cn : w'.cell? ⟨nb, 1, none⟩ = some (.int .i64 (sumT p 1 : Int)) := HWn.out.cell 1
      refine opQ (.int .i64 (sumT p 1 : Int)) ?_ (hK _ _ (Below.refl _ _) rfl)
      go_simp <;> with_reducible rfl
    · clear g1
      refine opQ (.pointer (some ⟨nb, 2, none⟩)) ?_ (hK _ _ (Below.refl _ _) rfl)
      go_simp <;> with_reducible rfl
    · clear g1
      have g13 : a'.eval (.tmp 13) = .pointer (some ⟨nb, 2, none⟩) := hgot 6 13 (by kernel_rfl) rfl
      have e13 : a'.tmps[13]?.getD undef = .pointer (some ⟨nb, 2, none⟩) := by rw [← Array.getD_eq_getD_getElem?]; exact g13
      clear g13
      have cn : w'.cell? ⟨nb, 2, none⟩ = some (.int .i64 (sumT p 2 : Int)) := HWn.out.cell 2
      refine opQ (.int .i64 (sumT p 2 : Int)) ?_ (hK _ _ (Below.refl _ _) rfl)
      go_simp <;> with_reducible rfl
    · clear g1
      refine opQ (.pointer (some ⟨nb, 3, none⟩)) ?_ (hK _ _ (Below.refl _ _) rfl)
      go_simp <;> with_reducible rfl
    · clear g1
      have g15 : a'.eval (.tmp 15) = .pointer (some ⟨nb, 3, none⟩) := hgot 8 15 (by kernel_rfl) rfl
      have e15 : a'.tmps[15]?.getD undef = .pointer (some ⟨nb, 3, none⟩) := by rw [← Array.getD_eq_getD_getElem?]; exact g15
      clear g15
      have cn : w'.cell? ⟨nb, 3, none⟩ = some (.int .i64 (sumT p 3 : Int)) := HWn.out.cell 3
      refine opQ (.int .i64 (sumT p 3 : Int)) ?_ (hK _ _ (Below.refl _ _) rfl)
      go_simp <;> with_reducible rfl
    · clear g1
      refine opQ (.pointer (some ⟨nb, 4, none⟩)) ?_ (hK _ _ (Below.refl _ _) rfl)
      go_simp <;> with_reducible rfl
    · clear g1
      have g17 : a'.eval (.tmp 17) = .pointer (some ⟨nb, 4, none⟩) := hgot 10 17 (by kernel_rfl) rfl
      have e17 : a'.tmps[17]?.getD undef = .pointer (some ⟨nb, 4, none⟩) := by rw [← Array.getD_eq_getD_getElem?]; exact g17
      clear g17
      have cn : w'.cell? ⟨nb, 4, none⟩ = some (.int .i64 (sumT p 4 : Int)) := HWn.out.cell 4
      refine opQ (.int .i64 (sumT p 4 : Int)) ?_ (hK _ _ (Below.refl _ _) rfl)
      go_simp <;> with_reducible rfl
    · clear g1
      refine opQ (.pointer (some ⟨w.heap.size, 3, none⟩)) ?_ (hK _ _ (Below.refl _ _) rfl)
      go_simp <;> with_reducible rfl
    · clear g1
      have g19 : a'.eval (.tmp 19) = .pointer (some ⟨w.heap.size, 3, none⟩) := hgot 12 19 (by kernel_rfl) rfl
      have e19 : a'.tmps[19]?.getD undef = .pointer (some ⟨w.heap.size, 3, none⟩) := by rw [← Array.getD_eq_getD_getElem?]; exact g19
      clear g19
      refine opQ (.pointer (some ⟨w.heap.size, 3, none⟩)) ?_ (hK _ _ (Below.refl _ _) rfl)
      go_simp <;> with_reducible rfl
    · clear g1
      have g20 : a'.eval (.tmp 20) = .pointer (some ⟨w.heap.size, 3, none⟩) := hgot 13 20 (by kernel_rfl) rfl
      have e20 : a'.tmps[20]?.getD undef = .pointer (some ⟨w.heap.size, 3, none⟩) := by rw [← Array.getD_eq_getD_getElem?]; exact g20
      clear g20
      have c3 : w'.cell? ⟨w.heap.size, 3, none⟩ = some (.int .i64 p.cf.f0) := HWb.out.cell 3
      refine opQ (.int .i64 p.cf.f0) ?_ (hK _ _ (Below.refl _ _) rfl)
      go_simp <;> with_reducible rfl
    · clear g1
      refine opQ (.pointer (some ⟨w.heap.size, 3, none⟩)) ?_ (hK _ _ (Below.refl _ _) rfl)
      go_simp <;> with_reducible rfl
    · clear g1
      have e22 := hgot 15 22 (by kernel_rfl) rfl
      exact wp_load_mid 24 _ rfl w.heap.size 3 e22 (cfM p a).cells.toList _ (cf_range HWb.out) Tryd.underlying24 rfl (by kernel_rfl) (hK _ _ (Below.refl _ _) rfl)
    · clear g1
      have g23 : a'.eval (.tmp 23) = (cfM p a).v := hgot 16 23 (by kernel_rfl) rfl
      have e23 : a'.tmps[23]?.getD undef = (cfM p a).v := by rw [← Array.getD_eq_getD_getElem?]; exact g23
      clear g23
      have HHas := Lib.hid (hasOf (HNU.out.under hbel))
      go_simp
      refine (floorC_any (cfM p a) w' HHas.out).mono ?_
      rintro e w2 ⟨rfl, hb2⟩
      exact hK _ _ hb2 rfl
    · clear g1
      refine opQ (.pointer (some ⟨w.heap.size, 3, none⟩)) ?_ (hK _ _ (Below.refl _ _) rfl)
      go_simp <;> with_reducible rfl
    · clear g1
      have e25 := hgot 18 25 (by kernel_rfl) rfl
      exact wp_load_mid 24 _ rfl w.heap.size 3 e25 (cfM p a).cells.toList _ (cf_range HWb.out) Tryd.underlying24 rfl (by kernel_rfl) (hK _ _ (Below.refl _ _) rfl)
    · clear g1
      have g26 : a'.eval (.tmp 26) = (cfM p a).v := hgot 19 26 (by kernel_rfl) rfl
      have e26 : a'.tmps[26]?.getD undef = (cfM p a).v := by rw [← Array.getD_eq_getD_getElem?]; exact g26
      clear g26
      have HHas := Lib.hid (hasOf (HNU.out.under hbel))
      go_simp
      refine (boundC_any (cfM p a) w' HHas.out).mono ?_
      rintro e w2 ⟨rfl, hb2⟩
      exact hK _ _ hb2 rfl
    · clear g1
      have g8 : a'.eval (.tmp 8) = .int .i64 (verB p) := hgot 1 8 (by kernel_rfl) rfl
      have e8 : a'.tmps[8]?.getD undef = .int .i64 (verB p) := by rw [← Array.getD_eq_getD_getElem?]; exact g8
      clear g8
      have g10 : a'.eval (.tmp 10) = .int .i64 (sumT p 0 : Int) := hgot 3 10 (by kernel_rfl) rfl
      have e10 : a'.tmps[10]?.getD undef = .int .i64 (sumT p 0 : Int) := by rw [← Array.getD_eq_getD_getElem?]; exact g10
      clear g10
      have g12 : a'.eval (.tmp 12) = .int .i64 (sumT p 1 : Int) := hgot 5 12 (by kernel_rfl) rfl
      have e12 : a'.tmps[12]?.getD undef = .int .i64 (sumT p 1 : Int) := by rw [← Array.getD_eq_getD_getElem?]; exact g12
      clear g12
      have g14 : a'.eval (.tmp 14) = .int .i64 (sumT p 2 : Int) := hgot 7 14 (by kernel_rfl) rfl
      have e14 : a'.tmps[14]?.getD undef = .int .i64 (sumT p 2 : Int) := by rw [← Array.getD_eq_getD_getElem?]; exact g14
      clear g14
      have g16 : a'.eval (.tmp 16) = .int .i64 (sumT p 3 : Int) := hgot 9 16 (by kernel_rfl) rfl
      have e16 : a'.tmps[16]?.getD undef = .int .i64 (sumT p 3 : Int) := by rw [← Array.getD_eq_getD_getElem?]; exact g16
      clear g16
      have g18 : a'.eval (.tmp 18) = .int .i64 (sumT p 4 : Int) := hgot 11 18 (by kernel_rfl) rfl
      have e18 : a'.tmps[18]?.getD undef = .int .i64 (sumT p 4 : Int) := by rw [← Array.getD_eq_getD_getElem?]; exact g18
      clear g18
      have g21 : a'.eval (.tmp 21) = .int .i64 p.cf.f0 := hgot 14 21 (by kernel_rfl) rfl
      have e21 : a'.tmps[21]?.getD undef = .int .i64 p.cf.f0 := by rw [← Array.getD_eq_getD_getElem?]; exact g21
      clear g21
      have g24 : a'.eval (.tmp 24) = .int .i64 (floorOf p.cf) := hgot 17 24 (by kernel_rfl) rfl
      have e24 : a'.tmps[24]?.getD undef = .int .i64 (floorOf p.cf) := by rw [← Array.getD_eq_getD_getElem?]; exact g24
      clear g24
      have g27 : a'.eval (.tmp 27) = .int .i64 (boundOf p.cf) := hgot 20 27 (by kernel_rfl) rfl
      have e27 : a'.tmps[27]?.getD undef = .int .i64 (boundOf p.cf) := by rw [← Array.getD_eq_getD_getElem?]; exact g27
      clear g27
      refine opQ (Cn.v ⟨verB p, sumT p 0, sumT p 1, sumT p 2, sumT p 3, sumT p 4, p.cf.f0, floorOf p.cf, boundOf p.cf⟩) ?_ (hK _ _ (Below.refl _ _) rfl)
      go_simp <;> with_reducible rfl
    · clear g1
      have hw := Whole.new w' 38 cn0.cells
      have hb : Below w'.heap.size w' (w'.alloc (.cells cn0.cells 38)) := (Below.refl _ _).alloc (Nat.le_refl _) _
      have HW9 := Lib.hid hw
      have HB9 := Lib.hid hb
      clear hw hb
      unfold Oper.wp execOp
      go_simp
      exact hK _ _ HB9.out ⟨_, rfl, hbel.size, HW9.out⟩
  intro o a' w1_ ho hag hbel hgot K hK
  simp only [List.getElem?_toArray, List.getElem?_cons_zero, List.getElem?_cons_succ, Option.some.injEq] at ho
  subst ho
  obtain ⟨b3, e3, hlo3, hw3⟩ := hgot 22 4 (by decide) rfl
  have e28 := hgot 21 28 (by decide) rfl
  refine wp_storeC _ _ rfl b3 _ _ (by rfl) e3 e28 hw3 (fun U3 hU3 => hK _ _ ?_)
  obtain ⟨c1, hc1⟩ : ∃ c : Cn, (⟨verB p, sumT p 0, sumT p 1, sumT p 2, sumT p 3, sumT p 4, p.cf.f0, floorOf p.cf, boundOf p.cf⟩ : Cn) = c := ⟨_, rfl⟩
  rw [hc1] at hU3
  have HX := Lib.hid (show CtAt p a b3 w c1 U3 from ⟨by rw [hU3]; exact (Only.row hw3 _).far (Y0.out.under hbel) (by have := Y0.out.lt; omega), by rw [hU3]; exact (Only.row hw3 _).far (Y1.out.under hbel) (by have := Y1.out.lt; omega), by rw [hU3]; exact setRow_heap _ _ _ _ _ _ hw3, HBU.out.trans (by rw [hU3]; exact (below_rowsetB hbel hlo3 _).mono HBU.out.size)⟩)
  have HG := Lib.hid (show w.heap.size + 1 + 1 ≤ b3 from Nat.le_trans HSU.out hlo3)
  have HEq := Lib.hid (show countB p = { c1 with want := wantB p } from by rw [← hc1]; exact sum_all p)
  have hold : c1.old = oldB p := by rw [← hc1]; exact sum_old p
  have hwt : c1.want = p.cf.f0 := by rw [← hc1]
  have HOl := Lib.hid hold
  have HWt := Lib.hid hwt
  obtain ⟨σ, hσ⟩ : ∃ σ : Nat → Value, (fun d => a'.eval (.tmp d)) = σ := ⟨_, rfl⟩
  have ha := hag.lay (by simp)
  rw [hσ] at ha
  have s_ : σ 4 = .pointer (some ⟨b3, 0, none⟩) := by rw [← hσ]; exact e3
  clear hσ hag hgot hK hbel e3 e28 hw3 hlo3 hU3 hc1 hold hwt Y0 Y1 YN HBU HNU HSU
  subst ha
  simp only [lay, List.foldl_cons, List.foldl_nil, Act.put, List.setIfInBounds_toArray, List.set_cons_zero, List.set_cons_succ, s_]
  clear s_
  obtain ⟨u7, hu7⟩ : ∃ u, σ 7 = u := ⟨_, rfl⟩
  rw [hu7]
  clear hu7
  obtain ⟨u8, hu8⟩ : ∃ u, σ 8 = u := ⟨_, rfl⟩
  rw [hu8]
  clear hu8
  obtain ⟨u9, hu9⟩ : ∃ u, σ 9 = u := ⟨_, rfl⟩
  rw [hu9]
  clear hu9
  obtain ⟨u10, hu10⟩ : ∃ u, σ 10 = u := ⟨_, rfl⟩
  rw [hu10]
  clear hu10
  obtain ⟨u11, hu11⟩ : ∃ u, σ 11 = u := ⟨_, rfl⟩
  rw [hu11]
  clear hu11
  obtain ⟨u12, hu12⟩ : ∃ u, σ 12 = u := ⟨_, rfl⟩
  rw [hu12]
  clear hu12
  obtain ⟨u13, hu13⟩ : ∃ u, σ 13 = u := ⟨_, rfl⟩
  rw [hu13]
  clear hu13
  obtain ⟨u14, hu14⟩ : ∃ u, σ 14 = u := ⟨_, rfl⟩
  rw [hu14]
  clear hu14
  obtain ⟨u15, hu15⟩ : ∃ u, σ 15 = u := ⟨_, rfl⟩
  rw [hu15]
  clear hu15
  obtain ⟨u16, hu16⟩ : ∃ u, σ 16 = u := ⟨_, rfl⟩
  rw [hu16]
  clear hu16
  obtain ⟨u17, hu17⟩ : ∃ u, σ 17 = u := ⟨_, rfl⟩
  rw [hu17]
  clear hu17
  obtain ⟨u18, hu18⟩ : ∃ u, σ 18 = u := ⟨_, rfl⟩
  rw [hu18]
  clear hu18
  obtain ⟨u19, hu19⟩ : ∃ u, σ 19 = u := ⟨_, rfl⟩
  rw [hu19]
  clear hu19
  obtain ⟨u20, hu20⟩ : ∃ u, σ 20 = u := ⟨_, rfl⟩
  rw [hu20]
  clear hu20
  obtain ⟨u21, hu21⟩ : ∃ u, σ 21 = u := ⟨_, rfl⟩
  rw [hu21]
  clear hu21
  obtain ⟨u22, hu22⟩ : ∃ u, σ 22 = u := ⟨_, rfl⟩
  rw [hu22]
  clear hu22
  obtain ⟨u23, hu23⟩ : ∃ u, σ 23 = u := ⟨_, rfl⟩
  rw [hu23]
  clear hu23
  obtain ⟨u24, hu24⟩ : ∃ u, σ 24 = u := ⟨_, rfl⟩
  rw [hu24]
  clear hu24
  obtain ⟨u25, hu25⟩ : ∃ u, σ 25 = u := ⟨_, rfl⟩
  rw [hu25]
  clear hu25
  obtain ⟨u26, hu26⟩ : ∃ u, σ 26 = u := ⟨_, rfl⟩
  rw [hu26]
  clear hu26
  obtain ⟨u27, hu27⟩ : ∃ u, σ 27 = u := ⟨_, rfl⟩
  rw [hu27]
  clear hu27
  obtain ⟨u28, hu28⟩ : ∃ u, σ 28 = u := ⟨_, rfl⟩
  rw [hu28]
  clear hu28
  clear σ
  have HB := Lib.hid (HX.out.below)
  cases h1 : (p.rf.st == 1) with
  | false =>
    have H1 := Lib.hid h1
    clear h1
    go_wp2_with (refine wpList_loadB (by rfl) _ rfl w.heap.size p a (by rfl) HX.out.br ?_)
    refine (active_any p a U3).mono ?_
    rintro e U6 ⟨rfl, hb6⟩
    rw [H1.out]
    have HX3 := Lib.hid (HX.out.under hb6)
    clear hb6
    go_upto_region 5 with fail
    refine wpV (fun U5 hU5 => ?_)
    have X5 := Lib.hid (show CtAt p a b3 w { c1 with want := p.cf.f0 } U5 from by rw [← hU5]; exact (show CtAt p a b3 w { c1 with want := p.cf.f0 } _ from by rw [← HWt.out]; exact HX3.out))
    have HV5 := Lib.hid (show { c1 with want := p.cf.f0 } = countB p by rw [HEq.out, show wantB p = p.cf.f0 from by have h := H1.out; simp at h; simp [wantB, h]])
    clear hU5
    have HA : Hid ((Cn.cells { c1 with want := p.cf.f0 }).all (·.oneCell') = true) := Lib.hid (by simp [Value.oneCell'])
    go_wp2_with (first | refine wpList_load_row (by rfl) 38 _ rfl b3 (by rfl) 38 _ (0, 0) _ X5.out.bx Tryd.underlying38 rfl (by kernel_rfl) ?_ | refine wpList_store_row (by rfl) 38 _ _ rfl (w.heap.size + 1) (Cn.cells { c1 with want := p.cf.f0 }) (by rfl) (by rfl) 38 _ X5.out.res (by kernel_rfl) rfl HA.out ?_)
    exact count_end (k := 2) rfl (by rfl) (setRow_heap _ _ _ _ _ _ X5.out.res) rfl ⟨by rw [← HV5.out], below_rowsetB X5.out.below (by omega) _⟩
  | true =>
    have H1 := Lib.hid h1
    clear h1
    cases hpa : p.rf.paused with
    | true =>
      have HPa := Lib.hid hpa
      clear hpa
      go_wp2_with (refine wpList_loadB (by rfl) _ rfl w.heap.size p a (by rfl) HX.out.br ?_)
      refine (active_any p a U3).mono ?_
      rintro e U6 ⟨rfl, hb6⟩
      rw [H1.out]
      have HX3 := Lib.hid (HX.out.under hb6)
      clear hb6
      have d24 : U6.cell? ⟨w.heap.size, 24, none⟩ = some (.bool true) := by rw [← HPa.out]; exact HX3.out.br.cell 24
      go_upto_region 5 with fail
      refine wpV (fun U5 hU5 => ?_)
      have X5 := Lib.hid (show CtAt p a b3 w { c1 with want := p.cf.f0 } U5 from by rw [← hU5]; exact (show CtAt p a b3 w { c1 with want := p.cf.f0 } _ from by rw [← HWt.out]; exact HX3.out))
      have HV5 := Lib.hid (show { c1 with want := p.cf.f0 } = countB p by rw [HEq.out, show wantB p = p.cf.f0 from by simp [wantB, HPa.out]])
      clear hU5
      have HA : Hid ((Cn.cells { c1 with want := p.cf.f0 }).all (·.oneCell') = true) := Lib.hid (by simp [Value.oneCell'])
      go_wp2_with (first | refine wpList_load_row (by rfl) 38 _ rfl b3 (by rfl) 38 _ (0, 0) _ X5.out.bx Tryd.underlying38 rfl (by kernel_rfl) ?_ | refine wpList_store_row (by rfl) 38 _ _ rfl (w.heap.size + 1) (Cn.cells { c1 with want := p.cf.f0 }) (by rfl) (by rfl) 38 _ X5.out.res (by kernel_rfl) rfl HA.out ?_)
      exact count_end (k := 2) rfl (by rfl) (setRow_heap _ _ _ _ _ _ X5.out.res) rfl ⟨by rw [← HV5.out], below_rowsetB X5.out.below (by omega) _⟩
    | false =>
      have HPa := Lib.hid hpa
      clear hpa
      rcases (by omega : oldB p = 0 ∨ 0 < oldB p) with h0 | h0
      · have H0 := Lib.hid h0
        clear h0
        go_wp2_with (refine wpList_loadB (by rfl) _ rfl w.heap.size p a (by rfl) HX.out.br ?_)
        refine (active_any p a U3).mono ?_
        rintro e U6 ⟨rfl, hb6⟩
        rw [H1.out]
        have HX3 := Lib.hid (HX.out.under hb6)
        clear hb6
        have d24 : U6.cell? ⟨w.heap.size, 24, none⟩ = some (.bool false) := by rw [← HPa.out]; exact HX3.out.br.cell 24
        have k1 : U6.cell? ⟨b3, 1, none⟩ = some (.int .i64 0) := by have h : U6.cell? ⟨b3, 1, none⟩ = some (.int .i64 (c1.old : Int)) := HX3.out.bx.cell 1; rw [HOl.out.trans H0.out] at h; exact h
        go_upto_region 5 with fail
        refine wpV (fun U5 hU5 => ?_)
        have X5 := Lib.hid (show CtAt p a b3 w { c1 with want := p.cf.f0 } U5 from by rw [← hU5]; exact (show CtAt p a b3 w { c1 with want := p.cf.f0 } _ from by rw [← HWt.out]; exact HX3.out))
        have HV5 := Lib.hid (show { c1 with want := p.cf.f0 } = countB p by rw [HEq.out, show wantB p = p.cf.f0 from by simp [wantB, H0.out]])
        clear hU5
        have HA : Hid ((Cn.cells { c1 with want := p.cf.f0 }).all (·.oneCell') = true) := Lib.hid (by simp [Value.oneCell'])
        go_wp2_with (first | refine wpList_load_row (by rfl) 38 _ rfl b3 (by rfl) 38 _ (0, 0) _ X5.out.bx Tryd.underlying38 rfl (by kernel_rfl) ?_ | refine wpList_store_row (by rfl) 38 _ _ rfl (w.heap.size + 1) (Cn.cells { c1 with want := p.cf.f0 }) (by rfl) (by rfl) 38 _ X5.out.res (by kernel_rfl) rfl HA.out ?_)
        exact count_end (k := 2) rfl (by rfl) (setRow_heap _ _ _ _ _ _ X5.out.res) rfl ⟨by rw [← HV5.out], below_rowsetB X5.out.below (by omega) _⟩
      · have H0 := Lib.hid h0
        clear h0
        go_wp2_with (refine wpList_loadB (by rfl) _ rfl w.heap.size p a (by rfl) HX.out.br ?_)
        refine (active_any p a U3).mono ?_
        rintro e U6 ⟨rfl, hb6⟩
        rw [H1.out]
        have HX3 := Lib.hid (HX.out.under hb6)
        clear hb6
        have d24 : U6.cell? ⟨w.heap.size, 24, none⟩ = some (.bool false) := by rw [← HPa.out]; exact HX3.out.br.cell 24
        have k1 : U6.cell? ⟨b3, 1, none⟩ = some (.int .i64 (c1.old : Int)) := HX3.out.bx.cell 1
        have h0i : (0 : Int) < (c1.old : Int) := by have h1 := HOl.out; have h2 := H0.out; omega
        go_upto_region 4 with fail
        refine wpV (fun U4 hU4 => ?_)
        have X4 := Lib.hid (show CtAt p a b3 w c1 U4 from by rw [← hU4]; exact HX3.out)
        clear hU4
        have k6 : U4.cell? ⟨b3, 6, none⟩ = some (.int .i64 p.cf.f0) := by rw [← HWt.out]; exact X4.out.bx.cell 6
        have f6 := X4.out.bx.frozen 6
        have d5 : U4.cell? ⟨w.heap.size, 5, none⟩ = some (.int .i64 p.cf.f2) := X4.out.br.cell 5
        go_upto_region 5 with fail
        refine wpV (fun U5 hU5 => ?_)
        have X5 := Lib.hid (show CtAt p a b3 w { c1 with want := wrap64 (p.cf.f0 + p.cf.f2) } U5 from by rw [← hU5]; exact X4.out.set HG.out 6 (.int .i64 (wrap64 (p.cf.f0 + p.cf.f2))) rfl)
        have HV5 := Lib.hid (show { c1 with want := wrap64 (p.cf.f0 + p.cf.f2) } = countB p by rw [HEq.out, show wantB p = wrap64 (p.cf.f0 + p.cf.f2) from by have h := H1.out; simp at h; simp [wantB, h, HPa.out, H0.out]])
        clear hU5 k6 f6 d5
        have HA : Hid ((Cn.cells { c1 with want := wrap64 (p.cf.f0 + p.cf.f2) }).all (·.oneCell') = true) := Lib.hid (by simp [Value.oneCell'])
        go_wp2_with (first | refine wpList_load_row (by rfl) 38 _ rfl b3 (by rfl) 38 _ (0, 0) _ X5.out.bx Tryd.underlying38 rfl (by kernel_rfl) ?_ | refine wpList_store_row (by rfl) 38 _ _ rfl (w.heap.size + 1) (Cn.cells { c1 with want := wrap64 (p.cf.f0 + p.cf.f2) }) (by rfl) (by rfl) 38 _ X5.out.res (by kernel_rfl) rfl HA.out ?_)
        exact count_end (k := 2) rfl (by rfl) (setRow_heap _ _ _ _ _ _ X5.out.res) rfl ⟨by rw [← HV5.out], below_rowsetB X5.out.below (by omega) _⟩

end Go.Proofs.YtplejbgecihnpaaDoor

namespace Go.Proofs.YtplejbgecihnpaaDoor
open Go.RowKit Go.Shelf
attribute [local go_sem] Oper.semAt_some

set_option maxRecDepth 100000 in
set_option maxHeartbeats 2000000 in
theorem full_any (p : Br) (a : Ad) (w : World) (hN : BrNow p a w) :
    Calls Tryd.prog 21 #[brV p a] w (BoolPost (fullB p) w) := by
  obtain ⟨V, hV⟩ : ∃ V, w.alloc (.cells (brC p a) 30) = V := ⟨_, rfl⟩
  have w0 : Whole V w.heap.size 30 (brC p a) := by rw [← hV]; exact Whole.new _ _ _
  have hb : Below w.heap.size w V := by rw [← hV]; exact (Below.refl _ _).alloc (Nat.le_refl _) _
  have HR := Lib.hid (hN.under hb)
  have HB := Lib.hid hb
  have HV := Lib.hid hV
  have W0 := Lib.hid w0
  clear w0 hb hV hN
  go_enter Tryd.func21, Tryd.ntmps21
  go_upto_region 1 with fail
  refine wpV (fun V2 hV2 => ?_)
  obtain rfl : V = V2 := HV.out.symm.trans hV2
  clear HV hV2
  go_wp2_with (refine wpList_load_row (by rfl) 30 _ rfl w.heap.size (by rfl) 30 _ (0, 0) _ W0.out Tryd.underlying30 rfl (by kernel_rfl) ?_)
  refine (of_any p a V HR.out).mono ?_
  rintro e W1 ⟨rfl, hb1⟩
  have HB1 := Lib.hid (HB.out.trans (hb1.mono HB.out.size))
  clear hb1
  obtain ⟨C, hC⟩ : ∃ C, countB p = C := ⟨_, rfl⟩
  have h1 : C.all = p.its.length + p.kps.length := by rw [← hC]; rfl
  have h2 : C.bd = boundOf p.cf := by rw [← hC]; rfl
  rw [hC]
  have H1 := Lib.hid h1
  have H2 := Lib.hid h2
  clear hC h1 h2
  obtain ⟨cv, co, cs, cw, ca, ce, cn, cf, cb⟩ := C
  go_upto_region 2 with fail
  refine wpV (fun W2 hW2 => ?_)
  have hb2 : Below W1.heap.size W1 W2 := by rw [← hW2]; exact (Below.refl _ _).alloc (Nat.le_refl _) _
  have hw2 : Whole W2 W1.heap.size 38 (Cn.cells ⟨cv, co, cs, cw, ca, ce, cn, cf, cb⟩) := by rw [← hW2]; exact Whole.new _ _ _
  have m4 : W2.cell? ⟨W1.heap.size, 4, none⟩ = some (.int .i64 (ca : Int)) := hw2.cell 4
  have m8 : W2.cell? ⟨W1.heap.size, 8, none⟩ = some (.int .i64 cb) := hw2.cell 8
  have HB2 := Lib.hid (HB1.out.trans (hb2.mono HB1.out.size))
  clear hW2 hb2 hw2
  go_wp2_with fail
  go_ret
  refine ⟨?_, HB2.out⟩
  have e1 : ca = p.its.length + p.kps.length := H1.out
  have e2 : cb = boundOf p.cf := H2.out
  rw [e1, e2]
  rfl

/-- What a loop keeps. -/
structure Lp (n₀ : Nat) (L : List Nat) (w9 W : World) : Prop where
  kpd : KpD n₀ L w9 W
  oth : ∀ (k : Nat) (o : Obj), w9.heap[k]? = some o → o.isCells = false → W.heap[k]? = some o
theorem Lp.refl (n₀ : Nat) (L : List Nat) (W : World) : Lp n₀ L W W := ⟨KpD.refl _ _ _, fun _ _ h _ => h⟩
theorem Lp.turn {n₀ : Nat} {L : List Nat} {w9 W W' : World} {row : Option Nat} (h : Lp n₀ L w9 W) (hg : W.grownBy W' row) (hr : ∀ r, row = some r → w9.heap.size ≤ r) (h0 : n₀ ≤ w9.heap.size) (hL : ∀ b ∈ L, b < w9.heap.size) : Lp n₀ L w9 W' := by
  have hs := h.kpd.1.size
  refine ⟨⟨h.kpd.1.grown hg (Nat.le_trans h0 hs) (fun k e => Nat.le_trans h0 (hr k e)), fun b hb => (hg.block b (Nat.lt_of_lt_of_le (hL b hb) hs) (fun e => by have h1 := hr b e.symm; have h2 := hL b hb; omega)).trans (h.kpd.2 b hb)⟩, fun k o ho hc => ?_⟩
  have hk := (Array.getElem?_eq_some_iff.1 ho).1
  exact (hg.block k (Nat.lt_of_lt_of_le hk hs) (fun e => by have h1 := hr k e.symm; omega)).trans (h.oth k o ho hc)
theorem Lp.step {n₀ : Nat} {L : List Nat} {w9 W W' : World} (h : Lp n₀ L w9 W) (k : KpD n₀ L W W') (o : KeepsOthers W W') : Lp n₀ L w9 W' := ⟨h.kpd.trans k, fun i x hx hc => o.same i x (h.oth i x hx hc) hc⟩

/-- What stands in 'Zones'. -/
structure ZsAt (p : Br) (a : Ad) (w : World) (g b4 : Nat) (zs : List Int) (W : World) : Prop where
  br : Whole W w.heap.size 30 (brC p a)
  row : ∃ v, Whole W (w.heap.size + 1) 22 #[v] ∧ W.ownsRow (w.heap.size + 1 + 1) 3 1 v zs.length (iv zs)
  lot : Whole W b4 58 #[fvI g 1, fvK g 1]
  gb : Whole W g 30 (brC p a)
  below : Below w.heap.size w W
  sz : w.heap.size + 1 + 1 ≤ W.heap.size
section
variable {p : Br} {a : Ad} {w W W' : World} {g b4 : Nat} {zs : List Int}
theorem ZsAt.under (h : ZsAt p a w g b4 zs W) (hb : Below W.heap.size W W') : ZsAt p a w g b4 zs W' := by
  obtain ⟨v, h1, h2⟩ := h.row
  exact ⟨h.br.under hb, ⟨v, h1.under hb, own_under h2 hb⟩, h.lot.under hb, h.gb.under hb, h.below.trans (hb.mono h.below.size), Nat.le_trans h.sz hb.size⟩
theorem ZsAt.turn {row : Option Nat} (h : ZsAt p a w g b4 zs W) (hg : W.grownBy W' row) (hr : ∀ r, row = some r → w.heap.size ≤ r ∧ ∃ o : Obj, W.heap[r]? = some o ∧ o.isCells = false) : ZsAt p a w g b4 zs W' := by
  have hr' : ∀ r, row = some r → ∃ o : Obj, W.heap[r]? = some o ∧ o.isCells = false := fun r e => (hr r e).2
  obtain ⟨v, h1, h2⟩ := h.row
  exact ⟨h.br.turn hg hr', ⟨v, h1.turn hg hr', own_turn h2 hg hr'⟩, h.lot.turn hg hr', h.gb.turn hg hr', h.below.grown hg h.below.size (fun k e => (hr k e).1), Nat.le_trans h.sz hg.size⟩
/-- One zone more. -/
theorem zs_put (W : World) (base : Nat) (v : Value) (zs : List Int) (ho : W.ownsRow base 3 1 v zs.length (iv zs)) (z : Int) (hz : zs.length ≤ 100000) (hb : base ≤ W.heap.size) :
    ∃ A' c' W', (Builtin.append_ #[22, 22] 22 #[v, .slice (some ⟨W.heap.size, 0, none⟩) 1 1]).run Tryd.prog (W.alloc (.cells #[.int .i64 z] 3)) = .ok (.slice A' (zs.length + 1) c') W' ∧ W'.ownsRow base 3 1 (.slice A' (zs.length + 1) c') (zs.length + 1) (iv (zs ++ [z])) ∧ Below base W W' ∧ KeepsOthers W W' ∧ (∀ b t cs, Whole W b t cs → 3 ≠ t → Whole W' b t cs) := by
  have hb1 : Below W.heap.size W (W.alloc (.cells #[.int .i64 z] 3)) := (Below.refl _ _).alloc (Nat.le_refl _) _
  have ho1 := own_under ho hb1
  obtain ⟨v', W', h1, h2, h3⟩ := run_appI (W.alloc (.cells #[.int .i64 z] 3)) base v zs.length (iv zs) ho1 (W.heap.size + 1) (some ⟨W.heap.size, 0, none⟩) 1 1 [z] (rd_lit W [.int .i64 z] _ 1 rfl) (by omega) (Nat.le_trans hb hb1.size)
  obtain ⟨A', c', rfl⟩ := own_formF h2
  refine ⟨A', c', W', h1, ?_, (hb1.mono hb).trans (below_row ho1 h3 (Nat.le_trans hb hb1.size)), (keeps_under hb1).trans (keeps_row ho1 h3), fun b t cs hw hne => (hw.under hb1).grown h3 (Ne.symm (own_apart_of hne ho1 (hw.under hb1)))⟩
  rw [iv, List.map_append]
  exact h2
end
theorem _root_.Go.World.ownsRow.only_ {w w' : World} {g : Nat} {base size n : Nat} {e t : TypeId} {v : Value} {xs : List Value} {cs : Array Value} (ho : w.ownsRow base e size v n xs) (h : Only g w w') (hw : Whole w g t cs) (hne : e ≠ t) : w'.ownsRow base e size v n xs := h.own ho hw hne
theorem rd_kept {W W' : World} {base n c : Nat} {A : Option Addr} {zs : List Int} (ho : W.ownsRow base 3 1 (.slice A n c) n (iv zs)) (hc : ∀ (k : Nat) (o : Obj), W.heap[k]? = some o → o.isCells = true → W'.heap[k]? = some o) : Rd W' W'.heap.size A n (iv zs) := by
  obtain ⟨h1, h2⟩ := Rd.of_own ho
  refine ⟨h1, fun hn => ?_⟩
  obtain ⟨b, off, e, hb, hcell⟩ := h2 hn
  have h0 := hcell 0 hn
  obtain ⟨v, hv⟩ : ∃ v, (iv zs)[0]? = some v := ⟨_, List.getElem?_eq_getElem (by omega)⟩
  rw [hv] at h0
  unfold World.cell? at h0
  simp only at h0
  split at h0
  · rename_i cs t fz hh
    have hW := hc b _ hh rfl
    exact ⟨b, off, e, (Array.getElem?_eq_some_iff.1 hW).1, fun j hj => (World.cell?_of_block (a := ⟨b, off + j, none⟩) (hW.trans hh.symm)).trans (hcell j hj)⟩
  · cases h0
theorem zonesB_two (p : Br) : zonesB p = (p.its.filter (qI p 1)).map It.zone ++ (p.kps.filter (qK p 1)).map Kp.zone := rfl
/-- The end of a function behind loops. -/
theorem marks_end {fn : Func} {k B : Nat} (hres : fn.results = #[.tmp k]) {tm : Array Value} {ds : List Deferred} {n : Nat} {F : Fence} {W : World} {v : Value} {R : Ending → World → Prop} (h2 : tm[k]? = some v) (hm : Marks ds W) (hB : ∀ D, (⟨.collected D, #[]⟩ : Deferred) ∈ ds → B ≤ D)
    (hR : ∀ W', Below B W W' → (∀ (k : Nat) (o : Obj), W.heap[k]? = some o → o.isCells = true → W'.heap[k]? = some o) → R (.returned v) W') : bodyPostM F n Tryd.prog fn R .ret { tmps := tm, defers := ds } W := by
  obtain ⟨Ds, rfl, hnd, hD⟩ := hm
  refine leaves_marks (B := B) Ds W hnd (fun D h => ⟨hD D h, hB D (List.mem_map.2 ⟨D, h, rfl⟩)⟩) (fun W' hb hc => ⟨v, ?_, hR W' hb hc⟩)
  simp [results, hres, h2]
theorem lots_index (g : Nat) (W : World) : (Instr.index 59 (.agg (lotsC g)) (.int .i64 1)).run Tryd.prog W = .ok (.agg #[fvI g 1, fvK g 1]) W := by
  first | rfl | (unfold lotsC; rfl) | (unfold lotsC; go_simp) | (unfold lotsC; simp [Instr.index, go_sem])

set_option maxRecDepth 100000 in
set_option maxHeartbeats 4000000 in
theorem zones_any (p : Br) (a : Ad) (w : World) (hN : BrNow p a w) : Calls Tryd.prog 19 #[brV p a] w (ZonesPost (zonesB p) w) := by
  have hni := hN.its
  have hnk := hN.kps
  have hr := hN.rd
  obtain ⟨hb, w0, w1⟩ := two_new w 30 22 (brC p a) #[.slice none 0 0]
  obtain ⟨V, hV⟩ : ∃ V, (w.alloc (.cells (brC p a) 30)).alloc (.cells #[.slice none 0 0] 22) = V := ⟨_, rfl⟩
  have hs : V.heap.size = w.heap.size + 1 + 1 := by rw [← hV]; simp
  rw [hV] at hb w0 w1
  have HR := Lib.hid hr
  have HB := Lib.hid hb
  have HV := Lib.hid hV
  have W0 := Lib.hid w0
  have W1 := Lib.hid w1
  have HS := Lib.hid hs
  have HNI := Lib.hid hni
  have HNK := Lib.hid hnk
  clear hb w0 w1 hr hs hV hni hnk hN
  refine (callsIn_wide (n := 6)).1 ?_
  refine callsIn_of_wp_marks Tryd.func19 rfl trivial ?_ rfl
  simp only [Tryd.ntmps19, List.size_toArray, List.length_cons, List.length_nil, Nat.reduceAdd, Nat.reduceSub, Array.replicate_succ, Array.replicate_zero, List.push_toArray, List.append_toArray, List.nil_append, List.cons_append]
  refine wpIn_wide.2 ?_
  go_upto_region 2 with fail
  refine wpV (fun V2 hV2 => ?_)
  obtain rfl : V = V2 := HV.out.symm.trans hV2
  clear HV hV2
  go_wp2_with (refine wpList_loadB (by rfl) _ rfl w.heap.size p a (by rfl) W0.out ?_)
  refine (told_any p a V).mono ?_
  rintro e U1 ⟨rfl, hg1, hb2⟩
  obtain ⟨g, hg⟩ : ∃ g, V.heap.size = g := ⟨_, rfl⟩
  rw [hg] at hg1 ⊢
  have Y0 := Lib.hid (W0.out.under hb2)
  have Y1 := Lib.hid (W1.out.under hb2)
  have YG := Lib.hid hg1
  have HG := Lib.hid (show w.heap.size + 1 < g ∧ g < U1.heap.size from ⟨by rw [← hg, HS.out]; omega, hg1.lt⟩)
  have HB2 := Lib.hid (HB.out.trans (hb2.mono HB.out.size))
  clear hg1 hb2 hg HB HS W0 W1
  have hli : ∀ W : World, (Instr.index 59 (.agg (lotsC g)) (.int .i64 1)).run Tryd.prog W = .ok (.agg #[.func (.func (FI 1)) #[] (LB g 1), .func (.func (FK 1)) #[] (LB g 1)]) W := lots_index g
  go_upto_region 3 with fail
  clear hli
  refine wpV (fun U2 hU2 => ?_)
  have hbU : Below U1.heap.size U1 U2 := by rw [← hU2]; exact (Below.refl _ _).alloc (Nat.le_refl _) _
  have w4 : Whole U2 U1.heap.size 58 #[.func (.func (FI 1)) #[] (LB g 1), .func (.func (FK 1)) #[] (LB g 1)] := by rw [← hU2]; exact Whole.new _ _ _
  obtain ⟨b4, hb4⟩ : ∃ b4, U1.heap.size = b4 := ⟨_, rfl⟩
  have HG4 := Lib.hid (show g < b4 from by rw [← hb4]; exact HG.out.2)
  rw [hb4] at w4 ⊢
  have HZ := Lib.hid (show ZsAt p a w g b4 (([] : List It).map It.zone) U2 from ⟨Y0.out.under hbU, ⟨_, Y1.out.under hbU, World.ownsRow_nil _ _ _ _⟩, w4, YG.out.under hbU, HB2.out.trans (hbU.mono HB2.out.size), by have h1 := Y1.out.lt; have h2 := hbU.size; omega⟩)
  have HG_ := Lib.hid (show w.heap.size + 1 < g ∧ g < b4 from ⟨HG.out.1, HG4.out⟩)
  clear hbU w4 hU2 Y0 Y1 YG HB2 HG HG4 hb4
  have HG := HG_
  clear HG_
  have HMk := Lib.hid (Marks.nil_ U2)
  have HDs := Lib.hid (show ∀ D', (⟨.collected D', #[]⟩ : Deferred) ∈ ([] : List Deferred) → w.heap.size ≤ D' from fun D' h => (by cases h))
  obtain ⟨ds, hds⟩ : ∃ ds : List Deferred, [] = ds := ⟨_, rfl⟩
  rw [hds] at HMk HDs ⊢
  clear hds
  have c18 : U2.cell? ⟨w.heap.size, 18, none⟩ = some (.slice a.A p.its.length a.c) := HZ.out.br.cell 18
  have c40 : U2.cell? ⟨b4, 0, none⟩ = some (.func (.func (FI 1)) #[] (LB g 1)) := HZ.out.lot.cell 0
  go_wp2_with fail
  refine (itIn_any a.A p.its.length a.c (FI 1) (LB g 1) U2).mono ?_
  rintro e w9 ⟨b1, b2, rfl, hl1, hl2, hx1, hx2, hb1⟩
  have HZ9 := Lib.hid (HZ.out.under hb1)
  have HM9 := Lib.hid (HMk.out.under hb1)
  have HX1 := Lib.hid hx1
  have HX2 := Lib.hid hx2
  have HL := Lib.hid (show ∀ b ∈ [b1, b2, g], b < w9.heap.size from by
    intro b hb
    rcases List.mem_cons.1 hb with rfl | hb
    · exact hx1.lt
    · rcases List.mem_cons.1 hb with rfl | hb
      · exact hx2.lt
      · rcases List.mem_cons.1 hb with rfl | hb
        · exact HZ9.out.gb.lt
        · cases hb)
  have HO := Lib.hid (show w.heap.size + 1 < b1 ∧ w.heap.size + 1 < b2 from by
    have := HZ.out.sz
    omega)
  clear hl1 hl2 hx1 hx2 hb1 c18 c40
  go_wp2_with fail
  refine (wpIn_wide (n := 6)).1 ?_
  refine wpIn_range_mem (by omega) (gf := 59) (lb := #[.pointer (some ⟨b1, 0, none⟩), .pointer (some ⟨b2, 0, none⟩)]) rfl (enters_of Tryd.func59 (by kernel_rfl) rfl) (encs := encIt)
    (itIn_mem 5 b1 b2 w.heap.size [b1, b2, g] (FI 1) (LB g 1) (qI p 1) a.A p.its.length a.c p.its (by have := HNI.out; omega) (by omega) (by simp) (by simp) (enterI 1) w9 (fun x W hW => sayI p a g 1 x W (HZ9.out.gb.kpd hW (by simp))) HX1.out HX2.out (HR.out.its.below HZ9.out.below) HZ9.out.below.size HL.out)
    (fun h k => h.trans k)
    (fun W l o o' hl _ _ _ => KpD.put (Nat.le_trans HZ9.out.below.size hl) (fun b hb => Nat.lt_of_lt_of_le (HL.out b hb) hl)) (Below.refl _ _) (fun _ => rfl)
    (fun pre W => ZsAt p a w g b4 (pre.map It.zone) W ∧ Lp w.heap.size [b1, b2, g] w9 W) (fun _ _ => False)
    (fun pre W1 W2 row h hg hr => ⟨h.1.turn hg (fun r e => ⟨Nat.le_trans HZ9.out.below.size (hr r e).1, (hr r e).2⟩), h.2.turn hg (fun r e => (hr r e).1) HZ9.out.below.size HL.out⟩) (fun _ _ _ _ h _ _ => h.elim) ⟨by simpa using HZ9.out, Lp.refl _ _ _⟩
    (fun pre x a' W => OkIn (p.its.filter (qI p 1)) pre x W ∧ ∃ gx, a' = { tmps := #[brV p a, .pointer (some ⟨w.heap.size, 0, none⟩), .slice none 0 0, .pointer (some ⟨w.heap.size + 1, 0, none⟩), .pointer (some ⟨b4, 0, none⟩), .pointer (some ⟨gx, 0, none⟩), undef, brV p a, .agg (lotsC g), .agg #[.func (.func (FI 1)) #[] (LB g 1), .func (.func (FK 1)) #[] (LB g 1)], .pointer (some ⟨w.heap.size, 18, none⟩), .slice a.A p.its.length a.c, .pointer (some ⟨b4, 0, none⟩), .func (.func (FI 1)) #[] (LB g 1), .func (.func 59) #[] #[.pointer (some ⟨b1, 0, none⟩), .pointer (some ⟨b2, 0, none⟩)], .agg #[.int .i64 x.tok, .int .i64 x.ver, .int .i64 x.zone, .bool x.warm], undef, undef, undef, undef, undef, undef, undef, undef, undef, undef, undef, undef, undef, undef, undef, undef, undef], defers := [] } ∧ Whole W gx 34 #[.int .i64 x.tok, .int .i64 x.ver, .int .i64 x.zone, .bool x.warm])
    (fun a' p X Y row hs hg hr => ⟨hs.1, by obtain ⟨g, e, hb⟩ := hs.2; exact ⟨g, e, Whole.turn hb hg (fun r e => (hr r e).2)⟩⟩) ?assigna ?bodya ?donea ?stopa
  case assigna =>
    rintro lp pre x W K hI hOk hK
    have HI := Lib.hid hI
    have HOk := Lib.hid hOk
    clear hI hOk
    unfold encIt
    gi_wp2
    have hbu : Below W.heap.size W (W.alloc (.cells #[.int .i64 x.tok, .int .i64 x.ver, .int .i64 x.zone, .bool x.warm] 34)) := (Below.refl _ _).alloc (Nat.le_refl _) _
    exact hK _ _ (keepsFrom_alloc _ _ _) (KpD.of_below hbu HI.out.1.below.size (fun b hb => Nat.lt_of_lt_of_le (HL.out b hb) HI.out.2.kpd.1.size)) ⟨HI.out.1.under hbu, HI.out.2.step (KpD.of_below hbu HI.out.1.below.size (fun b hb => Nat.lt_of_lt_of_le (HL.out b hb) HI.out.2.kpd.1.size)) (keeps_under hbu)⟩ ⟨HOk.out, _, rfl, Whole.new _ _ _⟩
  case stopa =>
    rintro D c W hD h hK
    exact h.elim
  case bodya =>
    rintro lp pre x a' W hlp hI ⟨hok, gx, rfl, hbx⟩
    have HI := Lib.hid hI
    have hpl : pre.length < p.its.length := by
      have h1 := hok.length_le
      have h2 := List.length_filter_le (qI p 1) p.its
      simp at h1
      omega
    have hzl : (pre.map It.zone).length ≤ 100000 := by
      have h1 := HNI.out
      have h2 := HNK.out
      have h3 := List.length_filter_le (qI p 1) p.its
      simp
      omega
    obtain ⟨zs, hzs⟩ : ∃ zs, (pre.map It.zone) = zs := ⟨_, rfl⟩
    rw [hzs] at hzl hI
    obtain ⟨v, hv1, hv2⟩ := hI.1.row
    obtain ⟨A1, k1, rfl⟩ := own_formF hv2
    obtain ⟨A2, k2, W2, hrun, ho2, hb2, hkf, hwh⟩ := zs_put W _ _ zs hv2 x.zone hzl hI.1.sz
    obtain ⟨m, hm⟩ : ∃ m, zs.length = m := ⟨_, rfl⟩
    rw [hm] at hv1 hrun ho2
    have hr2 := hwh _ _ _ hv1 (by decide)
    have HRun := Lib.hid hrun
    have HO2 := Lib.hid ho2
    have HB2 := Lib.hid hb2
    have HKF := Lib.hid hkf
    have HWh := Lib.hid hwh
    have HR2 := Lib.hid hr2
    have HM := Lib.hid hm
    have HZs := Lib.hid hzs
    have cz : W.cell? ⟨gx, 2, none⟩ = some (.int .i64 x.zone) := hbx.cell 2
    have cr : W.cell? ⟨w.heap.size + 1, 0, none⟩ = some (.slice A1 m k1) := hv1.cell 0
    have cr2 : W2.cell? ⟨w.heap.size + 1, 0, none⟩ = some (.slice A1 m k1) := hr2.cell 0
    have fr2 : W2.frozen? ⟨w.heap.size + 1, 0, none⟩ = false := hr2.frozen 0
    clear hI hok hbx hv1 hv2 hrun ho2 hb2 hkf hwh hr2 hpl hzl hm hzs
    gi_wp2_with (gi_at_builtin; refine wpListIn_app (by rfl) _ _ 22 rfl _ _ _ W2 (by rfl) (by rfl) HRun.out ?_)
    have e3 := HR2.out.set 0 (.slice A2 (m + 1) k2)
    simp only [List.setIfInBounds_toArray, List.set_cons_zero] at e3
    have k3 := Only.set W2 (w.heap.size + 1) 0 (.slice A2 (m + 1) k2)
    have sz := HI.out.1.sz
    have hko := HKF.out.trans k3.keeps
    have hkd : KpD w.heap.size [b1, b2, g] W (W2.setCell ⟨w.heap.size + 1, 0, none⟩ (.slice A2 (m + 1) k2)) := by
      refine ⟨k3.bel (HB2.out.mono (by omega)) (by omega), ?_⟩
      have q1 := HX1.out.kpd HI.out.2.kpd (by simp)
      have q2 := HX2.out.kpd HI.out.2.kpd (by simp)
      have q3 := HI.out.1.gb
      have hg9 := HG.out
      have ho9 := HO.out
      intro b hb
      rcases List.mem_cons.1 hb with rfl | hb
      · exact (k3.far (HWh.out _ _ _ q1 (by decide)) (by omega)).trans q1.symm
      · rcases List.mem_cons.1 hb with rfl | hb
        · exact (k3.far (HWh.out _ _ _ q2 (by decide)) (by omega)).trans q2.symm
        · rcases List.mem_cons.1 hb with rfl | hb
          · exact (k3.far (HWh.out _ _ _ q3 (by decide)) (by omega)).trans q3.symm
          · cases hb
    have ez : ((pre ++ [x]).map It.zone) = zs ++ [x.zone] := by rw [← HZs.out]; simp
    have hg9 := HG.out
    refine ⟨hko.from _, hkd, ⟨k3.far (HWh.out _ _ _ HI.out.1.br (by decide)) (by omega), ⟨_, e3, ?_⟩, k3.far (HWh.out _ _ _ HI.out.1.lot (by decide)) (by omega), k3.far (HWh.out _ _ _ HI.out.1.gb (by decide)) (by omega), k3.bel (HI.out.1.below.trans (HB2.out.mono (by omega))) (by omega), ?_⟩, HI.out.2.step hkd hko⟩
    · rw [ez]
      have h9 := HO2.out.only_ k3 HR2.out (by decide)
      rw [List.length_append, HM.out]
      exact h9
    · rw [k3.size]; exact Nat.le_trans sz HB2.out.size
  case donea =>
    rintro D ys W hD rfl hI hK
    have HZ := Lib.hid hI.1
    have HMd := Lib.hid ((HM9.out.kept hI.2.oth).cons hK (fun D' h => by have := HM9.out.lt h; omega))
    have HDs_ := Lib.hid (show ∀ D', (⟨.collected D', #[]⟩ : Deferred) ∈ ({ target := .collected D, args := #[] } :: ds : List Deferred) → w.heap.size ≤ D' from by
      intro D' h
      rcases List.mem_cons.1 h with h | h
      · cases h
        have := HZ9.out.below.size
        omega
      · exact HDs.out D' h)
    clear hI hK hD HDs HMk
    have HDs := HDs_
    have HMk := HMd
    clear HDs_ HMd HX1 HX2 HL HO HZ9 HM9
    obtain ⟨ds2, hds2⟩ : ∃ ds2 : List Deferred, ({ target := .collected D, args := #[] } :: ds : List Deferred) = ds2 := ⟨_, rfl⟩
    rw [hds2] at HMk HDs ⊢
    clear hds2
    have c18 : W.cell? ⟨w.heap.size, 19, none⟩ = some (.slice a.B p.kps.length a.d) := HZ.out.br.cell 19
    have c40 : W.cell? ⟨b4, 1, none⟩ = some (.func (.func (FK 1)) #[] (LB g 1)) := HZ.out.lot.cell 1
    go_wp2_with fail
    refine (kpIn_any a.B p.kps.length a.d (FK 1) (LB g 1) W).mono ?_
    rintro e w9 ⟨d1, d2, rfl, hl1, hl2, hx1, hx2, hb1⟩
    have HZ9 := Lib.hid (HZ.out.under hb1)
    have HM9 := Lib.hid (HMk.out.under hb1)
    have HX1 := Lib.hid hx1
    have HX2 := Lib.hid hx2
    have HL := Lib.hid (show ∀ b ∈ [d1, d2, g], b < w9.heap.size from by
      intro b hb
      rcases List.mem_cons.1 hb with rfl | hb
      · exact hx1.lt
      · rcases List.mem_cons.1 hb with rfl | hb
        · exact hx2.lt
        · rcases List.mem_cons.1 hb with rfl | hb
          · exact HZ9.out.gb.lt
          · cases hb)
    have HO := Lib.hid (show w.heap.size + 1 < d1 ∧ w.heap.size + 1 < d2 from by
      have := HZ.out.sz
      omega)
    clear hl1 hl2 hx1 hx2 hb1 c18 c40
    go_wp2_with fail
    refine (wpIn_wide (n := 6)).1 ?_
    refine wpIn_range_mem (by omega) (gf := 60) (lb := #[.pointer (some ⟨d1, 0, none⟩), .pointer (some ⟨d2, 0, none⟩)]) rfl (enters_of Tryd.func60 (by kernel_rfl) rfl) (encs := encKp)
      (kpIn_mem 5 d1 d2 w.heap.size [d1, d2, g] (FK 1) (LB g 1) (qK p 1) a.B p.kps.length a.d p.kps (by have := HNK.out; omega) (by omega) (by simp) (by simp) (enterK 1) w9 (fun x W hW => sayK p a g 1 x W (HZ9.out.gb.kpd hW (by simp))) HX1.out HX2.out (HR.out.kps.below HZ9.out.below) HZ9.out.below.size HL.out)
      (fun h k => h.trans k)
      (fun W l o o' hl _ _ _ => KpD.put (Nat.le_trans HZ9.out.below.size hl) (fun b hb => Nat.lt_of_lt_of_le (HL.out b hb) hl)) (Below.refl _ _) (fun _ => rfl)
      (fun pre W => ZsAt p a w g b4 ((p.its.filter (qI p 1)).map It.zone ++ pre.map Kp.zone) W ∧ Lp w.heap.size [d1, d2, g] w9 W) (fun _ _ => False)
      (fun pre W1 W2 row h hg hr => ⟨h.1.turn hg (fun r e => ⟨Nat.le_trans HZ9.out.below.size (hr r e).1, (hr r e).2⟩), h.2.turn hg (fun r e => (hr r e).1) HZ9.out.below.size HL.out⟩) (fun _ _ _ _ h _ _ => h.elim) ⟨by simpa using HZ9.out, Lp.refl _ _ _⟩
      (fun pre x a' W => OkIn (p.kps.filter (qK p 1)) pre x W ∧ ∃ gx, a' = { tmps := #[brV p a, .pointer (some ⟨w.heap.size, 0, none⟩), .slice none 0 0, .pointer (some ⟨w.heap.size + 1, 0, none⟩), .pointer (some ⟨b4, 0, none⟩), undef, .pointer (some ⟨gx, 0, none⟩), brV p a, .agg (lotsC g), .agg #[.func (.func (FI 1)) #[] (LB g 1), .func (.func (FK 1)) #[] (LB g 1)], .pointer (some ⟨w.heap.size, 18, none⟩), .slice a.A p.its.length a.c, .pointer (some ⟨b4, 0, none⟩), .func (.func (FI 1)) #[] (LB g 1), .func (.func 59) #[] #[.pointer (some ⟨b1, 0, none⟩), .pointer (some ⟨b2, 0, none⟩)], undef, undef, undef, undef, undef, undef, .pointer (some ⟨w.heap.size, 19, none⟩), .slice a.B p.kps.length a.d, .pointer (some ⟨b4, 1, none⟩), .func (.func (FK 1)) #[] (LB g 1), .func (.func 60) #[] #[.pointer (some ⟨d1, 0, none⟩), .pointer (some ⟨d2, 0, none⟩)], x.v, undef, undef, undef, undef, undef, undef], defers := [] } ∧ Whole W gx 32 x.cells)
      (fun a' p X Y row hs hg hr => ⟨hs.1, by obtain ⟨g, e, hb⟩ := hs.2; exact ⟨g, e, Whole.turn hb hg (fun r e => (hr r e).2)⟩⟩) ?assignb ?bodyb ?doneb ?stopb
    case assignb =>
      rintro lp pre x W K hI hOk hK
      have HI := Lib.hid hI
      have HOk := Lib.hid hOk
      clear hI hOk
      unfold encKp
      gi_wp2
      have hbu : Below W.heap.size W (W.alloc (.cells x.cells 32)) := (Below.refl _ _).alloc (Nat.le_refl _) _
      exact hK _ _ (keepsFrom_alloc _ _ _) (KpD.of_below hbu HI.out.1.below.size (fun b hb => Nat.lt_of_lt_of_le (HL.out b hb) HI.out.2.kpd.1.size)) ⟨HI.out.1.under hbu, HI.out.2.step (KpD.of_below hbu HI.out.1.below.size (fun b hb => Nat.lt_of_lt_of_le (HL.out b hb) HI.out.2.kpd.1.size)) (keeps_under hbu)⟩ ⟨HOk.out, _, rfl, Whole.new _ _ _⟩
    case stopb =>
      rintro D c W hD h hK
      exact h.elim
    case bodyb =>
      rintro lp pre x a' W hlp hI ⟨hok, gx, rfl, hbx⟩
      have HI := Lib.hid hI
      have hpl : pre.length < p.kps.length := by
        have h1 := hok.length_le
        have h2 := List.length_filter_le (qK p 1) p.kps
        simp at h1
        omega
      have hzl : ((p.its.filter (qI p 1)).map It.zone ++ pre.map Kp.zone).length ≤ 100000 := by
        have h1 := HNI.out
        have h2 := HNK.out
        have h3 := List.length_filter_le (qI p 1) p.its
        simp
        omega
      obtain ⟨zs, hzs⟩ : ∃ zs, ((p.its.filter (qI p 1)).map It.zone ++ pre.map Kp.zone) = zs := ⟨_, rfl⟩
      rw [hzs] at hzl hI
      obtain ⟨v, hv1, hv2⟩ := hI.1.row
      obtain ⟨A1, k1, rfl⟩ := own_formF hv2
      obtain ⟨A2, k2, W2, hrun, ho2, hb2, hkf, hwh⟩ := zs_put W _ _ zs hv2 x.zone hzl hI.1.sz
      obtain ⟨m, hm⟩ : ∃ m, zs.length = m := ⟨_, rfl⟩
      rw [hm] at hv1 hrun ho2
      have hr2 := hwh _ _ _ hv1 (by decide)
      have HRun := Lib.hid hrun
      have HO2 := Lib.hid ho2
      have HB2 := Lib.hid hb2
      have HKF := Lib.hid hkf
      have HWh := Lib.hid hwh
      have HR2 := Lib.hid hr2
      have HM := Lib.hid hm
      have HZs := Lib.hid hzs
      have cz : W.cell? ⟨gx, 3, none⟩ = some (.int .i64 x.zone) := hbx.cell 3
      have cr : W.cell? ⟨w.heap.size + 1, 0, none⟩ = some (.slice A1 m k1) := hv1.cell 0
      have cr2 : W2.cell? ⟨w.heap.size + 1, 0, none⟩ = some (.slice A1 m k1) := hr2.cell 0
      have fr2 : W2.frozen? ⟨w.heap.size + 1, 0, none⟩ = false := hr2.frozen 0
      clear hI hok hbx hv1 hv2 hrun ho2 hb2 hkf hwh hr2 hpl hzl hm hzs
      gi_wp2_with (gi_at_builtin; refine wpListIn_app (by rfl) _ _ 22 rfl _ _ _ W2 (by rfl) (by rfl) HRun.out ?_)
      have e3 := HR2.out.set 0 (.slice A2 (m + 1) k2)
      simp only [List.setIfInBounds_toArray, List.set_cons_zero] at e3
      have k3 := Only.set W2 (w.heap.size + 1) 0 (.slice A2 (m + 1) k2)
      have sz := HI.out.1.sz
      have hko := HKF.out.trans k3.keeps
      have hkd : KpD w.heap.size [d1, d2, g] W (W2.setCell ⟨w.heap.size + 1, 0, none⟩ (.slice A2 (m + 1) k2)) := by
        refine ⟨k3.bel (HB2.out.mono (by omega)) (by omega), ?_⟩
        have q1 := HX1.out.kpd HI.out.2.kpd (by simp)
        have q2 := HX2.out.kpd HI.out.2.kpd (by simp)
        have q3 := HI.out.1.gb
        have hg9 := HG.out
        have ho9 := HO.out
        intro b hb
        rcases List.mem_cons.1 hb with rfl | hb
        · exact (k3.far (HWh.out _ _ _ q1 (by decide)) (by omega)).trans q1.symm
        · rcases List.mem_cons.1 hb with rfl | hb
          · exact (k3.far (HWh.out _ _ _ q2 (by decide)) (by omega)).trans q2.symm
          · rcases List.mem_cons.1 hb with rfl | hb
            · exact (k3.far (HWh.out _ _ _ q3 (by decide)) (by omega)).trans q3.symm
            · cases hb
      have ez : ((p.its.filter (qI p 1)).map It.zone ++ (pre ++ [x]).map Kp.zone) = zs ++ [x.zone] := by rw [← HZs.out]; simp
      have hg9 := HG.out
      refine ⟨hko.from _, hkd, ⟨k3.far (HWh.out _ _ _ HI.out.1.br (by decide)) (by omega), ⟨_, e3, ?_⟩, k3.far (HWh.out _ _ _ HI.out.1.lot (by decide)) (by omega), k3.far (HWh.out _ _ _ HI.out.1.gb (by decide)) (by omega), k3.bel (HI.out.1.below.trans (HB2.out.mono (by omega))) (by omega), ?_⟩, HI.out.2.step hkd hko⟩
      · rw [ez]
        have h9 := HO2.out.only_ k3 HR2.out (by decide)
        rw [List.length_append, HM.out]
        exact h9
      · rw [k3.size]; exact Nat.le_trans sz HB2.out.size
    case doneb =>
      rintro D ys W hD rfl hI hK
      have HZ := Lib.hid hI.1
      have HMd := Lib.hid ((HM9.out.kept hI.2.oth).cons hK (fun D' h => by have := HM9.out.lt h; omega))
      have HDs_ := Lib.hid (show ∀ D', (⟨.collected D', #[]⟩ : Deferred) ∈ ({ target := .collected D, args := #[] } :: ds2 : List Deferred) → w.heap.size ≤ D' from by
        intro D' h
        rcases List.mem_cons.1 h with h | h
        · cases h
          have := HZ9.out.below.size
          omega
        · exact HDs.out D' h)
      clear hI hK hD HDs HMk
      have HDs := HDs_
      have HMk := HMd
      clear HDs_ HMd HX1 HX2 HL HO HZ9 HM9
      obtain ⟨ds3, hds3⟩ : ∃ ds3 : List Deferred, ({ target := .collected D, args := #[] } :: ds2 : List Deferred) = ds3 := ⟨_, rfl⟩
      rw [hds3] at HMk HDs ⊢
      clear hds3
      have HZr := Lib.hid (show ∃ v, Whole W (w.heap.size + 1) 22 #[v] ∧ W.ownsRow (w.heap.size + 1 + 1) 3 1 v (zonesB p).length (iv (zonesB p)) from by rw [zonesB_two]; exact HZ.out.row)
      obtain ⟨v, hv1, hv2⟩ := HZr.out
      obtain ⟨A1, k1, rfl⟩ := own_formF hv2
      have cr : W.cell? ⟨w.heap.size + 1, 0, none⟩ = some (.slice A1 (zonesB p).length k1) := hv1.cell 0
      have HV2 := Lib.hid hv2
      clear hv1 hv2 HZr
      go_wp2_with fail
      refine marks_end (B := w.heap.size) rfl rfl HMk.out HDs.out (fun W' hb hc => ⟨A1, k1, rfl, ?_, HZ.out.below.trans hb⟩)
      exact rd_kept HV2.out hc

end Go.Proofs.YtplejbgecihnpaaDoor

namespace Go.Proofs.YtplejbgecihnpaaDoor
open Go.RowKit Go.Shelf

theorem countOk : CountOk where
  of := fun p a w h => of_any p a w h
  ver := fun p a w _ => ver_any p a w
  isOld := fun p a x w _ => isOld_any p a x w
  meant := fun p a x w _ => meant_any p a x w
  zones := fun p a w h => zones_any p a w h
  full := fun p a w h => full_any p a w h

end Go.Proofs.YtplejbgecihnpaaDoor

namespace Go.Proofs.YtplejbgecihnpaaDoor
open Go.RowKit Go.Shelf Go.ChangeShapes Go.WideShapes Go.Deep Go.Joins

section
variable {H : Type} {enc : TypeId × Value → H} {W : World} {base : Nat} {held : Bool} {d : DataW H} {p : List MemPlace} {v : Value}

set_option maxRecDepth 100000 in
theorem open_i64 (hv : Value.okWide Tryd.prog W .any base 3 v) (h : DataW.Trod enc Tryd.prog W 0 (fun _ => true) held 3 v d p) : ∃ z : Int, v = .int .i64 z ∧ (Lit.int .i64 z).wf = true := by
  obtain ⟨z, rfl, _, _, hw⟩ := open_int Tryd.underlying3 hv h
  exact ⟨z, rfl, hw⟩

set_option maxRecDepth 100000 in
/-- A slice of integers, its one cell read. -/
theorem open_intsC {n : Nat} {y : DataW H × List MemPlace} (h : DataW.trod enc Tryd.prog W 0 (fun _ => true) held n 22 [v] = some y) : ∃ A m c zs, v = .slice A m c ∧ Rd W W.heap.size A m (iv zs) ∧ m ≤ c ∧ c ≤ maxLen := by
  rcases open_ints Tryd.underlying22 Tryd.underlying3 (by kernel_rfl) h with ⟨hcs, _⟩ | ⟨x, l, c, zs, hcs, _, hl, hm, hz, _, hcell, hwz⟩
  · simp only [List.cons.injEq, and_true] at hcs
    subst hcs
    exact ⟨none, 0, 0, [], rfl, Rd.nil_ _ _ _, Nat.le_refl _, by omega⟩
  · simp only [List.cons.injEq, and_true] at hcs
    subst hcs
    obtain ⟨h1, h2, h3⟩ := rd_of_ints (w := W) (a := some x) (len := l) (cap := c) (zs := zs) (.inr ⟨x, rfl, hl, hm, by simpa using hz, hcell, hwz⟩)
    exact ⟨_, _, _, _, rfl, h1, h2, h3⟩

end

end Go.Proofs.YtplejbgecihnpaaDoor
