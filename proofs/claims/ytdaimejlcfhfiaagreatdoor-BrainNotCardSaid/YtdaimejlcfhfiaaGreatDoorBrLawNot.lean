/-
  The walk of the statement BrainNot. Conditions: those that the theorem names.
-/
import Derived.Test.YtdaimejlcfhfiaaGreatDoorJ24
namespace Go.Proofs.YtdaimejlcfhfiaaGreatDoor
open Go.RowKit Go.Shelf

/-- One record taken, in a world further on. -/
theorem apN {p : Br} {a : Ad} {V W : World} {k : Nat} {zs : List Int} {A : Option Addr} {n c : Nat} {q : Br} (hrd : RdB_ V V.heap.size p a) (hb : Below V.heap.size V W) (hk : k < 256) (hz : Rd W W.heap.size A n (iv zs)) (hcap : n ≤ c ∧ c ≤ maxLen) (hm : p.cf.ms.length ≤ 1000) (hg : Good 80 p) (hT : Tab V) (hH : TabH V) (e : applyB p (k : Int) zs = q) :
    Calls Tryz.prog 12 #[brV p a, .agg #[.int .u8 (k : Int), .slice A n c]] W (ApPost q W) := by
  subst e
  exact apply_any p a ⟨k, A, n, c, zs⟩ W.heap.size W (hrd.up hb) (Nat.le_refl _) hk hz hcap hm (good_mono hg (by omega)) (hT.under hb) (hH.under hb)
/-- What came of it, held against the brain as it was. -/
theorem smN {p q : Br} {a b : Ad} {V W : World} {Z : Nat} {r : Bool} (hrd : RdB_ V V.heap.size p a) (hb : Below V.heap.size V W) (ho : OwB Z W q b) (hm : q.cf.ms.length ≤ 1000) (hg : Good 81 q) (e : sameB q p = r) :
    Calls Tryz.prog 11 #[brV q b, brV p a] W (BoolPost r W) := by
  subst e
  exact rsameB_any q p b a W.heap.size W.heap.size W ho.reads (hrd.up hb) (Nat.le_refl _) (Nat.le_refl _) hm (by have := hg.len; omega) (by have := hg.len; omega)

/-- What each operation yields where the record with a number more is laid. -/
def MoreR (lo r : Nat) (z : RE) (i : Nat) (v : Value) (w : World) : Prop := match i with
  | 0 => v = .pointer (some ⟨r, 0, none⟩) | 1 => v = .int .u8 (z.k : Int) | 2 => LitOwn lo v w | 3 => v = .pointer (some ⟨r, 1, none⟩) | 4 => v = .slice z.A z.n z.c
  | 5 => SlAt lo z.n z.zs v w | 6 => SlOwn lo 1 [1] v w | 7 => SlOwn lo (z.n + 1) (z.zs ++ [1]) v w | 8 => RecOwn lo (z.n + 1) z.k (z.zs ++ [1]) v w | 9 => RboxIs lo v w | _ => True
theorem MoreR.under {lo r : Nat} {z : RE} (i : Nat) (v : Value) (w w' : World) (hb : Below w.heap.size w w') (h : MoreR lo r z i v w) : MoreR lo r z i v w' := by
  match i, h with
  | 0, h => exact h
  | 1, h => exact h
  | 2, h => exact LitOwn.under hb h
  | 3, h => exact h
  | 4, h => exact h
  | 5, h => exact SlAt.under hb h
  | 6, h => exact SlOwn.under hb h
  | 7, h => exact SlOwn.under hb h
  | 8, h => exact RecOwn.under hb h
  | 9, h => exact RboxIs.under hb h
  | n + 10, h => trivial
theorem MoreR.past {lo r g : Nat} {z : RE} {w : World} {u : Value} (hn : 1 ≤ z.n) (hg : ∀ b cs, Whole w b 32 cs → b ≠ g) (i : Nat) (v : Value) (h7 : i ≠ 7) (h8 : i ≠ 8) (h : MoreR lo r z i v w) : MoreR lo r z i v (w.setCell ⟨g, z.n, none⟩ u) := by
  match i, h with
  | 0, h => exact h
  | 1, h => exact h
  | 2, h => obtain ⟨b, e, h⟩ := h; exact ⟨b, e, own_past h (by omega) u⟩
  | 3, h => exact h
  | 4, h => exact h
  | 5, h => obtain ⟨b, c, e, h, h0⟩ := h; exact ⟨b, c, e, own_past h (Nat.le_refl _) u, h0⟩
  | 6, h => obtain ⟨A, c, e, h⟩ := h; exact ⟨A, c, e, own_past h hn u⟩
  | 7, h => exact absurd rfl h7
  | 8, h => exact absurd rfl h8
  | 9, h => obtain ⟨b, e, h1, h2⟩ := h; exact ⟨b, e, h1, h2.far (p := ⟨g, z.n, none⟩) (hg b _ h2) u⟩
  | n + 10, h => trivial

set_option maxRecDepth 100000 in
set_option maxHeartbeats 8000000 in
theorem brainNot_any (p : Br) (a : Ad) (z : RE) (at_ n : Int) (w : World) (hp : BrAny w p a) (hz : ReOk w z) (hT : Tab w) (hH : TabH w) :
    Calls Tryz.prog 7 #[brV p a, .agg #[.int .u8 (z.k : Int), .slice z.A z.n z.c], .int .i64 at_, .int .i64 n] w (TruePostB w) := by
  obtain ⟨V, hV⟩ : ∃ V, (w.alloc (.cells (brC p a) 30)).alloc (.cells #[.int .u8 (z.k : Int), .slice z.A z.n z.c] 32) = V := ⟨_, rfl⟩
  obtain ⟨hb0, w0, w1⟩ := two_new w 30 32 (brC p a) #[.int .u8 (z.k : Int), .slice z.A z.n z.c]
  rw [hV] at hb0 w0 w1
  have hsV : V.heap.size = w.heap.size + 1 + 1 := by rw [← hV]; simp
  have hzn : z.zs.length = z.n := by have := hz.2.1.1; rwa [iv_length] at this
  have HV := Lib.hid hV
  have XB := Lib.hid w0
  have XR := Lib.hid w1
  have HB := Lib.hid hb0
  have HP := Lib.hid hp
  have HRd := Lib.hid (hp.rd.up hb0)
  have HZ := Lib.hid (show ReOk V z from ⟨hz.1, (hz.2.1.below hb0).more hb0.size, hz.2.2⟩)
  have HT := Lib.hid (hT.under hb0)
  have HH := Lib.hid (hH.under hb0)
  have k0 := w1.cell 0
  have k1 := w1.cell 1
  simp only [List.getElem?_toArray, List.getElem?_cons_zero, List.getElem?_cons_succ] at k0 k1
  obtain ⟨V1, hV1⟩ : ∃ V1, (V.alloc (.cells #[.int .u8 (z.k : Int), .slice z.A z.n z.c] 32)).alloc (.cells (brC p a) 30) = V1 := ⟨_, rfl⟩
  obtain ⟨hb1, x0, x1⟩ := two_new V 32 30 #[.int .u8 (z.k : Int), .slice z.A z.n z.c] (brC p a)
  have hrow := rdR_one V z V.heap.size (Nat.le_refl _) HZ.out.1 HZ.out.2.1 V.heap.size rfl
  have hrow1 : RdR V1 (V.heap.size + 1) (some ⟨V.heap.size, 0, none⟩) 1 [z] := by
    rw [← hV1]
    exact hrow.below ((Below.refl _ _).alloc (by simp) _)
  rw [hV1] at hb1 x0 x1
  have hsz1 : V1.heap.size = V.heap.size + 1 + 1 := by rw [← hV1]; simp
  have HV1 := Lib.hid hV1
  have HB1 := Lib.hid hb1
  have HG := Lib.hid (great1_any (some ⟨V.heap.size, 0, none⟩) 1 1 [z] (V.heap.size + 1) p a (V.heap.size + 1) V1 hrow1 (by omega) x1)
  have HW := fun W (h : Below V.heap.size V W) => Lib.hid (wakes_any W (HT.out.under h) (HH.out.under h))
  rw [hsV] at HG
  clear hV hV1 w0 w1 hb0 hb1 x0 x1 hrow hrow1 hp hz hT hH hsz1
  cases hgr : (gB p || gR [z]) with
  | true =>
    rw [hgr] at HG
    clear hgr
    go_enter Tryz.func7, Tryz.ntmps7
    go_upto_region 1 with fail
    refine wpV (fun V2 hV2 => ?_)
    obtain rfl : V = V2 := HV.out.symm.trans hV2
    clear HV hV2
    go_wp2_with (refine wpList_loadB (by rfl) _ rfl w.heap.size p a (by rfl) (XB.out.alloc _) ?_)
    refine ((by rw [HV1.out]; exact HG.out) : Calls Tryz.prog 9 #[.slice (some ⟨w.heap.size + 1 + 1, 0, none⟩) 1 1, .slice (some ⟨w.heap.size + 1 + 1 + 1, 0, none⟩) 1 1] ((V.alloc (.cells #[.int .u8 (z.k : Int), .slice z.A z.n z.c] 32)).alloc (.cells (brC p a) 30)) (BoolPost true V1)).mono ?_
    rintro e V3 ⟨rfl, b3⟩
    have HB3 := Lib.hid (HB1.out.trans (b3.mono HB1.out.size))
    have HWk := HW V3 HB3.out
    clear b3 HB1 HG HRd XB XR k0 k1
    go_wp2_with fail
    refine HWk.out.mono ?_
    rintro e V4 ⟨rfl, b4⟩
    have HB4 := Lib.hid (HB.out.trans ((HB3.out.trans (b4.mono HB3.out.size)).mono HB.out.size))
    clear b4 HB3 HWk HW
    go_wp2_with fail
    go_ret
    exact ⟨rfl, HB4.out⟩
  | false =>
    rw [hgr] at HG
    simp only [Bool.or_eq_false_iff] at hgr
    have HGB := Lib.hid hgr.1
    clear hgr
    obtain ⟨hgood, hms⟩ := HP.out.good HGB.out
    have HGood := Lib.hid hgood
    have HMs := Lib.hid hms
    have HLen := Lib.hid hgood.len
    clear hgood hms
    go_enter Tryz.func7, Tryz.ntmps7
    go_upto_region 1 with fail
    refine wpV (fun V2 hV2 => ?_)
    obtain rfl : V = V2 := HV.out.symm.trans hV2
    clear HV hV2
    go_wp2_with (refine wpList_loadB (by rfl) _ rfl w.heap.size p a (by rfl) (XB.out.alloc _) ?_)
    refine ((by rw [HV1.out]; exact HG.out) : Calls Tryz.prog 9 #[.slice (some ⟨w.heap.size + 1 + 1, 0, none⟩) 1 1, .slice (some ⟨w.heap.size + 1 + 1 + 1, 0, none⟩) 1 1] ((V.alloc (.cells #[.int .u8 (z.k : Int), .slice z.A z.n z.c] 32)).alloc (.cells (brC p a) 30)) (BoolPost false V1)).mono ?_
    rintro e V3 ⟨rfl, b3⟩
    have HB3 := Lib.hid (HB1.out.trans (b3.mono HB1.out.size))
    have r0 := (XR.out.under HB3.out).cell 0
    have r1 := (XR.out.under HB3.out).cell 1
    simp only [List.getElem?_toArray, List.getElem?_cons_zero, List.getElem?_cons_succ] at r0 r1
    clear b3 HB1 HG k0 k1
    by_cases h30 : 30 < z.n
    · have d30 : decide ((30 : Int) < (z.n : Int)) = true := by simp; omega
      have HWk := HW V3 HB3.out
      clear h30
      go_wp2_with fail
      refine HWk.out.mono ?_
      rintro e V4 ⟨rfl, b4⟩
      have HB4 := Lib.hid (HB.out.trans ((HB3.out.trans (b4.mono HB3.out.size)).mono HB.out.size))
      clear b4 HB3 HWk HW
      go_wp2_with fail
      go_ret
      exact ⟨rfl, HB4.out⟩
    · have d30 : decide ((30 : Int) < (z.n : Int)) = false := by simp; omega
      have H30 := Lib.hid h30
      have hkk : IntKind.u8.wrap (IntKind.u8.wrap ((z.k : Int).tmod 200) + 17) = ((z.k % 200 + 17 : Nat) : Int) := by
        have := HZ.out.1
        rw [Int.tmod_eq_emod_of_nonneg (by omega), IntKind.wrap_u8, IntKind.wrap_u8]
        omega
      clear h30
      go_upto_region 4 with fail
      refine wpV (fun W4 hW4 => ?_)
      have HB4 := Lib.hid (show Below V.heap.size V W4 by rw [← hW4]; exact HB3.out.alloc HB3.out.size _)
      have XO4 := Lib.hid (show Whole W4 V3.heap.size 32 #[.int .u8 ((z.k % 200 + 17 : Nat) : Int), .slice z.A z.n z.c] by rw [← hW4]; exact Whole.new _ _ _)
      clear hW4 r0 r1
      have XB4 := Lib.hid (XB.out.under HB4.out)
      have XR4 := Lib.hid (XR.out.under HB4.out)
      have HZ4 := Lib.hid ((HZ.out.2.1.below HB4.out).more HB4.out.size)
      have HL : Hid (∀ V', Below W4.heap.size W4 V' → Whole V' w.heap.size 30 (brC p a) ∧ V'.cell? ⟨V3.heap.size, 0, none⟩ = some (.int .u8 ((z.k % 200 + 17 : Nat) : Int)) ∧ V'.cell? ⟨V3.heap.size, 1, none⟩ = some (.slice z.A z.n z.c) ∧ V'.cell? ⟨w.heap.size + 1, 0, none⟩ = some (.int .u8 (z.k : Int)) ∧ V'.cell? ⟨w.heap.size + 1, 1, none⟩ = some (.slice z.A z.n z.c)) := Lib.hid (fun V' hV => ⟨XB4.out.under hV, (XO4.out.under hV).cell 0, (XO4.out.under hV).cell 1, (XR4.out.under hV).cell 0, (XR4.out.under hV).cell 1⟩)
      have HBd := Lib.hid (show Below W4.heap.size W4 W4.drew from below_drewB (Below.refl _ _) 1)
      refine wp_region_T (ls := []) (T := (fun V' => Below W4.heap.size W4 V')) (by kernel_rfl) ?_
      refine takeT (i := 0) (v := brV p a) rfl (by kernel_rfl) (by kernel_rfl) (by kernel_rfl) (by kernel_rfl) (fun _ _ _ h => h) (by rfl) ?_ HBd.out ?_
      · intro V' hV; obtain ⟨y0, y1, y2, y3, y4⟩ := HL.out V' hV; exact exec_load_brain rfl y0
      simp only [Act.put, List.setIfInBounds_toArray, List.set_cons_zero, List.set_cons_succ]
      refine takeT (i := 1) (v := ?_) rfl (by kernel_rfl) (by kernel_rfl) (by kernel_rfl) (by kernel_rfl) (fun _ _ _ h => h) (by rfl) ?_ HBd.out ?_
      rotate_left
      · intro V' hV; obtain ⟨y0, y1, y2, y3, y4⟩ := HL.out V' hV; go_simp <;> with_reducible rfl
      simp only [Act.put, List.setIfInBounds_toArray, List.set_cons_zero, List.set_cons_succ]
      refine takeT (i := 3) (v := brV p a) rfl (by kernel_rfl) (by kernel_rfl) (by kernel_rfl) (by kernel_rfl) (fun _ _ _ h => h) (by rfl) ?_ HBd.out ?_
      · intro V' hV; obtain ⟨y0, y1, y2, y3, y4⟩ := HL.out V' hV; exact exec_load_brain rfl y0
      simp only [Act.put, List.setIfInBounds_toArray, List.set_cons_zero, List.set_cons_succ]
      refine oneT (i := 2) rfl (by kernel_rfl) (by rfl) (fun K hK => ?_)
      go_simp
      refine (apN (k := z.k % 200 + 17) (zs := z.zs) HRd.out (HB4.out.trans (HBd.out.mono HB4.out.size)) (by omega) ((HZ4.out.below HBd.out).more HBd.out.size) HZ.out.2.2 HMs.out HGood.out HT.out HH.out (not_kind (.inr (by omega)))).mono ?_
      rintro e W4_1 ⟨a_, rfl, ho_, hb_⟩
      have HB_1 := Lib.hid (show Below W4.heap.size W4 W4_1 from HBd.out.trans (hb_.mono HBd.out.size))
      clear hb_ HBd
      have HO_ := Lib.hid ho_
      clear ho_
      refine hK.out _ _ (fun _ => HB_1.out) ?_
      clear hK K
      refine oneT (i := 4) rfl (by kernel_rfl) (by rfl) (fun K hK => ?_)
      go_simp
      refine (smN HRd.out (HB4.out.trans (HB_1.out.mono HB4.out.size)) HO_.out HMs.out (good_mono HGood.out (by omega)) (sameB_refl p)).mono ?_
      rintro e W4_2 ⟨rfl, hb_⟩
      have HB_2 := Lib.hid (show Below W4.heap.size W4 W4_2 from HB_1.out.trans (hb_.mono HB_1.out.size))
      clear hb_ HB_1
      refine hK.out _ _ (fun _ => HB_2.out) ?_
      clear hK K
      refine takeP (i := 5) (v := ?_) rfl (by kernel_rfl) (by kernel_rfl) (by kernel_rfl) (by kernel_rfl) (fun _ _ _ h => h) (by rfl) ?_ (fun _ => HB_2.out) ?_
      rotate_left
      · intro V'; go_simp <;> with_reducible rfl
      simp only [Act.put, List.setIfInBounds_toArray, List.set_cons_zero, List.set_cons_succ]
      refine takeP (i := 6) (v := ?_) rfl (by kernel_rfl) (by kernel_rfl) (by kernel_rfl) (by kernel_rfl) (fun _ _ _ h => h) (by rfl) ?_ (fun _ => HB_2.out) ?_
      rotate_left
      · intro V'; go_simp <;> with_reducible rfl
      simp only [Act.put, List.setIfInBounds_toArray, List.set_cons_zero, List.set_cons_succ]
      refine takeT (i := 7) (v := brV p a) rfl (by kernel_rfl) (by kernel_rfl) (by kernel_rfl) (by kernel_rfl) (fun _ _ _ h => h) (by rfl) ?_ HB_2.out ?_
      · intro V' hV; obtain ⟨y0, y1, y2, y3, y4⟩ := HL.out V' hV; exact exec_load_brain rfl y0
      simp only [Act.put, List.setIfInBounds_toArray, List.set_cons_zero, List.set_cons_succ]
      refine takeT (i := 8) (v := ?_) rfl (by kernel_rfl) (by kernel_rfl) (by kernel_rfl) (by kernel_rfl) (fun _ _ _ h => h) (by rfl) ?_ HB_2.out ?_
      rotate_left
      · intro V' hV; obtain ⟨y0, y1, y2, y3, y4⟩ := HL.out V' hV; go_simp <;> with_reducible rfl
      simp only [Act.put, List.setIfInBounds_toArray, List.set_cons_zero, List.set_cons_succ]
      refine takeT (i := 9) (v := ?_) rfl (by kernel_rfl) (by kernel_rfl) (by kernel_rfl) (by kernel_rfl) (fun _ _ _ h => h) (by rfl) ?_ HB_2.out ?_
      rotate_left
      · intro V' hV; obtain ⟨y0, y1, y2, y3, y4⟩ := HL.out V' hV; go_simp <;> with_reducible rfl
      simp only [Act.put, List.setIfInBounds_toArray, List.set_cons_zero, List.set_cons_succ]
      refine takeP (i := 10) (v := ?_) rfl (by kernel_rfl) (by kernel_rfl) (by kernel_rfl) (by kernel_rfl) (fun _ _ _ h => h) (by rfl) ?_ (fun _ => HB_2.out) ?_
      rotate_left
      · intro V'; go_simp <;> with_reducible rfl
      simp only [Act.put, List.setIfInBounds_toArray, List.set_cons_zero, List.set_cons_succ]
      refine takeT (i := 12) (v := brV p a) rfl (by kernel_rfl) (by kernel_rfl) (by kernel_rfl) (by kernel_rfl) (fun _ _ _ h => h) (by rfl) ?_ HB_2.out ?_
      · intro V' hV; obtain ⟨y0, y1, y2, y3, y4⟩ := HL.out V' hV; exact exec_load_brain rfl y0
      simp only [Act.put, List.setIfInBounds_toArray, List.set_cons_zero, List.set_cons_succ]
      refine oneT (i := 11) rfl (by kernel_rfl) (by rfl) (fun K hK => ?_)
      go_simp
      refine (apN (k := 0) (zs := z.zs) HRd.out (HB4.out.trans (HB_2.out.mono HB4.out.size)) (by omega) ((HZ4.out.below HB_2.out).more HB_2.out.size) HZ.out.2.2 HMs.out HGood.out HT.out HH.out (not_kind (.inl rfl))).mono ?_
      rintro e W4_3 ⟨a_, rfl, ho_, hb_⟩
      have HB_3 := Lib.hid (show Below W4.heap.size W4 W4_3 from HB_2.out.trans (hb_.mono HB_2.out.size))
      clear hb_ HB_2
      clear HO_
      have HO_ := Lib.hid ho_
      clear ho_
      refine hK.out _ _ (fun _ => HB_3.out) ?_
      clear hK K
      refine oneT (i := 13) rfl (by kernel_rfl) (by rfl) (fun K hK => ?_)
      go_simp
      refine (smN HRd.out (HB4.out.trans (HB_3.out.mono HB4.out.size)) HO_.out HMs.out (good_mono HGood.out (by omega)) (sameB_refl p)).mono ?_
      rintro e W4_4 ⟨rfl, hb_⟩
      have HB_4 := Lib.hid (show Below W4.heap.size W4 W4_4 from HB_3.out.trans (hb_.mono HB_3.out.size))
      clear hb_ HB_3
      refine hK.out _ _ (fun _ => HB_4.out) ?_
      clear hK K
      refine takeP (i := 14) (v := ?_) rfl (by kernel_rfl) (by kernel_rfl) (by kernel_rfl) (by kernel_rfl) (fun _ _ _ h => h) (by rfl) ?_ (fun _ => HB_4.out) ?_
      rotate_left
      · intro V'; go_simp <;> with_reducible rfl
      simp only [Act.put, List.setIfInBounds_toArray, List.set_cons_zero, List.set_cons_succ]
      refine takeP (i := 15) (v := ?_) rfl (by kernel_rfl) (by kernel_rfl) (by kernel_rfl) (by kernel_rfl) (fun _ _ _ h => h) (by rfl) ?_ (fun _ => HB_4.out) ?_
      rotate_left
      · intro V'; go_simp <;> with_reducible rfl
      simp only [Act.put, List.setIfInBounds_toArray, List.set_cons_zero, List.set_cons_succ]
      refine doneT (by kernel_rfl) ?_ _
      have HB5 := Lib.hid (HB4.out.trans (HB_4.out.mono HB4.out.size))
      have XB5 := Lib.hid (XB4.out.under HB_4.out)
      have XR5 := Lib.hid (XR4.out.under HB_4.out)
      have HZ5 := Lib.hid ((HZ4.out.below HB_4.out).more HB_4.out.size)
      clear HL HO_ HB_4 HB4 XO4 XB4 XR4 HZ4
      have r0 := XR5.out.cell 0
      have r1 := XR5.out.cell 1
      simp only [List.getElem?_toArray, List.getElem?_cons_zero, List.getElem?_cons_succ] at r0 r1
      by_cases hz0 : z.n = 0
      · have d0 : decide ((0 : Int) < (z.n : Int)) = false := by simp; omega
        go_upto_region 14 with fail
        have HZZ := Lib.hid hz0
        clear hz0
        have XBt := Lib.hid (XB.out.under HB5.out)
        have XRt := Lib.hid (XR.out.under HB5.out)
        have HZt := Lib.hid ((HZ.out.2.1.below HB5.out).more HB5.out.size)
        by_cases hk2 : z.k = 2
        · have dk : ((z.k : Int) == 2) = true := by simp; omega
          have dk' : decide ((z.k : Int) = 2) = true := by simp; omega
          have HL : Hid (∀ V', Below W4_4.heap.size W4_4 V' → Whole V' w.heap.size 30 (brC p a) ∧ V'.cell? ⟨w.heap.size + 1, 0, none⟩ = some (.int .u8 (z.k : Int)) ∧ V'.cell? ⟨w.heap.size + 1, 1, none⟩ = some (.slice z.A z.n z.c)) := Lib.hid (fun V' hV => ⟨XBt.out.under hV, (XRt.out.under hV).cell 0, (XRt.out.under hV).cell 1⟩)
          have HBd := Lib.hid (show Below W4_4.heap.size W4_4 W4_4.drew from below_drewB (Below.refl _ _) 1)
          refine wp_region_T (ls := []) (T := (fun V' => Below W4_4.heap.size W4_4 V')) (by kernel_rfl) ?_
          refine takeP (i := 0) (v := ?_) rfl (by kernel_rfl) (by kernel_rfl) (by kernel_rfl) (by kernel_rfl) (fun _ _ _ h => h) (by rfl) ?_ (fun _ => HBd.out) ?_
          rotate_left
          · intro V'; go_simp <;> with_reducible rfl
          simp only [Act.put, List.setIfInBounds_toArray, List.set_cons_zero, List.set_cons_succ]
          refine takeT (i := 1) (v := ?_) rfl (by kernel_rfl) (by kernel_rfl) (by kernel_rfl) (by kernel_rfl) (fun _ _ _ h => h) (by rfl) ?_ HBd.out ?_
          rotate_left
          · intro V' hV; obtain ⟨y0, y1, y2⟩ := HL.out V' hV; go_simp <;> with_reducible rfl
          simp only [Act.put, List.setIfInBounds_toArray, List.set_cons_zero, List.set_cons_succ]
          refine takeP (i := 2) (v := ?_) rfl (by kernel_rfl) (by kernel_rfl) (by kernel_rfl) (by kernel_rfl) (fun _ _ _ h => h) (by rfl) ?_ (fun _ => HBd.out) ?_
          rotate_left
          · intro V'; go_simp <;> with_reducible rfl
          simp only [Act.put, List.setIfInBounds_toArray, List.set_cons_zero, List.set_cons_succ]
          refine takeP (i := 3) (v := ?_) rfl (by kernel_rfl) (by kernel_rfl) (by kernel_rfl) (by kernel_rfl) (fun _ _ _ h => h) (by rfl) ?_ (fun _ => HBd.out) ?_
          rotate_left
          · intro V'; go_simp <;> with_reducible rfl
          simp only [Act.put, List.setIfInBounds_toArray, List.set_cons_zero, List.set_cons_succ]
          refine skipT (i := 4) rfl (by kernel_rfl) (by kernel_rfl) (by kernel_rfl) (by kernel_rfl) (fun _ _ _ h => h) (by rfl) (fun _ => HBd.out) ?_
          simp only [Act.put, List.setIfInBounds_toArray, List.set_cons_zero, List.set_cons_succ]
          refine skipT (i := 5) rfl (by kernel_rfl) (by kernel_rfl) (by kernel_rfl) (by kernel_rfl) (fun _ _ _ h => h) (by rfl) (fun _ => HBd.out) ?_
          simp only [Act.put, List.setIfInBounds_toArray, List.set_cons_zero, List.set_cons_succ]
          refine skipT (i := 6) rfl (by kernel_rfl) (by kernel_rfl) (by kernel_rfl) (by kernel_rfl) (fun _ _ _ h => h) (by rfl) (fun _ => HBd.out) ?_
          simp only [Act.put, List.setIfInBounds_toArray, List.set_cons_zero, List.set_cons_succ]
          refine skipT (i := 7) rfl (by kernel_rfl) (by kernel_rfl) (by kernel_rfl) (by kernel_rfl) (fun _ _ _ h => h) (by rfl) (fun _ => HBd.out) ?_
          simp only [Act.put, List.setIfInBounds_toArray, List.set_cons_zero, List.set_cons_succ]
          refine skipT (i := 8) rfl (by kernel_rfl) (by kernel_rfl) (by kernel_rfl) (by kernel_rfl) (fun _ _ _ h => h) (by rfl) (fun _ => HBd.out) ?_
          simp only [Act.put, List.setIfInBounds_toArray, List.set_cons_zero, List.set_cons_succ]
          refine takeP (i := 9) (v := ?_) rfl (by kernel_rfl) (by kernel_rfl) (by kernel_rfl) (by kernel_rfl) (fun _ _ _ h => h) (by rfl) ?_ (fun _ => HBd.out) ?_
          rotate_left
          · intro V'; go_simp <;> with_reducible rfl
          simp only [Act.put, List.setIfInBounds_toArray, List.set_cons_zero, List.set_cons_succ]
          refine doneT (by kernel_rfl) ?_ _
          have HBy := Lib.hid (HB5.out.trans (HBd.out.mono HB5.out.size))
          clear HL HBd HB5 XBt XRt HZt
          have HWk := HW _ HBy.out
          go_wp2_with fail
          refine HWk.out.mono ?_
          rintro e Vl ⟨rfl, bl⟩
          have HBl := Lib.hid (HB.out.trans ((HBy.out.trans (bl.mono HBy.out.size)).mono HB.out.size))
          clear bl HWk HW
          go_wp2_with fail
          go_ret
          exact ⟨rfl, HBl.out⟩
        · have dk : ((z.k : Int) == 2) = false := by simp; omega
          have dk' : decide ((z.k : Int) = 2) = false := by simp; omega
          obtain ⟨q, hq⟩ : ∃ q, applyB p (z.k : Int) z.zs = q := ⟨_, rfl⟩
          obtain ⟨rs, hrs⟩ : ∃ rs, sameB q p = rs := ⟨_, rfl⟩
          have HMq := Lib.hid (show q.cf.ms.length ≤ 1000 by rw [← hq]; exact ms_apply HMs.out)
          have HGq := Lib.hid (show Good 81 q by rw [← hq]; exact good_apply HGood.out _ _)
          have HL : Hid (∀ V', Below W4_4.heap.size W4_4 V' → Whole V' w.heap.size 30 (brC p a) ∧ V'.cell? ⟨w.heap.size + 1, 0, none⟩ = some (.int .u8 (z.k : Int)) ∧ V'.cell? ⟨w.heap.size + 1, 1, none⟩ = some (.slice z.A z.n z.c)) := Lib.hid (fun V' hV => ⟨XBt.out.under hV, (XRt.out.under hV).cell 0, (XRt.out.under hV).cell 1⟩)
          have HBd := Lib.hid (show Below W4_4.heap.size W4_4 W4_4.drew from below_drewB (Below.refl _ _) 1)
          refine wp_region_T (ls := []) (T := (fun V' => Below W4_4.heap.size W4_4 V')) (by kernel_rfl) ?_
          refine takeP (i := 0) (v := ?_) rfl (by kernel_rfl) (by kernel_rfl) (by kernel_rfl) (by kernel_rfl) (fun _ _ _ h => h) (by rfl) ?_ (fun _ => HBd.out) ?_
          rotate_left
          · intro V'; go_simp <;> with_reducible rfl
          simp only [Act.put, List.setIfInBounds_toArray, List.set_cons_zero, List.set_cons_succ]
          refine takeT (i := 1) (v := ?_) rfl (by kernel_rfl) (by kernel_rfl) (by kernel_rfl) (by kernel_rfl) (fun _ _ _ h => h) (by rfl) ?_ HBd.out ?_
          rotate_left
          · intro V' hV; obtain ⟨y0, y1, y2⟩ := HL.out V' hV; go_simp <;> with_reducible rfl
          simp only [Act.put, List.setIfInBounds_toArray, List.set_cons_zero, List.set_cons_succ]
          refine takeP (i := 2) (v := ?_) rfl (by kernel_rfl) (by kernel_rfl) (by kernel_rfl) (by kernel_rfl) (fun _ _ _ h => h) (by rfl) ?_ (fun _ => HBd.out) ?_
          rotate_left
          · intro V'; go_simp <;> with_reducible rfl
          simp only [Act.put, List.setIfInBounds_toArray, List.set_cons_zero, List.set_cons_succ]
          refine takeP (i := 3) (v := ?_) rfl (by kernel_rfl) (by kernel_rfl) (by kernel_rfl) (by kernel_rfl) (fun _ _ _ h => h) (by rfl) ?_ (fun _ => HBd.out) ?_
          rotate_left
          · intro V'; go_simp <;> with_reducible rfl
          simp only [Act.put, List.setIfInBounds_toArray, List.set_cons_zero, List.set_cons_succ]
          refine takeT (i := 4) (v := brV p a) rfl (by kernel_rfl) (by kernel_rfl) (by kernel_rfl) (by kernel_rfl) (fun _ _ _ h => h) (by rfl) ?_ HBd.out ?_
          · intro V' hV; obtain ⟨y0, y1, y2⟩ := HL.out V' hV; exact exec_load_brain rfl y0
          simp only [Act.put, List.setIfInBounds_toArray, List.set_cons_zero, List.set_cons_succ]
          refine takeT (i := 5) (v := ?_) rfl (by kernel_rfl) (by kernel_rfl) (by kernel_rfl) (by kernel_rfl) (fun _ _ _ h => h) (by rfl) ?_ HBd.out ?_
          rotate_left
          · intro V' hV; obtain ⟨y0, y1, y2⟩ := HL.out V' hV; go_simp <;> with_reducible rfl
          simp only [Act.put, List.setIfInBounds_toArray, List.set_cons_zero, List.set_cons_succ]
          refine takeT (i := 7) (v := brV p a) rfl (by kernel_rfl) (by kernel_rfl) (by kernel_rfl) (by kernel_rfl) (fun _ _ _ h => h) (by rfl) ?_ HBd.out ?_
          · intro V' hV; obtain ⟨y0, y1, y2⟩ := HL.out V' hV; exact exec_load_brain rfl y0
          simp only [Act.put, List.setIfInBounds_toArray, List.set_cons_zero, List.set_cons_succ]
          refine oneT (i := 6) rfl (by kernel_rfl) (by rfl) (fun K hK => ?_)
          go_simp
          refine (apN (k := z.k) (zs := z.zs) HRd.out (HB5.out.trans (HBd.out.mono HB5.out.size)) (HZ.out.1) ((HZt.out.below HBd.out).more HBd.out.size) HZ.out.2.2 HMs.out HGood.out HT.out HH.out (hq)).mono ?_
          rintro e W4_4_1 ⟨a_, rfl, ho_, hb_⟩
          have HB_1 := Lib.hid (show Below W4_4.heap.size W4_4 W4_4_1 from HBd.out.trans (hb_.mono HBd.out.size))
          clear hb_ HBd
          have HO_ := Lib.hid ho_
          clear ho_
          refine hK.out _ _ (fun _ => HB_1.out) ?_
          clear hK K
          refine oneT (i := 8) rfl (by kernel_rfl) (by rfl) (fun K hK => ?_)
          go_simp
          refine (smN HRd.out (HB5.out.trans (HB_1.out.mono HB5.out.size)) HO_.out HMq.out HGq.out hrs).mono ?_
          rintro e W4_4_2 ⟨rfl, hb_⟩
          have HB_2 := Lib.hid (show Below W4_4.heap.size W4_4 W4_4_2 from HB_1.out.trans (hb_.mono HB_1.out.size))
          clear hb_ HB_1
          refine hK.out _ _ (fun _ => HB_2.out) ?_
          clear hK K
          refine takeP (i := 9) (v := ?_) rfl (by kernel_rfl) (by kernel_rfl) (by kernel_rfl) (by kernel_rfl) (fun _ _ _ h => h) (by rfl) ?_ (fun _ => HB_2.out) ?_
          rotate_left
          · intro V'; go_simp <;> with_reducible rfl
          simp only [Act.put, List.setIfInBounds_toArray, List.set_cons_zero, List.set_cons_succ]
          refine doneT (by kernel_rfl) ?_ _
          have HBy := Lib.hid (HB5.out.trans (HB_2.out.mono HB5.out.size))
          clear HL HB_2 HB5 XBt XRt HZt HO_ HMq HGq
          cases rs with
          | true =>
            clear hrs hq
            have HWk := HW _ HBy.out
            go_wp2_with fail
            refine HWk.out.mono ?_
            rintro e Vl ⟨rfl, bl⟩
            have HBl := Lib.hid (HB.out.trans ((HBy.out.trans (bl.mono HBy.out.size)).mono HB.out.size))
            clear bl HWk HW
            go_wp2_with fail
            go_ret
            exact ⟨rfl, HBl.out⟩
          | false =>
            have hfit : manyB (z.k : Int) = (z.zs.length : Int) := fits_len (b := p) (by omega) (by rw [hq]; exact hrs)
            have HFit := Lib.hid hfit
            clear hrs hq hfit
            go_upto_region 16 with fail
            have XRy := Lib.hid (XR.out.under HBy.out)
            have HZy := Lib.hid ((HZ.out.2.1.below HBy.out).more HBy.out.size)
            refine region_stay (by kernel_rfl) (by kernel_rfl) 10 [118, 119, 120, 121, 122, 123, 124, 125, 126, 12] (by kernel_rfl) (by simp) (MoreR W4_4_2.heap.size (w.heap.size + 1) z) ?_ ?_
            · intro i o d a w_ hi ho hd hag hbel hgot K hK
              rcases (by omega : i = 0 ∨ i = 1 ∨ i = 2 ∨ i = 3 ∨ i = 4 ∨ i = 5 ∨ i = 6 ∨ i = 7 ∨ i = 8 ∨ i = 9) with rfl | rfl | rfl | rfl | rfl | rfl | rfl | rfl | rfl | rfl
              all_goals
                simp only [List.getElem?_toArray, List.getElem?_cons_zero, List.getElem?_cons_succ, Option.some.injEq] at ho
                subst ho
                injection hd with hd
                subst hd
                have hK' := fun v w_' hb hr => hK v w_' (stay_grow MoreR.under hbel.size hb) hr
              · exact opB_kind (hag.eval (t := 5) (by decide)) (hK' _ _ (Below.refl _ _) rfl)
              · exact opB_loadK (hgot 0 118 (by kernel_rfl) rfl) ((XRy.out.under hbel).cell 0) (hK' _ _ (Below.refl _ _) rfl)
              · exact opB_lit0w W4_4_2.heap.size hbel.size hK'
              · exact opB_nums (hag.eval (t := 5) (by decide)) (hK' _ _ (Below.refl _ _) rfl)
              · exact opB_loadL (hgot 3 121 (by kernel_rfl) rfl) ((XRy.out.under hbel).cell 1) (hK' _ _ (Below.refl _ _) rfl)
              · exact opB_cloneW W4_4_2.heap.size hbel.size (hgot 2 120 (by kernel_rfl) rfl) (hgot 4 122 (by kernel_rfl) rfl) ((HZy.out.below hbel).more hbel.size) (by have := H30.out; omega) hK'
              · exact opB_lit1w W4_4_2.heap.size hbel.size hK'
              · refine opB_more (n := z.n) (zs := z.zs) W4_4_2.heap.size hbel.size (hgot 5 123 (by kernel_rfl) rfl) (hgot 6 124 (by kernel_rfl) rfl) (by have := H30.out; omega) (fun v w_' hv hc => hK v w_' ?_ hv)
                rcases hc with hb | ⟨g, hn1, hlg, rfl, hne⟩
                · exact stay_grow MoreR.under hbel.size hb
                · refine ⟨(Below.refl _ _).setCell (p := ⟨g, z.n, none⟩) hlg _, fun j v' hj hj7 hw hr => MoreR.past hn1 hne j v' hj7 (fun e => ?_) hr⟩
                  subst e
                  exact Bool.false_ne_true ((hw _ rfl).symm.trans (by kernel_rfl))
              · exact opB_buildR (n := z.n + 1) (hgot 1 119 (by kernel_rfl) rfl) (hgot 7 125 (by kernel_rfl) rfl) (fun v h => hK' v _ (Below.refl _ _) h)
              · exact opB_allocR hbel.size hK'
            intro o a_ w1_ ho hag hbel hgot K hK
            simp only [List.getElem?_toArray, List.getElem?_cons_zero, List.getElem?_cons_succ, Option.some.injEq] at ho
            subst ho
            obtain ⟨bQ, eQ, hloQ, hwQ⟩ := hgot 9 12 (by decide) rfl
            obtain ⟨AQ, cQ, fQ, hoQ⟩ := hgot 8 126 (by decide) rfl
            refine wp_storeRec _ _ rfl bQ z.k (z.n + 1) cQ AQ _ (by rfl) eQ fQ hwQ (fun WQ hW_ => hK _ _ ?_)
            have XNQ := Lib.hid (show Whole WQ bQ 32 #[.int .u8 (z.k : Int), .slice AQ (z.n + 1) cQ] by rw [hW_]; exact setRow_heap _ _ _ _ _ _ hwQ)
            have ONQ := Lib.hid (show WQ.ownsRow W4_4_2.heap.size 3 1 (.slice AQ (z.n + 1) cQ) (z.n + 1) (iv (z.zs ++ [1])) by rw [hW_]; exact own_rowsetB hoQ (own_apart_F (by decide) hoQ hwQ) _)
            have HBQ := Lib.hid (show Below V.heap.size V WQ by rw [hW_]; exact HBy.out.trans ((below_rowsetB hbel hloQ _).mono HBy.out.size))
            obtain ⟨σ, hσ⟩ : ∃ σ : Nat → Value, (fun d => a_.eval (.tmp d)) = σ := ⟨_, rfl⟩
            have ha := hag.lay (by simp)
            rw [hσ] at ha
            have s_ : σ 12 = .pointer (some ⟨bQ, 0, none⟩) := by rw [← hσ]; exact eQ
            clear hσ hag hgot hK hbel hW_ eQ fQ hoQ hwQ hloQ HBy XRy HZy
            subst ha
            simp only [lay, List.foldl_cons, List.foldl_nil, Act.put, List.setIfInBounds_toArray, List.set_cons_zero, List.set_cons_succ, s_]
            obtain ⟨u118, hu118⟩ : ∃ u, σ 118 = u := ⟨_, rfl⟩
            rw [hu118]
            obtain ⟨u119, hu119⟩ : ∃ u, σ 119 = u := ⟨_, rfl⟩
            rw [hu119]
            obtain ⟨u120, hu120⟩ : ∃ u, σ 120 = u := ⟨_, rfl⟩
            rw [hu120]
            obtain ⟨u121, hu121⟩ : ∃ u, σ 121 = u := ⟨_, rfl⟩
            rw [hu121]
            obtain ⟨u122, hu122⟩ : ∃ u, σ 122 = u := ⟨_, rfl⟩
            rw [hu122]
            obtain ⟨u123, hu123⟩ : ∃ u, σ 123 = u := ⟨_, rfl⟩
            rw [hu123]
            obtain ⟨u124, hu124⟩ : ∃ u, σ 124 = u := ⟨_, rfl⟩
            rw [hu124]
            obtain ⟨u125, hu125⟩ : ∃ u, σ 125 = u := ⟨_, rfl⟩
            rw [hu125]
            obtain ⟨u126, hu126⟩ : ∃ u, σ 126 = u := ⟨_, rfl⟩
            rw [hu126]
            clear hu118 hu119 hu120 hu121 hu122 hu123 hu124 hu125 hu126 s_
            go_upto_region 17 with fail
            have XBq := Lib.hid (XB.out.under HBQ.out)
            have XRq := Lib.hid (XR.out.under HBQ.out)
            have HZq := Lib.hid ((HZ.out.2.1.below HBQ.out).more HBQ.out.size)
            have HLe := Lib.hid HFit.out
            have dz : decide ((0 : Int) < (z.n : Int)) = false := by have := HZZ.out; simp; omega
            have dz2 : decide (0 < z.n) = false := by have := HZZ.out; simp; omega
            have dz3 : (0 < z.n) = False := by have := HZZ.out; simp; omega
            have HL : Hid (∀ V', Below WQ.heap.size WQ V' → Whole V' w.heap.size 30 (brC p a) ∧ V'.cell? ⟨w.heap.size + 1, 0, none⟩ = some (.int .u8 (z.k : Int)) ∧ V'.cell? ⟨w.heap.size + 1, 1, none⟩ = some (.slice z.A z.n z.c)) := Lib.hid (fun V' hV => ⟨XBq.out.under hV, (XRq.out.under hV).cell 0, (XRq.out.under hV).cell 1⟩)
            have HBd := Lib.hid (show Below WQ.heap.size WQ WQ.drew from below_drewB (Below.refl _ _) 1)
            refine wp_region_T (ls := []) (T := (fun V' => Below WQ.heap.size WQ V')) (by kernel_rfl) ?_
            refine takeP (i := 0) (v := ?_) rfl (by kernel_rfl) (by kernel_rfl) (by kernel_rfl) (by kernel_rfl) (fun _ _ _ h => h) (by rfl) ?_ (fun _ => HBd.out) ?_
            rotate_left
            · intro V'; go_simp <;> with_reducible rfl
            simp only [Act.put, List.setIfInBounds_toArray, List.set_cons_zero, List.set_cons_succ]
            refine takeT (i := 1) (v := ?_) rfl (by kernel_rfl) (by kernel_rfl) (by kernel_rfl) (by kernel_rfl) (fun _ _ _ h => h) (by rfl) ?_ HBd.out ?_
            rotate_left
            · intro V' hV; obtain ⟨y0, y1, y2⟩ := HL.out V' hV; go_simp <;> with_reducible rfl
            simp only [Act.put, List.setIfInBounds_toArray, List.set_cons_zero, List.set_cons_succ]
            refine takeP (i := 2) (v := ?_) rfl (by kernel_rfl) (by kernel_rfl) (by kernel_rfl) (by kernel_rfl) (fun _ _ _ h => h) (by rfl) ?_ (fun _ => HBd.out) ?_
            rotate_left
            · intro V'; go_simp <;> with_reducible rfl
            simp only [Act.put, List.setIfInBounds_toArray, List.set_cons_zero, List.set_cons_succ]
            refine takeP (i := 3) (v := ?_) rfl (by kernel_rfl) (by kernel_rfl) (by kernel_rfl) (by kernel_rfl) (fun _ _ _ h => h) (by rfl) ?_ (fun _ => HBd.out) ?_
            rotate_left
            · intro V'; go_simp <;> with_reducible rfl
            simp only [Act.put, List.setIfInBounds_toArray, List.set_cons_zero, List.set_cons_succ]
            refine takeP (i := 4) (v := ?_) rfl (by kernel_rfl) (by kernel_rfl) (by kernel_rfl) (by kernel_rfl) (fun _ _ _ h => h) (by rfl) ?_ (fun _ => HBd.out) ?_
            rotate_left
            · intro V'; go_simp <;> with_reducible rfl
            simp only [Act.put, List.setIfInBounds_toArray, List.set_cons_zero, List.set_cons_succ]
            refine skipT (i := 5) rfl (by kernel_rfl) (by kernel_rfl) (by kernel_rfl) (by kernel_rfl) (fun _ _ _ h => h) (by rfl) (fun _ => HBd.out) ?_
            simp only [Act.put, List.setIfInBounds_toArray, List.set_cons_zero, List.set_cons_succ]
            refine skipT (i := 6) rfl (by kernel_rfl) (by kernel_rfl) (by kernel_rfl) (by kernel_rfl) (fun _ _ _ h => h) (by rfl) (fun _ => HBd.out) ?_
            simp only [Act.put, List.setIfInBounds_toArray, List.set_cons_zero, List.set_cons_succ]
            refine skipT (i := 7) rfl (by kernel_rfl) (by kernel_rfl) (by kernel_rfl) (by kernel_rfl) (fun _ _ _ h => h) (by rfl) (fun _ => HBd.out) ?_
            simp only [Act.put, List.setIfInBounds_toArray, List.set_cons_zero, List.set_cons_succ]
            refine skipT (i := 8) rfl (by kernel_rfl) (by kernel_rfl) (by kernel_rfl) (by kernel_rfl) (fun _ _ _ h => h) (by rfl) (fun _ => HBd.out) ?_
            simp only [Act.put, List.setIfInBounds_toArray, List.set_cons_zero, List.set_cons_succ]
            refine skipT (i := 9) rfl (by kernel_rfl) (by kernel_rfl) (by kernel_rfl) (by kernel_rfl) (fun _ _ _ h => h) (by rfl) (fun _ => HBd.out) ?_
            simp only [Act.put, List.setIfInBounds_toArray, List.set_cons_zero, List.set_cons_succ]
            refine skipT (i := 10) rfl (by kernel_rfl) (by kernel_rfl) (by kernel_rfl) (by kernel_rfl) (fun _ _ _ h => h) (by rfl) (fun _ => HBd.out) ?_
            simp only [Act.put, List.setIfInBounds_toArray, List.set_cons_zero, List.set_cons_succ]
            refine skipT (i := 11) rfl (by kernel_rfl) (by kernel_rfl) (by kernel_rfl) (by kernel_rfl) (fun _ _ _ h => h) (by rfl) (fun _ => HBd.out) ?_
            simp only [Act.put, List.setIfInBounds_toArray, List.set_cons_zero, List.set_cons_succ]
            refine skipT (i := 12) rfl (by kernel_rfl) (by kernel_rfl) (by kernel_rfl) (by kernel_rfl) (fun _ _ _ h => h) (by rfl) (fun _ => HBd.out) ?_
            simp only [Act.put, List.setIfInBounds_toArray, List.set_cons_zero, List.set_cons_succ]
            refine skipT (i := 13) rfl (by kernel_rfl) (by kernel_rfl) (by kernel_rfl) (by kernel_rfl) (fun _ _ _ h => h) (by rfl) (fun _ => HBd.out) ?_
            simp only [Act.put, List.setIfInBounds_toArray, List.set_cons_zero, List.set_cons_succ]
            refine skipT (i := 14) rfl (by kernel_rfl) (by kernel_rfl) (by kernel_rfl) (by kernel_rfl) (fun _ _ _ h => h) (by rfl) (fun _ => HBd.out) ?_
            simp only [Act.put, List.setIfInBounds_toArray, List.set_cons_zero, List.set_cons_succ]
            refine skipT (i := 15) rfl (by kernel_rfl) (by kernel_rfl) (by kernel_rfl) (by kernel_rfl) (fun _ _ _ h => h) (by rfl) (fun _ => HBd.out) ?_
            simp only [Act.put, List.setIfInBounds_toArray, List.set_cons_zero, List.set_cons_succ]
            refine takeP (i := 16) (v := ?_) rfl (by kernel_rfl) (by kernel_rfl) (by kernel_rfl) (by kernel_rfl) (fun _ _ _ h => h) (by rfl) ?_ (fun _ => HBd.out) ?_
            rotate_left
            · intro V'; go_simp <;> with_reducible rfl
            simp only [Act.put, List.setIfInBounds_toArray, List.set_cons_zero, List.set_cons_succ]
            refine doneT (by kernel_rfl) ?_ _
            have HBR := Lib.hid (HBQ.out.trans (HBd.out.mono HBQ.out.size))
            have XNR := Lib.hid (XNQ.out.under HBd.out)
            have ONR := Lib.hid (own_under ONQ.out HBd.out)
            clear HL HBd HBQ XNQ ONQ XBq XRq HZq
            go_upto_region 19 with fail
            refine wpV (fun WR hWR => ?_)
            rw [hWR] at HBR XNR ONR
            clear hWR
            have XBr := Lib.hid (XB.out.under HBR.out)
            have RNR := Lib.hid (Rd.of_own ONR.out)
            have HCR := Lib.hid (show z.n + 1 ≤ cQ ∧ cQ ≤ maxLen from ⟨(own_fullI (by omega) ONR.out).choose_spec.2.2, own_maxB ONR.out⟩)
            have eR : applyB p (z.k : Int) (z.zs ++ [1]) = p := not_len (by omega) (by have := HFit.out; rw [List.length_append, List.length_singleton]; omega)
            have HL : Hid (∀ V', Below WR.heap.size WR V' → Whole V' w.heap.size 30 (brC p a) ∧ V'.cell? ⟨bQ, 0, none⟩ = some (.int .u8 (z.k : Int)) ∧ V'.cell? ⟨bQ, 1, none⟩ = some (.slice AQ (z.n + 1) cQ)) := Lib.hid (fun V' hV => ⟨XBr.out.under hV, (XNR.out.under hV).cell 0, (XNR.out.under hV).cell 1⟩)
            have HBd := Lib.hid (show Below WR.heap.size WR WR.drew from below_drewB (Below.refl _ _) 1)
            refine wp_region_T (ls := []) (T := (fun V' => Below WR.heap.size WR V')) (by kernel_rfl) ?_
            refine takeT (i := 0) (v := brV p a) rfl (by kernel_rfl) (by kernel_rfl) (by kernel_rfl) (by kernel_rfl) (fun _ _ _ h => h) (by rfl) ?_ HBd.out ?_
            · intro V' hV; obtain ⟨y0, y1, y2⟩ := HL.out V' hV; exact exec_load_brain rfl y0
            simp only [Act.put, List.setIfInBounds_toArray, List.set_cons_zero, List.set_cons_succ]
            refine takeT (i := 1) (v := ?_) rfl (by kernel_rfl) (by kernel_rfl) (by kernel_rfl) (by kernel_rfl) (fun _ _ _ h => h) (by rfl) ?_ HBd.out ?_
            rotate_left
            · intro V' hV; obtain ⟨y0, y1, y2⟩ := HL.out V' hV; go_simp <;> with_reducible rfl
            simp only [Act.put, List.setIfInBounds_toArray, List.set_cons_zero, List.set_cons_succ]
            refine takeT (i := 3) (v := brV p a) rfl (by kernel_rfl) (by kernel_rfl) (by kernel_rfl) (by kernel_rfl) (fun _ _ _ h => h) (by rfl) ?_ HBd.out ?_
            · intro V' hV; obtain ⟨y0, y1, y2⟩ := HL.out V' hV; exact exec_load_brain rfl y0
            simp only [Act.put, List.setIfInBounds_toArray, List.set_cons_zero, List.set_cons_succ]
            refine oneT (i := 2) rfl (by kernel_rfl) (by rfl) (fun K hK => ?_)
            go_simp
            refine (apN (k := z.k) (zs := z.zs ++ [1]) HRd.out (HBR.out.trans (HBd.out.mono HBR.out.size)) (HZ.out.1) ((RNR.out.below HBd.out).more HBd.out.size) HCR.out HMs.out HGood.out HT.out HH.out (eR)).mono ?_
            rintro e WR_1 ⟨a_, rfl, ho_, hb_⟩
            have HB_1 := Lib.hid (show Below WR.heap.size WR WR_1 from HBd.out.trans (hb_.mono HBd.out.size))
            clear hb_ HBd
            have HO_ := Lib.hid ho_
            clear ho_
            refine hK.out _ _ (fun _ => HB_1.out) ?_
            clear hK K
            refine oneT (i := 4) rfl (by kernel_rfl) (by rfl) (fun K hK => ?_)
            go_simp
            refine (smN HRd.out (HBR.out.trans (HB_1.out.mono HBR.out.size)) HO_.out HMs.out (good_mono HGood.out (by omega)) (sameB_refl p)).mono ?_
            rintro e WR_2 ⟨rfl, hb_⟩
            have HB_2 := Lib.hid (show Below WR.heap.size WR WR_2 from HB_1.out.trans (hb_.mono HB_1.out.size))
            clear hb_ HB_1
            refine hK.out _ _ (fun _ => HB_2.out) ?_
            clear hK K
            refine takeP (i := 5) (v := ?_) rfl (by kernel_rfl) (by kernel_rfl) (by kernel_rfl) (by kernel_rfl) (fun _ _ _ h => h) (by rfl) ?_ (fun _ => HB_2.out) ?_
            rotate_left
            · intro V'; go_simp <;> with_reducible rfl
            simp only [Act.put, List.setIfInBounds_toArray, List.set_cons_zero, List.set_cons_succ]
            refine oneT (i := 6) rfl (by kernel_rfl) (by rfl) (fun K hK => ?_)
            go_simp
            refine ((HW _ (HBR.out.trans (HB_2.out.mono HBR.out.size))).out).mono ?_
            rintro e WR_3 ⟨rfl, hb_⟩
            have HB_3 := Lib.hid (show Below WR.heap.size WR WR_3 from HB_2.out.trans (hb_.mono HB_2.out.size))
            clear hb_ HB_2
            refine hK.out _ _ (fun _ => HB_3.out) ?_
            clear hK K
            refine takeP (i := 7) (v := ?_) rfl (by kernel_rfl) (by kernel_rfl) (by kernel_rfl) (by kernel_rfl) (fun _ _ _ h => h) (by rfl) ?_ (fun _ => HB_3.out) ?_
            rotate_left
            · intro V'; go_simp <;> with_reducible rfl
            simp only [Act.put, List.setIfInBounds_toArray, List.set_cons_zero, List.set_cons_succ]
            refine takeP (i := 8) (v := ?_) rfl (by kernel_rfl) (by kernel_rfl) (by kernel_rfl) (by kernel_rfl) (fun _ _ _ h => h) (by rfl) ?_ (fun _ => HB_3.out) ?_
            rotate_left
            · intro V'; go_simp <;> with_reducible rfl
            simp only [Act.put, List.setIfInBounds_toArray, List.set_cons_zero, List.set_cons_succ]
            refine doneT (by kernel_rfl) ?_ _
            have HBl := Lib.hid (HB.out.trans ((HBR.out.trans (HB_3.out.mono HBR.out.size)).mono HB.out.size))
            clear HL HB_3 HO_ HBR XNR ONR RNR HCR eR XBr HW
            go_wp2_with fail
            go_ret
            exact ⟨rfl, HBl.out⟩
      · have d0 : decide ((0 : Int) < (z.n : Int)) = true := by simp; omega
        go_upto_region 7 with fail
        have HZ0 := Lib.hid (show 0 < z.n by omega)
        have HZ1 := Lib.hid (show z.n ≤ 1000000 by have := H30.out; omega)
        refine region_grow (by kernel_rfl) (by kernel_rfl) 8 [52, 53, 54, 55, 56, 57, 58, 10] (by kernel_rfl) (by simp)
          (fun i v w_ => match i with | 0 => v = .pointer (some ⟨w.heap.size + 1, 0, none⟩) | 1 => v = .int .u8 (z.k : Int) | 2 => LitIs v | 3 => v = .pointer (some ⟨w.heap.size + 1, 1, none⟩) | 4 => v = .slice z.A z.n z.c | 5 => SlOwn W4_4.heap.size z.n z.zs v w_ | 6 => RecOwn W4_4.heap.size z.n z.k z.zs v w_ | 7 => RboxIs W4_4.heap.size v w_ | _ => True) ?_ ?_ ?_
        · intro i v w_ w_' hb h
          match i, h with
          | 0, h => exact h
          | 1, h => exact h
          | 2, h => exact h
          | 3, h => exact h
          | 4, h => exact h
          | 5, h => exact SlOwn.under hb h
          | 6, h => exact RecOwn.under hb h
          | 7, h => exact RboxIs.under hb h
          | n + 8, h => trivial
        · intro i o d a w_ hi ho hd hag hbel hgot K hK
          rcases (by omega : i = 0 ∨ i = 1 ∨ i = 2 ∨ i = 3 ∨ i = 4 ∨ i = 5 ∨ i = 6 ∨ i = 7) with rfl | rfl | rfl | rfl | rfl | rfl | rfl | rfl
          all_goals
            simp only [List.getElem?_toArray, List.getElem?_cons_zero, List.getElem?_cons_succ, Option.some.injEq] at ho
            subst ho
            injection hd with hd
            subst hd
          · exact opB_kind (hag.eval (t := 5) (by decide)) (hK _ _ (Below.refl _ _) rfl)
          · exact opB_loadK (hgot 0 52 (by kernel_rfl) rfl) ((XR5.out.under hbel).cell 0) (hK _ _ (Below.refl _ _) rfl)
          · exact opB_lit0 hK
          · exact opB_nums (hag.eval (t := 5) (by decide)) (hK _ _ (Below.refl _ _) rfl)
          · exact opB_loadL (hgot 3 55 (by kernel_rfl) rfl) ((XR5.out.under hbel).cell 1) (hK _ _ (Below.refl _ _) rfl)
          · exact opB_clone W4_4.heap.size hbel.size (hgot 2 54 (by kernel_rfl) rfl) (hgot 4 56 (by kernel_rfl) rfl) ((HZ5.out.below hbel).more hbel.size) HZ0.out HZ1.out hK
          · exact opB_buildR (hgot 1 53 (by kernel_rfl) rfl) (hgot 5 57 (by kernel_rfl) rfl) (fun v h => hK v _ (Below.refl _ _) h)
          · exact opB_allocR hbel.size hK
        intro o a_ w1_ ho hag hbel hgot K hK
        simp only [List.getElem?_toArray, List.getElem?_cons_zero, List.getElem?_cons_succ, Option.some.injEq] at ho
        subst ho
        obtain ⟨bW7, eW7, hloW7, hwW7⟩ := hgot 7 10 (by decide) rfl
        obtain ⟨AW7, cW7, fW7, hoW7⟩ := hgot 6 58 (by decide) rfl
        refine wp_storeRec _ _ rfl bW7 z.k z.n cW7 AW7 _ (by rfl) eW7 fW7 hwW7 (fun W7 hW_ => hK _ _ ?_)
        have XNW7 := Lib.hid (show Whole W7 bW7 32 #[.int .u8 (z.k : Int), .slice AW7 z.n cW7] by rw [hW_]; exact setRow_heap _ _ _ _ _ _ hwW7)
        have ONW7 := Lib.hid (show W7.ownsRow W4_4.heap.size 3 1 (.slice AW7 z.n cW7) z.n (iv z.zs) by rw [hW_]; exact own_rowsetB hoW7 (own_apart_F (by decide) hoW7 hwW7) _)
        have HBel := Lib.hid (show Below W4_4.heap.size W4_4 W7 by rw [hW_]; exact below_rowsetB hbel hloW7 _)
        have HLoW7 := Lib.hid hloW7
        have HB7 := Lib.hid (HB5.out.trans (HBel.out.mono HB5.out.size))
        have XB7 := Lib.hid (XB5.out.under HBel.out)
        have XR7 := Lib.hid (XR5.out.under HBel.out)
        have HZ7 := Lib.hid ((HZ5.out.below HBel.out).more HBel.out.size)
        obtain ⟨σ, hσ⟩ : ∃ σ : Nat → Value, (fun d => a_.eval (.tmp d)) = σ := ⟨_, rfl⟩
        have ha := hag.lay (by simp)
        rw [hσ] at ha
        have s_ : σ 10 = .pointer (some ⟨bW7, 0, none⟩) := by rw [← hσ]; exact eW7
        clear hσ hag hgot hK hbel hW_ eW7 fW7 hoW7 hwW7 hloW7 HBel
        subst ha
        simp only [lay, List.foldl_cons, List.foldl_nil, Act.put, List.setIfInBounds_toArray, List.set_cons_zero, List.set_cons_succ, s_]
        obtain ⟨u52, hu52⟩ : ∃ u, σ 52 = u := ⟨_, rfl⟩
        rw [hu52]
        obtain ⟨u53, hu53⟩ : ∃ u, σ 53 = u := ⟨_, rfl⟩
        rw [hu53]
        obtain ⟨u54, hu54⟩ : ∃ u, σ 54 = u := ⟨_, rfl⟩
        rw [hu54]
        obtain ⟨u55, hu55⟩ : ∃ u, σ 55 = u := ⟨_, rfl⟩
        rw [hu55]
        obtain ⟨u56, hu56⟩ : ∃ u, σ 56 = u := ⟨_, rfl⟩
        rw [hu56]
        obtain ⟨u57, hu57⟩ : ∃ u, σ 57 = u := ⟨_, rfl⟩
        rw [hu57]
        obtain ⟨u58, hu58⟩ : ∃ u, σ 58 = u := ⟨_, rfl⟩
        rw [hu58]
        clear hu52 hu53 hu54 hu55 hu56 hu57 hu58 s_
        have HS5 := Lib.hid HB5.out.size
        clear HB5 XB5 XR5 HZ5 r0 r1
        go_upto_region 8 with fail
        have hdz : ¬ ((z.n : Int) = 0) := by omega
        have HL : Hid (∀ V', Below W7.heap.size W7 V' → Whole V' w.heap.size 30 (brC p a) ∧ V'.cell? ⟨w.heap.size + 1, 1, none⟩ = some (.slice z.A z.n z.c)) := Lib.hid (fun V' hV => ⟨XB7.out.under hV, (XR7.out.under hV).cell 1⟩)
        have HBd := Lib.hid (show Below W7.heap.size W7 W7.drew from below_drewB (Below.refl _ _) 1)
        refine wp_region_T (ls := []) (T := (fun V' => Below W7.heap.size W7 V')) (by kernel_rfl) ?_
        refine takeP (i := 0) (v := ?_) rfl (by kernel_rfl) (by kernel_rfl) (by kernel_rfl) (by kernel_rfl) (fun _ _ _ h => h) (by rfl) ?_ (fun _ => HBd.out) ?_
        rotate_left
        · intro V'; go_simp <;> with_reducible rfl
        simp only [Act.put, List.setIfInBounds_toArray, List.set_cons_zero, List.set_cons_succ]
        refine takeP (i := 1) (v := ?_) rfl (by kernel_rfl) (by kernel_rfl) (by kernel_rfl) (by kernel_rfl) (fun _ _ _ h => h) (by rfl) ?_ (fun _ => HBd.out) ?_
        rotate_left
        · intro V'; go_simp <;> with_reducible rfl
        simp only [Act.put, List.setIfInBounds_toArray, List.set_cons_zero, List.set_cons_succ]
        refine takeT (i := 2) (v := ?_) rfl (by kernel_rfl) (by kernel_rfl) (by kernel_rfl) (by kernel_rfl) (fun _ _ _ h => h) (by rfl) ?_ HBd.out ?_
        rotate_left
        · intro V' hV; obtain ⟨y0, y1⟩ := HL.out V' hV; go_simp <;> with_reducible rfl
        simp only [Act.put, List.setIfInBounds_toArray, List.set_cons_zero, List.set_cons_succ]
        refine takeP (i := 3) (v := ?_) rfl (by kernel_rfl) (by kernel_rfl) (by kernel_rfl) (by kernel_rfl) (fun _ _ _ h => h) (by rfl) ?_ (fun _ => HBd.out) ?_
        rotate_left
        · intro V'; go_simp <;> with_reducible rfl
        simp only [Act.put, List.setIfInBounds_toArray, List.set_cons_zero, List.set_cons_succ]
        refine takeP (i := 4) (v := ?_) rfl (by kernel_rfl) (by kernel_rfl) (by kernel_rfl) (by kernel_rfl) (fun _ _ _ h => h) (by rfl) ?_ (fun _ => HBd.out) ?_
        rotate_left
        · intro V'; go_simp <;> with_reducible rfl
        simp only [Act.put, List.setIfInBounds_toArray, List.set_cons_zero, List.set_cons_succ]
        refine takeP (i := 5) (v := ?_) rfl (by kernel_rfl) (by kernel_rfl) (by kernel_rfl) (by kernel_rfl) (fun _ _ _ h => h) (by rfl) ?_ (fun _ => HBd.out) ?_
        rotate_left
        · intro V'; go_simp <;> with_reducible rfl
        simp only [Act.put, List.setIfInBounds_toArray, List.set_cons_zero, List.set_cons_succ]
        refine takeT (i := 6) (v := ?_) rfl (by kernel_rfl) (by kernel_rfl) (by kernel_rfl) (by kernel_rfl) (fun _ _ _ h => h) (by rfl) ?_ HBd.out ?_
        rotate_left
        · intro V' hV; obtain ⟨y0, y1⟩ := HL.out V' hV; go_simp <;> with_reducible rfl
        simp only [Act.put, List.setIfInBounds_toArray, List.set_cons_zero, List.set_cons_succ]
        refine takeP (i := 7) (v := ?_) rfl (by kernel_rfl) (by kernel_rfl) (by kernel_rfl) (by kernel_rfl) (fun _ _ _ h => h) (by rfl) ?_ (fun _ => HBd.out) ?_
        rotate_left
        · intro V'; go_simp <;> with_reducible rfl
        simp only [Act.put, List.setIfInBounds_toArray, List.set_cons_zero, List.set_cons_succ]
        refine takeP (i := 8) (v := ?_) rfl (by kernel_rfl) (by kernel_rfl) (by kernel_rfl) (by kernel_rfl) (fun _ _ _ h => h) (by rfl) ?_ (fun _ => HBd.out) ?_
        rotate_left
        · intro V'; go_simp <;> with_reducible rfl
        simp only [Act.put, List.setIfInBounds_toArray, List.set_cons_zero, List.set_cons_succ]
        refine takeP (i := 9) (v := ?_) rfl (by kernel_rfl) (by kernel_rfl) (by kernel_rfl) (by kernel_rfl) (fun _ _ _ h => h) (by rfl) ?_ (fun _ => HBd.out) ?_
        rotate_left
        · intro V'; go_simp <;> with_reducible rfl
        simp only [Act.put, List.setIfInBounds_toArray, List.set_cons_zero, List.set_cons_succ]
        refine takeT (i := 10) (v := ?_) rfl (by kernel_rfl) (by kernel_rfl) (by kernel_rfl) (by kernel_rfl) (fun _ _ _ h => h) (by rfl) ?_ HBd.out ?_
        rotate_left
        · intro V' hV; obtain ⟨y0, y1⟩ := HL.out V' hV; go_simp <;> with_reducible rfl
        simp only [Act.put, List.setIfInBounds_toArray, List.set_cons_zero, List.set_cons_succ]
        refine takeP (i := 11) (v := ?_) rfl (by kernel_rfl) (by kernel_rfl) (by kernel_rfl) (by kernel_rfl) (fun _ _ _ h => h) (by rfl) ?_ (fun _ => HBd.out) ?_
        rotate_left
        · intro V'; go_simp <;> with_reducible rfl
        simp only [Act.put, List.setIfInBounds_toArray, List.set_cons_zero, List.set_cons_succ]
        refine takeP (i := 12) (v := ?_) rfl (by kernel_rfl) (by kernel_rfl) (by kernel_rfl) (by kernel_rfl) (fun _ _ _ h => h) (by rfl) ?_ (fun _ => HBd.out) ?_
        rotate_left
        · intro V'; go_simp <;> with_reducible rfl
        simp only [Act.put, List.setIfInBounds_toArray, List.set_cons_zero, List.set_cons_succ]
        refine takeP (i := 13) (v := ?_) rfl (by kernel_rfl) (by kernel_rfl) (by kernel_rfl) (by kernel_rfl) (fun _ _ _ h => h) (by rfl) ?_ (fun _ => HBd.out) ?_
        rotate_left
        · intro V'; go_simp <;> with_reducible rfl
        simp only [Act.put, List.setIfInBounds_toArray, List.set_cons_zero, List.set_cons_succ]
        refine doneT (by kernel_rfl) ?_ _
        have HB8 := Lib.hid (HB7.out.trans (HBd.out.mono HB7.out.size))
        have XN8 := Lib.hid (XNW7.out.under HBd.out)
        have ON8 := Lib.hid (own_under ONW7.out HBd.out)
        clear HL HBd HB7 XB7 XR7 HZ7 XNW7 ONW7
        obtain ⟨i, hi, hiz⟩ := mod_atC at_ z.n HZ0.out
        rw [mod_wrapC at_ z.n HZ0.out (by have := H30.out; omega), hi]
        clear hi
        have HI := Lib.hid hiz
        obtain ⟨G7, rfl, hG7, _⟩ := own_fullI HZ0.out ON8.out
        have HG7 := Lib.hid (Nat.le_trans HS5.out hG7)
        obtain ⟨⟨v7, hv7⟩, hf7⟩ := own_cellC ON8.out hiz
        have q1 := XN8.out.cell 1
        simp only [List.getElem?_toArray, List.getElem?_cons_zero, List.getElem?_cons_succ] at q1
        have hil : (i : Int) < (z.n : Int) := by omega
        go_upto_region 10 with fail
        refine wpV (fun W9 hW9 => ?_)
        obtain ⟨z1, hz1⟩ : ∃ z1, wrap64 (-1 - bits BinOp.and IntKind.i64 n 1023) = z1 := ⟨_, rfl⟩
        have HN1 := Lib.hid (show isNum z1 = false by rw [← hz1]; exact bad_one n)
        have hW9' : W7.drew.setCell ⟨G7, i, none⟩ (.int .i64 z1) = W9 := by rw [← hz1]; exact hW9
        have HB9 := Lib.hid (show Below V.heap.size V W9 by rw [← hW9']; exact HB8.out.setCell (p := ⟨G7, i, none⟩) HG7.out _)
        have XN9 := Lib.hid (show Whole W9 bW7 32 #[.int .u8 (z.k : Int), .slice (some ⟨G7, 0, none⟩) z.n cW7] by rw [← hW9']; exact XN8.out.far (p := ⟨G7, i, none⟩) (own_ne ON8.out XN8.out) _)
        have ON9 := Lib.hid (show W9.ownsRow W4_4.heap.size 3 1 (.slice (some ⟨G7, 0, none⟩) z.n cW7) z.n (iv (z.zs.set i z1)) by rw [← hW9']; exact own_setC ON8.out z1)
        have HL7 := Lib.hid (show G7 < W9.heap.size from (ON9.out.lt G7 rfl).2)
        clear hW9 hW9' hz1 HB8 XN8 ON8 q1 hv7 hf7 hG7 HS5 HG7 hdz HLoW7
        have XR9 := Lib.hid (XR.out.under HB9.out)
        have HZ9 := Lib.hid ((HZ.out.2.1.below HB9.out).more HB9.out.size)
        refine region_grow (by kernel_rfl) (by kernel_rfl) 8 [79, 80, 81, 82, 83, 84, 85, 11] (by kernel_rfl) (by simp)
          (fun i v w_ => match i with | 0 => v = .pointer (some ⟨w.heap.size + 1, 0, none⟩) | 1 => v = .int .u8 (z.k : Int) | 2 => LitIs v | 3 => v = .pointer (some ⟨w.heap.size + 1, 1, none⟩) | 4 => v = .slice z.A z.n z.c | 5 => SlOwn W9.heap.size z.n z.zs v w_ | 6 => RecOwn W9.heap.size z.n z.k z.zs v w_ | 7 => RboxIs W9.heap.size v w_ | _ => True) ?_ ?_ ?_
        · intro i v w_ w_' hb h
          match i, h with
          | 0, h => exact h
          | 1, h => exact h
          | 2, h => exact h
          | 3, h => exact h
          | 4, h => exact h
          | 5, h => exact SlOwn.under hb h
          | 6, h => exact RecOwn.under hb h
          | 7, h => exact RboxIs.under hb h
          | n + 8, h => trivial
        · intro i o d a w_ hi ho hd hag hbel hgot K hK
          rcases (by omega : i = 0 ∨ i = 1 ∨ i = 2 ∨ i = 3 ∨ i = 4 ∨ i = 5 ∨ i = 6 ∨ i = 7) with rfl | rfl | rfl | rfl | rfl | rfl | rfl | rfl
          all_goals
            simp only [List.getElem?_toArray, List.getElem?_cons_zero, List.getElem?_cons_succ, Option.some.injEq] at ho
            subst ho
            injection hd with hd
            subst hd
          · exact opB_kind (hag.eval (t := 5) (by decide)) (hK _ _ (Below.refl _ _) rfl)
          · exact opB_loadK (hgot 0 79 (by kernel_rfl) rfl) ((XR9.out.under hbel).cell 0) (hK _ _ (Below.refl _ _) rfl)
          · exact opB_lit0 hK
          · exact opB_nums (hag.eval (t := 5) (by decide)) (hK _ _ (Below.refl _ _) rfl)
          · exact opB_loadL (hgot 3 82 (by kernel_rfl) rfl) ((XR9.out.under hbel).cell 1) (hK _ _ (Below.refl _ _) rfl)
          · exact opB_clone W9.heap.size hbel.size (hgot 2 81 (by kernel_rfl) rfl) (hgot 4 83 (by kernel_rfl) rfl) ((HZ9.out.below hbel).more hbel.size) HZ0.out HZ1.out hK
          · exact opB_buildR (hgot 1 80 (by kernel_rfl) rfl) (hgot 5 84 (by kernel_rfl) rfl) (fun v h => hK v _ (Below.refl _ _) h)
          · exact opB_allocR hbel.size hK
        intro o a_ w1_ ho hag hbel hgot K hK
        simp only [List.getElem?_toArray, List.getElem?_cons_zero, List.getElem?_cons_succ, Option.some.injEq] at ho
        subst ho
        obtain ⟨bW10, eW10, hloW10, hwW10⟩ := hgot 7 11 (by decide) rfl
        obtain ⟨AW10, cW10, fW10, hoW10⟩ := hgot 6 85 (by decide) rfl
        refine wp_storeRec _ _ rfl bW10 z.k z.n cW10 AW10 _ (by rfl) eW10 fW10 hwW10 (fun W10 hW_ => hK _ _ ?_)
        have XNW10 := Lib.hid (show Whole W10 bW10 32 #[.int .u8 (z.k : Int), .slice AW10 z.n cW10] by rw [hW_]; exact setRow_heap _ _ _ _ _ _ hwW10)
        have ONW10 := Lib.hid (show W10.ownsRow W9.heap.size 3 1 (.slice AW10 z.n cW10) z.n (iv z.zs) by rw [hW_]; exact own_rowsetB hoW10 (own_apart_F (by decide) hoW10 hwW10) _)
        have HBel := Lib.hid (show Below W9.heap.size W9 W10 by rw [hW_]; exact below_rowsetB hbel hloW10 _)
        have HLoW10 := Lib.hid hloW10
        have HBq := Lib.hid (HBel.out)
        have HB10 := Lib.hid (HB9.out.trans (HBel.out.mono HB9.out.size))
        have XN10 := Lib.hid (XN9.out.under HBel.out)
        have ON10 := Lib.hid (own_under ON9.out HBel.out)
        obtain ⟨σ, hσ⟩ : ∃ σ : Nat → Value, (fun d => a_.eval (.tmp d)) = σ := ⟨_, rfl⟩
        have ha := hag.lay (by simp)
        rw [hσ] at ha
        have s_ : σ 11 = .pointer (some ⟨bW10, 0, none⟩) := by rw [← hσ]; exact eW10
        clear hσ hag hgot hK hbel hW_ eW10 fW10 hoW10 hwW10 hloW10 HBel
        subst ha
        simp only [lay, List.foldl_cons, List.foldl_nil, Act.put, List.setIfInBounds_toArray, List.set_cons_zero, List.set_cons_succ, s_]
        obtain ⟨u79, hu79⟩ : ∃ u, σ 79 = u := ⟨_, rfl⟩
        rw [hu79]
        obtain ⟨u80, hu80⟩ : ∃ u, σ 80 = u := ⟨_, rfl⟩
        rw [hu80]
        obtain ⟨u81, hu81⟩ : ∃ u, σ 81 = u := ⟨_, rfl⟩
        rw [hu81]
        obtain ⟨u82, hu82⟩ : ∃ u, σ 82 = u := ⟨_, rfl⟩
        rw [hu82]
        obtain ⟨u83, hu83⟩ : ∃ u, σ 83 = u := ⟨_, rfl⟩
        rw [hu83]
        obtain ⟨u84, hu84⟩ : ∃ u, σ 84 = u := ⟨_, rfl⟩
        rw [hu84]
        obtain ⟨u85, hu85⟩ : ∃ u, σ 85 = u := ⟨_, rfl⟩
        rw [hu85]
        clear hu79 hu80 hu81 hu82 hu83 hu84 hu85 s_
        have HS9 := Lib.hid HB9.out.size
        clear HBq HB9 XN9 ON9 XR9 HZ9
        obtain ⟨G9, rfl, hG9, _⟩ := own_fullI HZ0.out ONW10.out
        have HG9 := Lib.hid (Nat.le_trans HS9.out hG9)
        obtain ⟨⟨v9, hv9⟩, hf9⟩ := own_cellC ONW10.out hiz
        have q1 := XNW10.out.cell 1
        simp only [List.getElem?_toArray, List.getElem?_cons_zero, List.getElem?_cons_succ] at q1
        have HGne := Lib.hid (show G7 ≠ G9 by have := HL7.out; omega)
        go_upto_region 12 with fail
        refine wpV (fun W11 hW11 => ?_)
        obtain ⟨z2, hz2⟩ : ∃ z2, wrap64 (1099511627777 + bits BinOp.and IntKind.i64 n 1023) = z2 := ⟨_, rfl⟩
        have HN2 := Lib.hid (show isNum z2 = false by rw [← hz2]; exact bad_two n)
        rw [hz2] at hW11
        have HB11 := Lib.hid (show Below V.heap.size V W11 by rw [← hW11]; exact HB10.out.setCell (p := ⟨G9, i, none⟩) HG9.out _)
        have XM11 := Lib.hid (show Whole W11 bW7 32 #[.int .u8 (z.k : Int), .slice (some ⟨G7, 0, none⟩) z.n cW7] by rw [← hW11]; exact XN10.out.far (p := ⟨G9, i, none⟩) (own_ne ONW10.out XN10.out) _)
        have XN11 := Lib.hid (show Whole W11 bW10 32 #[.int .u8 (z.k : Int), .slice (some ⟨G9, 0, none⟩) z.n cW10] by rw [← hW11]; exact XNW10.out.far (p := ⟨G9, i, none⟩) (own_ne ONW10.out XNW10.out) _)
        have OM11 := Lib.hid (show W11.ownsRow W4_4.heap.size 3 1 (.slice (some ⟨G7, 0, none⟩) z.n cW7) z.n (iv (z.zs.set i z1)) by rw [← hW11]; exact ownsRow_setCell_other ON10.out (by simp [Value.ownBlock]; exact HGne.out) _)
        have ON11 := Lib.hid (show W11.ownsRow W9.heap.size 3 1 (.slice (some ⟨G9, 0, none⟩) z.n cW10) z.n (iv (z.zs.set i z2)) by rw [← hW11]; exact own_setC ONW10.out z2)
        have HCM := Lib.hid (show z.n ≤ cW7 ∧ cW7 ≤ maxLen from ⟨(own_fullI HZ0.out OM11.out).choose_spec.2.2, own_maxB OM11.out⟩)
        have HCN := Lib.hid (show z.n ≤ cW10 ∧ cW10 ≤ maxLen from ⟨(own_fullI HZ0.out ON11.out).choose_spec.2.2, own_maxB ON11.out⟩)
        clear hW11 hz2 HB10 XN10 XNW10 ON10 ONW10 HGne HG9 HL7 HS9 q1 hv9 hf9 hG9
        have XB11 := Lib.hid (XB.out.under HB11.out)
        have RM11 := Lib.hid (Rd.of_own OM11.out)
        have RN11 := Lib.hid (Rd.of_own ON11.out)
        have eM : applyB p (z.k : Int) (z.zs.set i z1) = p := not_nums (nums_set (by omega) HN1.out)
        have eN : applyB p (z.k : Int) (z.zs.set i z2) = p := not_nums (nums_set (by omega) HN2.out)
        have HL : Hid (∀ V', Below W11.heap.size W11 V' → Whole V' w.heap.size 30 (brC p a) ∧ V'.cell? ⟨bW7, 0, none⟩ = some (.int .u8 (z.k : Int)) ∧ V'.cell? ⟨bW7, 1, none⟩ = some (.slice (some ⟨G7, 0, none⟩) z.n cW7) ∧ V'.cell? ⟨bW10, 0, none⟩ = some (.int .u8 (z.k : Int)) ∧ V'.cell? ⟨bW10, 1, none⟩ = some (.slice (some ⟨G9, 0, none⟩) z.n cW10)) := Lib.hid (fun V' hV => ⟨XB11.out.under hV, (XM11.out.under hV).cell 0, (XM11.out.under hV).cell 1, (XN11.out.under hV).cell 0, (XN11.out.under hV).cell 1⟩)
        have HBd := Lib.hid (show Below W11.heap.size W11 W11.drew from below_drewB (Below.refl _ _) 1)
        refine wp_region_T (ls := []) (T := (fun V' => Below W11.heap.size W11 V')) (by kernel_rfl) ?_
        refine takeT (i := 0) (v := brV p a) rfl (by kernel_rfl) (by kernel_rfl) (by kernel_rfl) (by kernel_rfl) (fun _ _ _ h => h) (by rfl) ?_ HBd.out ?_
        · intro V' hV; obtain ⟨y0, y1, y2, y3, y4⟩ := HL.out V' hV; exact exec_load_brain rfl y0
        simp only [Act.put, List.setIfInBounds_toArray, List.set_cons_zero, List.set_cons_succ]
        refine takeT (i := 1) (v := ?_) rfl (by kernel_rfl) (by kernel_rfl) (by kernel_rfl) (by kernel_rfl) (fun _ _ _ h => h) (by rfl) ?_ HBd.out ?_
        rotate_left
        · intro V' hV; obtain ⟨y0, y1, y2, y3, y4⟩ := HL.out V' hV; go_simp <;> with_reducible rfl
        simp only [Act.put, List.setIfInBounds_toArray, List.set_cons_zero, List.set_cons_succ]
        refine takeT (i := 3) (v := brV p a) rfl (by kernel_rfl) (by kernel_rfl) (by kernel_rfl) (by kernel_rfl) (fun _ _ _ h => h) (by rfl) ?_ HBd.out ?_
        · intro V' hV; obtain ⟨y0, y1, y2, y3, y4⟩ := HL.out V' hV; exact exec_load_brain rfl y0
        simp only [Act.put, List.setIfInBounds_toArray, List.set_cons_zero, List.set_cons_succ]
        refine oneT (i := 2) rfl (by kernel_rfl) (by rfl) (fun K hK => ?_)
        go_simp
        refine (apN (k := z.k) (zs := z.zs.set i z1) HRd.out (HB11.out.trans (HBd.out.mono HB11.out.size)) (HZ.out.1) ((RM11.out.below HBd.out).more HBd.out.size) ⟨HCM.out.1, HCM.out.2⟩ HMs.out HGood.out HT.out HH.out (eM)).mono ?_
        rintro e W11_1 ⟨a_, rfl, ho_, hb_⟩
        have HB_1 := Lib.hid (show Below W11.heap.size W11 W11_1 from HBd.out.trans (hb_.mono HBd.out.size))
        clear hb_ HBd
        have HO_ := Lib.hid ho_
        clear ho_
        refine hK.out _ _ (fun _ => HB_1.out) ?_
        clear hK K
        refine oneT (i := 4) rfl (by kernel_rfl) (by rfl) (fun K hK => ?_)
        go_simp
        refine (smN HRd.out (HB11.out.trans (HB_1.out.mono HB11.out.size)) HO_.out HMs.out (good_mono HGood.out (by omega)) (sameB_refl p)).mono ?_
        rintro e W11_2 ⟨rfl, hb_⟩
        have HB_2 := Lib.hid (show Below W11.heap.size W11 W11_2 from HB_1.out.trans (hb_.mono HB_1.out.size))
        clear hb_ HB_1
        refine hK.out _ _ (fun _ => HB_2.out) ?_
        clear hK K
        refine takeP (i := 5) (v := ?_) rfl (by kernel_rfl) (by kernel_rfl) (by kernel_rfl) (by kernel_rfl) (fun _ _ _ h => h) (by rfl) ?_ (fun _ => HB_2.out) ?_
        rotate_left
        · intro V'; go_simp <;> with_reducible rfl
        simp only [Act.put, List.setIfInBounds_toArray, List.set_cons_zero, List.set_cons_succ]
        refine takeP (i := 6) (v := ?_) rfl (by kernel_rfl) (by kernel_rfl) (by kernel_rfl) (by kernel_rfl) (fun _ _ _ h => h) (by rfl) ?_ (fun _ => HB_2.out) ?_
        rotate_left
        · intro V'; go_simp <;> with_reducible rfl
        simp only [Act.put, List.setIfInBounds_toArray, List.set_cons_zero, List.set_cons_succ]
        refine takeT (i := 7) (v := brV p a) rfl (by kernel_rfl) (by kernel_rfl) (by kernel_rfl) (by kernel_rfl) (fun _ _ _ h => h) (by rfl) ?_ HB_2.out ?_
        · intro V' hV; obtain ⟨y0, y1, y2, y3, y4⟩ := HL.out V' hV; exact exec_load_brain rfl y0
        simp only [Act.put, List.setIfInBounds_toArray, List.set_cons_zero, List.set_cons_succ]
        refine takeT (i := 8) (v := ?_) rfl (by kernel_rfl) (by kernel_rfl) (by kernel_rfl) (by kernel_rfl) (fun _ _ _ h => h) (by rfl) ?_ HB_2.out ?_
        rotate_left
        · intro V' hV; obtain ⟨y0, y1, y2, y3, y4⟩ := HL.out V' hV; go_simp <;> with_reducible rfl
        simp only [Act.put, List.setIfInBounds_toArray, List.set_cons_zero, List.set_cons_succ]
        refine takeT (i := 10) (v := brV p a) rfl (by kernel_rfl) (by kernel_rfl) (by kernel_rfl) (by kernel_rfl) (fun _ _ _ h => h) (by rfl) ?_ HB_2.out ?_
        · intro V' hV; obtain ⟨y0, y1, y2, y3, y4⟩ := HL.out V' hV; exact exec_load_brain rfl y0
        simp only [Act.put, List.setIfInBounds_toArray, List.set_cons_zero, List.set_cons_succ]
        refine oneT (i := 9) rfl (by kernel_rfl) (by rfl) (fun K hK => ?_)
        go_simp
        refine (apN (k := z.k) (zs := z.zs.set i z2) HRd.out (HB11.out.trans (HB_2.out.mono HB11.out.size)) (HZ.out.1) ((RN11.out.below HB_2.out).more HB_2.out.size) ⟨HCN.out.1, HCN.out.2⟩ HMs.out HGood.out HT.out HH.out (eN)).mono ?_
        rintro e W11_3 ⟨a_, rfl, ho_, hb_⟩
        have HB_3 := Lib.hid (show Below W11.heap.size W11 W11_3 from HB_2.out.trans (hb_.mono HB_2.out.size))
        clear hb_ HB_2
        clear HO_
        have HO_ := Lib.hid ho_
        clear ho_
        refine hK.out _ _ (fun _ => HB_3.out) ?_
        clear hK K
        refine oneT (i := 11) rfl (by kernel_rfl) (by rfl) (fun K hK => ?_)
        go_simp
        refine (smN HRd.out (HB11.out.trans (HB_3.out.mono HB11.out.size)) HO_.out HMs.out (good_mono HGood.out (by omega)) (sameB_refl p)).mono ?_
        rintro e W11_4 ⟨rfl, hb_⟩
        have HB_4 := Lib.hid (show Below W11.heap.size W11 W11_4 from HB_3.out.trans (hb_.mono HB_3.out.size))
        clear hb_ HB_3
        refine hK.out _ _ (fun _ => HB_4.out) ?_
        clear hK K
        refine takeP (i := 12) (v := ?_) rfl (by kernel_rfl) (by kernel_rfl) (by kernel_rfl) (by kernel_rfl) (fun _ _ _ h => h) (by rfl) ?_ (fun _ => HB_4.out) ?_
        rotate_left
        · intro V'; go_simp <;> with_reducible rfl
        simp only [Act.put, List.setIfInBounds_toArray, List.set_cons_zero, List.set_cons_succ]
        refine takeP (i := 13) (v := ?_) rfl (by kernel_rfl) (by kernel_rfl) (by kernel_rfl) (by kernel_rfl) (fun _ _ _ h => h) (by rfl) ?_ (fun _ => HB_4.out) ?_
        rotate_left
        · intro V'; go_simp <;> with_reducible rfl
        simp only [Act.put, List.setIfInBounds_toArray, List.set_cons_zero, List.set_cons_succ]
        refine doneT (by kernel_rfl) ?_ _
        have HB13 := Lib.hid (HB11.out.trans (HB_4.out.mono HB11.out.size))
        clear HL HO_ HB_4 HB11 XM11 XN11 OM11 ON11 HCM HCN XB11 RM11 RN11 eM eN HN1 HN2 HI hil
        go_upto_region 14 with fail
        have XBt := Lib.hid (XB.out.under HB13.out)
        have XRt := Lib.hid (XR.out.under HB13.out)
        have HZt := Lib.hid ((HZ.out.2.1.below HB13.out).more HB13.out.size)
        by_cases hk2 : z.k = 2
        · have dk : ((z.k : Int) == 2) = true := by simp; omega
          have dk' : decide ((z.k : Int) = 2) = true := by simp; omega
          have HL : Hid (∀ V', Below W11_4.heap.size W11_4 V' → Whole V' w.heap.size 30 (brC p a) ∧ V'.cell? ⟨w.heap.size + 1, 0, none⟩ = some (.int .u8 (z.k : Int)) ∧ V'.cell? ⟨w.heap.size + 1, 1, none⟩ = some (.slice z.A z.n z.c)) := Lib.hid (fun V' hV => ⟨XBt.out.under hV, (XRt.out.under hV).cell 0, (XRt.out.under hV).cell 1⟩)
          have HBd := Lib.hid (show Below W11_4.heap.size W11_4 W11_4.drew from below_drewB (Below.refl _ _) 1)
          refine wp_region_T (ls := []) (T := (fun V' => Below W11_4.heap.size W11_4 V')) (by kernel_rfl) ?_
          refine takeP (i := 0) (v := ?_) rfl (by kernel_rfl) (by kernel_rfl) (by kernel_rfl) (by kernel_rfl) (fun _ _ _ h => h) (by rfl) ?_ (fun _ => HBd.out) ?_
          rotate_left
          · intro V'; go_simp <;> with_reducible rfl
          simp only [Act.put, List.setIfInBounds_toArray, List.set_cons_zero, List.set_cons_succ]
          refine takeT (i := 1) (v := ?_) rfl (by kernel_rfl) (by kernel_rfl) (by kernel_rfl) (by kernel_rfl) (fun _ _ _ h => h) (by rfl) ?_ HBd.out ?_
          rotate_left
          · intro V' hV; obtain ⟨y0, y1, y2⟩ := HL.out V' hV; go_simp <;> with_reducible rfl
          simp only [Act.put, List.setIfInBounds_toArray, List.set_cons_zero, List.set_cons_succ]
          refine takeP (i := 2) (v := ?_) rfl (by kernel_rfl) (by kernel_rfl) (by kernel_rfl) (by kernel_rfl) (fun _ _ _ h => h) (by rfl) ?_ (fun _ => HBd.out) ?_
          rotate_left
          · intro V'; go_simp <;> with_reducible rfl
          simp only [Act.put, List.setIfInBounds_toArray, List.set_cons_zero, List.set_cons_succ]
          refine takeP (i := 3) (v := ?_) rfl (by kernel_rfl) (by kernel_rfl) (by kernel_rfl) (by kernel_rfl) (fun _ _ _ h => h) (by rfl) ?_ (fun _ => HBd.out) ?_
          rotate_left
          · intro V'; go_simp <;> with_reducible rfl
          simp only [Act.put, List.setIfInBounds_toArray, List.set_cons_zero, List.set_cons_succ]
          refine skipT (i := 4) rfl (by kernel_rfl) (by kernel_rfl) (by kernel_rfl) (by kernel_rfl) (fun _ _ _ h => h) (by rfl) (fun _ => HBd.out) ?_
          simp only [Act.put, List.setIfInBounds_toArray, List.set_cons_zero, List.set_cons_succ]
          refine skipT (i := 5) rfl (by kernel_rfl) (by kernel_rfl) (by kernel_rfl) (by kernel_rfl) (fun _ _ _ h => h) (by rfl) (fun _ => HBd.out) ?_
          simp only [Act.put, List.setIfInBounds_toArray, List.set_cons_zero, List.set_cons_succ]
          refine skipT (i := 6) rfl (by kernel_rfl) (by kernel_rfl) (by kernel_rfl) (by kernel_rfl) (fun _ _ _ h => h) (by rfl) (fun _ => HBd.out) ?_
          simp only [Act.put, List.setIfInBounds_toArray, List.set_cons_zero, List.set_cons_succ]
          refine skipT (i := 7) rfl (by kernel_rfl) (by kernel_rfl) (by kernel_rfl) (by kernel_rfl) (fun _ _ _ h => h) (by rfl) (fun _ => HBd.out) ?_
          simp only [Act.put, List.setIfInBounds_toArray, List.set_cons_zero, List.set_cons_succ]
          refine skipT (i := 8) rfl (by kernel_rfl) (by kernel_rfl) (by kernel_rfl) (by kernel_rfl) (fun _ _ _ h => h) (by rfl) (fun _ => HBd.out) ?_
          simp only [Act.put, List.setIfInBounds_toArray, List.set_cons_zero, List.set_cons_succ]
          refine takeP (i := 9) (v := ?_) rfl (by kernel_rfl) (by kernel_rfl) (by kernel_rfl) (by kernel_rfl) (fun _ _ _ h => h) (by rfl) ?_ (fun _ => HBd.out) ?_
          rotate_left
          · intro V'; go_simp <;> with_reducible rfl
          simp only [Act.put, List.setIfInBounds_toArray, List.set_cons_zero, List.set_cons_succ]
          refine doneT (by kernel_rfl) ?_ _
          have HBy := Lib.hid (HB13.out.trans (HBd.out.mono HB13.out.size))
          clear HL HBd HB13 XBt XRt HZt
          have HWk := HW _ HBy.out
          go_wp2_with fail
          refine HWk.out.mono ?_
          rintro e Vl ⟨rfl, bl⟩
          have HBl := Lib.hid (HB.out.trans ((HBy.out.trans (bl.mono HBy.out.size)).mono HB.out.size))
          clear bl HWk HW
          go_wp2_with fail
          go_ret
          exact ⟨rfl, HBl.out⟩
        · have dk : ((z.k : Int) == 2) = false := by simp; omega
          have dk' : decide ((z.k : Int) = 2) = false := by simp; omega
          obtain ⟨q, hq⟩ : ∃ q, applyB p (z.k : Int) z.zs = q := ⟨_, rfl⟩
          obtain ⟨rs, hrs⟩ : ∃ rs, sameB q p = rs := ⟨_, rfl⟩
          have HMq := Lib.hid (show q.cf.ms.length ≤ 1000 by rw [← hq]; exact ms_apply HMs.out)
          have HGq := Lib.hid (show Good 81 q by rw [← hq]; exact good_apply HGood.out _ _)
          have HL : Hid (∀ V', Below W11_4.heap.size W11_4 V' → Whole V' w.heap.size 30 (brC p a) ∧ V'.cell? ⟨w.heap.size + 1, 0, none⟩ = some (.int .u8 (z.k : Int)) ∧ V'.cell? ⟨w.heap.size + 1, 1, none⟩ = some (.slice z.A z.n z.c)) := Lib.hid (fun V' hV => ⟨XBt.out.under hV, (XRt.out.under hV).cell 0, (XRt.out.under hV).cell 1⟩)
          have HBd := Lib.hid (show Below W11_4.heap.size W11_4 W11_4.drew from below_drewB (Below.refl _ _) 1)
          refine wp_region_T (ls := []) (T := (fun V' => Below W11_4.heap.size W11_4 V')) (by kernel_rfl) ?_
          refine takeP (i := 0) (v := ?_) rfl (by kernel_rfl) (by kernel_rfl) (by kernel_rfl) (by kernel_rfl) (fun _ _ _ h => h) (by rfl) ?_ (fun _ => HBd.out) ?_
          rotate_left
          · intro V'; go_simp <;> with_reducible rfl
          simp only [Act.put, List.setIfInBounds_toArray, List.set_cons_zero, List.set_cons_succ]
          refine takeT (i := 1) (v := ?_) rfl (by kernel_rfl) (by kernel_rfl) (by kernel_rfl) (by kernel_rfl) (fun _ _ _ h => h) (by rfl) ?_ HBd.out ?_
          rotate_left
          · intro V' hV; obtain ⟨y0, y1, y2⟩ := HL.out V' hV; go_simp <;> with_reducible rfl
          simp only [Act.put, List.setIfInBounds_toArray, List.set_cons_zero, List.set_cons_succ]
          refine takeP (i := 2) (v := ?_) rfl (by kernel_rfl) (by kernel_rfl) (by kernel_rfl) (by kernel_rfl) (fun _ _ _ h => h) (by rfl) ?_ (fun _ => HBd.out) ?_
          rotate_left
          · intro V'; go_simp <;> with_reducible rfl
          simp only [Act.put, List.setIfInBounds_toArray, List.set_cons_zero, List.set_cons_succ]
          refine takeP (i := 3) (v := ?_) rfl (by kernel_rfl) (by kernel_rfl) (by kernel_rfl) (by kernel_rfl) (fun _ _ _ h => h) (by rfl) ?_ (fun _ => HBd.out) ?_
          rotate_left
          · intro V'; go_simp <;> with_reducible rfl
          simp only [Act.put, List.setIfInBounds_toArray, List.set_cons_zero, List.set_cons_succ]
          refine takeT (i := 4) (v := brV p a) rfl (by kernel_rfl) (by kernel_rfl) (by kernel_rfl) (by kernel_rfl) (fun _ _ _ h => h) (by rfl) ?_ HBd.out ?_
          · intro V' hV; obtain ⟨y0, y1, y2⟩ := HL.out V' hV; exact exec_load_brain rfl y0
          simp only [Act.put, List.setIfInBounds_toArray, List.set_cons_zero, List.set_cons_succ]
          refine takeT (i := 5) (v := ?_) rfl (by kernel_rfl) (by kernel_rfl) (by kernel_rfl) (by kernel_rfl) (fun _ _ _ h => h) (by rfl) ?_ HBd.out ?_
          rotate_left
          · intro V' hV; obtain ⟨y0, y1, y2⟩ := HL.out V' hV; go_simp <;> with_reducible rfl
          simp only [Act.put, List.setIfInBounds_toArray, List.set_cons_zero, List.set_cons_succ]
          refine takeT (i := 7) (v := brV p a) rfl (by kernel_rfl) (by kernel_rfl) (by kernel_rfl) (by kernel_rfl) (fun _ _ _ h => h) (by rfl) ?_ HBd.out ?_
          · intro V' hV; obtain ⟨y0, y1, y2⟩ := HL.out V' hV; exact exec_load_brain rfl y0
          simp only [Act.put, List.setIfInBounds_toArray, List.set_cons_zero, List.set_cons_succ]
          refine oneT (i := 6) rfl (by kernel_rfl) (by rfl) (fun K hK => ?_)
          go_simp
          refine (apN (k := z.k) (zs := z.zs) HRd.out (HB13.out.trans (HBd.out.mono HB13.out.size)) (HZ.out.1) ((HZt.out.below HBd.out).more HBd.out.size) HZ.out.2.2 HMs.out HGood.out HT.out HH.out (hq)).mono ?_
          rintro e W11_4_1 ⟨a_, rfl, ho_, hb_⟩
          have HB_1 := Lib.hid (show Below W11_4.heap.size W11_4 W11_4_1 from HBd.out.trans (hb_.mono HBd.out.size))
          clear hb_ HBd
          have HO_ := Lib.hid ho_
          clear ho_
          refine hK.out _ _ (fun _ => HB_1.out) ?_
          clear hK K
          refine oneT (i := 8) rfl (by kernel_rfl) (by rfl) (fun K hK => ?_)
          go_simp
          refine (smN HRd.out (HB13.out.trans (HB_1.out.mono HB13.out.size)) HO_.out HMq.out HGq.out hrs).mono ?_
          rintro e W11_4_2 ⟨rfl, hb_⟩
          have HB_2 := Lib.hid (show Below W11_4.heap.size W11_4 W11_4_2 from HB_1.out.trans (hb_.mono HB_1.out.size))
          clear hb_ HB_1
          refine hK.out _ _ (fun _ => HB_2.out) ?_
          clear hK K
          refine takeP (i := 9) (v := ?_) rfl (by kernel_rfl) (by kernel_rfl) (by kernel_rfl) (by kernel_rfl) (fun _ _ _ h => h) (by rfl) ?_ (fun _ => HB_2.out) ?_
          rotate_left
          · intro V'; go_simp <;> with_reducible rfl
          simp only [Act.put, List.setIfInBounds_toArray, List.set_cons_zero, List.set_cons_succ]
          refine doneT (by kernel_rfl) ?_ _
          have HBy := Lib.hid (HB13.out.trans (HB_2.out.mono HB13.out.size))
          clear HL HB_2 HB13 XBt XRt HZt HO_ HMq HGq
          cases rs with
          | true =>
            clear hrs hq
            have HWk := HW _ HBy.out
            go_wp2_with fail
            refine HWk.out.mono ?_
            rintro e Vl ⟨rfl, bl⟩
            have HBl := Lib.hid (HB.out.trans ((HBy.out.trans (bl.mono HBy.out.size)).mono HB.out.size))
            clear bl HWk HW
            go_wp2_with fail
            go_ret
            exact ⟨rfl, HBl.out⟩
          | false =>
            have hfit : manyB (z.k : Int) = (z.zs.length : Int) := fits_len (b := p) (by omega) (by rw [hq]; exact hrs)
            have HFit := Lib.hid hfit
            clear hrs hq hfit
            go_upto_region 16 with fail
            have XRy := Lib.hid (XR.out.under HBy.out)
            have HZy := Lib.hid ((HZ.out.2.1.below HBy.out).more HBy.out.size)
            refine region_stay (by kernel_rfl) (by kernel_rfl) 10 [118, 119, 120, 121, 122, 123, 124, 125, 126, 12] (by kernel_rfl) (by simp) (MoreR W11_4_2.heap.size (w.heap.size + 1) z) ?_ ?_
            · intro i o d a w_ hi ho hd hag hbel hgot K hK
              rcases (by omega : i = 0 ∨ i = 1 ∨ i = 2 ∨ i = 3 ∨ i = 4 ∨ i = 5 ∨ i = 6 ∨ i = 7 ∨ i = 8 ∨ i = 9) with rfl | rfl | rfl | rfl | rfl | rfl | rfl | rfl | rfl | rfl
              all_goals
                simp only [List.getElem?_toArray, List.getElem?_cons_zero, List.getElem?_cons_succ, Option.some.injEq] at ho
                subst ho
                injection hd with hd
                subst hd
                have hK' := fun v w_' hb hr => hK v w_' (stay_grow MoreR.under hbel.size hb) hr
              · exact opB_kind (hag.eval (t := 5) (by decide)) (hK' _ _ (Below.refl _ _) rfl)
              · exact opB_loadK (hgot 0 118 (by kernel_rfl) rfl) ((XRy.out.under hbel).cell 0) (hK' _ _ (Below.refl _ _) rfl)
              · exact opB_lit0w W11_4_2.heap.size hbel.size hK'
              · exact opB_nums (hag.eval (t := 5) (by decide)) (hK' _ _ (Below.refl _ _) rfl)
              · exact opB_loadL (hgot 3 121 (by kernel_rfl) rfl) ((XRy.out.under hbel).cell 1) (hK' _ _ (Below.refl _ _) rfl)
              · exact opB_cloneW W11_4_2.heap.size hbel.size (hgot 2 120 (by kernel_rfl) rfl) (hgot 4 122 (by kernel_rfl) rfl) ((HZy.out.below hbel).more hbel.size) (by have := H30.out; omega) hK'
              · exact opB_lit1w W11_4_2.heap.size hbel.size hK'
              · refine opB_more (n := z.n) (zs := z.zs) W11_4_2.heap.size hbel.size (hgot 5 123 (by kernel_rfl) rfl) (hgot 6 124 (by kernel_rfl) rfl) (by have := H30.out; omega) (fun v w_' hv hc => hK v w_' ?_ hv)
                rcases hc with hb | ⟨g, hn1, hlg, rfl, hne⟩
                · exact stay_grow MoreR.under hbel.size hb
                · refine ⟨(Below.refl _ _).setCell (p := ⟨g, z.n, none⟩) hlg _, fun j v' hj hj7 hw hr => MoreR.past hn1 hne j v' hj7 (fun e => ?_) hr⟩
                  subst e
                  exact Bool.false_ne_true ((hw _ rfl).symm.trans (by kernel_rfl))
              · exact opB_buildR (n := z.n + 1) (hgot 1 119 (by kernel_rfl) rfl) (hgot 7 125 (by kernel_rfl) rfl) (fun v h => hK' v _ (Below.refl _ _) h)
              · exact opB_allocR hbel.size hK'
            intro o a_ w1_ ho hag hbel hgot K hK
            simp only [List.getElem?_toArray, List.getElem?_cons_zero, List.getElem?_cons_succ, Option.some.injEq] at ho
            subst ho
            obtain ⟨bQ, eQ, hloQ, hwQ⟩ := hgot 9 12 (by decide) rfl
            obtain ⟨AQ, cQ, fQ, hoQ⟩ := hgot 8 126 (by decide) rfl
            refine wp_storeRec _ _ rfl bQ z.k (z.n + 1) cQ AQ _ (by rfl) eQ fQ hwQ (fun WQ hW_ => hK _ _ ?_)
            have XNQ := Lib.hid (show Whole WQ bQ 32 #[.int .u8 (z.k : Int), .slice AQ (z.n + 1) cQ] by rw [hW_]; exact setRow_heap _ _ _ _ _ _ hwQ)
            have ONQ := Lib.hid (show WQ.ownsRow W11_4_2.heap.size 3 1 (.slice AQ (z.n + 1) cQ) (z.n + 1) (iv (z.zs ++ [1])) by rw [hW_]; exact own_rowsetB hoQ (own_apart_F (by decide) hoQ hwQ) _)
            have HBQ := Lib.hid (show Below V.heap.size V WQ by rw [hW_]; exact HBy.out.trans ((below_rowsetB hbel hloQ _).mono HBy.out.size))
            obtain ⟨σ, hσ⟩ : ∃ σ : Nat → Value, (fun d => a_.eval (.tmp d)) = σ := ⟨_, rfl⟩
            have ha := hag.lay (by simp)
            rw [hσ] at ha
            have s_ : σ 12 = .pointer (some ⟨bQ, 0, none⟩) := by rw [← hσ]; exact eQ
            clear hσ hag hgot hK hbel hW_ eQ fQ hoQ hwQ hloQ HBy XRy HZy
            subst ha
            simp only [lay, List.foldl_cons, List.foldl_nil, Act.put, List.setIfInBounds_toArray, List.set_cons_zero, List.set_cons_succ, s_]
            obtain ⟨u118, hu118⟩ : ∃ u, σ 118 = u := ⟨_, rfl⟩
            rw [hu118]
            obtain ⟨u119, hu119⟩ : ∃ u, σ 119 = u := ⟨_, rfl⟩
            rw [hu119]
            obtain ⟨u120, hu120⟩ : ∃ u, σ 120 = u := ⟨_, rfl⟩
            rw [hu120]
            obtain ⟨u121, hu121⟩ : ∃ u, σ 121 = u := ⟨_, rfl⟩
            rw [hu121]
            obtain ⟨u122, hu122⟩ : ∃ u, σ 122 = u := ⟨_, rfl⟩
            rw [hu122]
            obtain ⟨u123, hu123⟩ : ∃ u, σ 123 = u := ⟨_, rfl⟩
            rw [hu123]
            obtain ⟨u124, hu124⟩ : ∃ u, σ 124 = u := ⟨_, rfl⟩
            rw [hu124]
            obtain ⟨u125, hu125⟩ : ∃ u, σ 125 = u := ⟨_, rfl⟩
            rw [hu125]
            obtain ⟨u126, hu126⟩ : ∃ u, σ 126 = u := ⟨_, rfl⟩
            rw [hu126]
            clear hu118 hu119 hu120 hu121 hu122 hu123 hu124 hu125 hu126 s_
            go_upto_region 17 with fail
            have XBq := Lib.hid (XB.out.under HBQ.out)
            have XRq := Lib.hid (XR.out.under HBQ.out)
            have HZq := Lib.hid ((HZ.out.2.1.below HBQ.out).more HBQ.out.size)
            have HLe := Lib.hid HFit.out
            have dz : decide ((0 : Int) < (z.n : Int)) = true := by have := HZ0.out; simp; omega
            obtain ⟨A', hrest, hA'⟩ := run_restF Tryz.underlying22 rfl info_int z.A z.n z.c 1 (by have := HZ0.out; omega)
            have HRe := Lib.hid (show ∀ w_ : World, (Instr.slice 22 (.slice z.A z.n z.c) (some (.int .i64 1)) none none).run Tryz.prog w_ = .ok (.slice A' (z.n - 1) (z.c - 1)) w_ from hrest)
            have HTl := Lib.hid (show Rd WQ WQ.heap.size A' (z.n - 1) (iv (z.zs.drop 1)) by
              have h := HZq.out.cut (k := 1) (by have := HZ0.out; omega) A' (fun hlt b off e => (hA' ⟨hlt, HZ.out.2.2.1⟩ b off e).trans (by rw [Nat.mul_one]))
              rwa [show (iv z.zs).drop 1 = iv (z.zs.drop 1) by simp [iv]] at h)
            have eT : applyB p (z.k : Int) (z.zs.drop 1) = p := not_len (by omega) (by have h1 := HFit.out; have h2 := HZ0.out; rw [List.length_drop]; omega)
            clear hrest hA'
            have HL : Hid (∀ V', Below WQ.heap.size WQ V' → Whole V' w.heap.size 30 (brC p a) ∧ V'.cell? ⟨w.heap.size + 1, 0, none⟩ = some (.int .u8 (z.k : Int)) ∧ V'.cell? ⟨w.heap.size + 1, 1, none⟩ = some (.slice z.A z.n z.c)) := Lib.hid (fun V' hV => ⟨XBq.out.under hV, (XRq.out.under hV).cell 0, (XRq.out.under hV).cell 1⟩)
            have HBd := Lib.hid (show Below WQ.heap.size WQ WQ.drew from below_drewB (Below.refl _ _) 1)
            refine wp_region_T (ls := []) (T := (fun V' => Below WQ.heap.size WQ V')) (by kernel_rfl) ?_
            refine takeP (i := 0) (v := ?_) rfl (by kernel_rfl) (by kernel_rfl) (by kernel_rfl) (by kernel_rfl) (fun _ _ _ h => h) (by rfl) ?_ (fun _ => HBd.out) ?_
            rotate_left
            · intro V'; go_simp <;> with_reducible rfl
            simp only [Act.put, List.setIfInBounds_toArray, List.set_cons_zero, List.set_cons_succ]
            refine takeT (i := 1) (v := ?_) rfl (by kernel_rfl) (by kernel_rfl) (by kernel_rfl) (by kernel_rfl) (fun _ _ _ h => h) (by rfl) ?_ HBd.out ?_
            rotate_left
            · intro V' hV; obtain ⟨y0, y1, y2⟩ := HL.out V' hV; go_simp <;> with_reducible rfl
            simp only [Act.put, List.setIfInBounds_toArray, List.set_cons_zero, List.set_cons_succ]
            refine takeP (i := 2) (v := ?_) rfl (by kernel_rfl) (by kernel_rfl) (by kernel_rfl) (by kernel_rfl) (fun _ _ _ h => h) (by rfl) ?_ (fun _ => HBd.out) ?_
            rotate_left
            · intro V'; go_simp <;> with_reducible rfl
            simp only [Act.put, List.setIfInBounds_toArray, List.set_cons_zero, List.set_cons_succ]
            refine takeP (i := 3) (v := ?_) rfl (by kernel_rfl) (by kernel_rfl) (by kernel_rfl) (by kernel_rfl) (fun _ _ _ h => h) (by rfl) ?_ (fun _ => HBd.out) ?_
            rotate_left
            · intro V'; go_simp <;> with_reducible rfl
            simp only [Act.put, List.setIfInBounds_toArray, List.set_cons_zero, List.set_cons_succ]
            refine takeP (i := 4) (v := ?_) rfl (by kernel_rfl) (by kernel_rfl) (by kernel_rfl) (by kernel_rfl) (fun _ _ _ h => h) (by rfl) ?_ (fun _ => HBd.out) ?_
            rotate_left
            · intro V'; go_simp <;> with_reducible rfl
            simp only [Act.put, List.setIfInBounds_toArray, List.set_cons_zero, List.set_cons_succ]
            refine takeT (i := 5) (v := brV p a) rfl (by kernel_rfl) (by kernel_rfl) (by kernel_rfl) (by kernel_rfl) (fun _ _ _ h => h) (by rfl) ?_ HBd.out ?_
            · intro V' hV; obtain ⟨y0, y1, y2⟩ := HL.out V' hV; exact exec_load_brain rfl y0
            simp only [Act.put, List.setIfInBounds_toArray, List.set_cons_zero, List.set_cons_succ]
            refine takeP (i := 6) (v := ?_) rfl (by kernel_rfl) (by kernel_rfl) (by kernel_rfl) (by kernel_rfl) (fun _ _ _ h => h) (by rfl) ?_ (fun _ => HBd.out) ?_
            rotate_left
            · intro V'; go_simp <;> with_reducible rfl
            simp only [Act.put, List.setIfInBounds_toArray, List.set_cons_zero, List.set_cons_succ]
            refine takeT (i := 7) (v := ?_) rfl (by kernel_rfl) (by kernel_rfl) (by kernel_rfl) (by kernel_rfl) (fun _ _ _ h => h) (by rfl) ?_ HBd.out ?_
            rotate_left
            · intro V' hV; obtain ⟨y0, y1, y2⟩ := HL.out V' hV; go_simp <;> with_reducible rfl
            simp only [Act.put, List.setIfInBounds_toArray, List.set_cons_zero, List.set_cons_succ]
            refine takeP (i := 8) (v := ?_) rfl (by kernel_rfl) (by kernel_rfl) (by kernel_rfl) (by kernel_rfl) (fun _ _ _ h => h) (by rfl) ?_ (fun _ => HBd.out) ?_
            rotate_left
            · intro V'; go_simp <;> with_reducible rfl
            simp only [Act.put, List.setIfInBounds_toArray, List.set_cons_zero, List.set_cons_succ]
            refine takeT (i := 9) (v := ?_) rfl (by kernel_rfl) (by kernel_rfl) (by kernel_rfl) (by kernel_rfl) (fun _ _ _ h => h) (by rfl) ?_ HBd.out ?_
            rotate_left
            · intro V' hV; obtain ⟨y0, y1, y2⟩ := HL.out V' hV; go_simp <;> with_reducible rfl
            simp only [Act.put, List.setIfInBounds_toArray, List.set_cons_zero, List.set_cons_succ]
            refine takeP (i := 10) (v := .slice A' (z.n - 1) (z.c - 1)) rfl (by kernel_rfl) (by kernel_rfl) (by kernel_rfl) (by kernel_rfl) (fun _ _ _ h => h) (by rfl) ?_ (fun _ => HBd.out) ?_
            · intro V'; have hs := HRe.out V'; go_simp <;> with_reducible rfl
            simp only [Act.put, List.setIfInBounds_toArray, List.set_cons_zero, List.set_cons_succ]
            refine takeP (i := 11) (v := ?_) rfl (by kernel_rfl) (by kernel_rfl) (by kernel_rfl) (by kernel_rfl) (fun _ _ _ h => h) (by rfl) ?_ (fun _ => HBd.out) ?_
            rotate_left
            · intro V'; go_simp <;> with_reducible rfl
            simp only [Act.put, List.setIfInBounds_toArray, List.set_cons_zero, List.set_cons_succ]
            refine takeT (i := 13) (v := brV p a) rfl (by kernel_rfl) (by kernel_rfl) (by kernel_rfl) (by kernel_rfl) (fun _ _ _ h => h) (by rfl) ?_ HBd.out ?_
            · intro V' hV; obtain ⟨y0, y1, y2⟩ := HL.out V' hV; exact exec_load_brain rfl y0
            simp only [Act.put, List.setIfInBounds_toArray, List.set_cons_zero, List.set_cons_succ]
            refine oneT (i := 12) rfl (by kernel_rfl) (by rfl) (fun K hK => ?_)
            go_simp
            refine (apN (k := z.k) (zs := z.zs.drop 1) HRd.out (HBQ.out.trans (HBd.out.mono HBQ.out.size)) (HZ.out.1) ((HTl.out.below HBd.out).more HBd.out.size) ⟨Nat.sub_le_sub_right HZ.out.2.2.1 1, Nat.le_trans (Nat.sub_le _ _) HZ.out.2.2.2⟩ HMs.out HGood.out HT.out HH.out (eT)).mono ?_
            rintro e WQ_1 ⟨a_, rfl, ho_, hb_⟩
            have HB_1 := Lib.hid (show Below WQ.heap.size WQ WQ_1 from HBd.out.trans (hb_.mono HBd.out.size))
            clear hb_ HBd
            have HO_ := Lib.hid ho_
            clear ho_
            refine hK.out _ _ (fun _ => HB_1.out) ?_
            clear hK K
            refine oneT (i := 14) rfl (by kernel_rfl) (by rfl) (fun K hK => ?_)
            go_simp
            refine (smN HRd.out (HBQ.out.trans (HB_1.out.mono HBQ.out.size)) HO_.out HMs.out (good_mono HGood.out (by omega)) (sameB_refl p)).mono ?_
            rintro e WQ_2 ⟨rfl, hb_⟩
            have HB_2 := Lib.hid (show Below WQ.heap.size WQ WQ_2 from HB_1.out.trans (hb_.mono HB_1.out.size))
            clear hb_ HB_1
            refine hK.out _ _ (fun _ => HB_2.out) ?_
            clear hK K
            refine takeP (i := 15) (v := ?_) rfl (by kernel_rfl) (by kernel_rfl) (by kernel_rfl) (by kernel_rfl) (fun _ _ _ h => h) (by rfl) ?_ (fun _ => HB_2.out) ?_
            rotate_left
            · intro V'; go_simp <;> with_reducible rfl
            simp only [Act.put, List.setIfInBounds_toArray, List.set_cons_zero, List.set_cons_succ]
            refine takeP (i := 16) (v := ?_) rfl (by kernel_rfl) (by kernel_rfl) (by kernel_rfl) (by kernel_rfl) (fun _ _ _ h => h) (by rfl) ?_ (fun _ => HB_2.out) ?_
            rotate_left
            · intro V'; go_simp <;> with_reducible rfl
            simp only [Act.put, List.setIfInBounds_toArray, List.set_cons_zero, List.set_cons_succ]
            refine doneT (by kernel_rfl) ?_ _
            have HBR := Lib.hid (HBQ.out.trans (HB_2.out.mono HBQ.out.size))
            have XNR := Lib.hid (XNQ.out.under HB_2.out)
            have ONR := Lib.hid (own_under ONQ.out HB_2.out)
            clear HL HB_2 HBQ XNQ ONQ XBq XRq HZq HO_ HRe HTl eT
            go_upto_region 19 with fail
            refine wpV (fun WR hWR => ?_)
            rw [hWR] at HBR XNR ONR
            clear hWR
            have XBr := Lib.hid (XB.out.under HBR.out)
            have RNR := Lib.hid (Rd.of_own ONR.out)
            have HCR := Lib.hid (show z.n + 1 ≤ cQ ∧ cQ ≤ maxLen from ⟨(own_fullI (by omega) ONR.out).choose_spec.2.2, own_maxB ONR.out⟩)
            have eR : applyB p (z.k : Int) (z.zs ++ [1]) = p := not_len (by omega) (by have := HFit.out; rw [List.length_append, List.length_singleton]; omega)
            have HL : Hid (∀ V', Below WR.heap.size WR V' → Whole V' w.heap.size 30 (brC p a) ∧ V'.cell? ⟨bQ, 0, none⟩ = some (.int .u8 (z.k : Int)) ∧ V'.cell? ⟨bQ, 1, none⟩ = some (.slice AQ (z.n + 1) cQ)) := Lib.hid (fun V' hV => ⟨XBr.out.under hV, (XNR.out.under hV).cell 0, (XNR.out.under hV).cell 1⟩)
            have HBd := Lib.hid (show Below WR.heap.size WR WR.drew from below_drewB (Below.refl _ _) 1)
            refine wp_region_T (ls := []) (T := (fun V' => Below WR.heap.size WR V')) (by kernel_rfl) ?_
            refine takeT (i := 0) (v := brV p a) rfl (by kernel_rfl) (by kernel_rfl) (by kernel_rfl) (by kernel_rfl) (fun _ _ _ h => h) (by rfl) ?_ HBd.out ?_
            · intro V' hV; obtain ⟨y0, y1, y2⟩ := HL.out V' hV; exact exec_load_brain rfl y0
            simp only [Act.put, List.setIfInBounds_toArray, List.set_cons_zero, List.set_cons_succ]
            refine takeT (i := 1) (v := ?_) rfl (by kernel_rfl) (by kernel_rfl) (by kernel_rfl) (by kernel_rfl) (fun _ _ _ h => h) (by rfl) ?_ HBd.out ?_
            rotate_left
            · intro V' hV; obtain ⟨y0, y1, y2⟩ := HL.out V' hV; go_simp <;> with_reducible rfl
            simp only [Act.put, List.setIfInBounds_toArray, List.set_cons_zero, List.set_cons_succ]
            refine takeT (i := 3) (v := brV p a) rfl (by kernel_rfl) (by kernel_rfl) (by kernel_rfl) (by kernel_rfl) (fun _ _ _ h => h) (by rfl) ?_ HBd.out ?_
            · intro V' hV; obtain ⟨y0, y1, y2⟩ := HL.out V' hV; exact exec_load_brain rfl y0
            simp only [Act.put, List.setIfInBounds_toArray, List.set_cons_zero, List.set_cons_succ]
            refine oneT (i := 2) rfl (by kernel_rfl) (by rfl) (fun K hK => ?_)
            go_simp
            refine (apN (k := z.k) (zs := z.zs ++ [1]) HRd.out (HBR.out.trans (HBd.out.mono HBR.out.size)) (HZ.out.1) ((RNR.out.below HBd.out).more HBd.out.size) HCR.out HMs.out HGood.out HT.out HH.out (eR)).mono ?_
            rintro e WR_1 ⟨a_, rfl, ho_, hb_⟩
            have HB_1 := Lib.hid (show Below WR.heap.size WR WR_1 from HBd.out.trans (hb_.mono HBd.out.size))
            clear hb_ HBd
            have HO_ := Lib.hid ho_
            clear ho_
            refine hK.out _ _ (fun _ => HB_1.out) ?_
            clear hK K
            refine oneT (i := 4) rfl (by kernel_rfl) (by rfl) (fun K hK => ?_)
            go_simp
            refine (smN HRd.out (HBR.out.trans (HB_1.out.mono HBR.out.size)) HO_.out HMs.out (good_mono HGood.out (by omega)) (sameB_refl p)).mono ?_
            rintro e WR_2 ⟨rfl, hb_⟩
            have HB_2 := Lib.hid (show Below WR.heap.size WR WR_2 from HB_1.out.trans (hb_.mono HB_1.out.size))
            clear hb_ HB_1
            refine hK.out _ _ (fun _ => HB_2.out) ?_
            clear hK K
            refine takeP (i := 5) (v := ?_) rfl (by kernel_rfl) (by kernel_rfl) (by kernel_rfl) (by kernel_rfl) (fun _ _ _ h => h) (by rfl) ?_ (fun _ => HB_2.out) ?_
            rotate_left
            · intro V'; go_simp <;> with_reducible rfl
            simp only [Act.put, List.setIfInBounds_toArray, List.set_cons_zero, List.set_cons_succ]
            refine oneT (i := 6) rfl (by kernel_rfl) (by rfl) (fun K hK => ?_)
            go_simp
            refine ((HW _ (HBR.out.trans (HB_2.out.mono HBR.out.size))).out).mono ?_
            rintro e WR_3 ⟨rfl, hb_⟩
            have HB_3 := Lib.hid (show Below WR.heap.size WR WR_3 from HB_2.out.trans (hb_.mono HB_2.out.size))
            clear hb_ HB_2
            refine hK.out _ _ (fun _ => HB_3.out) ?_
            clear hK K
            refine takeP (i := 7) (v := ?_) rfl (by kernel_rfl) (by kernel_rfl) (by kernel_rfl) (by kernel_rfl) (fun _ _ _ h => h) (by rfl) ?_ (fun _ => HB_3.out) ?_
            rotate_left
            · intro V'; go_simp <;> with_reducible rfl
            simp only [Act.put, List.setIfInBounds_toArray, List.set_cons_zero, List.set_cons_succ]
            refine takeP (i := 8) (v := ?_) rfl (by kernel_rfl) (by kernel_rfl) (by kernel_rfl) (by kernel_rfl) (fun _ _ _ h => h) (by rfl) ?_ (fun _ => HB_3.out) ?_
            rotate_left
            · intro V'; go_simp <;> with_reducible rfl
            simp only [Act.put, List.setIfInBounds_toArray, List.set_cons_zero, List.set_cons_succ]
            refine doneT (by kernel_rfl) ?_ _
            have HBl := Lib.hid (HB.out.trans ((HBR.out.trans (HB_3.out.mono HBR.out.size)).mono HB.out.size))
            clear HL HB_3 HO_ HBR XNR ONR RNR HCR eR XBr HW
            go_wp2_with fail
            go_ret
            exact ⟨rfl, HBl.out⟩

end Go.Proofs.YtdaimejlcfhfiaaGreatDoor
