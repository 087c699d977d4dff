/-
  The walk of the statement BrainOne. Conditions: those that the theorem names.
-/
import Derived.Test.YtdaimejlcfhfiaaGreatDoorBrLawMore
namespace Go.Proofs.YtdaimejlcfhfiaaGreatDoor
open Go.RowKit Go.Shelf

theorem KpAt.past {w w' : World} {b o : Nat} {x : Kp} (h : KpAt w b o x) (hb : b < w.heap.size) (hw : Below w.heap.size w w') : KpAt w' b o x :=
  ⟨(hw.cell (p := ⟨b, o, none⟩) hb).trans h.c0, (hw.cell (p := ⟨b, o + 1, none⟩) hb).trans h.c1, (hw.cell (p := ⟨b, o + 2, none⟩) hb).trans h.c2, (hw.cell (p := ⟨b, o + 3, none⟩) hb).trans h.c3, (hw.cell (p := ⟨b, o + 4, none⟩) hb).trans h.c4, (hw.cell (p := ⟨b, o + 5, none⟩) hb).trans h.c5, (hw.cell (p := ⟨b, o + 6, none⟩) hb).trans h.c6, (hw.cell (p := ⟨b, o + 7, none⟩) hb).trans h.c7⟩
/-- A group held against itself, wherever its marks lie. -/
theorem samC {p q : Br} {a b : Ad} {W : World} (hq : RdB_ W W.heap.size q b) (hp : RdB_ W W.heap.size p a) (e : q.cf = p.cf) (hm : p.cf.ms.length ≤ 1000) :
    Calls Tryz.prog 25 #[(cfM q b).v, (cfM p a).v] W (BoolPost true W) := by
  have h := refSameC_any (cfM q b) (cfM p a) W.heap.size W.heap.size W hq.lies hp.lies (Nat.le_refl _) (Nat.le_refl _) (by show q.cf.ms.length ≤ 1000; rw [e]; exact hm)
  have e2 : sameC (cfM q b) (cfM p a) = true := by
    show sameC q.cf p.cf = true
    rw [e]
    exact sameC_refl _
  rw [e2] at h
  exact h

set_option maxRecDepth 100000 in
set_option maxHeartbeats 8000000 in
theorem brainOne_any (p : Br) (a : Ad) (z : RE) (w : World) (hp : BrAny w p a) (hz : ReOk w z) (hT : Tab w) (hH : TabH w) :
    Calls Tryz.prog 8 #[brV p a, .agg #[.int .u8 (z.k : Int), .slice z.A z.n z.c]] w (TruePostB w) := by
  obtain ⟨V, hV⟩ : ∃ V, (w.alloc (.cells (brC p a) 30)).alloc (.cells #[.int .u8 (z.k : Int), .slice z.A z.n z.c] 32) = V := ⟨_, rfl⟩
  obtain ⟨hb0, w0, w1⟩ := two_new w 30 32 (brC p a) #[.int .u8 (z.k : Int), .slice z.A z.n z.c]
  rw [hV] at hb0 w0 w1
  have hsV : V.heap.size = w.heap.size + 1 + 1 := by rw [← hV]; simp
  have hzn : z.zs.length = z.n := by have := hz.2.1.1; rwa [iv_length] at this
  have HV := Lib.hid hV
  have XB := Lib.hid w0
  have XR := Lib.hid w1
  have HB := Lib.hid hb0
  have HP := Lib.hid hp
  have HRd := Lib.hid (hp.rd.up hb0)
  have HZ := Lib.hid (show ReOk V z from ⟨hz.1, (hz.2.1.below hb0).more hb0.size, hz.2.2⟩)
  have HT := Lib.hid (hT.under hb0)
  have HH := Lib.hid (hH.under hb0)
  have k0 := w1.cell 0
  have k1 := w1.cell 1
  simp only [List.getElem?_toArray, List.getElem?_cons_zero, List.getElem?_cons_succ] at k0 k1
  obtain ⟨V1, hV1⟩ : ∃ V1, (V.alloc (.cells #[.int .u8 (z.k : Int), .slice z.A z.n z.c] 32)).alloc (.cells (brC p a) 30) = V1 := ⟨_, rfl⟩
  obtain ⟨hb1, x0, x1⟩ := two_new V 32 30 #[.int .u8 (z.k : Int), .slice z.A z.n z.c] (brC p a)
  have hrow := rdR_one V z V.heap.size (Nat.le_refl _) HZ.out.1 HZ.out.2.1 V.heap.size rfl
  have hrow1 : RdR V1 (V.heap.size + 1) (some ⟨V.heap.size, 0, none⟩) 1 [z] := by
    rw [← hV1]
    exact hrow.below ((Below.refl _ _).alloc (by simp) _)
  rw [hV1] at hb1 x0 x1
  have hsz1 : V1.heap.size = V.heap.size + 1 + 1 := by rw [← hV1]; simp
  have HV1 := Lib.hid hV1
  have HB1 := Lib.hid hb1
  have HG := Lib.hid (great1_any (some ⟨V.heap.size, 0, none⟩) 1 1 [z] (V.heap.size + 1) p a (V.heap.size + 1) V1 hrow1 (by omega) x1)
  have HW := fun W (h : Below V.heap.size V W) => Lib.hid (wakes_any W (HT.out.under h) (HH.out.under h))
  rw [hsV] at HG
  clear hV hV1 w0 w1 hb0 hb1 x0 x1 hrow hrow1 hp hz hT hH hsz1
  cases hgr : (gB p || gR [z]) with
  | true =>
    rw [hgr] at HG
    clear hgr
    go_enter Tryz.func8, Tryz.ntmps8
    go_upto_region 1 with fail
    refine wpV (fun V2 hV2 => ?_)
    obtain rfl : V = V2 := HV.out.symm.trans hV2
    clear HV hV2
    go_wp2_with (refine wpList_loadB (by rfl) _ rfl w.heap.size p a (by rfl) (XB.out.alloc _) ?_)
    refine ((by rw [HV1.out]; exact HG.out) : Calls Tryz.prog 9 #[.slice (some ⟨w.heap.size + 1 + 1, 0, none⟩) 1 1, .slice (some ⟨w.heap.size + 1 + 1 + 1, 0, none⟩) 1 1] ((V.alloc (.cells #[.int .u8 (z.k : Int), .slice z.A z.n z.c] 32)).alloc (.cells (brC p a) 30)) (BoolPost true V1)).mono ?_
    rintro e V3 ⟨rfl, b3⟩
    have HB3 := Lib.hid (HB1.out.trans (b3.mono HB1.out.size))
    have HWk := HW V3 HB3.out
    clear b3 HB1 HG HRd XB XR k0 k1
    go_wp2_with fail
    refine HWk.out.mono ?_
    rintro e V4 ⟨rfl, b4⟩
    have HB4 := Lib.hid (HB.out.trans ((HB3.out.trans (b4.mono HB3.out.size)).mono HB.out.size))
    clear b4 HB3 HWk HW
    go_wp2_with fail
    go_ret
    exact ⟨rfl, HB4.out⟩
  | false =>
    rw [hgr] at HG
    simp only [Bool.or_eq_false_iff] at hgr
    have HGB := Lib.hid hgr.1
    clear hgr
    obtain ⟨hgood, hms⟩ := HP.out.good HGB.out
    have HGood := Lib.hid hgood
    have HMs := Lib.hid hms
    have HLen := Lib.hid hgood.len
    clear hgood hms
    go_enter Tryz.func8, Tryz.ntmps8
    go_upto_region 1 with fail
    refine wpV (fun V2 hV2 => ?_)
    obtain rfl : V = V2 := HV.out.symm.trans hV2
    clear HV hV2
    go_wp2_with (refine wpList_loadB (by rfl) _ rfl w.heap.size p a (by rfl) (XB.out.alloc _) ?_)
    refine ((by rw [HV1.out]; exact HG.out) : Calls Tryz.prog 9 #[.slice (some ⟨w.heap.size + 1 + 1, 0, none⟩) 1 1, .slice (some ⟨w.heap.size + 1 + 1 + 1, 0, none⟩) 1 1] ((V.alloc (.cells #[.int .u8 (z.k : Int), .slice z.A z.n z.c] 32)).alloc (.cells (brC p a) 30)) (BoolPost false V1)).mono ?_
    rintro e V3 ⟨rfl, b3⟩
    have HB3 := Lib.hid (HB1.out.trans (b3.mono HB1.out.size))
    have HRr := Lib.hid (rrightB_any p a V3.heap.size V3 (HRd.out.up HB3.out) (Nat.le_refl _) HMs.out (by have := HLen.out; omega) (by have := HLen.out; omega))
    clear b3 HB1 HG k0 k1
    go_wp2_with (refine wpList_loadB (by rfl) _ rfl w.heap.size p a (by rfl) (XB.out.under HB3.out) ?_)
    refine HRr.out.mono ?_
    rintro e V4 ⟨rfl, b4⟩
    have HB4 := Lib.hid (HB3.out.trans (b4.mono HB3.out.size))
    clear b4 HB3 HRr
    cases hrt : rightBb p with
    | false =>
      clear hrt
      have HWk := HW _ HB4.out
      go_wp2_with fail
      refine HWk.out.mono ?_
      rintro e Vl ⟨rfl, bl⟩
      have HBl := Lib.hid (HB.out.trans ((HB4.out.trans (bl.mono HB4.out.size)).mono HB.out.size))
      clear bl HWk HW
      go_wp2_with fail
      go_ret
      exact ⟨rfl, HBl.out⟩
    | true =>
      have HRb := Lib.hid (rightBb_iff.1 hrt)
      clear hrt
      obtain ⟨q, hq⟩ : ∃ q, applyB p (z.k : Int) z.zs = q := ⟨_, rfl⟩
      have HA := Lib.hid (apO (HRd.out.up HB4.out) (show ReOk V4 z from ⟨HZ.out.1, (HZ.out.2.1.below HB4.out).more HB4.out.size, HZ.out.2.2⟩) HMs.out (good_mono HGood.out (by omega)) (HT.out.under HB4.out) (HH.out.under HB4.out) hq)
      have r0 := (XR.out.under HB4.out).cell 0
      have r1 := (XR.out.under HB4.out).cell 1
      simp only [List.getElem?_toArray, List.getElem?_cons_zero, List.getElem?_cons_succ] at r0 r1
      have HQ := Lib.hid hq
      have HGq := Lib.hid (show Good 81 q by rw [← hq]; exact good_apply HGood.out _ _)
      have HMq := Lib.hid (show q.cf.ms.length ≤ 1000 by rw [← hq]; exact ms_apply HMs.out)
      clear hq
      go_wp2_with (refine wpList_loadB (by rfl) _ rfl w.heap.size p a (by rfl) (XB.out.under HB4.out) ?_)
      refine HA.out.mono ?_
      rintro e W5 ⟨a', rfl, ho, hb⟩
      have HO := Lib.hid ho
      have HB5 := Lib.hid (HB4.out.trans (hb.mono HB4.out.size))
      clear ho hb HA r0 r1 HB4
      go_upto_region 4 with (refine wpList_storeB rfl _ _ rfl W5.heap.size q a' _ (by rfl) (by rfl) (by rfl) (Whole.new _ _ _) ?_; intro W6 hW6)
      simp only [Act.put]
      obtain ⟨x6, o6, b6⟩ := newbox hW6 HO.out
      have X6 := Lib.hid x6
      have O6 := Lib.hid (o6.weaker (Nat.zero_le _))
      have HB6 := Lib.hid (HB5.out.trans (b6.mono HB5.out.size))
      have HLo := Lib.hid (show w.heap.size + 1 < W5.heap.size by have := HB5.out.size; omega)
      have HV5 := Lib.hid HB5.out.size
      clear hW6 x6 o6 b6 HO HB5
      have XB6 := Lib.hid (XB.out.under HB6.out)
      have XR6 := Lib.hid (XR.out.under HB6.out)
      have HRd6 := Lib.hid (HRd.out.up HB6.out)
      have k0 := XR6.out.cell 0
      have k1 := XR6.out.cell 1
      simp only [List.getElem?_toArray, List.getElem?_cons_zero, List.getElem?_cons_succ] at k0 k1
      have HGRT : Hid (∃ ob : Bool, ob = decide (z.k = 6 ∨ z.k = 7 ∨ z.k = 8 ∨ z.k = 9 ∨ z.k = 10)) := Lib.hid ⟨_, rfl⟩
      obtain ⟨ob, hob⟩ := HGRT.out
      clear HGRT
      go_cut [6] (fun s wx => s = .bool ob ∧ wx = W6)
      case first =>
        clear HW HRd6 XB6 XR6 X6 O6
        by_cases e6 : z.k = 6
        · have d6 : ((z.k : Int) == 6) = true := by simp; omega
          obtain rfl : ob = true := by rw [hob]; simp [e6]
          clear hob e6
          go_wp2_with fail
          go_meet
          exact ⟨rfl, rfl⟩
        have d6 : ((z.k : Int) == 6) = false := by simp; omega
        by_cases e7 : z.k = 7
        · have d7 : ((z.k : Int) == 7) = true := by simp; omega
          obtain rfl : ob = true := by rw [hob]; simp [e7]
          clear hob e6 e7
          go_wp2_with fail
          go_meet
          exact ⟨rfl, rfl⟩
        have d7 : ((z.k : Int) == 7) = false := by simp; omega
        by_cases e8 : z.k = 8
        · have d8 : ((z.k : Int) == 8) = true := by simp; omega
          obtain rfl : ob = true := by rw [hob]; simp [e8]
          clear hob e6 e7 e8
          go_wp2_with fail
          go_meet
          exact ⟨rfl, rfl⟩
        have d8 : ((z.k : Int) == 8) = false := by simp; omega
        by_cases e9 : z.k = 9
        · have d9 : ((z.k : Int) == 9) = true := by simp; omega
          obtain rfl : ob = true := by rw [hob]; simp [e9]
          clear hob e6 e7 e8 e9
          go_wp2_with fail
          go_meet
          exact ⟨rfl, rfl⟩
        have d9 : ((z.k : Int) == 9) = false := by simp; omega
        by_cases e10 : z.k = 10
        · have d10 : ((z.k : Int) == 10) = true := by simp; omega
          obtain rfl : ob = true := by rw [hob]; simp [e10]
          clear hob e6 e7 e8 e9 e10
          go_wp2_with fail
          go_meet
          exact ⟨rfl, rfl⟩
        have d10 : ((z.k : Int) == 10) = false := by simp; omega
        obtain rfl : ob = false := by rw [hob]; simp [e6, e7, e8, e9, e10]
        clear hob e6 e7 e8 e9 e10
        go_wp2_with fail
        go_meet
        exact ⟨rfl, rfl⟩
      case rest =>
        obtain ⟨rfl, hwx⟩ := hcut
        have hwy := hwx.symm
        subst hwy
        clear hwx
        go_upto_region 5 with fail
        obtain ⟨ab, hab⟩ : ∃ ab, (ob && decide (0 < z.n)) = ab := ⟨_, rfl⟩
        go_cut [53] (fun s wx => s = .bool ab ∧ wx = W6)
        case first =>
          clear HW HRd6 XB6 XR6 X6 O6 hob
          cases ob with
          | false =>
            obtain rfl : false = ab := hab
            go_wp2_with fail
            go_meet
            exact ⟨rfl, rfl⟩
          | true =>
            rw [Bool.true_and] at hab
            by_cases hn : 0 < z.n
            · have dn : decide (0 < z.n) = true := by simp; omega
              obtain rfl : ab = true := by rw [← hab]; simp [hn]
              clear hab hn
              go_wp2_with fail
              go_meet
              exact ⟨rfl, rfl⟩
            · have dn : decide (0 < z.n) = false := by simp; omega
              obtain rfl : ab = false := by rw [← hab]; simp [hn]
              clear hab hn
              go_wp2_with fail
              go_meet
              exact ⟨rfl, rfl⟩
        case rest =>
          obtain ⟨rfl, hwx⟩ := hcut
          have hwy := hwx.symm
          subst hwy
          clear hwx
          obtain ⟨n0, hn0⟩ : ∃ n0, p.kps.length = n0 := ⟨_, rfl⟩
          have HN0 := Lib.hid hn0
          have c19 : W6.cell? ⟨w.heap.size, 19, none⟩ = some (.slice a.B n0 a.d) := by rw [← hn0]; exact XB6.out.cell 19
          have C19 := Lib.hid c19
          have HL0 := Lib.hid (show w.heap.size < W6.heap.size from XB6.out.lt)
          have HL5 := Lib.hid (show W5.heap.size < W6.heap.size from X6.out.lt)
          clear hn0 c19
          cases ab with
          | true => as_aux_lemma =>
            simp only [Bool.and_eq_true, decide_eq_true_eq] at hab
            have HNz := Lib.hid hab.2
            have hkk : ((z.k : Int) = 6 ∨ (z.k : Int) = 7 ∨ (z.k : Int) = 8 ∨ (z.k : Int) = 9 ∨ (z.k : Int) = 10) := by
              have h := hob.symm.trans hab.1
              simp only [decide_eq_true_eq] at h
              omega
            have HOne := Lib.hid (show { q with kps := p.kps } = p ∧ ∀ x ∈ p.kps, x.id ≠ z.zs.getD 0 0 → x ∈ q.kps by rw [← HQ.out]; exact one_apply p z.zs hkk)
            have HRq := Lib.hid (show RightB q by rw [← HQ.out]; exact right_apply HRb.out)
            have HK0 := Lib.hid (show n0 ≤ 1000 by have := HLen.out; have := HN0.out; omega)
            obtain ⟨nq, hnq⟩ : ∃ nq, q.kps.length = nq := ⟨_, rfl⟩
            have HNq := Lib.hid hnq
            have D19 := Lib.hid (show W6.cell? ⟨W5.heap.size, 19, none⟩ = some (.slice a'.B nq a'.d) by rw [← hnq]; exact X6.out.cell 19)
            obtain ⟨bz, oz, ez, hbz, hcz⟩ := at_of (k := 0) HZ.out.2.1 HNz.out
            obtain ⟨zv, hzv⟩ : ∃ zv, z.zs.getD 0 0 = zv := ⟨_, rfl⟩
            rw [hzv] at hcz HOne
            have HCz := Lib.hid (show W6.cell? ⟨bz, oz, none⟩ = some (.int .i64 zv) from (HB6.out.cell (p := ⟨bz, oz, none⟩) hbz).trans hcz)
            have HBz := Lib.hid (show bz < W6.heap.size from Nat.lt_of_lt_of_le hbz HB6.out.size)
            have K1 := Lib.hid (show W6.cell? ⟨w.heap.size + 1, 1, none⟩ = some (.slice (some ⟨bz, oz, none⟩) z.n z.c) by rw [← ez]; exact k1)
            clear hab hob hkk hnq ez hbz hcz hzv k0 k1
            have hz0 : 0 < z.n := HNz.out
            have HKq := Lib.hid (show q.kps.length ≤ 1000 by have := HGq.out.len; omega)
            have HLr := Lib.hid (show w.heap.size + 1 < W6.heap.size from XR6.out.lt)
            go_wp2_with fail
            go_loopw [7] (fun v wr => ∃ i : Nat, v = .int .i64 (i : Int) ∧ Below W6.heap.size W6 wr) (fun v _ => n0 - (intOf v).toNat)
            case atStart => exact ⟨0, rfl, Below.refl _ _⟩
            case round =>
              obtain ⟨i, rfl, hbk⟩ := hrel
              have HBk := Lib.hid hbk
              have c19 := (hbk.cell (p := ⟨w.heap.size, 19, none⟩) HL0.out).trans C19.out
              clear hbk
              by_cases hi : i < n0
              rotate_left
              · have di : decide (i < n0) = false := by simp; omega
                have hRw := HRd6.out.up HBk.out
                obtain ⟨B1, d1, W8, hrun, ho8, hb8⟩ := fresh_kps wr wr.heap.size a.B a.d p.kps hRw.kps (Nat.le_refl _) (by have := HK0.out; have := HN0.out; omega)
                have b3 := (Below.refl wr.heap.size wr).alloc (Nat.le_refl _) (.cells #[] 47)
                have s0 : (wr.alloc (.cells #[] 47)).cell? ⟨w.heap.size, 19, none⟩ = some (.slice a.B p.kps.length a.d) := ((XB6.out.under HBk.out).under b3).cell 19
                have g0 := (X6.out.under HBk.out).under hb8
                have x0 : W8.cell? ⟨W5.heap.size, 19, none⟩ = some (.slice a'.B q.kps.length a'.d) := g0.cell 19
                have y0 := g0.frozen 19
                have HRun := Lib.hid hrun
                have G0 := Lib.hid g0
                have O8 := Lib.hid ho8
                have O8' := Lib.hid ((O6.out.under HBk.out).under hb8)
                have XB8 := Lib.hid ((XB6.out.under HBk.out).under hb8)
                have HB8 := Lib.hid (HB6.out.trans ((HBk.out.trans (hb8.mono HBk.out.size)).mono HB6.out.size))
                clear hrun g0 ho8 hb8 b3 hRw hi HBk
                go_upto_region 13 with (at_builtin; refine wpList_app (by rfl) _ _ 26 rfl _ _ _ W8 (by rfl) (by rfl) HRun.out ?_)
                refine wpV (fun W9 hW9 => ?_)
                have k := Only.set W8 W5.heap.size 19 (.slice B1 p.kps.length d1)
                have e0 := set19L G0.out p.kps B1 d1
                rw [hW9] at k e0
                have ho9 : OwB 0 W9 { q with kps := p.kps } ⟨a'.C, a'.e, a'.A, a'.c, B1, d1⟩ := ⟨k.own O8'.out.ms G0.out (by decide), O8'.out.its.only k G0.out (by decide), (O8.out.weaker (Nat.zero_le _)).only k G0.out (by decide)⟩
                rw [HOne.out.1] at e0 ho9
                have X9 := Lib.hid e0
                have O9 := Lib.hid ho9
                have XB9 := Lib.hid (k.far XB8.out (by have := HLo.out; omega))
                have HB9 := Lib.hid (k.bel HB8.out HV5.out)
                have HS9 := Lib.hid (smO O9.out.reads (HRd.out.up HB9.out) HMs.out (by have := HLen.out; omega) (by have := HLen.out; omega) (sameB_refl p))
                clear k e0 ho9 hW9 s0 x0 y0 HRun G0 O8 O8' XB8 HB8 c19 di
                go_wp2_with (first | (refine wpList_loadB (by rfl) _ rfl W5.heap.size p _ (by rfl) X9.out ?_) | (refine wpList_loadB (by rfl) _ rfl w.heap.size p a (by rfl) XB9.out ?_))
                refine HS9.out.mono ?_
                rintro e W10 ⟨rfl, b10⟩
                have HB10 := Lib.hid (HB9.out.trans (b10.mono HB9.out.size))
                clear b10 HB9 HS9
                have HWk := HW _ HB10.out
                go_wp2_with fail
                refine HWk.out.mono ?_
                rintro e Vl ⟨rfl, bl⟩
                have HBl := Lib.hid (HB.out.trans ((HB10.out.trans (bl.mono HB10.out.size)).mono HB.out.size))
                clear bl HWk HW
                go_wp2_with fail
                go_ret
                exact ⟨rfl, HBl.out⟩
              · obtain ⟨y, hy⟩ : ∃ y, p.kps[i]? = some y := ⟨_, List.getElem?_eq_getElem (by have := HN0.out; omega)⟩
                obtain ⟨bk, ok, hA, hbk, hck⟩ := RdK.at_ HRd6.out.kps (by have := HN0.out; omega)
                rw [hA] at c19
                have C19k := Lib.hid c19
                have KY := Lib.hid ((hck i y hy).past hbk HBk.out)
                have HLk := Lib.hid (show bk < wr.heap.size from Nat.lt_of_lt_of_le hbk HBk.out.size)
                have HL0k := Lib.hid (show w.heap.size < wr.heap.size from Nat.lt_of_lt_of_le HL0.out HBk.out.size)
                have HL5k := Lib.hid (show W5.heap.size < wr.heap.size from Nat.lt_of_lt_of_le HL5.out HBk.out.size)
                have HLrk := Lib.hid (show w.heap.size + 1 < wr.heap.size from Nat.lt_of_lt_of_le HLr.out HBk.out.size)
                have HBzk := Lib.hid (show bz < wr.heap.size from Nat.lt_of_lt_of_le HBz.out HBk.out.size)
                have Czk := Lib.hid ((HBk.out.cell (p := ⟨bz, oz, none⟩) HBz.out).trans HCz.out)
                have K1k := Lib.hid ((HBk.out.cell (p := ⟨w.heap.size + 1, 1, none⟩) HLr.out).trans K1.out)
                have Xk := Lib.hid (X6.out.under HBk.out)
                have Ok := Lib.hid (O6.out.under HBk.out)
                have D19k := Lib.hid ((HBk.out.cell (p := ⟨W5.heap.size, 19, none⟩) HL5.out).trans D19.out)
                have hI : (i : Int) < (n0 : Int) := by omega
                have HY := Lib.hid (List.mem_of_getElem? hy)
                have HI := Lib.hid hi
                clear hA hbk hck hy hi
                by_cases hy0 : y.id = zv
                · have q0 : (y.id != zv) = false := by simp [hy0]
                  obtain ⟨fv, hfv⟩ : ∃ fv, findB q y.id = fv := ⟨_, rfl⟩
                  have HF := Lib.hid hfv
                  clear hfv hy0
                  go_upto_region 9 with fail
                  have HL : Hid (∀ V', Below wr.heap.size wr V' → Whole V' W5.heap.size 30 (brC q a') ∧ V'.cell? ⟨w.heap.size, 19, none⟩ = some (.slice (some ⟨bk, ok, none⟩) n0 a.d) ∧ V'.cell? ⟨bk, ok + i * 8, none⟩ = some (.int .i64 y.id)) := Lib.hid (fun V' hV => ⟨Xk.out.under hV, (hV.cell (p := ⟨w.heap.size, 19, none⟩) HL0k.out).trans C19k.out, (KY.out.past HLk.out hV).c0⟩)
                  have HBd := Lib.hid (show Below wr.heap.size wr wr.drew from below_drewB (Below.refl _ _) 1)
                  refine wp_region_T (ls := []) (T := (fun V' => Below wr.heap.size wr V')) (by kernel_rfl) ?_
                  refine takeT (i := 0) (v := brV q a') rfl (by kernel_rfl) (by kernel_rfl) (by kernel_rfl) (by kernel_rfl) (fun _ _ _ h => h) (by rfl) ?_ HBd.out ?_
                  · intro V' hV; obtain ⟨y0, y1, y2⟩ := HL.out V' hV; exact exec_load_brain rfl y0
                  simp only [Act.put, List.setIfInBounds_toArray, List.set_cons_zero, List.set_cons_succ]
                  refine takeP (i := 1) (v := ?_) rfl (by kernel_rfl) (by kernel_rfl) (by kernel_rfl) (by kernel_rfl) (fun _ _ _ h => h) (by rfl) ?_ (fun _ => HBd.out) ?_
                  rotate_left
                  · intro V'; go_simp <;> with_reducible rfl
                  simp only [Act.put, List.setIfInBounds_toArray, List.set_cons_zero, List.set_cons_succ]
                  refine takeT (i := 2) (v := ?_) rfl (by kernel_rfl) (by kernel_rfl) (by kernel_rfl) (by kernel_rfl) (fun _ _ _ h => h) (by rfl) ?_ HBd.out ?_
                  rotate_left
                  · intro V' hV; obtain ⟨y0, y1, y2⟩ := HL.out V' hV; go_simp <;> with_reducible rfl
                  simp only [Act.put, List.setIfInBounds_toArray, List.set_cons_zero, List.set_cons_succ]
                  refine takeP (i := 3) (v := ?_) rfl (by kernel_rfl) (by kernel_rfl) (by kernel_rfl) (by kernel_rfl) (fun _ _ _ h => h) (by rfl) ?_ (fun _ => HBd.out) ?_
                  rotate_left
                  · intro V'; go_simp <;> with_reducible rfl
                  simp only [Act.put, List.setIfInBounds_toArray, List.set_cons_zero, List.set_cons_succ]
                  refine takeP (i := 4) (v := ?_) rfl (by kernel_rfl) (by kernel_rfl) (by kernel_rfl) (by kernel_rfl) (fun _ _ _ h => h) (by rfl) ?_ (fun _ => HBd.out) ?_
                  rotate_left
                  · intro V'; go_simp <;> with_reducible rfl
                  simp only [Act.put, List.setIfInBounds_toArray, List.set_cons_zero, List.set_cons_succ]
                  refine takeP (i := 5) (v := ?_) rfl (by kernel_rfl) (by kernel_rfl) (by kernel_rfl) (by kernel_rfl) (fun _ _ _ h => h) (by rfl) ?_ (fun _ => HBd.out) ?_
                  rotate_left
                  · intro V'; go_simp <;> with_reducible rfl
                  simp only [Act.put, List.setIfInBounds_toArray, List.set_cons_zero, List.set_cons_succ]
                  refine takeT (i := 6) (v := ?_) rfl (by kernel_rfl) (by kernel_rfl) (by kernel_rfl) (by kernel_rfl) (fun _ _ _ h => h) (by rfl) ?_ HBd.out ?_
                  rotate_left
                  · intro V' hV; obtain ⟨y0, y1, y2⟩ := HL.out V' hV; go_simp <;> with_reducible rfl
                  simp only [Act.put, List.setIfInBounds_toArray, List.set_cons_zero, List.set_cons_succ]
                  refine oneT (i := 7) rfl (by kernel_rfl) (by rfl) (fun K hK => ?_)
                  go_simp
                  refine (findO (Ok.out.under HBd.out) HKq.out HF.out).mono ?_
                  rintro e wr_1 ⟨rfl, hb_⟩
                  have HB_1 := Lib.hid (show Below wr.heap.size wr wr_1 from HBd.out.trans (hb_.mono HBd.out.size))
                  clear hb_ HBd
                  refine hK.out _ _ (fun _ => HB_1.out) ?_
                  clear hK K
                  refine takeP (i := 8) (v := ?_) rfl (by kernel_rfl) (by kernel_rfl) (by kernel_rfl) (by kernel_rfl) (fun _ _ _ h => h) (by rfl) ?_ (fun _ => HB_1.out) ?_
                  rotate_left
                  · intro V'; go_simp <;> with_reducible rfl
                  simp only [Act.put, List.setIfInBounds_toArray, List.set_cons_zero, List.set_cons_succ]
                  refine doneT (by kernel_rfl) ?_ _
                  clear HL
                  go_upto_region 10 with fail
                  have HL : Hid (∀ V', Below wr_1.heap.size wr_1 V' → V'.cell? ⟨w.heap.size, 19, none⟩ = some (.slice (some ⟨bk, ok, none⟩) n0 a.d) ∧ V'.cell? ⟨w.heap.size + 1, 1, none⟩ = some (.slice (some ⟨bz, oz, none⟩) z.n z.c) ∧ V'.cell? ⟨bz, oz, none⟩ = some (.int .i64 zv) ∧ V'.cell? ⟨bk, ok + i * 8, none⟩ = some (.int .i64 y.id)) := Lib.hid (fun V' hV => ⟨((HB_1.out.trans (hV.mono HB_1.out.size)).cell (p := ⟨w.heap.size, 19, none⟩) HL0k.out).trans C19k.out, ((HB_1.out.trans (hV.mono HB_1.out.size)).cell (p := ⟨w.heap.size + 1, 1, none⟩) HLrk.out).trans K1k.out, ((HB_1.out.trans (hV.mono HB_1.out.size)).cell (p := ⟨bz, oz, none⟩) HBzk.out).trans Czk.out, (KY.out.past HLk.out (HB_1.out.trans (hV.mono HB_1.out.size))).c0⟩)
                  have HBd := Lib.hid (show Below wr_1.heap.size wr_1 wr_1.drew from below_drewB (Below.refl _ _) 1)
                  refine wp_region_T (ls := []) (T := (fun V' => Below wr_1.heap.size wr_1 V')) (by kernel_rfl) ?_
                  refine takeP (i := 0) (v := ?_) rfl (by kernel_rfl) (by kernel_rfl) (by kernel_rfl) (by kernel_rfl) (fun _ _ _ h => h) (by rfl) ?_ (fun _ => HBd.out) ?_
                  rotate_left
                  · intro V'; go_simp <;> with_reducible rfl
                  simp only [Act.put, List.setIfInBounds_toArray, List.set_cons_zero, List.set_cons_succ]
                  refine takeT (i := 1) (v := ?_) rfl (by kernel_rfl) (by kernel_rfl) (by kernel_rfl) (by kernel_rfl) (fun _ _ _ h => h) (by rfl) ?_ HBd.out ?_
                  rotate_left
                  · intro V' hV; obtain ⟨y0, y1, y2, y3⟩ := HL.out V' hV; go_simp <;> with_reducible rfl
                  simp only [Act.put, List.setIfInBounds_toArray, List.set_cons_zero, List.set_cons_succ]
                  refine takeP (i := 2) (v := ?_) rfl (by kernel_rfl) (by kernel_rfl) (by kernel_rfl) (by kernel_rfl) (fun _ _ _ h => h) (by rfl) ?_ (fun _ => HBd.out) ?_
                  rotate_left
                  · intro V'; go_simp <;> with_reducible rfl
                  simp only [Act.put, List.setIfInBounds_toArray, List.set_cons_zero, List.set_cons_succ]
                  refine takeP (i := 3) (v := ?_) rfl (by kernel_rfl) (by kernel_rfl) (by kernel_rfl) (by kernel_rfl) (fun _ _ _ h => h) (by rfl) ?_ (fun _ => HBd.out) ?_
                  rotate_left
                  · intro V'; go_simp <;> with_reducible rfl
                  simp only [Act.put, List.setIfInBounds_toArray, List.set_cons_zero, List.set_cons_succ]
                  refine takeP (i := 4) (v := ?_) rfl (by kernel_rfl) (by kernel_rfl) (by kernel_rfl) (by kernel_rfl) (fun _ _ _ h => h) (by rfl) ?_ (fun _ => HBd.out) ?_
                  rotate_left
                  · intro V'; go_simp <;> with_reducible rfl
                  simp only [Act.put, List.setIfInBounds_toArray, List.set_cons_zero, List.set_cons_succ]
                  refine takeT (i := 5) (v := ?_) rfl (by kernel_rfl) (by kernel_rfl) (by kernel_rfl) (by kernel_rfl) (fun _ _ _ h => h) (by rfl) ?_ HBd.out ?_
                  rotate_left
                  · intro V' hV; obtain ⟨y0, y1, y2, y3⟩ := HL.out V' hV; go_simp <;> with_reducible rfl
                  simp only [Act.put, List.setIfInBounds_toArray, List.set_cons_zero, List.set_cons_succ]
                  refine takeP (i := 6) (v := ?_) rfl (by kernel_rfl) (by kernel_rfl) (by kernel_rfl) (by kernel_rfl) (fun _ _ _ h => h) (by rfl) ?_ (fun _ => HBd.out) ?_
                  rotate_left
                  · intro V'; go_simp <;> with_reducible rfl
                  simp only [Act.put, List.setIfInBounds_toArray, List.set_cons_zero, List.set_cons_succ]
                  refine takeT (i := 7) (v := ?_) rfl (by kernel_rfl) (by kernel_rfl) (by kernel_rfl) (by kernel_rfl) (fun _ _ _ h => h) (by rfl) ?_ HBd.out ?_
                  rotate_left
                  · intro V' hV; obtain ⟨y0, y1, y2, y3⟩ := HL.out V' hV; go_simp <;> with_reducible rfl
                  simp only [Act.put, List.setIfInBounds_toArray, List.set_cons_zero, List.set_cons_succ]
                  refine takeP (i := 8) (v := ?_) rfl (by kernel_rfl) (by kernel_rfl) (by kernel_rfl) (by kernel_rfl) (fun _ _ _ h => h) (by rfl) ?_ (fun _ => HBd.out) ?_
                  rotate_left
                  · intro V'; go_simp <;> with_reducible rfl
                  simp only [Act.put, List.setIfInBounds_toArray, List.set_cons_zero, List.set_cons_succ]
                  refine takeT (i := 9) (v := ?_) rfl (by kernel_rfl) (by kernel_rfl) (by kernel_rfl) (by kernel_rfl) (fun _ _ _ h => h) (by rfl) ?_ HBd.out ?_
                  rotate_left
                  · intro V' hV; obtain ⟨y0, y1, y2, y3⟩ := HL.out V' hV; go_simp <;> with_reducible rfl
                  simp only [Act.put, List.setIfInBounds_toArray, List.set_cons_zero, List.set_cons_succ]
                  refine takeP (i := 10) (v := ?_) rfl (by kernel_rfl) (by kernel_rfl) (by kernel_rfl) (by kernel_rfl) (fun _ _ _ h => h) (by rfl) ?_ (fun _ => HBd.out) ?_
                  rotate_left
                  · intro V'; go_simp <;> with_reducible rfl
                  simp only [Act.put, List.setIfInBounds_toArray, List.set_cons_zero, List.set_cons_succ]
                  refine takeP (i := 11) (v := ?_) rfl (by kernel_rfl) (by kernel_rfl) (by kernel_rfl) (by kernel_rfl) (fun _ _ _ h => h) (by rfl) ?_ (fun _ => HBd.out) ?_
                  rotate_left
                  · intro V'; go_simp <;> with_reducible rfl
                  simp only [Act.put, List.setIfInBounds_toArray, List.set_cons_zero, List.set_cons_succ]
                  refine skipT (i := 12) rfl (by kernel_rfl) (by kernel_rfl) (by kernel_rfl) (by kernel_rfl) (fun _ _ _ h => h) (by rfl) (fun _ => HBd.out) ?_
                  simp only [Act.put, List.setIfInBounds_toArray, List.set_cons_zero, List.set_cons_succ]
                  refine skipT (i := 13) rfl (by kernel_rfl) (by kernel_rfl) (by kernel_rfl) (by kernel_rfl) (fun _ _ _ h => h) (by rfl) (fun _ => HBd.out) ?_
                  simp only [Act.put, List.setIfInBounds_toArray, List.set_cons_zero, List.set_cons_succ]
                  refine skipT (i := 14) rfl (by kernel_rfl) (by kernel_rfl) (by kernel_rfl) (by kernel_rfl) (fun _ _ _ h => h) (by rfl) (fun _ => HBd.out) ?_
                  simp only [Act.put, List.setIfInBounds_toArray, List.set_cons_zero, List.set_cons_succ]
                  refine skipT (i := 15) rfl (by kernel_rfl) (by kernel_rfl) (by kernel_rfl) (by kernel_rfl) (fun _ _ _ h => h) (by rfl) (fun _ => HBd.out) ?_
                  simp only [Act.put, List.setIfInBounds_toArray, List.set_cons_zero, List.set_cons_succ]
                  refine skipT (i := 16) rfl (by kernel_rfl) (by kernel_rfl) (by kernel_rfl) (by kernel_rfl) (fun _ _ _ h => h) (by rfl) (fun _ => HBd.out) ?_
                  simp only [Act.put, List.setIfInBounds_toArray, List.set_cons_zero, List.set_cons_succ]
                  refine skipT (i := 17) rfl (by kernel_rfl) (by kernel_rfl) (by kernel_rfl) (by kernel_rfl) (fun _ _ _ h => h) (by rfl) (fun _ => HBd.out) ?_
                  simp only [Act.put, List.setIfInBounds_toArray, List.set_cons_zero, List.set_cons_succ]
                  refine skipT (i := 18) rfl (by kernel_rfl) (by kernel_rfl) (by kernel_rfl) (by kernel_rfl) (fun _ _ _ h => h) (by rfl) (fun _ => HBd.out) ?_
                  simp only [Act.put, List.setIfInBounds_toArray, List.set_cons_zero, List.set_cons_succ]
                  refine skipT (i := 19) rfl (by kernel_rfl) (by kernel_rfl) (by kernel_rfl) (by kernel_rfl) (fun _ _ _ h => h) (by rfl) (fun _ => HBd.out) ?_
                  simp only [Act.put, List.setIfInBounds_toArray, List.set_cons_zero, List.set_cons_succ]
                  refine skipT (i := 20) rfl (by kernel_rfl) (by kernel_rfl) (by kernel_rfl) (by kernel_rfl) (fun _ _ _ h => h) (by rfl) (fun _ => HBd.out) ?_
                  simp only [Act.put, List.setIfInBounds_toArray, List.set_cons_zero, List.set_cons_succ]
                  refine skipT (i := 21) rfl (by kernel_rfl) (by kernel_rfl) (by kernel_rfl) (by kernel_rfl) (fun _ _ _ h => h) (by rfl) (fun _ => HBd.out) ?_
                  simp only [Act.put, List.setIfInBounds_toArray, List.set_cons_zero, List.set_cons_succ]
                  refine skipT (i := 22) rfl (by kernel_rfl) (by kernel_rfl) (by kernel_rfl) (by kernel_rfl) (fun _ _ _ h => h) (by rfl) (fun _ => HBd.out) ?_
                  simp only [Act.put, List.setIfInBounds_toArray, List.set_cons_zero, List.set_cons_succ]
                  refine skipT (i := 23) rfl (by kernel_rfl) (by kernel_rfl) (by kernel_rfl) (by kernel_rfl) (fun _ _ _ h => h) (by rfl) (fun _ => HBd.out) ?_
                  simp only [Act.put, List.setIfInBounds_toArray, List.set_cons_zero, List.set_cons_succ]
                  refine skipT (i := 24) rfl (by kernel_rfl) (by kernel_rfl) (by kernel_rfl) (by kernel_rfl) (fun _ _ _ h => h) (by rfl) (fun _ => HBd.out) ?_
                  simp only [Act.put, List.setIfInBounds_toArray, List.set_cons_zero, List.set_cons_succ]
                  refine skipT (i := 25) rfl (by kernel_rfl) (by kernel_rfl) (by kernel_rfl) (by kernel_rfl) (fun _ _ _ h => h) (by rfl) (fun _ => HBd.out) ?_
                  simp only [Act.put, List.setIfInBounds_toArray, List.set_cons_zero, List.set_cons_succ]
                  refine skipT (i := 26) rfl (by kernel_rfl) (by kernel_rfl) (by kernel_rfl) (by kernel_rfl) (fun _ _ _ h => h) (by rfl) (fun _ => HBd.out) ?_
                  simp only [Act.put, List.setIfInBounds_toArray, List.set_cons_zero, List.set_cons_succ]
                  refine takeP (i := 27) (v := ?_) rfl (by kernel_rfl) (by kernel_rfl) (by kernel_rfl) (by kernel_rfl) (fun _ _ _ h => h) (by rfl) ?_ (fun _ => HBd.out) ?_
                  rotate_left
                  · intro V'; go_simp <;> with_reducible rfl
                  simp only [Act.put, List.setIfInBounds_toArray, List.set_cons_zero, List.set_cons_succ]
                  refine doneT (by kernel_rfl) ?_ _
                  have HBk1 := Lib.hid (HBk.out.trans ((HB_1.out.trans (HBd.out.mono HB_1.out.size)).mono HBk.out.size))
                  clear HL HBd HB_1 HBk C19k KY HLk HL0k HL5k HLrk HBzk Czk K1k Xk Ok D19k HF q0 c19 hI
                  go_wp2_with fail
                  go_roundw
                  case rel => exact ⟨i + 1, by rw [wr1 (by have := HI.out; have := HK0.out; omega)], HBk1.out⟩
                  case measure => have := HI.out; rw [wr1 (by have := HK0.out; omega)]; simp [intOf]; omega
                · have q0 : (y.id != zv) = true := by simp [hy0]
                  obtain ⟨f, hfv, hfx⟩ := find_yes HRq.out (HOne.out.2 y HY.out hy0)
                  have HF := Lib.hid hfv
                  have hfl : f < nq := by rw [← HNq.out]; exact (List.getElem?_eq_some_iff.1 hfx).1
                  obtain ⟨bo, oo, hA, hbo, hco⟩ := RdK.at_ O6.out.kps.read (by have := HNq.out; omega)
                  have KO := Lib.hid ((hco f y hfx).past hbo HBk.out)
                  have HLo_ := Lib.hid (show bo < wr.heap.size from Nat.lt_of_lt_of_le hbo HBk.out.size)
                  rw [hA] at D19k
                  have hI2 : (f : Int) < (nq : Int) := by omega
                  have hf0 : decide ((f : Int) < 0) = false := by simp
                  clear hfv hfx hA hbo hco hy0 hfl
                  go_upto_region 9 with fail
                  have HL : Hid (∀ V', Below wr.heap.size wr V' → Whole V' W5.heap.size 30 (brC q a') ∧ V'.cell? ⟨w.heap.size, 19, none⟩ = some (.slice (some ⟨bk, ok, none⟩) n0 a.d) ∧ V'.cell? ⟨bk, ok + i * 8, none⟩ = some (.int .i64 y.id)) := Lib.hid (fun V' hV => ⟨Xk.out.under hV, (hV.cell (p := ⟨w.heap.size, 19, none⟩) HL0k.out).trans C19k.out, (KY.out.past HLk.out hV).c0⟩)
                  have HBd := Lib.hid (show Below wr.heap.size wr wr.drew from below_drewB (Below.refl _ _) 1)
                  refine wp_region_T (ls := []) (T := (fun V' => Below wr.heap.size wr V')) (by kernel_rfl) ?_
                  refine takeT (i := 0) (v := brV q a') rfl (by kernel_rfl) (by kernel_rfl) (by kernel_rfl) (by kernel_rfl) (fun _ _ _ h => h) (by rfl) ?_ HBd.out ?_
                  · intro V' hV; obtain ⟨y0, y1, y2⟩ := HL.out V' hV; exact exec_load_brain rfl y0
                  simp only [Act.put, List.setIfInBounds_toArray, List.set_cons_zero, List.set_cons_succ]
                  refine takeP (i := 1) (v := ?_) rfl (by kernel_rfl) (by kernel_rfl) (by kernel_rfl) (by kernel_rfl) (fun _ _ _ h => h) (by rfl) ?_ (fun _ => HBd.out) ?_
                  rotate_left
                  · intro V'; go_simp <;> with_reducible rfl
                  simp only [Act.put, List.setIfInBounds_toArray, List.set_cons_zero, List.set_cons_succ]
                  refine takeT (i := 2) (v := ?_) rfl (by kernel_rfl) (by kernel_rfl) (by kernel_rfl) (by kernel_rfl) (fun _ _ _ h => h) (by rfl) ?_ HBd.out ?_
                  rotate_left
                  · intro V' hV; obtain ⟨y0, y1, y2⟩ := HL.out V' hV; go_simp <;> with_reducible rfl
                  simp only [Act.put, List.setIfInBounds_toArray, List.set_cons_zero, List.set_cons_succ]
                  refine takeP (i := 3) (v := ?_) rfl (by kernel_rfl) (by kernel_rfl) (by kernel_rfl) (by kernel_rfl) (fun _ _ _ h => h) (by rfl) ?_ (fun _ => HBd.out) ?_
                  rotate_left
                  · intro V'; go_simp <;> with_reducible rfl
                  simp only [Act.put, List.setIfInBounds_toArray, List.set_cons_zero, List.set_cons_succ]
                  refine takeP (i := 4) (v := ?_) rfl (by kernel_rfl) (by kernel_rfl) (by kernel_rfl) (by kernel_rfl) (fun _ _ _ h => h) (by rfl) ?_ (fun _ => HBd.out) ?_
                  rotate_left
                  · intro V'; go_simp <;> with_reducible rfl
                  simp only [Act.put, List.setIfInBounds_toArray, List.set_cons_zero, List.set_cons_succ]
                  refine takeP (i := 5) (v := ?_) rfl (by kernel_rfl) (by kernel_rfl) (by kernel_rfl) (by kernel_rfl) (fun _ _ _ h => h) (by rfl) ?_ (fun _ => HBd.out) ?_
                  rotate_left
                  · intro V'; go_simp <;> with_reducible rfl
                  simp only [Act.put, List.setIfInBounds_toArray, List.set_cons_zero, List.set_cons_succ]
                  refine takeT (i := 6) (v := ?_) rfl (by kernel_rfl) (by kernel_rfl) (by kernel_rfl) (by kernel_rfl) (fun _ _ _ h => h) (by rfl) ?_ HBd.out ?_
                  rotate_left
                  · intro V' hV; obtain ⟨y0, y1, y2⟩ := HL.out V' hV; go_simp <;> with_reducible rfl
                  simp only [Act.put, List.setIfInBounds_toArray, List.set_cons_zero, List.set_cons_succ]
                  refine oneT (i := 7) rfl (by kernel_rfl) (by rfl) (fun K hK => ?_)
                  go_simp
                  refine (findO (Ok.out.under HBd.out) HKq.out HF.out).mono ?_
                  rintro e wr_1 ⟨rfl, hb_⟩
                  have HB_1 := Lib.hid (show Below wr.heap.size wr wr_1 from HBd.out.trans (hb_.mono HBd.out.size))
                  clear hb_ HBd
                  refine hK.out _ _ (fun _ => HB_1.out) ?_
                  clear hK K
                  refine takeP (i := 8) (v := ?_) rfl (by kernel_rfl) (by kernel_rfl) (by kernel_rfl) (by kernel_rfl) (fun _ _ _ h => h) (by rfl) ?_ (fun _ => HB_1.out) ?_
                  rotate_left
                  · intro V'; go_simp <;> with_reducible rfl
                  simp only [Act.put, List.setIfInBounds_toArray, List.set_cons_zero, List.set_cons_succ]
                  refine doneT (by kernel_rfl) ?_ _
                  clear HL
                  go_upto_region 10 with fail
                  have HL : Hid (∀ V', Below wr_1.heap.size wr_1 V' → V'.cell? ⟨w.heap.size, 19, none⟩ = some (.slice (some ⟨bk, ok, none⟩) n0 a.d) ∧ V'.cell? ⟨w.heap.size + 1, 1, none⟩ = some (.slice (some ⟨bz, oz, none⟩) z.n z.c) ∧ V'.cell? ⟨bz, oz, none⟩ = some (.int .i64 zv) ∧ V'.cell? ⟨bk, ok + i * 8, none⟩ = some (.int .i64 y.id) ∧ V'.cell? ⟨bk, ok + i * 8 + 1, none⟩ = some (.int .i64 y.tok) ∧ V'.cell? ⟨bk, ok + i * 8 + 2, none⟩ = some (.int .i64 y.ver) ∧ V'.cell? ⟨bk, ok + i * 8 + 3, none⟩ = some (.int .i64 y.zone) ∧ V'.cell? ⟨bk, ok + i * 8 + 4, none⟩ = some (.int .u8 y.phase) ∧ V'.cell? ⟨bk, ok + i * 8 + 5, none⟩ = some (.int .i64 y.since) ∧ V'.cell? ⟨bk, ok + i * 8 + 6, none⟩ = some (.bool y.guard) ∧ V'.cell? ⟨bk, ok + i * 8 + 7, none⟩ = some (.bool y.done) ∧ V'.cell? ⟨W5.heap.size, 19, none⟩ = some (.slice (some ⟨bo, oo, none⟩) nq a'.d) ∧ V'.cell? ⟨bo, oo + f * 8, none⟩ = some (.int .i64 y.id) ∧ V'.cell? ⟨bo, oo + f * 8 + 1, none⟩ = some (.int .i64 y.tok) ∧ V'.cell? ⟨bo, oo + f * 8 + 2, none⟩ = some (.int .i64 y.ver) ∧ V'.cell? ⟨bo, oo + f * 8 + 3, none⟩ = some (.int .i64 y.zone) ∧ V'.cell? ⟨bo, oo + f * 8 + 4, none⟩ = some (.int .u8 y.phase) ∧ V'.cell? ⟨bo, oo + f * 8 + 5, none⟩ = some (.int .i64 y.since) ∧ V'.cell? ⟨bo, oo + f * 8 + 6, none⟩ = some (.bool y.guard) ∧ V'.cell? ⟨bo, oo + f * 8 + 7, none⟩ = some (.bool y.done)) := Lib.hid (fun V' hV => ⟨((HB_1.out.trans (hV.mono HB_1.out.size)).cell (p := ⟨w.heap.size, 19, none⟩) HL0k.out).trans C19k.out, ((HB_1.out.trans (hV.mono HB_1.out.size)).cell (p := ⟨w.heap.size + 1, 1, none⟩) HLrk.out).trans K1k.out, ((HB_1.out.trans (hV.mono HB_1.out.size)).cell (p := ⟨bz, oz, none⟩) HBzk.out).trans Czk.out, (KY.out.past HLk.out (HB_1.out.trans (hV.mono HB_1.out.size))).c0, (KY.out.past HLk.out (HB_1.out.trans (hV.mono HB_1.out.size))).c1, (KY.out.past HLk.out (HB_1.out.trans (hV.mono HB_1.out.size))).c2, (KY.out.past HLk.out (HB_1.out.trans (hV.mono HB_1.out.size))).c3, (KY.out.past HLk.out (HB_1.out.trans (hV.mono HB_1.out.size))).c4, (KY.out.past HLk.out (HB_1.out.trans (hV.mono HB_1.out.size))).c5, (KY.out.past HLk.out (HB_1.out.trans (hV.mono HB_1.out.size))).c6, (KY.out.past HLk.out (HB_1.out.trans (hV.mono HB_1.out.size))).c7, ((HB_1.out.trans (hV.mono HB_1.out.size)).cell (p := ⟨W5.heap.size, 19, none⟩) HL5k.out).trans D19k.out, (KO.out.past HLo_.out (HB_1.out.trans (hV.mono HB_1.out.size))).c0, (KO.out.past HLo_.out (HB_1.out.trans (hV.mono HB_1.out.size))).c1, (KO.out.past HLo_.out (HB_1.out.trans (hV.mono HB_1.out.size))).c2, (KO.out.past HLo_.out (HB_1.out.trans (hV.mono HB_1.out.size))).c3, (KO.out.past HLo_.out (HB_1.out.trans (hV.mono HB_1.out.size))).c4, (KO.out.past HLo_.out (HB_1.out.trans (hV.mono HB_1.out.size))).c5, (KO.out.past HLo_.out (HB_1.out.trans (hV.mono HB_1.out.size))).c6, (KO.out.past HLo_.out (HB_1.out.trans (hV.mono HB_1.out.size))).c7⟩)
                  have HBd := Lib.hid (show Below wr_1.heap.size wr_1 wr_1.drew from below_drewB (Below.refl _ _) 1)
                  refine wp_region_T (ls := []) (T := (fun V' => Below wr_1.heap.size wr_1 V')) (by kernel_rfl) ?_
                  refine takeP (i := 0) (v := ?_) rfl (by kernel_rfl) (by kernel_rfl) (by kernel_rfl) (by kernel_rfl) (fun _ _ _ h => h) (by rfl) ?_ (fun _ => HBd.out) ?_
                  rotate_left
                  · intro V'; go_simp <;> with_reducible rfl
                  simp only [Act.put, List.setIfInBounds_toArray, List.set_cons_zero, List.set_cons_succ]
                  refine takeT (i := 1) (v := ?_) rfl (by kernel_rfl) (by kernel_rfl) (by kernel_rfl) (by kernel_rfl) (fun _ _ _ h => h) (by rfl) ?_ HBd.out ?_
                  rotate_left
                  · intro V' hV; obtain ⟨y0, y1, y2, y3, y4, y5, y6, y7, y8, y9, y10, y11, y12, y13, y14, y15, y16, y17, y18, y19⟩ := HL.out V' hV; go_simp <;> with_reducible rfl
                  simp only [Act.put, List.setIfInBounds_toArray, List.set_cons_zero, List.set_cons_succ]
                  refine takeP (i := 2) (v := ?_) rfl (by kernel_rfl) (by kernel_rfl) (by kernel_rfl) (by kernel_rfl) (fun _ _ _ h => h) (by rfl) ?_ (fun _ => HBd.out) ?_
                  rotate_left
                  · intro V'; go_simp <;> with_reducible rfl
                  simp only [Act.put, List.setIfInBounds_toArray, List.set_cons_zero, List.set_cons_succ]
                  refine takeP (i := 3) (v := ?_) rfl (by kernel_rfl) (by kernel_rfl) (by kernel_rfl) (by kernel_rfl) (fun _ _ _ h => h) (by rfl) ?_ (fun _ => HBd.out) ?_
                  rotate_left
                  · intro V'; go_simp <;> with_reducible rfl
                  simp only [Act.put, List.setIfInBounds_toArray, List.set_cons_zero, List.set_cons_succ]
                  refine takeP (i := 4) (v := ?_) rfl (by kernel_rfl) (by kernel_rfl) (by kernel_rfl) (by kernel_rfl) (fun _ _ _ h => h) (by rfl) ?_ (fun _ => HBd.out) ?_
                  rotate_left
                  · intro V'; go_simp <;> with_reducible rfl
                  simp only [Act.put, List.setIfInBounds_toArray, List.set_cons_zero, List.set_cons_succ]
                  refine takeT (i := 5) (v := ?_) rfl (by kernel_rfl) (by kernel_rfl) (by kernel_rfl) (by kernel_rfl) (fun _ _ _ h => h) (by rfl) ?_ HBd.out ?_
                  rotate_left
                  · intro V' hV; obtain ⟨y0, y1, y2, y3, y4, y5, y6, y7, y8, y9, y10, y11, y12, y13, y14, y15, y16, y17, y18, y19⟩ := HL.out V' hV; go_simp <;> with_reducible rfl
                  simp only [Act.put, List.setIfInBounds_toArray, List.set_cons_zero, List.set_cons_succ]
                  refine takeP (i := 6) (v := ?_) rfl (by kernel_rfl) (by kernel_rfl) (by kernel_rfl) (by kernel_rfl) (fun _ _ _ h => h) (by rfl) ?_ (fun _ => HBd.out) ?_
                  rotate_left
                  · intro V'; go_simp <;> with_reducible rfl
                  simp only [Act.put, List.setIfInBounds_toArray, List.set_cons_zero, List.set_cons_succ]
                  refine takeT (i := 7) (v := ?_) rfl (by kernel_rfl) (by kernel_rfl) (by kernel_rfl) (by kernel_rfl) (fun _ _ _ h => h) (by rfl) ?_ HBd.out ?_
                  rotate_left
                  · intro V' hV; obtain ⟨y0, y1, y2, y3, y4, y5, y6, y7, y8, y9, y10, y11, y12, y13, y14, y15, y16, y17, y18, y19⟩ := HL.out V' hV; go_simp <;> with_reducible rfl
                  simp only [Act.put, List.setIfInBounds_toArray, List.set_cons_zero, List.set_cons_succ]
                  refine takeP (i := 8) (v := ?_) rfl (by kernel_rfl) (by kernel_rfl) (by kernel_rfl) (by kernel_rfl) (fun _ _ _ h => h) (by rfl) ?_ (fun _ => HBd.out) ?_
                  rotate_left
                  · intro V'; go_simp <;> with_reducible rfl
                  simp only [Act.put, List.setIfInBounds_toArray, List.set_cons_zero, List.set_cons_succ]
                  refine takeT (i := 9) (v := ?_) rfl (by kernel_rfl) (by kernel_rfl) (by kernel_rfl) (by kernel_rfl) (fun _ _ _ h => h) (by rfl) ?_ HBd.out ?_
                  rotate_left
                  · intro V' hV; obtain ⟨y0, y1, y2, y3, y4, y5, y6, y7, y8, y9, y10, y11, y12, y13, y14, y15, y16, y17, y18, y19⟩ := HL.out V' hV; go_simp <;> with_reducible rfl
                  simp only [Act.put, List.setIfInBounds_toArray, List.set_cons_zero, List.set_cons_succ]
                  refine takeP (i := 10) (v := ?_) rfl (by kernel_rfl) (by kernel_rfl) (by kernel_rfl) (by kernel_rfl) (fun _ _ _ h => h) (by rfl) ?_ (fun _ => HBd.out) ?_
                  rotate_left
                  · intro V'; go_simp <;> with_reducible rfl
                  simp only [Act.put, List.setIfInBounds_toArray, List.set_cons_zero, List.set_cons_succ]
                  refine takeP (i := 11) (v := ?_) rfl (by kernel_rfl) (by kernel_rfl) (by kernel_rfl) (by kernel_rfl) (fun _ _ _ h => h) (by rfl) ?_ (fun _ => HBd.out) ?_
                  rotate_left
                  · intro V'; go_simp <;> with_reducible rfl
                  simp only [Act.put, List.setIfInBounds_toArray, List.set_cons_zero, List.set_cons_succ]
                  refine takeP (i := 12) (v := ?_) rfl (by kernel_rfl) (by kernel_rfl) (by kernel_rfl) (by kernel_rfl) (fun _ _ _ h => h) (by rfl) ?_ (fun _ => HBd.out) ?_
                  rotate_left
                  · intro V'; go_simp <;> with_reducible rfl
                  simp only [Act.put, List.setIfInBounds_toArray, List.set_cons_zero, List.set_cons_succ]
                  refine takeP (i := 13) (v := ?_) rfl (by kernel_rfl) (by kernel_rfl) (by kernel_rfl) (by kernel_rfl) (fun _ _ _ h => h) (by rfl) ?_ (fun _ => HBd.out) ?_
                  rotate_left
                  · intro V'; go_simp <;> with_reducible rfl
                  simp only [Act.put, List.setIfInBounds_toArray, List.set_cons_zero, List.set_cons_succ]
                  refine takeP (i := 14) (v := ?_) rfl (by kernel_rfl) (by kernel_rfl) (by kernel_rfl) (by kernel_rfl) (fun _ _ _ h => h) (by rfl) ?_ (fun _ => HBd.out) ?_
                  rotate_left
                  · intro V'; go_simp <;> with_reducible rfl
                  simp only [Act.put, List.setIfInBounds_toArray, List.set_cons_zero, List.set_cons_succ]
                  refine takeP (i := 15) (v := ?_) rfl (by kernel_rfl) (by kernel_rfl) (by kernel_rfl) (by kernel_rfl) (fun _ _ _ h => h) (by rfl) ?_ (fun _ => HBd.out) ?_
                  rotate_left
                  · intro V'; go_simp <;> with_reducible rfl
                  simp only [Act.put, List.setIfInBounds_toArray, List.set_cons_zero, List.set_cons_succ]
                  refine takeT (i := 16) (v := ?_) rfl (by kernel_rfl) (by kernel_rfl) (by kernel_rfl) (by kernel_rfl) (fun _ _ _ h => h) (by rfl) ?_ HBd.out ?_
                  rotate_left
                  · intro V' hV; obtain ⟨y0, y1, y2, y3, y4, y5, y6, y7, y8, y9, y10, y11, y12, y13, y14, y15, y16, y17, y18, y19⟩ := HL.out V' hV; go_simp <;> with_reducible rfl
                  simp only [Act.put, List.setIfInBounds_toArray, List.set_cons_zero, List.set_cons_succ]
                  refine takeP (i := 17) (v := ?_) rfl (by kernel_rfl) (by kernel_rfl) (by kernel_rfl) (by kernel_rfl) (fun _ _ _ h => h) (by rfl) ?_ (fun _ => HBd.out) ?_
                  rotate_left
                  · intro V'; go_simp <;> with_reducible rfl
                  simp only [Act.put, List.setIfInBounds_toArray, List.set_cons_zero, List.set_cons_succ]
                  refine takeP (i := 18) (v := ?_) rfl (by kernel_rfl) (by kernel_rfl) (by kernel_rfl) (by kernel_rfl) (fun _ _ _ h => h) (by rfl) ?_ (fun _ => HBd.out) ?_
                  rotate_left
                  · intro V'; go_simp <;> with_reducible rfl
                  simp only [Act.put, List.setIfInBounds_toArray, List.set_cons_zero, List.set_cons_succ]
                  refine takeT (i := 19) (v := ?_) rfl (by kernel_rfl) (by kernel_rfl) (by kernel_rfl) (by kernel_rfl) (fun _ _ _ h => h) (by rfl) ?_ HBd.out ?_
                  rotate_left
                  · intro V' hV; obtain ⟨y0, y1, y2, y3, y4, y5, y6, y7, y8, y9, y10, y11, y12, y13, y14, y15, y16, y17, y18, y19⟩ := HL.out V' hV; go_simp <;> with_reducible rfl
                  simp only [Act.put, List.setIfInBounds_toArray, List.set_cons_zero, List.set_cons_succ]
                  refine takeP (i := 20) (v := ?_) rfl (by kernel_rfl) (by kernel_rfl) (by kernel_rfl) (by kernel_rfl) (fun _ _ _ h => h) (by rfl) ?_ (fun _ => HBd.out) ?_
                  rotate_left
                  · intro V'; go_simp <;> with_reducible rfl
                  simp only [Act.put, List.setIfInBounds_toArray, List.set_cons_zero, List.set_cons_succ]
                  refine takeT (i := 21) (v := ?_) rfl (by kernel_rfl) (by kernel_rfl) (by kernel_rfl) (by kernel_rfl) (fun _ _ _ h => h) (by rfl) ?_ HBd.out ?_
                  rotate_left
                  · intro V' hV; obtain ⟨y0, y1, y2, y3, y4, y5, y6, y7, y8, y9, y10, y11, y12, y13, y14, y15, y16, y17, y18, y19⟩ := HL.out V' hV; go_simp <;> with_reducible rfl
                  simp only [Act.put, List.setIfInBounds_toArray, List.set_cons_zero, List.set_cons_succ]
                  refine takeP (i := 22) (v := ?_) rfl (by kernel_rfl) (by kernel_rfl) (by kernel_rfl) (by kernel_rfl) (fun _ _ _ h => h) (by rfl) ?_ (fun _ => HBd.out) ?_
                  rotate_left
                  · intro V'; go_simp <;> with_reducible rfl
                  simp only [Act.put, List.setIfInBounds_toArray, List.set_cons_zero, List.set_cons_succ]
                  refine takeP (i := 23) (v := ?_) rfl (by kernel_rfl) (by kernel_rfl) (by kernel_rfl) (by kernel_rfl) (fun _ _ _ h => h) (by rfl) ?_ (fun _ => HBd.out) ?_
                  rotate_left
                  · intro V'; go_simp <;> with_reducible rfl
                  simp only [Act.put, List.setIfInBounds_toArray, List.set_cons_zero, List.set_cons_succ]
                  refine takeT (i := 24) (v := ?_) rfl (by kernel_rfl) (by kernel_rfl) (by kernel_rfl) (by kernel_rfl) (fun _ _ _ h => h) (by rfl) ?_ HBd.out ?_
                  rotate_left
                  · intro V' hV; obtain ⟨y0, y1, y2, y3, y4, y5, y6, y7, y8, y9, y10, y11, y12, y13, y14, y15, y16, y17, y18, y19⟩ := HL.out V' hV; go_simp <;> with_reducible rfl
                  simp only [Act.put, List.setIfInBounds_toArray, List.set_cons_zero, List.set_cons_succ]
                  refine takeP (i := 25) (v := ?_) rfl (by kernel_rfl) (by kernel_rfl) (by kernel_rfl) (by kernel_rfl) (fun _ _ _ h => h) (by rfl) ?_ (fun _ => HBd.out) ?_
                  rotate_left
                  · intro V'; go_simp <;> with_reducible rfl
                  simp only [Act.put, List.setIfInBounds_toArray, List.set_cons_zero, List.set_cons_succ]
                  refine takeP (i := 26) (v := ?_) rfl (by kernel_rfl) (by kernel_rfl) (by kernel_rfl) (by kernel_rfl) (fun _ _ _ h => h) (by rfl) ?_ (fun _ => HBd.out) ?_
                  rotate_left
                  · intro V'; go_simp <;> with_reducible rfl
                  simp only [Act.put, List.setIfInBounds_toArray, List.set_cons_zero, List.set_cons_succ]
                  refine takeP (i := 27) (v := ?_) rfl (by kernel_rfl) (by kernel_rfl) (by kernel_rfl) (by kernel_rfl) (fun _ _ _ h => h) (by rfl) ?_ (fun _ => HBd.out) ?_
                  rotate_left
                  · intro V'; go_simp <;> with_reducible rfl
                  simp only [Act.put, List.setIfInBounds_toArray, List.set_cons_zero, List.set_cons_succ]
                  refine doneT (by kernel_rfl) ?_ _
                  have HBk1 := Lib.hid (HBk.out.trans ((HB_1.out.trans (HBd.out.mono HB_1.out.size)).mono HBk.out.size))
                  clear HL HBd HB_1 HBk C19k KY HLk HL0k HL5k HLrk HBzk Czk K1k Xk Ok D19k HF KO HLo_ hI2 hf0 q0 c19 hI
                  go_wp2_with fail
                  go_roundw
                  case rel => exact ⟨i + 1, by rw [wr1 (by have := HI.out; have := HK0.out; omega)], HBk1.out⟩
                  case measure => have := HI.out; rw [wr1 (by have := HK0.out; omega)]; simp [intOf]; omega
          | false =>
            obtain ⟨tb, htb⟩ : ∃ tb, decide (z.k = 3 ∨ z.k = 4) = tb := ⟨_, rfl⟩
            go_upto_region 14 with fail
            go_cut [115] (fun s wx => s = .bool tb ∧ wx = W6)
            case first =>
              clear HW HRd6 XB6 XR6 X6 O6 hob hab
              by_cases e3 : z.k = 3
              · have d3 : ((z.k : Int) == 3) = true := by simp; omega
                obtain rfl : tb = true := by rw [← htb]; simp [e3]
                clear htb e3
                go_wp2_with fail
                go_meet
                exact ⟨rfl, rfl⟩
              have d3 : ((z.k : Int) == 3) = false := by simp; omega
              by_cases e4 : z.k = 4
              · have d4 : ((z.k : Int) == 4) = true := by simp; omega
                obtain rfl : tb = true := by rw [← htb]; simp [e4]
                clear htb e3 e4
                go_wp2_with fail
                go_meet
                exact ⟨rfl, rfl⟩
              have d4 : ((z.k : Int) == 4) = false := by simp; omega
              obtain rfl : tb = false := by rw [← htb]; simp [e3, e4]
              clear htb e3 e4
              go_wp2_with fail
              go_meet
              exact ⟨rfl, rfl⟩
            case rest =>
              obtain ⟨rfl, hwx⟩ := hcut
              have hwy := hwx.symm
              subst hwy
              clear hwx
              cases tb with
              | true => as_aux_lemma =>
                have HTwo := Lib.hid (show q.ep = p.ep ∧ q.set = p.set ∧ q.cf = p.cf ∧ q.rf.st = p.rf.st ∧ q.rf.to_ = p.rf.to_ by
                  rw [← HQ.out]
                  exact two_apply p z.zs (by simp only [decide_eq_true_eq] at htb; omega))
                clear htb hab hob k0 k1
                go_upto_region 15 with fail
                have o0 : W6.cell? ⟨W5.heap.size, 0, none⟩ = some (Value.int .i64 p.ep) := ((X6.out).cell 0).trans (show some (Value.int .i64 q.ep) = some (Value.int .i64 p.ep) by rw [HTwo.out.1])
                have o2 : W6.cell? ⟨W5.heap.size, 2, none⟩ = some (Value.bool p.set) := ((X6.out).cell 2).trans (show some (Value.bool q.set) = some (Value.bool p.set) by rw [HTwo.out.2.1])
                have o3 : W6.cell? ⟨W5.heap.size, 3, none⟩ = some (Value.int .i64 p.cf.f0) := ((X6.out).cell 3).trans (show some (Value.int .i64 q.cf.f0) = some (Value.int .i64 p.cf.f0) by rw [HTwo.out.2.2.1])
                have o4 : W6.cell? ⟨W5.heap.size, 4, none⟩ = some (Value.int .i64 p.cf.f1) := ((X6.out).cell 4).trans (show some (Value.int .i64 q.cf.f1) = some (Value.int .i64 p.cf.f1) by rw [HTwo.out.2.2.1])
                have o5 : W6.cell? ⟨W5.heap.size, 5, none⟩ = some (Value.int .i64 p.cf.f2) := ((X6.out).cell 5).trans (show some (Value.int .i64 q.cf.f2) = some (Value.int .i64 p.cf.f2) by rw [HTwo.out.2.2.1])
                have o6 : W6.cell? ⟨W5.heap.size, 6, none⟩ = some (Value.int .i64 p.cf.f3) := ((X6.out).cell 6).trans (show some (Value.int .i64 q.cf.f3) = some (Value.int .i64 p.cf.f3) by rw [HTwo.out.2.2.1])
                have o7 : W6.cell? ⟨W5.heap.size, 7, none⟩ = some (Value.int .i64 p.cf.f4) := ((X6.out).cell 7).trans (show some (Value.int .i64 q.cf.f4) = some (Value.int .i64 p.cf.f4) by rw [HTwo.out.2.2.1])
                have o8 : W6.cell? ⟨W5.heap.size, 8, none⟩ = some (Value.int .i64 p.cf.f5) := ((X6.out).cell 8).trans (show some (Value.int .i64 q.cf.f5) = some (Value.int .i64 p.cf.f5) by rw [HTwo.out.2.2.1])
                have o9 : W6.cell? ⟨W5.heap.size, 9, none⟩ = some (Value.int .i64 p.cf.f6) := ((X6.out).cell 9).trans (show some (Value.int .i64 q.cf.f6) = some (Value.int .i64 p.cf.f6) by rw [HTwo.out.2.2.1])
                have o10 : W6.cell? ⟨W5.heap.size, 10, none⟩ = some (Value.int .i64 p.cf.f7) := ((X6.out).cell 10).trans (show some (Value.int .i64 q.cf.f7) = some (Value.int .i64 p.cf.f7) by rw [HTwo.out.2.2.1])
                have o11 : W6.cell? ⟨W5.heap.size, 11, none⟩ = some (Value.int .i64 p.cf.f8) := ((X6.out).cell 11).trans (show some (Value.int .i64 q.cf.f8) = some (Value.int .i64 p.cf.f8) by rw [HTwo.out.2.2.1])
                have o12 : W6.cell? ⟨W5.heap.size, 12, none⟩ = some (Value.int .i64 p.cf.f9) := ((X6.out).cell 12).trans (show some (Value.int .i64 q.cf.f9) = some (Value.int .i64 p.cf.f9) by rw [HTwo.out.2.2.1])
                have o13 : W6.cell? ⟨W5.heap.size, 13, none⟩ = some (Value.int .i64 p.cf.f10) := ((X6.out).cell 13).trans (show some (Value.int .i64 q.cf.f10) = some (Value.int .i64 p.cf.f10) by rw [HTwo.out.2.2.1])
                have o14 : W6.cell? ⟨W5.heap.size, 14, none⟩ = some (Value.int .i64 p.cf.f11) := ((X6.out).cell 14).trans (show some (Value.int .i64 q.cf.f11) = some (Value.int .i64 p.cf.f11) by rw [HTwo.out.2.2.1])
                have o15 : W6.cell? ⟨W5.heap.size, 15, none⟩ = some (Value.int .i64 p.cf.f12) := ((X6.out).cell 15).trans (show some (Value.int .i64 q.cf.f12) = some (Value.int .i64 p.cf.f12) by rw [HTwo.out.2.2.1])
                have o16 : W6.cell? ⟨W5.heap.size, 16, none⟩ = some (Value.bool p.cf.sk) := ((X6.out).cell 16).trans (show some (Value.bool q.cf.sk) = some (Value.bool p.cf.sk) by rw [HTwo.out.2.2.1])
                have o17 : W6.cell? ⟨W5.heap.size, 17, none⟩ = some (Value.slice a'.C p.cf.ms.length a'.e) := ((X6.out).cell 17).trans (show some (Value.slice a'.C q.cf.ms.length a'.e) = some (Value.slice a'.C p.cf.ms.length a'.e) by rw [HTwo.out.2.2.1])
                have b0 : W6.cell? ⟨w.heap.size, 0, none⟩ = some (Value.int .i64 p.ep) := (XB6.out).cell 0
                have b2 : W6.cell? ⟨w.heap.size, 2, none⟩ = some (Value.bool p.set) := (XB6.out).cell 2
                have b3 : W6.cell? ⟨w.heap.size, 3, none⟩ = some (Value.int .i64 p.cf.f0) := (XB6.out).cell 3
                have b4 : W6.cell? ⟨w.heap.size, 4, none⟩ = some (Value.int .i64 p.cf.f1) := (XB6.out).cell 4
                have b5 : W6.cell? ⟨w.heap.size, 5, none⟩ = some (Value.int .i64 p.cf.f2) := (XB6.out).cell 5
                have b6 : W6.cell? ⟨w.heap.size, 6, none⟩ = some (Value.int .i64 p.cf.f3) := (XB6.out).cell 6
                have b7 : W6.cell? ⟨w.heap.size, 7, none⟩ = some (Value.int .i64 p.cf.f4) := (XB6.out).cell 7
                have b8 : W6.cell? ⟨w.heap.size, 8, none⟩ = some (Value.int .i64 p.cf.f5) := (XB6.out).cell 8
                have b9 : W6.cell? ⟨w.heap.size, 9, none⟩ = some (Value.int .i64 p.cf.f6) := (XB6.out).cell 9
                have b10 : W6.cell? ⟨w.heap.size, 10, none⟩ = some (Value.int .i64 p.cf.f7) := (XB6.out).cell 10
                have b11 : W6.cell? ⟨w.heap.size, 11, none⟩ = some (Value.int .i64 p.cf.f8) := (XB6.out).cell 11
                have b12 : W6.cell? ⟨w.heap.size, 12, none⟩ = some (Value.int .i64 p.cf.f9) := (XB6.out).cell 12
                have b13 : W6.cell? ⟨w.heap.size, 13, none⟩ = some (Value.int .i64 p.cf.f10) := (XB6.out).cell 13
                have b14 : W6.cell? ⟨w.heap.size, 14, none⟩ = some (Value.int .i64 p.cf.f11) := (XB6.out).cell 14
                have b15 : W6.cell? ⟨w.heap.size, 15, none⟩ = some (Value.int .i64 p.cf.f12) := (XB6.out).cell 15
                have b16 : W6.cell? ⟨w.heap.size, 16, none⟩ = some (Value.bool p.cf.sk) := (XB6.out).cell 16
                have b17 : W6.cell? ⟨w.heap.size, 17, none⟩ = some (Value.slice a.C p.cf.ms.length a.e) := (XB6.out).cell 17
                have HCf := Lib.hid (show (cfM q a').v = .agg #[.int .i64 p.cf.f0, .int .i64 p.cf.f1, .int .i64 p.cf.f2, .int .i64 p.cf.f3, .int .i64 p.cf.f4, .int .i64 p.cf.f5, .int .i64 p.cf.f6, .int .i64 p.cf.f7, .int .i64 p.cf.f8, .int .i64 p.cf.f9, .int .i64 p.cf.f10, .int .i64 p.cf.f11, .int .i64 p.cf.f12, .bool p.cf.sk, .slice a'.C p.cf.ms.length a'.e] by show Value.agg #[.int .i64 q.cf.f0, .int .i64 q.cf.f1, .int .i64 q.cf.f2, .int .i64 q.cf.f3, .int .i64 q.cf.f4, .int .i64 q.cf.f5, .int .i64 q.cf.f6, .int .i64 q.cf.f7, .int .i64 q.cf.f8, .int .i64 q.cf.f9, .int .i64 q.cf.f10, .int .i64 q.cf.f11, .int .i64 q.cf.f12, .bool q.cf.sk, .slice a'.C q.cf.ms.length a'.e] = _; rw [HTwo.out.2.2.1])
                have HSm := Lib.hid (samC O6.out.reads HRd6.out HTwo.out.2.2.1 HMs.out)
                rw [HCf.out] at HSm
                go_wp2_with fail
                refine HSm.out.mono ?_
                rintro e W7 ⟨rfl, bl7⟩
                have HB7 := Lib.hid (HB6.out.trans (bl7.mono HB6.out.size))
                have o20 : W7.cell? ⟨W5.heap.size, 20, none⟩ = some (Value.int .u8 p.rf.st) := ((X6.out.under bl7).cell 20).trans (show some (Value.int .u8 q.rf.st) = some (Value.int .u8 p.rf.st) by rw [HTwo.out.2.2.2.1])
                have o22 : W7.cell? ⟨W5.heap.size, 22, none⟩ = some (Value.int .i64 p.rf.to_) := ((X6.out.under bl7).cell 22).trans (show some (Value.int .i64 q.rf.to_) = some (Value.int .i64 p.rf.to_) by rw [HTwo.out.2.2.2.2])
                have b20 : W7.cell? ⟨w.heap.size, 20, none⟩ = some (Value.int .u8 p.rf.st) := (XB6.out.under bl7).cell 20
                have b22 : W7.cell? ⟨w.heap.size, 22, none⟩ = some (Value.int .i64 p.rf.to_) := (XB6.out.under bl7).cell 22
                clear bl7 HSm HCf HTwo HB6 o0 o2 o3 o4 o5 o6 o7 o8 o9 o10 o11 o12 o13 o14 o15 o16 o17 b0 b2 b3 b4 b5 b6 b7 b8 b9 b10 b11 b12 b13 b14 b15 b16 b17
                have HWk := HW _ HB7.out
                go_wp2_with fail
                refine HWk.out.mono ?_
                rintro e Vl ⟨rfl, bl⟩
                have HBl := Lib.hid (HB.out.trans ((HB7.out.trans (bl.mono HB7.out.size)).mono HB.out.size))
                clear bl HWk HW
                go_wp2_with fail
                go_ret
                exact ⟨rfl, HBl.out⟩
              | false => as_aux_lemma =>
                have hk' : (((z.k : Int) ≠ 3 ∧ (z.k : Int) ≠ 4 ∧ (z.k : Int) ≠ 6 ∧ (z.k : Int) ≠ 7 ∧ (z.k : Int) ≠ 8 ∧ (z.k : Int) ≠ 9 ∧ (z.k : Int) ≠ 10) ∨ (((z.k : Int) = 6 ∨ (z.k : Int) = 7 ∨ (z.k : Int) = 8 ∨ (z.k : Int) = 9 ∨ (z.k : Int) = 10) ∧ z.zs = [])) := by
                  rw [hob] at hab
                  simp only [Bool.and_eq_false_iff, decide_eq_false_iff_not] at hab htb
                  by_cases hk6 : z.k = 6 ∨ z.k = 7 ∨ z.k = 8 ∨ z.k = 9 ∨ z.k = 10
                  · refine .inr ⟨by omega, List.eq_nil_of_length_eq_zero ?_⟩
                    rcases hab with h | h
                    · exact absurd hk6 h
                    · omega
                  · exact .inl ⟨by omega, by omega, by omega, by omega, by omega, by omega, by omega⟩
                have HRest := Lib.hid (show q.kps = p.kps ∧ q.its = p.its ∧ q.sq = p.sq by rw [← HQ.out]; exact rest_apply p z.zs hk')
                have HK0 := Lib.hid (show n0 ≤ 1000 by have := HLen.out; have := HN0.out; omega)
                obtain ⟨m0, hm0⟩ : ∃ m0, p.its.length = m0 := ⟨_, rfl⟩
                have c18 : W6.cell? ⟨w.heap.size, 18, none⟩ = some (.slice a.A m0 a.c) := by rw [← hm0]; exact XB6.out.cell 18
                have c1 : W6.cell? ⟨w.heap.size, 1, none⟩ = some (.int .i64 p.sq) := XB6.out.cell 1
                have c19 := C19.out
                have d18 : W6.cell? ⟨W5.heap.size, 18, none⟩ = some (.slice a'.A m0 a'.c) := by rw [← hm0, ← HRest.out.2.1]; exact X6.out.cell 18
                have d1 : W6.cell? ⟨W5.heap.size, 1, none⟩ = some (.int .i64 p.sq) := by rw [← HRest.out.2.2]; exact X6.out.cell 1
                have d19 : W6.cell? ⟨W5.heap.size, 19, none⟩ = some (.slice a'.B n0 a'.d) := by rw [← HN0.out, ← HRest.out.1]; exact X6.out.cell 19
                have D19 := Lib.hid d19
                clear htb hab hob hk' hm0 k0 k1
                go_wp2_with fail
                clear c18 c1 c19 d18 d1 d19
                go_loopw [9] (fun v wr => ∃ i : Nat, v = .int .i64 (i : Int) ∧ Below W6.heap.size W6 wr) (fun v _ => n0 - (intOf v).toNat)
                case atStart => exact ⟨0, rfl, Below.refl _ _⟩
                case round =>
                  obtain ⟨i, rfl, hbk⟩ := hrel
                  have HBk := Lib.hid hbk
                  have c19 := (hbk.cell (p := ⟨w.heap.size, 19, none⟩) HL0.out).trans C19.out
                  have d19 := (hbk.cell (p := ⟨W5.heap.size, 19, none⟩) HL5.out).trans D19.out
                  clear hbk
                  by_cases hi : i < n0
                  rotate_left
                  · have di : decide (i < n0) = false := by simp; omega
                    have HBe := Lib.hid (HB6.out.trans (HBk.out.mono HB6.out.size))
                    clear hi HBk d19
                    have HWk := HW _ HBe.out
                    go_wp2_with fail
                    refine HWk.out.mono ?_
                    rintro e Vl ⟨rfl, bl⟩
                    have HBl := Lib.hid (HB.out.trans ((HBe.out.trans (bl.mono HBe.out.size)).mono HB.out.size))
                    clear bl HWk HW
                    go_wp2_with fail
                    go_ret
                    exact ⟨rfl, HBl.out⟩
                  · obtain ⟨y, hy⟩ : ∃ y, p.kps[i]? = some y := ⟨_, List.getElem?_eq_getElem (by have := HN0.out; omega)⟩
                    obtain ⟨bk, ok, hA, hbk, hck⟩ := RdK.at_ HRd6.out.kps (by have := HN0.out; omega)
                    have hO := O6.out.kps.read
                    rw [HRest.out.1] at hO
                    obtain ⟨bo, oo, hA2, hbo, hco⟩ := RdK.at_ hO (by have := HN0.out; omega)
                    rw [hA] at c19
                    rw [hA2] at d19
                    obtain ⟨g0, g1, g2, g3, g4, g5, g6, g7⟩ := (hck i y hy).past hbk HBk.out
                    obtain ⟨q0, q1, q2, q3, q4, q5, q6, q7⟩ := (hco i y hy).past hbo HBk.out
                    have hI : (i : Int) < (n0 : Int) := by omega
                    have HI := Lib.hid hi
                    clear hA hbk hck hy hi hO hA2 hbo hco
                    go_wp2_with fail
                    go_quiet (fail)
                    go_wp2_with fail
                    go_roundw
                    case rel => exact ⟨i + 1, by rw [wr1 (by have := HI.out; have := HK0.out; omega)], below_drewB HBk.out _⟩
                    case measure => have := HI.out; rw [wr1 (by have := HK0.out; omega)]; simp [intOf]; omega

end Go.Proofs.YtdaimejlcfhfiaaGreatDoor
