/-
  Texts that the walks of the statements over logs lean on, joined (CtLawSums). Conditions: those that each theorem names.
-/
import Derived.Test.YtplejbgecihnpaaDoorJ19
import Derived.Test.YtplejbgecihnpaaDoorJ20

/-
  The walk of the statement CountSums, over what package count's functions tell. Conditions: those that the theorem names.
-/
namespace Go.Proofs.YtplejbgecihnpaaDoor
open Go.RowKit Go.Shelf

set_option maxRecDepth 100000 in
set_option maxHeartbeats 8000000 in
theorem countSums_any (C : CountOk) (p : Br) (a : Ad) (w : World) (hb0 : BrAny w p a) (hT : Tab w) :
    Calls Tryd.prog 4 #[brV p a] w (TruePost w) := by
  obtain ⟨V, hV⟩ : ∃ V, w.alloc (.cells (brC p a) 30) = V := ⟨_, rfl⟩
  have w0 : Whole V w.heap.size 30 (brC p a) := by rw [← hV]; exact Whole.new _ _ _
  have hb : Below w.heap.size w V := by rw [← hV]; exact (Below.refl _ _).alloc (Nat.le_refl _) _
  have HB := Lib.hid hb
  have HV := Lib.hid hV
  have W0 := Lib.hid w0
  have HT := Lib.hid (hT.under hb)
  have HC := Lib.hid C
  have HA := Lib.hid hb0
  have HT0 := Lib.hid hT
  clear hb w0 hV hT C hb0
  obtain ⟨bg, hbg⟩ : ∃ b, gB p = b := ⟨_, rfl⟩
  obtain ⟨br, hbr⟩ : ∃ b, rightBb p = b := ⟨_, rfl⟩
  obtain ⟨bs, hbs⟩ : ∃ b, p.set = b := ⟨_, rfl⟩
  have HG := Lib.hid hbg
  have HR := Lib.hid hbr
  have HS := Lib.hid hbs
  clear hbg hbr hbs
  go_enter Tryd.func4, Tryd.ntmps4
  go_upto_region 1 with fail
  refine wpV (fun V2 hV2 => ?_)
  obtain rfl : V = V2 := HV.out.symm.trans hV2
  clear HV hV2
  go_wp2_with (refine wpList_loadB (by rfl) _ rfl w.heap.size p a (by rfl) W0.out ?_)
  refine (greatB_any p a V).mono ?_
  rintro e U ⟨rfl, hb1⟩
  rw [HG.out]
  have HBU := Lib.hid (HB.out.trans (hb1.mono HB.out.size))
  have T1 := Lib.hid (HT.out.under hb1)
  have X0 := Lib.hid (W0.out.under hb1)
  clear hb1 W0 HT HB
  cases bg with
  | true =>
    go_wp2_with fail
    refine (wakes15_any HC.out U T1.out).mono ?_
    rintro e w7 ⟨rfl, hb7⟩
    have HB7 := Lib.hid (HBU.out.trans (hb7.mono HBU.out.size))
    clear hb7
    go_wp2_with fail
    go_ret
    exact ⟨rfl, HB7.out⟩
  | false =>
    have N0 := Lib.hid (ctNow HA.out HT0.out HG.out)
    have NU := Lib.hid (N0.out.under HBU.out)
    have HN := Lib.hid (gB_no HG.out)
    go_wp2_with (refine wpList_loadB (by rfl) _ rfl w.heap.size p a (by rfl) X0.out ?_)
    refine (rrightB_any p a U.heap.size U NU.out.rd (Nat.le_refl _) NU.out.ms NU.out.its NU.out.kps).mono ?_
    rintro e U0 ⟨rfl, hb1⟩
    rw [HR.out]
    have X0_ := Lib.hid (X0.out.under hb1)
    clear X0
    have X0 := X0_
    clear X0_
    have T1_ := Lib.hid (T1.out.under hb1)
    clear T1
    have T1 := T1_
    clear T1_
    have NU_ := Lib.hid (NU.out.under hb1)
    clear NU
    have NU := NU_
    clear NU_
    have HBU0 := Lib.hid (HBU.out.trans (hb1.mono HBU.out.size))
    clear hb1 HBU
    cases br with
    | false =>
      go_wp2_with fail
      refine (wakes15_any HC.out U0 T1.out).mono ?_
      rintro e w7 ⟨rfl, hb7⟩
      have HB7 := Lib.hid (HBU0.out.trans (hb7.mono HBU0.out.size))
      clear hb7
      go_wp2_with fail
      go_ret
      exact ⟨rfl, HB7.out⟩
    | true =>
      have d2 : U0.cell? ⟨w.heap.size, 2, none⟩ = some (.bool bs) := by rw [← HS.out]; exact X0.out.cell 2
      cases bs with
      | false =>
        go_wp2_with fail
        refine (wakes15_any HC.out U0 T1.out).mono ?_
        rintro e w7 ⟨rfl, hb7⟩
        have HB7 := Lib.hid (HBU0.out.trans (hb7.mono HBU0.out.size))
        clear hb7
        go_wp2_with fail
        go_ret
        exact ⟨rfl, HB7.out⟩
      | true =>
        obtain ⟨c1, hc1⟩ : ∃ c, countB p = c := ⟨_, rfl⟩
        obtain ⟨s1, s2, s3, s4, s5, s6, s7, s8, s9⟩ := sums_of HR.out HS.out
        have hzl := zones_len p
        obtain ⟨bo, hbo⟩ : ∃ b, goOn p = b := ⟨_, rfl⟩
        obtain ⟨gn, hgn⟩ : ∃ g, kpGo p.kps = g := ⟨_, rfl⟩
        obtain ⟨m, hm⟩ : ∃ z : Int, (if bo = true then p.cf.f2 else 0) = z := ⟨_, rfl⟩
        have hfb : fullB p = decide (c1.bd ≤ (c1.all : Int)) := by rw [← hc1]; rfl
        have hod : c1.old = oldB p := by rw [← hc1]; rfl
        rw [hc1] at s1 s2 s3 s4 s7 s8 s9 hzl
        rw [hgn] at s1 s4
        rw [hbo, hm] at s7
        have hm2 : 0 ≤ m ∧ m ≤ 1000000 := by rw [← hm]; cases bo <;> simp <;> omega
        have HC1 := Lib.hid hc1
        have HZl := Lib.hid hzl
        have HBo := Lib.hid hbo
        have HGn := Lib.hid hgn
        have HM := Lib.hid hm
        have HFb := Lib.hid hfb
        have HOd := Lib.hid hod
        have hn1 := HN.out
        have SM := Lib.hid (show (c1.st + c1.warm + gn = c1.all ∧ c1.all = p.its.length + p.kps.length ∧ c1.all ≤ 80) ∧ (c1.serve ≤ c1.st ∧ c1.old + gn ≤ c1.all) ∧ c1.want = p.cf.f0 + m ∧ c1.fl ≤ p.cf.f0 ∧ c1.want ≤ c1.bd ∧ (0 ≤ p.cf.f0 ∧ p.cf.f0 ≤ 1000000) ∧ 0 ≤ m ∧ m ≤ 1000000 from ⟨⟨s1, s2, by omega⟩, ⟨s3, s4⟩, s7, s8, s9, s5, hm2⟩)
        clear hc1 s1 s2 s3 s4 s5 s6 s7 s8 s9 hzl hbo hgn hm hm2 hfb hod hn1
        go_upto_region 3 with fail
        clear d2
        go_wp2_with (refine wpList_loadB (by rfl) _ rfl w.heap.size p a (by rfl) X0.out ?_)
        refine (HC.out.of p a U0 NU.out).mono ?_
        rintro e U1 ⟨rfl, hb1⟩
        rw [HC1.out]
        have X0_ := Lib.hid (X0.out.under hb1)
        clear X0
        have X0 := X0_
        clear X0_
        have T1_ := Lib.hid (T1.out.under hb1)
        clear T1
        have T1 := T1_
        clear T1_
        have NU_ := Lib.hid (NU.out.under hb1)
        clear NU
        have NU := NU_
        clear NU_
        have HBU1 := Lib.hid (HBU0.out.trans (hb1.mono HBU0.out.size))
        clear hb1 HBU0
        go_upto_region 4 with fail
        refine wpV (fun U2 hU2 => ?_)
        have hb2 : Below U1.heap.size U1 U2 := by rw [← hU2]; exact (Below.refl _ _).alloc (Nat.le_refl _) _
        have Y3 := Lib.hid (show Whole U2 U1.heap.size 38 c1.cells by rw [← hU2]; exact Whole.new _ _ _)
        have X0_ := Lib.hid (X0.out.under hb2)
        clear X0
        have X0 := X0_
        clear X0_
        have T1_ := Lib.hid (T1.out.under hb2)
        clear T1
        have T1 := T1_
        clear T1_
        have NU_ := Lib.hid (NU.out.under hb2)
        clear NU
        have NU := NU_
        clear NU_
        have HBU2 := Lib.hid (HBU1.out.trans (hb2.mono HBU1.out.size))
        clear hb2 HBU1 hU2
        go_wp2_with fail
        go_loopw [4, 5] (fun s4 s5 wr => ∃ j : Nat, s4 = .int .i64 ((kpGo (p.kps.take j) : Nat) : Int) ∧ s5 = .int .i64 (j : Int) ∧ j ≤ p.kps.length ∧ wr = U2) (fun _ s5 _ => p.kps.length - (intOf s5).toNat)
        case atStart => exact ⟨0, rfl, rfl, Nat.zero_le _, rfl⟩
        case round =>
          obtain ⟨j, rfl, rfl, hj, hwx⟩ := hrel
          have hwy := hwx.symm
          subst hwy
          clear hwx
          have c19 : U2.cell? ⟨w.heap.size, 19, none⟩ = some (.slice a.B p.kps.length a.d) := X0.out.cell 19
          obtain ⟨g, hg⟩ : ∃ g, kpGo (p.kps.take j) = g := ⟨_, rfl⟩
          rw [hg]
          have HGj := Lib.hid hg
          clear hg
          have hkl : p.kps.length ≤ 40 := HN.out.2.1
          by_cases hlt : j < p.kps.length
          · obtain ⟨b1, off1, h1, hb1, hc⟩ := RdK.at_ (NU.out.rd).kps (by omega)
            obtain ⟨y, hy⟩ : ∃ y, p.kps[j]? = some y := ⟨_, List.getElem?_eq_getElem hlt⟩
            have hI : (j : Int) < (p.kps.length : Int) := by omega
            rw [h1] at c19
            have i4 : U2.cell? ⟨b1, off1 + j * 8 + 4, none⟩ = some (.int .u8 y.phase) := (hc j y hy).c4
            have HY := Lib.hid hy
            clear hc hy
            obtain ⟨bt, hbt⟩ : ∃ b, goesI y.phase = b := ⟨_, rfl⟩
            have HMy := Lib.hid hbt
            clear hbt
            have hgl : g ≤ 40 := by rw [← HGj.out]; have h9 := kpGo_le p.kps j; have h8 := HN.out; omega
            have HGl := Lib.hid hgl
            clear hgl
            have g1 : IntKind.i64.wrap ((g : Int) + 1) = (g : Int) + 1 := wrapS (by omega) (by have := HGl.out; omega)
            go_upto_region 8 with fail
            go_wp2_with fail
            refine (refGoes_any y.phase U2).mono ?_
            rintro e W6 ⟨rfl, hw6⟩
            have hw7 := hw6.symm
            subst hw7
            clear hw6
            rw [HMy.out]
            cases bt with
            | false =>
              go_wp2_with fail
              go_roundw
              case rel => exact ⟨j + 1, by rw [kpGo_next HY.out, HGj.out]; simp only [HMy.out, Bool.false_eq_true, if_false, Nat.add_zero], by go_num, by omega, by first | rfl | trivial⟩
              case measure => simp [intOf]; omega
            | true =>
              go_wp2_with fail
              go_roundw
              case rel => exact ⟨j + 1, by rw [kpGo_next HY.out, HGj.out]; simp only [HMy.out, if_true]; rfl, by go_num, by omega, by first | rfl | trivial⟩
              case measure => simp [intOf]; omega
          · have hje : j = p.kps.length := by omega
            subst hje
            have hge := HGj.out
            rw [List.take_length, HGn.out] at hge
            subst hge
            clear HGj hkl hj hlt
            have d3 : U2.cell? ⟨w.heap.size, 3, none⟩ = some (.int .i64 p.cf.f0) := X0.out.cell 3
            have a6 : U2.cell? ⟨U1.heap.size, 6, none⟩ = some (.int .i64 c1.want) := Y3.out.cell 6
            have g1 : IntKind.i64.wrap (c1.want - p.cf.f0) = m := by rw [show c1.want - p.cf.f0 = m from by have := SM.out; omega]; exact wrapS SM.out.2.2.2.2.2.2.1 (by have := SM.out; omega)
            go_upto_region 11 with fail
            clear a6 g1 c19
            go_cut [7] (fun s wx => s = .bool bo ∧ wx = U2)
            case first =>
              have d20 : U2.cell? ⟨w.heap.size, 20, none⟩ = some (.int .u8 p.rf.st) := X0.out.cell 20
              have d24 : U2.cell? ⟨w.heap.size, 24, none⟩ = some (.bool p.rf.paused) := X0.out.cell 24
              have a1 : U2.cell? ⟨U1.heap.size, 1, none⟩ = some (.int .i64 (c1.old : Int)) := Y3.out.cell 1
              by_cases h1 : p.rf.st = 1
              · have H1 := Lib.hid h1
                rw [h1] at d20
                clear h1
                cases hpa : p.rf.paused with
                | true =>
                  rw [hpa] at d24
                  have ho : bo = false := by rw [← HBo.out]; simp [goOn, hpa]
                  clear hpa
                  subst ho
                  go_wp2_with fail
                  go_meet
                  exact ⟨rfl, rfl⟩
                | false =>
                  rw [hpa] at d24
                  have HPa := Lib.hid hpa
                  clear hpa
                  rcases (by omega : c1.old = 0 ∨ 0 < c1.old) with h0 | h0
                  · rw [h0] at a1
                    have ho : bo = false := by rw [← HBo.out]; simp [goOn, ← HOd.out, h0]
                    clear h0
                    subst ho
                    go_wp2_with fail
                    go_meet
                    exact ⟨rfl, rfl⟩
                  · have ho : bo = true := by rw [← HBo.out]; simp [goOn, ← HOd.out, h0, H1.out, HPa.out]
                    have h0i : (0 : Int) < (c1.old : Int) := by omega
                    have H0 := Lib.hid h0
                    clear h0
                    subst ho
                    go_wp2_with fail
                    go_meet
                    exact ⟨by simp [H0.out], rfl⟩
              · have ho : bo = false := by rw [← HBo.out]; simp [goOn, h1]
                subst ho
                go_wp2_with fail
                go_meet
                exact ⟨rfl, rfl⟩
            case rest =>
              obtain ⟨rfl, hwx⟩ := hcut
              have hwy := hwx.symm
              subst hwy
              clear hwx d3
              have Hw1 := Lib.hid (show IntKind.i64.wrap ((c1.st : Int) + (c1.warm : Int)) = (c1.st : Int) + (c1.warm : Int) from wrapS (by omega) (by have := SM.out; omega))
              have Hw2 := Lib.hid (show IntKind.i64.wrap ((c1.st : Int) + (c1.warm : Int) + (gn : Int)) = (c1.all : Int) from by rw [show (c1.st : Int) + (c1.warm : Int) + (gn : Int) = (c1.all : Int) from by have := SM.out; omega]; exact wrapS (by omega) (by have := SM.out; omega))
              have Hw3 := Lib.hid (show IntKind.i64.wrap ((p.its.length : Int) + (p.kps.length : Int)) = (c1.all : Int) from by rw [show (p.its.length : Int) + (p.kps.length : Int) = (c1.all : Int) from by have := SM.out; omega]; exact wrapS (by omega) (by have := SM.out; omega))
              have Hw4 := Lib.hid (show IntKind.i64.wrap ((c1.all : Int) - (gn : Int)) = (c1.all : Int) - (gn : Int) from wrapS (by have := SM.out; omega) (by have := SM.out; omega))
              have Hl1 := Lib.hid (show ¬ ((c1.st : Int) < (c1.serve : Int)) from by have := SM.out; omega)
              have Hl2 := Lib.hid (show ¬ ((c1.all : Int) - (gn : Int) < (c1.old : Int)) from by have := SM.out; omega)
              have Hl3 := Lib.hid (show c1.fl ≤ p.cf.f0 from by have := SM.out; omega)
              have Hl4 := Lib.hid (show c1.want ≤ c1.bd from by have := SM.out; omega)
              cases bo with
              | true =>
                have hmv : m = p.cf.f2 := by rw [← HM.out]; rfl
                subst hmv
                go_upto_region 12 with fail
                have HL : Hid (∀ V', Below U2.heap.size U2 V' → Whole V' w.heap.size 30 (brC p a) ∧ V'.cell? ⟨w.heap.size, 3, none⟩ = some (.int .i64 p.cf.f0) ∧ V'.cell? ⟨w.heap.size, 5, none⟩ = some (.int .i64 p.cf.f2) ∧ V'.cell? ⟨w.heap.size, 18, none⟩ = some (.slice a.A p.its.length a.c) ∧ V'.cell? ⟨w.heap.size, 19, none⟩ = some (.slice a.B p.kps.length a.d) ∧ V'.cell? ⟨U1.heap.size, 1, none⟩ = some (.int .i64 ((c1.old : Int))) ∧ V'.cell? ⟨U1.heap.size, 2, none⟩ = some (.int .i64 ((c1.st : Int))) ∧ V'.cell? ⟨U1.heap.size, 3, none⟩ = some (.int .i64 ((c1.warm : Int))) ∧ V'.cell? ⟨U1.heap.size, 4, none⟩ = some (.int .i64 ((c1.all : Int))) ∧ V'.cell? ⟨U1.heap.size, 5, none⟩ = some (.int .i64 ((c1.serve : Int))) ∧ V'.cell? ⟨U1.heap.size, 6, none⟩ = some (.int .i64 (c1.want)) ∧ V'.cell? ⟨U1.heap.size, 7, none⟩ = some (.int .i64 (c1.fl)) ∧ V'.cell? ⟨U1.heap.size, 8, none⟩ = some (.int .i64 (c1.bd))) := Lib.hid (fun V' hV => ⟨X0.out.under hV, (X0.out.under hV).cell 3, (X0.out.under hV).cell 5, (X0.out.under hV).cell 18, (X0.out.under hV).cell 19, (Y3.out.under hV).cell 1, (Y3.out.under hV).cell 2, (Y3.out.under hV).cell 3, (Y3.out.under hV).cell 4, (Y3.out.under hV).cell 5, (Y3.out.under hV).cell 6, (Y3.out.under hV).cell 7, (Y3.out.under hV).cell 8⟩)
                have HBd := Lib.hid (show Below U2.heap.size U2 U2.drew from below_drewB (Below.refl _ _) 1)
                refine wp_region_T (ls := []) (T := (fun V' => Below U2.heap.size U2 V')) (by kernel_rfl) ?_
                refine takeP (i := 0) (v := ?_) rfl (by kernel_rfl) (by kernel_rfl) (by kernel_rfl) (by kernel_rfl) (fun _ _ _ h => h) (by rfl) ?_ (fun _ => HBd.out) ?_
                rotate_left
                · intro V'; go_simp <;> with_reducible rfl
                simp only [Act.put, List.setIfInBounds_toArray, List.set_cons_zero, List.set_cons_succ]
                refine takeT (i := 1) (v := ?_) rfl (by kernel_rfl) (by kernel_rfl) (by kernel_rfl) (by kernel_rfl) (fun _ _ _ h => h) (by rfl) ?_ HBd.out ?_
                rotate_left
                · intro V' hV; obtain ⟨y0, y1, y2, y3, y4, y5, y6, y7, y8, y9, y10, y11, y12⟩ := HL.out V' hV; go_simp <;> with_reducible rfl
                simp only [Act.put, List.setIfInBounds_toArray, List.set_cons_zero, List.set_cons_succ]
                refine takeP (i := 2) (v := ?_) rfl (by kernel_rfl) (by kernel_rfl) (by kernel_rfl) (by kernel_rfl) (fun _ _ _ h => h) (by rfl) ?_ (fun _ => HBd.out) ?_
                rotate_left
                · intro V'; go_simp <;> with_reducible rfl
                simp only [Act.put, List.setIfInBounds_toArray, List.set_cons_zero, List.set_cons_succ]
                refine takeT (i := 3) (v := ?_) rfl (by kernel_rfl) (by kernel_rfl) (by kernel_rfl) (by kernel_rfl) (fun _ _ _ h => h) (by rfl) ?_ HBd.out ?_
                rotate_left
                · intro V' hV; obtain ⟨y0, y1, y2, y3, y4, y5, y6, y7, y8, y9, y10, y11, y12⟩ := HL.out V' hV; go_simp <;> with_reducible rfl
                simp only [Act.put, List.setIfInBounds_toArray, List.set_cons_zero, List.set_cons_succ]
                refine takeT (i := 4) (v := .int .i64 ((c1.st : Int) + (c1.warm : Int))) rfl (by kernel_rfl) (by kernel_rfl) (by kernel_rfl) (by kernel_rfl) (fun _ _ _ h => h) (by rfl) ?_ HBd.out ?_
                · intro V' hV; obtain ⟨y0, y1, y2, y3, y4, y5, y6, y7, y8, y9, y10, y11, y12⟩ := HL.out V' hV; have h9 := Hw1.out; go_simp <;> with_reducible rfl
                simp only [Act.put, List.setIfInBounds_toArray, List.set_cons_zero, List.set_cons_succ]
                refine takeP (i := 5) (v := ?_) rfl (by kernel_rfl) (by kernel_rfl) (by kernel_rfl) (by kernel_rfl) (fun _ _ _ h => h) (by rfl) ?_ (fun _ => HBd.out) ?_
                rotate_left
                · intro V'; go_simp <;> with_reducible rfl
                simp only [Act.put, List.setIfInBounds_toArray, List.set_cons_zero, List.set_cons_succ]
                refine takeT (i := 6) (v := .int .i64 ((c1.all : Int))) rfl (by kernel_rfl) (by kernel_rfl) (by kernel_rfl) (by kernel_rfl) (fun _ _ _ h => h) (by rfl) ?_ HBd.out ?_
                · intro V' hV; obtain ⟨y0, y1, y2, y3, y4, y5, y6, y7, y8, y9, y10, y11, y12⟩ := HL.out V' hV; have h9 := Hw2.out; go_simp <;> with_reducible rfl
                simp only [Act.put, List.setIfInBounds_toArray, List.set_cons_zero, List.set_cons_succ]
                refine takeP (i := 7) (v := ?_) rfl (by kernel_rfl) (by kernel_rfl) (by kernel_rfl) (by kernel_rfl) (fun _ _ _ h => h) (by rfl) ?_ (fun _ => HBd.out) ?_
                rotate_left
                · intro V'; go_simp <;> with_reducible rfl
                simp only [Act.put, List.setIfInBounds_toArray, List.set_cons_zero, List.set_cons_succ]
                refine takeT (i := 8) (v := ?_) rfl (by kernel_rfl) (by kernel_rfl) (by kernel_rfl) (by kernel_rfl) (fun _ _ _ h => h) (by rfl) ?_ HBd.out ?_
                rotate_left
                · intro V' hV; obtain ⟨y0, y1, y2, y3, y4, y5, y6, y7, y8, y9, y10, y11, y12⟩ := HL.out V' hV; go_simp <;> with_reducible rfl
                simp only [Act.put, List.setIfInBounds_toArray, List.set_cons_zero, List.set_cons_succ]
                refine takeT (i := 9) (v := .bool false) rfl (by kernel_rfl) (by kernel_rfl) (by kernel_rfl) (by kernel_rfl) (fun _ _ _ h => h) (by rfl) ?_ HBd.out ?_
                · intro V' hV; obtain ⟨y0, y1, y2, y3, y4, y5, y6, y7, y8, y9, y10, y11, y12⟩ := HL.out V' hV; go_simp
                simp only [Act.put, List.setIfInBounds_toArray, List.set_cons_zero, List.set_cons_succ]
                refine takeP (i := 10) (v := ?_) rfl (by kernel_rfl) (by kernel_rfl) (by kernel_rfl) (by kernel_rfl) (fun _ _ _ h => h) (by rfl) ?_ (fun _ => HBd.out) ?_
                rotate_left
                · intro V'; go_simp <;> with_reducible rfl
                simp only [Act.put, List.setIfInBounds_toArray, List.set_cons_zero, List.set_cons_succ]
                refine takeP (i := 11) (v := ?_) rfl (by kernel_rfl) (by kernel_rfl) (by kernel_rfl) (by kernel_rfl) (fun _ _ _ h => h) (by rfl) ?_ (fun _ => HBd.out) ?_
                rotate_left
                · intro V'; go_simp <;> with_reducible rfl
                simp only [Act.put, List.setIfInBounds_toArray, List.set_cons_zero, List.set_cons_succ]
                refine takeT (i := 12) (v := ?_) rfl (by kernel_rfl) (by kernel_rfl) (by kernel_rfl) (by kernel_rfl) (fun _ _ _ h => h) (by rfl) ?_ HBd.out ?_
                rotate_left
                · intro V' hV; obtain ⟨y0, y1, y2, y3, y4, y5, y6, y7, y8, y9, y10, y11, y12⟩ := HL.out V' hV; go_simp <;> with_reducible rfl
                simp only [Act.put, List.setIfInBounds_toArray, List.set_cons_zero, List.set_cons_succ]
                refine takeP (i := 13) (v := ?_) rfl (by kernel_rfl) (by kernel_rfl) (by kernel_rfl) (by kernel_rfl) (fun _ _ _ h => h) (by rfl) ?_ (fun _ => HBd.out) ?_
                rotate_left
                · intro V'; go_simp <;> with_reducible rfl
                simp only [Act.put, List.setIfInBounds_toArray, List.set_cons_zero, List.set_cons_succ]
                refine takeT (i := 14) (v := ?_) rfl (by kernel_rfl) (by kernel_rfl) (by kernel_rfl) (by kernel_rfl) (fun _ _ _ h => h) (by rfl) ?_ HBd.out ?_
                rotate_left
                · intro V' hV; obtain ⟨y0, y1, y2, y3, y4, y5, y6, y7, y8, y9, y10, y11, y12⟩ := HL.out V' hV; go_simp <;> with_reducible rfl
                simp only [Act.put, List.setIfInBounds_toArray, List.set_cons_zero, List.set_cons_succ]
                refine takeP (i := 15) (v := ?_) rfl (by kernel_rfl) (by kernel_rfl) (by kernel_rfl) (by kernel_rfl) (fun _ _ _ h => h) (by rfl) ?_ (fun _ => HBd.out) ?_
                rotate_left
                · intro V'; go_simp <;> with_reducible rfl
                simp only [Act.put, List.setIfInBounds_toArray, List.set_cons_zero, List.set_cons_succ]
                refine takeP (i := 16) (v := ?_) rfl (by kernel_rfl) (by kernel_rfl) (by kernel_rfl) (by kernel_rfl) (fun _ _ _ h => h) (by rfl) ?_ (fun _ => HBd.out) ?_
                rotate_left
                · intro V'; go_simp <;> with_reducible rfl
                simp only [Act.put, List.setIfInBounds_toArray, List.set_cons_zero, List.set_cons_succ]
                refine takeT (i := 17) (v := ?_) rfl (by kernel_rfl) (by kernel_rfl) (by kernel_rfl) (by kernel_rfl) (fun _ _ _ h => h) (by rfl) ?_ HBd.out ?_
                rotate_left
                · intro V' hV; obtain ⟨y0, y1, y2, y3, y4, y5, y6, y7, y8, y9, y10, y11, y12⟩ := HL.out V' hV; go_simp <;> with_reducible rfl
                simp only [Act.put, List.setIfInBounds_toArray, List.set_cons_zero, List.set_cons_succ]
                refine takeP (i := 18) (v := ?_) rfl (by kernel_rfl) (by kernel_rfl) (by kernel_rfl) (by kernel_rfl) (fun _ _ _ h => h) (by rfl) ?_ (fun _ => HBd.out) ?_
                rotate_left
                · intro V'; go_simp <;> with_reducible rfl
                simp only [Act.put, List.setIfInBounds_toArray, List.set_cons_zero, List.set_cons_succ]
                refine takeT (i := 19) (v := .int .i64 ((c1.all : Int))) rfl (by kernel_rfl) (by kernel_rfl) (by kernel_rfl) (by kernel_rfl) (fun _ _ _ h => h) (by rfl) ?_ HBd.out ?_
                · intro V' hV; obtain ⟨y0, y1, y2, y3, y4, y5, y6, y7, y8, y9, y10, y11, y12⟩ := HL.out V' hV; have h9 := Hw3.out; go_simp <;> with_reducible rfl
                simp only [Act.put, List.setIfInBounds_toArray, List.set_cons_zero, List.set_cons_succ]
                refine takeT (i := 20) (v := .bool false) rfl (by kernel_rfl) (by kernel_rfl) (by kernel_rfl) (by kernel_rfl) (fun _ _ _ h => h) (by rfl) ?_ HBd.out ?_
                · intro V' hV; obtain ⟨y0, y1, y2, y3, y4, y5, y6, y7, y8, y9, y10, y11, y12⟩ := HL.out V' hV; go_simp
                simp only [Act.put, List.setIfInBounds_toArray, List.set_cons_zero, List.set_cons_succ]
                refine takeP (i := 21) (v := ?_) rfl (by kernel_rfl) (by kernel_rfl) (by kernel_rfl) (by kernel_rfl) (fun _ _ _ h => h) (by rfl) ?_ (fun _ => HBd.out) ?_
                rotate_left
                · intro V'; go_simp <;> with_reducible rfl
                simp only [Act.put, List.setIfInBounds_toArray, List.set_cons_zero, List.set_cons_succ]
                refine takeP (i := 22) (v := ?_) rfl (by kernel_rfl) (by kernel_rfl) (by kernel_rfl) (by kernel_rfl) (fun _ _ _ h => h) (by rfl) ?_ (fun _ => HBd.out) ?_
                rotate_left
                · intro V'; go_simp <;> with_reducible rfl
                simp only [Act.put, List.setIfInBounds_toArray, List.set_cons_zero, List.set_cons_succ]
                refine takeT (i := 23) (v := brV p a) rfl (by kernel_rfl) (by kernel_rfl) (by kernel_rfl) (by kernel_rfl) (fun _ _ _ h => h) (by rfl) ?_ HBd.out ?_
                · intro V' hV; obtain ⟨y0, y1, y2, y3, y4, y5, y6, y7, y8, y9, y10, y11, y12⟩ := HL.out V' hV; exact exec_load_brain rfl y0
                simp only [Act.put, List.setIfInBounds_toArray, List.set_cons_zero, List.set_cons_succ]
                refine takeP (i := 26) (v := ?_) rfl (by kernel_rfl) (by kernel_rfl) (by kernel_rfl) (by kernel_rfl) (fun _ _ _ h => h) (by rfl) ?_ (fun _ => HBd.out) ?_
                rotate_left
                · intro V'; go_simp <;> with_reducible rfl
                simp only [Act.put, List.setIfInBounds_toArray, List.set_cons_zero, List.set_cons_succ]
                refine takeT (i := 27) (v := ?_) rfl (by kernel_rfl) (by kernel_rfl) (by kernel_rfl) (by kernel_rfl) (fun _ _ _ h => h) (by rfl) ?_ HBd.out ?_
                rotate_left
                · intro V' hV; obtain ⟨y0, y1, y2, y3, y4, y5, y6, y7, y8, y9, y10, y11, y12⟩ := HL.out V' hV; go_simp <;> with_reducible rfl
                simp only [Act.put, List.setIfInBounds_toArray, List.set_cons_zero, List.set_cons_succ]
                refine oneT (i := 24) rfl (by kernel_rfl) (by rfl) (fun K hK => ?_)
                go_simp
                refine (HC.out.zones p a U2.drew (NU.out.under HBd.out)).mono ?_
                rintro e U2_1 ⟨zA, zc, rfl, _, hb_⟩
                rw [HZl.out]
                have HB_1 := Lib.hid (show Below U2.heap.size U2 U2_1 from HBd.out.trans (hb_.mono HBd.out.size))
                clear hb_ HBd
                refine hK.out _ _ (fun _ => HB_1.out) ?_
                clear hK K
                refine takeP (i := 25) (v := ?_) rfl (by kernel_rfl) (by kernel_rfl) (by kernel_rfl) (by kernel_rfl) (fun _ _ _ h => h) (by rfl) ?_ (fun _ => HB_1.out) ?_
                rotate_left
                · intro V'; go_simp <;> with_reducible rfl
                simp only [Act.put, List.setIfInBounds_toArray, List.set_cons_zero, List.set_cons_succ]
                refine takeT (i := 28) (v := .bool false) rfl (by kernel_rfl) (by kernel_rfl) (by kernel_rfl) (by kernel_rfl) (fun _ _ _ h => h) (by rfl) ?_ HB_1.out ?_
                · intro V' hV; obtain ⟨y0, y1, y2, y3, y4, y5, y6, y7, y8, y9, y10, y11, y12⟩ := HL.out V' hV; go_simp
                simp only [Act.put, List.setIfInBounds_toArray, List.set_cons_zero, List.set_cons_succ]
                refine takeP (i := 29) (v := ?_) rfl (by kernel_rfl) (by kernel_rfl) (by kernel_rfl) (by kernel_rfl) (fun _ _ _ h => h) (by rfl) ?_ (fun _ => HB_1.out) ?_
                rotate_left
                · intro V'; go_simp <;> with_reducible rfl
                simp only [Act.put, List.setIfInBounds_toArray, List.set_cons_zero, List.set_cons_succ]
                refine takeP (i := 30) (v := ?_) rfl (by kernel_rfl) (by kernel_rfl) (by kernel_rfl) (by kernel_rfl) (fun _ _ _ h => h) (by rfl) ?_ (fun _ => HB_1.out) ?_
                rotate_left
                · intro V'; go_simp <;> with_reducible rfl
                simp only [Act.put, List.setIfInBounds_toArray, List.set_cons_zero, List.set_cons_succ]
                refine takeP (i := 31) (v := ?_) rfl (by kernel_rfl) (by kernel_rfl) (by kernel_rfl) (by kernel_rfl) (fun _ _ _ h => h) (by rfl) ?_ (fun _ => HB_1.out) ?_
                rotate_left
                · intro V'; go_simp <;> with_reducible rfl
                simp only [Act.put, List.setIfInBounds_toArray, List.set_cons_zero, List.set_cons_succ]
                refine takeT (i := 32) (v := ?_) rfl (by kernel_rfl) (by kernel_rfl) (by kernel_rfl) (by kernel_rfl) (fun _ _ _ h => h) (by rfl) ?_ HB_1.out ?_
                rotate_left
                · intro V' hV; obtain ⟨y0, y1, y2, y3, y4, y5, y6, y7, y8, y9, y10, y11, y12⟩ := HL.out V' hV; go_simp <;> with_reducible rfl
                simp only [Act.put, List.setIfInBounds_toArray, List.set_cons_zero, List.set_cons_succ]
                refine takeP (i := 33) (v := ?_) rfl (by kernel_rfl) (by kernel_rfl) (by kernel_rfl) (by kernel_rfl) (fun _ _ _ h => h) (by rfl) ?_ (fun _ => HB_1.out) ?_
                rotate_left
                · intro V'; go_simp <;> with_reducible rfl
                simp only [Act.put, List.setIfInBounds_toArray, List.set_cons_zero, List.set_cons_succ]
                refine takeT (i := 34) (v := ?_) rfl (by kernel_rfl) (by kernel_rfl) (by kernel_rfl) (by kernel_rfl) (fun _ _ _ h => h) (by rfl) ?_ HB_1.out ?_
                rotate_left
                · intro V' hV; obtain ⟨y0, y1, y2, y3, y4, y5, y6, y7, y8, y9, y10, y11, y12⟩ := HL.out V' hV; go_simp <;> with_reducible rfl
                simp only [Act.put, List.setIfInBounds_toArray, List.set_cons_zero, List.set_cons_succ]
                refine takeT (i := 35) (v := .bool false) rfl (by kernel_rfl) (by kernel_rfl) (by kernel_rfl) (by kernel_rfl) (fun _ _ _ h => h) (by rfl) ?_ HB_1.out ?_
                · intro V' hV; obtain ⟨y0, y1, y2, y3, y4, y5, y6, y7, y8, y9, y10, y11, y12⟩ := HL.out V' hV; have h9 := Hl1.out; go_simp
                simp only [Act.put, List.setIfInBounds_toArray, List.set_cons_zero, List.set_cons_succ]
                refine takeP (i := 36) (v := ?_) rfl (by kernel_rfl) (by kernel_rfl) (by kernel_rfl) (by kernel_rfl) (fun _ _ _ h => h) (by rfl) ?_ (fun _ => HB_1.out) ?_
                rotate_left
                · intro V'; go_simp <;> with_reducible rfl
                simp only [Act.put, List.setIfInBounds_toArray, List.set_cons_zero, List.set_cons_succ]
                refine takeP (i := 37) (v := ?_) rfl (by kernel_rfl) (by kernel_rfl) (by kernel_rfl) (by kernel_rfl) (fun _ _ _ h => h) (by rfl) ?_ (fun _ => HB_1.out) ?_
                rotate_left
                · intro V'; go_simp <;> with_reducible rfl
                simp only [Act.put, List.setIfInBounds_toArray, List.set_cons_zero, List.set_cons_succ]
                refine takeP (i := 38) (v := ?_) rfl (by kernel_rfl) (by kernel_rfl) (by kernel_rfl) (by kernel_rfl) (fun _ _ _ h => h) (by rfl) ?_ (fun _ => HB_1.out) ?_
                rotate_left
                · intro V'; go_simp <;> with_reducible rfl
                simp only [Act.put, List.setIfInBounds_toArray, List.set_cons_zero, List.set_cons_succ]
                refine takeT (i := 39) (v := ?_) rfl (by kernel_rfl) (by kernel_rfl) (by kernel_rfl) (by kernel_rfl) (fun _ _ _ h => h) (by rfl) ?_ HB_1.out ?_
                rotate_left
                · intro V' hV; obtain ⟨y0, y1, y2, y3, y4, y5, y6, y7, y8, y9, y10, y11, y12⟩ := HL.out V' hV; go_simp <;> with_reducible rfl
                simp only [Act.put, List.setIfInBounds_toArray, List.set_cons_zero, List.set_cons_succ]
                refine takeP (i := 40) (v := ?_) rfl (by kernel_rfl) (by kernel_rfl) (by kernel_rfl) (by kernel_rfl) (fun _ _ _ h => h) (by rfl) ?_ (fun _ => HB_1.out) ?_
                rotate_left
                · intro V'; go_simp <;> with_reducible rfl
                simp only [Act.put, List.setIfInBounds_toArray, List.set_cons_zero, List.set_cons_succ]
                refine takeT (i := 41) (v := ?_) rfl (by kernel_rfl) (by kernel_rfl) (by kernel_rfl) (by kernel_rfl) (fun _ _ _ h => h) (by rfl) ?_ HB_1.out ?_
                rotate_left
                · intro V' hV; obtain ⟨y0, y1, y2, y3, y4, y5, y6, y7, y8, y9, y10, y11, y12⟩ := HL.out V' hV; go_simp <;> with_reducible rfl
                simp only [Act.put, List.setIfInBounds_toArray, List.set_cons_zero, List.set_cons_succ]
                refine takeP (i := 42) (v := ?_) rfl (by kernel_rfl) (by kernel_rfl) (by kernel_rfl) (by kernel_rfl) (fun _ _ _ h => h) (by rfl) ?_ (fun _ => HB_1.out) ?_
                rotate_left
                · intro V'; go_simp <;> with_reducible rfl
                simp only [Act.put, List.setIfInBounds_toArray, List.set_cons_zero, List.set_cons_succ]
                refine takeT (i := 43) (v := .int .i64 ((c1.all : Int) - (gn : Int))) rfl (by kernel_rfl) (by kernel_rfl) (by kernel_rfl) (by kernel_rfl) (fun _ _ _ h => h) (by rfl) ?_ HB_1.out ?_
                · intro V' hV; obtain ⟨y0, y1, y2, y3, y4, y5, y6, y7, y8, y9, y10, y11, y12⟩ := HL.out V' hV; have h9 := Hw4.out; go_simp <;> with_reducible rfl
                simp only [Act.put, List.setIfInBounds_toArray, List.set_cons_zero, List.set_cons_succ]
                refine takeT (i := 44) (v := .bool false) rfl (by kernel_rfl) (by kernel_rfl) (by kernel_rfl) (by kernel_rfl) (fun _ _ _ h => h) (by rfl) ?_ HB_1.out ?_
                · intro V' hV; obtain ⟨y0, y1, y2, y3, y4, y5, y6, y7, y8, y9, y10, y11, y12⟩ := HL.out V' hV; have h9 := Hl2.out; go_simp
                simp only [Act.put, List.setIfInBounds_toArray, List.set_cons_zero, List.set_cons_succ]
                refine takeP (i := 45) (v := ?_) rfl (by kernel_rfl) (by kernel_rfl) (by kernel_rfl) (by kernel_rfl) (fun _ _ _ h => h) (by rfl) ?_ (fun _ => HB_1.out) ?_
                rotate_left
                · intro V'; go_simp <;> with_reducible rfl
                simp only [Act.put, List.setIfInBounds_toArray, List.set_cons_zero, List.set_cons_succ]
                refine takeP (i := 46) (v := ?_) rfl (by kernel_rfl) (by kernel_rfl) (by kernel_rfl) (by kernel_rfl) (fun _ _ _ h => h) (by rfl) ?_ (fun _ => HB_1.out) ?_
                rotate_left
                · intro V'; go_simp <;> with_reducible rfl
                simp only [Act.put, List.setIfInBounds_toArray, List.set_cons_zero, List.set_cons_succ]
                refine takeP (i := 47) (v := ?_) rfl (by kernel_rfl) (by kernel_rfl) (by kernel_rfl) (by kernel_rfl) (fun _ _ _ h => h) (by rfl) ?_ (fun _ => HB_1.out) ?_
                rotate_left
                · intro V'; go_simp <;> with_reducible rfl
                simp only [Act.put, List.setIfInBounds_toArray, List.set_cons_zero, List.set_cons_succ]
                refine takeP (i := 48) (v := ?_) rfl (by kernel_rfl) (by kernel_rfl) (by kernel_rfl) (by kernel_rfl) (fun _ _ _ h => h) (by rfl) ?_ (fun _ => HB_1.out) ?_
                rotate_left
                · intro V'; go_simp <;> with_reducible rfl
                simp only [Act.put, List.setIfInBounds_toArray, List.set_cons_zero, List.set_cons_succ]
                refine takeP (i := 49) (v := ?_) rfl (by kernel_rfl) (by kernel_rfl) (by kernel_rfl) (by kernel_rfl) (fun _ _ _ h => h) (by rfl) ?_ (fun _ => HB_1.out) ?_
                rotate_left
                · intro V'; go_simp <;> with_reducible rfl
                simp only [Act.put, List.setIfInBounds_toArray, List.set_cons_zero, List.set_cons_succ]
                refine takeP (i := 50) (v := ?_) rfl (by kernel_rfl) (by kernel_rfl) (by kernel_rfl) (by kernel_rfl) (fun _ _ _ h => h) (by rfl) ?_ (fun _ => HB_1.out) ?_
                rotate_left
                · intro V'; go_simp <;> with_reducible rfl
                simp only [Act.put, List.setIfInBounds_toArray, List.set_cons_zero, List.set_cons_succ]
                refine takeP (i := 51) (v := ?_) rfl (by kernel_rfl) (by kernel_rfl) (by kernel_rfl) (by kernel_rfl) (fun _ _ _ h => h) (by rfl) ?_ (fun _ => HB_1.out) ?_
                rotate_left
                · intro V'; go_simp <;> with_reducible rfl
                simp only [Act.put, List.setIfInBounds_toArray, List.set_cons_zero, List.set_cons_succ]
                refine takeT (i := 52) (v := ?_) rfl (by kernel_rfl) (by kernel_rfl) (by kernel_rfl) (by kernel_rfl) (fun _ _ _ h => h) (by rfl) ?_ HB_1.out ?_
                rotate_left
                · intro V' hV; obtain ⟨y0, y1, y2, y3, y4, y5, y6, y7, y8, y9, y10, y11, y12⟩ := HL.out V' hV; go_simp <;> with_reducible rfl
                simp only [Act.put, List.setIfInBounds_toArray, List.set_cons_zero, List.set_cons_succ]
                refine takeT (i := 53) (v := .bool false) rfl (by kernel_rfl) (by kernel_rfl) (by kernel_rfl) (by kernel_rfl) (fun _ _ _ h => h) (by rfl) ?_ HB_1.out ?_
                · intro V' hV; obtain ⟨y0, y1, y2, y3, y4, y5, y6, y7, y8, y9, y10, y11, y12⟩ := HL.out V' hV; go_simp
                simp only [Act.put, List.setIfInBounds_toArray, List.set_cons_zero, List.set_cons_succ]
                refine takeP (i := 54) (v := ?_) rfl (by kernel_rfl) (by kernel_rfl) (by kernel_rfl) (by kernel_rfl) (fun _ _ _ h => h) (by rfl) ?_ (fun _ => HB_1.out) ?_
                rotate_left
                · intro V'; go_simp <;> with_reducible rfl
                simp only [Act.put, List.setIfInBounds_toArray, List.set_cons_zero, List.set_cons_succ]
                refine takeP (i := 55) (v := ?_) rfl (by kernel_rfl) (by kernel_rfl) (by kernel_rfl) (by kernel_rfl) (fun _ _ _ h => h) (by rfl) ?_ (fun _ => HB_1.out) ?_
                rotate_left
                · intro V'; go_simp <;> with_reducible rfl
                simp only [Act.put, List.setIfInBounds_toArray, List.set_cons_zero, List.set_cons_succ]
                refine takeP (i := 56) (v := ?_) rfl (by kernel_rfl) (by kernel_rfl) (by kernel_rfl) (by kernel_rfl) (fun _ _ _ h => h) (by rfl) ?_ (fun _ => HB_1.out) ?_
                rotate_left
                · intro V'; go_simp <;> with_reducible rfl
                simp only [Act.put, List.setIfInBounds_toArray, List.set_cons_zero, List.set_cons_succ]
                refine takeP (i := 57) (v := ?_) rfl (by kernel_rfl) (by kernel_rfl) (by kernel_rfl) (by kernel_rfl) (fun _ _ _ h => h) (by rfl) ?_ (fun _ => HB_1.out) ?_
                rotate_left
                · intro V'; go_simp <;> with_reducible rfl
                simp only [Act.put, List.setIfInBounds_toArray, List.set_cons_zero, List.set_cons_succ]
                refine takeP (i := 58) (v := ?_) rfl (by kernel_rfl) (by kernel_rfl) (by kernel_rfl) (by kernel_rfl) (fun _ _ _ h => h) (by rfl) ?_ (fun _ => HB_1.out) ?_
                rotate_left
                · intro V'; go_simp <;> with_reducible rfl
                simp only [Act.put, List.setIfInBounds_toArray, List.set_cons_zero, List.set_cons_succ]
                refine takeP (i := 59) (v := ?_) rfl (by kernel_rfl) (by kernel_rfl) (by kernel_rfl) (by kernel_rfl) (fun _ _ _ h => h) (by rfl) ?_ (fun _ => HB_1.out) ?_
                rotate_left
                · intro V'; go_simp <;> with_reducible rfl
                simp only [Act.put, List.setIfInBounds_toArray, List.set_cons_zero, List.set_cons_succ]
                refine skipT (i := 60) rfl (by kernel_rfl) (by kernel_rfl) (by kernel_rfl) (by kernel_rfl) (fun _ _ _ h => h) (by rfl) (fun _ => HB_1.out) ?_
                simp only [Act.put, List.setIfInBounds_toArray, List.set_cons_zero, List.set_cons_succ]
                refine skipT (i := 61) rfl (by kernel_rfl) (by kernel_rfl) (by kernel_rfl) (by kernel_rfl) (fun _ _ _ h => h) (by rfl) (fun _ => HB_1.out) ?_
                simp only [Act.put, List.setIfInBounds_toArray, List.set_cons_zero, List.set_cons_succ]
                refine takeP (i := 62) (v := ?_) rfl (by kernel_rfl) (by kernel_rfl) (by kernel_rfl) (by kernel_rfl) (fun _ _ _ h => h) (by rfl) ?_ (fun _ => HB_1.out) ?_
                rotate_left
                · intro V'; go_simp <;> with_reducible rfl
                simp only [Act.put, List.setIfInBounds_toArray, List.set_cons_zero, List.set_cons_succ]
                refine oneT (i := 63) rfl (by kernel_rfl) (by rfl) (fun K hK => ?_)
                go_simp
                refine hK.out _ _ (fun _ => HB_1.out) ?_
                clear hK K
                refine doneT (by kernel_rfl) ?_ _
                have HBU3 := Lib.hid (HBU2.out.trans (HB_1.out.mono HBU2.out.size))
                have X0_ := Lib.hid (X0.out.under HB_1.out)
                clear X0
                have X0 := X0_
                clear X0_
                have Y3_ := Lib.hid (Y3.out.under HB_1.out)
                clear Y3
                have Y3 := Y3_
                clear Y3_
                have T1_ := Lib.hid (T1.out.under HB_1.out)
                clear T1
                have T1 := T1_
                clear T1_
                have NU_ := Lib.hid (NU.out.under HB_1.out)
                clear NU
                have NU := NU_
                clear NU_
                clear HBU2 HB_1 HL
                go_upto_region 14 with fail
                have HL : Hid (∀ V', Below U2_1.heap.size U2_1 V' → Whole V' w.heap.size 30 (brC p a) ∧ V'.cell? ⟨w.heap.size, 3, none⟩ = some (.int .i64 p.cf.f0) ∧ V'.cell? ⟨w.heap.size, 5, none⟩ = some (.int .i64 p.cf.f2) ∧ V'.cell? ⟨w.heap.size, 18, none⟩ = some (.slice a.A p.its.length a.c) ∧ V'.cell? ⟨w.heap.size, 19, none⟩ = some (.slice a.B p.kps.length a.d) ∧ V'.cell? ⟨U1.heap.size, 1, none⟩ = some (.int .i64 ((c1.old : Int))) ∧ V'.cell? ⟨U1.heap.size, 2, none⟩ = some (.int .i64 ((c1.st : Int))) ∧ V'.cell? ⟨U1.heap.size, 3, none⟩ = some (.int .i64 ((c1.warm : Int))) ∧ V'.cell? ⟨U1.heap.size, 4, none⟩ = some (.int .i64 ((c1.all : Int))) ∧ V'.cell? ⟨U1.heap.size, 5, none⟩ = some (.int .i64 ((c1.serve : Int))) ∧ V'.cell? ⟨U1.heap.size, 6, none⟩ = some (.int .i64 (c1.want)) ∧ V'.cell? ⟨U1.heap.size, 7, none⟩ = some (.int .i64 (c1.fl)) ∧ V'.cell? ⟨U1.heap.size, 8, none⟩ = some (.int .i64 (c1.bd))) := Lib.hid (fun V' hV => ⟨X0.out.under hV, (X0.out.under hV).cell 3, (X0.out.under hV).cell 5, (X0.out.under hV).cell 18, (X0.out.under hV).cell 19, (Y3.out.under hV).cell 1, (Y3.out.under hV).cell 2, (Y3.out.under hV).cell 3, (Y3.out.under hV).cell 4, (Y3.out.under hV).cell 5, (Y3.out.under hV).cell 6, (Y3.out.under hV).cell 7, (Y3.out.under hV).cell 8⟩)
                have HBd := Lib.hid (show Below U2_1.heap.size U2_1 U2_1.drew from below_drewB (Below.refl _ _) 1)
                refine wp_region_T (ls := []) (T := (fun V' => Below U2_1.heap.size U2_1 V')) (by kernel_rfl) ?_
                refine takeP (i := 0) (v := ?_) rfl (by kernel_rfl) (by kernel_rfl) (by kernel_rfl) (by kernel_rfl) (fun _ _ _ h => h) (by rfl) ?_ (fun _ => HBd.out) ?_
                rotate_left
                · intro V'; go_simp <;> with_reducible rfl
                simp only [Act.put, List.setIfInBounds_toArray, List.set_cons_zero, List.set_cons_succ]
                refine takeT (i := 1) (v := ?_) rfl (by kernel_rfl) (by kernel_rfl) (by kernel_rfl) (by kernel_rfl) (fun _ _ _ h => h) (by rfl) ?_ HBd.out ?_
                rotate_left
                · intro V' hV; obtain ⟨y0, y1, y2, y3, y4, y5, y6, y7, y8, y9, y10, y11, y12⟩ := HL.out V' hV; go_simp <;> with_reducible rfl
                simp only [Act.put, List.setIfInBounds_toArray, List.set_cons_zero, List.set_cons_succ]
                refine takeP (i := 2) (v := ?_) rfl (by kernel_rfl) (by kernel_rfl) (by kernel_rfl) (by kernel_rfl) (fun _ _ _ h => h) (by rfl) ?_ (fun _ => HBd.out) ?_
                rotate_left
                · intro V'; go_simp <;> with_reducible rfl
                simp only [Act.put, List.setIfInBounds_toArray, List.set_cons_zero, List.set_cons_succ]
                refine takeP (i := 3) (v := ?_) rfl (by kernel_rfl) (by kernel_rfl) (by kernel_rfl) (by kernel_rfl) (fun _ _ _ h => h) (by rfl) ?_ (fun _ => HBd.out) ?_
                rotate_left
                · intro V'; go_simp <;> with_reducible rfl
                simp only [Act.put, List.setIfInBounds_toArray, List.set_cons_zero, List.set_cons_succ]
                refine takeT (i := 4) (v := ?_) rfl (by kernel_rfl) (by kernel_rfl) (by kernel_rfl) (by kernel_rfl) (fun _ _ _ h => h) (by rfl) ?_ HBd.out ?_
                rotate_left
                · intro V' hV; obtain ⟨y0, y1, y2, y3, y4, y5, y6, y7, y8, y9, y10, y11, y12⟩ := HL.out V' hV; go_simp <;> with_reducible rfl
                simp only [Act.put, List.setIfInBounds_toArray, List.set_cons_zero, List.set_cons_succ]
                refine takeT (i := 5) (v := .bool true) rfl (by kernel_rfl) (by kernel_rfl) (by kernel_rfl) (by kernel_rfl) (fun _ _ _ h => h) (by rfl) ?_ HBd.out ?_
                · intro V' hV; obtain ⟨y0, y1, y2, y3, y4, y5, y6, y7, y8, y9, y10, y11, y12⟩ := HL.out V' hV; have h9 := Hl3.out; go_simp
                simp only [Act.put, List.setIfInBounds_toArray, List.set_cons_zero, List.set_cons_succ]
                refine takeP (i := 6) (v := ?_) rfl (by kernel_rfl) (by kernel_rfl) (by kernel_rfl) (by kernel_rfl) (fun _ _ _ h => h) (by rfl) ?_ (fun _ => HBd.out) ?_
                rotate_left
                · intro V'; go_simp <;> with_reducible rfl
                simp only [Act.put, List.setIfInBounds_toArray, List.set_cons_zero, List.set_cons_succ]
                refine takeP (i := 7) (v := ?_) rfl (by kernel_rfl) (by kernel_rfl) (by kernel_rfl) (by kernel_rfl) (fun _ _ _ h => h) (by rfl) ?_ (fun _ => HBd.out) ?_
                rotate_left
                · intro V'; go_simp <;> with_reducible rfl
                simp only [Act.put, List.setIfInBounds_toArray, List.set_cons_zero, List.set_cons_succ]
                refine takeT (i := 8) (v := ?_) rfl (by kernel_rfl) (by kernel_rfl) (by kernel_rfl) (by kernel_rfl) (fun _ _ _ h => h) (by rfl) ?_ HBd.out ?_
                rotate_left
                · intro V' hV; obtain ⟨y0, y1, y2, y3, y4, y5, y6, y7, y8, y9, y10, y11, y12⟩ := HL.out V' hV; go_simp <;> with_reducible rfl
                simp only [Act.put, List.setIfInBounds_toArray, List.set_cons_zero, List.set_cons_succ]
                refine takeP (i := 9) (v := ?_) rfl (by kernel_rfl) (by kernel_rfl) (by kernel_rfl) (by kernel_rfl) (fun _ _ _ h => h) (by rfl) ?_ (fun _ => HBd.out) ?_
                rotate_left
                · intro V'; go_simp <;> with_reducible rfl
                simp only [Act.put, List.setIfInBounds_toArray, List.set_cons_zero, List.set_cons_succ]
                refine takeT (i := 10) (v := ?_) rfl (by kernel_rfl) (by kernel_rfl) (by kernel_rfl) (by kernel_rfl) (fun _ _ _ h => h) (by rfl) ?_ HBd.out ?_
                rotate_left
                · intro V' hV; obtain ⟨y0, y1, y2, y3, y4, y5, y6, y7, y8, y9, y10, y11, y12⟩ := HL.out V' hV; go_simp <;> with_reducible rfl
                simp only [Act.put, List.setIfInBounds_toArray, List.set_cons_zero, List.set_cons_succ]
                refine takeT (i := 11) (v := .bool true) rfl (by kernel_rfl) (by kernel_rfl) (by kernel_rfl) (by kernel_rfl) (fun _ _ _ h => h) (by rfl) ?_ HBd.out ?_
                · intro V' hV; obtain ⟨y0, y1, y2, y3, y4, y5, y6, y7, y8, y9, y10, y11, y12⟩ := HL.out V' hV; have h9 := Hl4.out; go_simp
                simp only [Act.put, List.setIfInBounds_toArray, List.set_cons_zero, List.set_cons_succ]
                refine takeP (i := 12) (v := ?_) rfl (by kernel_rfl) (by kernel_rfl) (by kernel_rfl) (by kernel_rfl) (fun _ _ _ h => h) (by rfl) ?_ (fun _ => HBd.out) ?_
                rotate_left
                · intro V'; go_simp <;> with_reducible rfl
                simp only [Act.put, List.setIfInBounds_toArray, List.set_cons_zero, List.set_cons_succ]
                refine takeP (i := 13) (v := ?_) rfl (by kernel_rfl) (by kernel_rfl) (by kernel_rfl) (by kernel_rfl) (fun _ _ _ h => h) (by rfl) ?_ (fun _ => HBd.out) ?_
                rotate_left
                · intro V'; go_simp <;> with_reducible rfl
                simp only [Act.put, List.setIfInBounds_toArray, List.set_cons_zero, List.set_cons_succ]
                refine takeT (i := 14) (v := brV p a) rfl (by kernel_rfl) (by kernel_rfl) (by kernel_rfl) (by kernel_rfl) (fun _ _ _ h => h) (by rfl) ?_ HBd.out ?_
                · intro V' hV; obtain ⟨y0, y1, y2, y3, y4, y5, y6, y7, y8, y9, y10, y11, y12⟩ := HL.out V' hV; exact exec_load_brain rfl y0
                simp only [Act.put, List.setIfInBounds_toArray, List.set_cons_zero, List.set_cons_succ]
                refine takeP (i := 16) (v := ?_) rfl (by kernel_rfl) (by kernel_rfl) (by kernel_rfl) (by kernel_rfl) (fun _ _ _ h => h) (by rfl) ?_ (fun _ => HBd.out) ?_
                rotate_left
                · intro V'; go_simp <;> with_reducible rfl
                simp only [Act.put, List.setIfInBounds_toArray, List.set_cons_zero, List.set_cons_succ]
                refine takeT (i := 17) (v := ?_) rfl (by kernel_rfl) (by kernel_rfl) (by kernel_rfl) (by kernel_rfl) (fun _ _ _ h => h) (by rfl) ?_ HBd.out ?_
                rotate_left
                · intro V' hV; obtain ⟨y0, y1, y2, y3, y4, y5, y6, y7, y8, y9, y10, y11, y12⟩ := HL.out V' hV; go_simp <;> with_reducible rfl
                simp only [Act.put, List.setIfInBounds_toArray, List.set_cons_zero, List.set_cons_succ]
                refine takeP (i := 18) (v := ?_) rfl (by kernel_rfl) (by kernel_rfl) (by kernel_rfl) (by kernel_rfl) (fun _ _ _ h => h) (by rfl) ?_ (fun _ => HBd.out) ?_
                rotate_left
                · intro V'; go_simp <;> with_reducible rfl
                simp only [Act.put, List.setIfInBounds_toArray, List.set_cons_zero, List.set_cons_succ]
                refine takeT (i := 19) (v := ?_) rfl (by kernel_rfl) (by kernel_rfl) (by kernel_rfl) (by kernel_rfl) (fun _ _ _ h => h) (by rfl) ?_ HBd.out ?_
                rotate_left
                · intro V' hV; obtain ⟨y0, y1, y2, y3, y4, y5, y6, y7, y8, y9, y10, y11, y12⟩ := HL.out V' hV; go_simp <;> with_reducible rfl
                simp only [Act.put, List.setIfInBounds_toArray, List.set_cons_zero, List.set_cons_succ]
                refine takeT (i := 20) (v := .bool (fullB p)) rfl (by kernel_rfl) (by kernel_rfl) (by kernel_rfl) (by kernel_rfl) (fun _ _ _ h => h) (by rfl) ?_ HBd.out ?_
                · intro V' hV; obtain ⟨y0, y1, y2, y3, y4, y5, y6, y7, y8, y9, y10, y11, y12⟩ := HL.out V' hV; have h9 := HFb.out; rw [h9]; go_simp
                simp only [Act.put, List.setIfInBounds_toArray, List.set_cons_zero, List.set_cons_succ]
                refine oneT (i := 15) rfl (by kernel_rfl) (by rfl) (fun K hK => ?_)
                go_simp
                refine (HC.out.full p a U2_1.drew (NU.out.under HBd.out)).mono ?_
                rintro e U2_1_1 ⟨rfl, hb_⟩
                have HB_1 := Lib.hid (show Below U2_1.heap.size U2_1 U2_1_1 from HBd.out.trans (hb_.mono HBd.out.size))
                clear hb_ HBd
                refine hK.out _ _ (fun _ => HB_1.out) ?_
                clear hK K
                refine takeT (i := 21) (v := .bool true) rfl (by kernel_rfl) (by kernel_rfl) (by kernel_rfl) (by kernel_rfl) (fun _ _ _ h => h) (by rfl) ?_ HB_1.out ?_
                · intro V' hV; obtain ⟨y0, y1, y2, y3, y4, y5, y6, y7, y8, y9, y10, y11, y12⟩ := HL.out V' hV; go_simp
                simp only [Act.put, List.setIfInBounds_toArray, List.set_cons_zero, List.set_cons_succ]
                refine takeP (i := 22) (v := ?_) rfl (by kernel_rfl) (by kernel_rfl) (by kernel_rfl) (by kernel_rfl) (fun _ _ _ h => h) (by rfl) ?_ (fun _ => HB_1.out) ?_
                rotate_left
                · intro V'; go_simp <;> with_reducible rfl
                simp only [Act.put, List.setIfInBounds_toArray, List.set_cons_zero, List.set_cons_succ]
                refine takeP (i := 23) (v := ?_) rfl (by kernel_rfl) (by kernel_rfl) (by kernel_rfl) (by kernel_rfl) (fun _ _ _ h => h) (by rfl) ?_ (fun _ => HB_1.out) ?_
                rotate_left
                · intro V'; go_simp <;> with_reducible rfl
                simp only [Act.put, List.setIfInBounds_toArray, List.set_cons_zero, List.set_cons_succ]
                refine oneT (i := 24) rfl (by kernel_rfl) (by rfl) (fun K hK => ?_)
                go_simp
                refine (wakes15_any HC.out U2_1_1 (T1.out.under HB_1.out)).mono ?_
                rintro e U2_1_2 ⟨rfl, hb_⟩
                have HB_2 := Lib.hid (show Below U2_1.heap.size U2_1 U2_1_2 from HB_1.out.trans (hb_.mono HB_1.out.size))
                clear hb_ HB_1
                refine hK.out _ _ (fun _ => HB_2.out) ?_
                clear hK K
                refine takeP (i := 25) (v := ?_) rfl (by kernel_rfl) (by kernel_rfl) (by kernel_rfl) (by kernel_rfl) (fun _ _ _ h => h) (by rfl) ?_ (fun _ => HB_2.out) ?_
                rotate_left
                · intro V'; go_simp <;> with_reducible rfl
                simp only [Act.put, List.setIfInBounds_toArray, List.set_cons_zero, List.set_cons_succ]
                refine oneT (i := 26) rfl (by kernel_rfl) (by rfl) (fun K hK => ?_)
                go_simp
                refine hK.out _ _ (fun _ => HB_2.out) ?_
                clear hK K
                refine doneT (by kernel_rfl) ?_ _
                have HBx := Lib.hid (HBU3.out.trans (HB_2.out.mono HBU3.out.size))
                go_wp2_with fail
                go_ret
                exact ⟨rfl, HBx.out⟩
              | false =>
                have hmv : m = 0 := by rw [← HM.out]; rfl
                subst hmv
                go_upto_region 12 with fail
                have HL : Hid (∀ V', Below U2.heap.size U2 V' → Whole V' w.heap.size 30 (brC p a) ∧ V'.cell? ⟨w.heap.size, 3, none⟩ = some (.int .i64 p.cf.f0) ∧ V'.cell? ⟨w.heap.size, 5, none⟩ = some (.int .i64 p.cf.f2) ∧ V'.cell? ⟨w.heap.size, 18, none⟩ = some (.slice a.A p.its.length a.c) ∧ V'.cell? ⟨w.heap.size, 19, none⟩ = some (.slice a.B p.kps.length a.d) ∧ V'.cell? ⟨U1.heap.size, 1, none⟩ = some (.int .i64 ((c1.old : Int))) ∧ V'.cell? ⟨U1.heap.size, 2, none⟩ = some (.int .i64 ((c1.st : Int))) ∧ V'.cell? ⟨U1.heap.size, 3, none⟩ = some (.int .i64 ((c1.warm : Int))) ∧ V'.cell? ⟨U1.heap.size, 4, none⟩ = some (.int .i64 ((c1.all : Int))) ∧ V'.cell? ⟨U1.heap.size, 5, none⟩ = some (.int .i64 ((c1.serve : Int))) ∧ V'.cell? ⟨U1.heap.size, 6, none⟩ = some (.int .i64 (c1.want)) ∧ V'.cell? ⟨U1.heap.size, 7, none⟩ = some (.int .i64 (c1.fl)) ∧ V'.cell? ⟨U1.heap.size, 8, none⟩ = some (.int .i64 (c1.bd))) := Lib.hid (fun V' hV => ⟨X0.out.under hV, (X0.out.under hV).cell 3, (X0.out.under hV).cell 5, (X0.out.under hV).cell 18, (X0.out.under hV).cell 19, (Y3.out.under hV).cell 1, (Y3.out.under hV).cell 2, (Y3.out.under hV).cell 3, (Y3.out.under hV).cell 4, (Y3.out.under hV).cell 5, (Y3.out.under hV).cell 6, (Y3.out.under hV).cell 7, (Y3.out.under hV).cell 8⟩)
                have HBd := Lib.hid (show Below U2.heap.size U2 U2.drew from below_drewB (Below.refl _ _) 1)
                refine wp_region_T (ls := []) (T := (fun V' => Below U2.heap.size U2 V')) (by kernel_rfl) ?_
                refine takeP (i := 0) (v := ?_) rfl (by kernel_rfl) (by kernel_rfl) (by kernel_rfl) (by kernel_rfl) (fun _ _ _ h => h) (by rfl) ?_ (fun _ => HBd.out) ?_
                rotate_left
                · intro V'; go_simp <;> with_reducible rfl
                simp only [Act.put, List.setIfInBounds_toArray, List.set_cons_zero, List.set_cons_succ]
                refine takeT (i := 1) (v := ?_) rfl (by kernel_rfl) (by kernel_rfl) (by kernel_rfl) (by kernel_rfl) (fun _ _ _ h => h) (by rfl) ?_ HBd.out ?_
                rotate_left
                · intro V' hV; obtain ⟨y0, y1, y2, y3, y4, y5, y6, y7, y8, y9, y10, y11, y12⟩ := HL.out V' hV; go_simp <;> with_reducible rfl
                simp only [Act.put, List.setIfInBounds_toArray, List.set_cons_zero, List.set_cons_succ]
                refine takeP (i := 2) (v := ?_) rfl (by kernel_rfl) (by kernel_rfl) (by kernel_rfl) (by kernel_rfl) (fun _ _ _ h => h) (by rfl) ?_ (fun _ => HBd.out) ?_
                rotate_left
                · intro V'; go_simp <;> with_reducible rfl
                simp only [Act.put, List.setIfInBounds_toArray, List.set_cons_zero, List.set_cons_succ]
                refine takeT (i := 3) (v := ?_) rfl (by kernel_rfl) (by kernel_rfl) (by kernel_rfl) (by kernel_rfl) (fun _ _ _ h => h) (by rfl) ?_ HBd.out ?_
                rotate_left
                · intro V' hV; obtain ⟨y0, y1, y2, y3, y4, y5, y6, y7, y8, y9, y10, y11, y12⟩ := HL.out V' hV; go_simp <;> with_reducible rfl
                simp only [Act.put, List.setIfInBounds_toArray, List.set_cons_zero, List.set_cons_succ]
                refine takeT (i := 4) (v := .int .i64 ((c1.st : Int) + (c1.warm : Int))) rfl (by kernel_rfl) (by kernel_rfl) (by kernel_rfl) (by kernel_rfl) (fun _ _ _ h => h) (by rfl) ?_ HBd.out ?_
                · intro V' hV; obtain ⟨y0, y1, y2, y3, y4, y5, y6, y7, y8, y9, y10, y11, y12⟩ := HL.out V' hV; have h9 := Hw1.out; go_simp <;> with_reducible rfl
                simp only [Act.put, List.setIfInBounds_toArray, List.set_cons_zero, List.set_cons_succ]
                refine takeP (i := 5) (v := ?_) rfl (by kernel_rfl) (by kernel_rfl) (by kernel_rfl) (by kernel_rfl) (fun _ _ _ h => h) (by rfl) ?_ (fun _ => HBd.out) ?_
                rotate_left
                · intro V'; go_simp <;> with_reducible rfl
                simp only [Act.put, List.setIfInBounds_toArray, List.set_cons_zero, List.set_cons_succ]
                refine takeT (i := 6) (v := .int .i64 ((c1.all : Int))) rfl (by kernel_rfl) (by kernel_rfl) (by kernel_rfl) (by kernel_rfl) (fun _ _ _ h => h) (by rfl) ?_ HBd.out ?_
                · intro V' hV; obtain ⟨y0, y1, y2, y3, y4, y5, y6, y7, y8, y9, y10, y11, y12⟩ := HL.out V' hV; have h9 := Hw2.out; go_simp <;> with_reducible rfl
                simp only [Act.put, List.setIfInBounds_toArray, List.set_cons_zero, List.set_cons_succ]
                refine takeP (i := 7) (v := ?_) rfl (by kernel_rfl) (by kernel_rfl) (by kernel_rfl) (by kernel_rfl) (fun _ _ _ h => h) (by rfl) ?_ (fun _ => HBd.out) ?_
                rotate_left
                · intro V'; go_simp <;> with_reducible rfl
                simp only [Act.put, List.setIfInBounds_toArray, List.set_cons_zero, List.set_cons_succ]
                refine takeT (i := 8) (v := ?_) rfl (by kernel_rfl) (by kernel_rfl) (by kernel_rfl) (by kernel_rfl) (fun _ _ _ h => h) (by rfl) ?_ HBd.out ?_
                rotate_left
                · intro V' hV; obtain ⟨y0, y1, y2, y3, y4, y5, y6, y7, y8, y9, y10, y11, y12⟩ := HL.out V' hV; go_simp <;> with_reducible rfl
                simp only [Act.put, List.setIfInBounds_toArray, List.set_cons_zero, List.set_cons_succ]
                refine takeT (i := 9) (v := .bool false) rfl (by kernel_rfl) (by kernel_rfl) (by kernel_rfl) (by kernel_rfl) (fun _ _ _ h => h) (by rfl) ?_ HBd.out ?_
                · intro V' hV; obtain ⟨y0, y1, y2, y3, y4, y5, y6, y7, y8, y9, y10, y11, y12⟩ := HL.out V' hV; go_simp
                simp only [Act.put, List.setIfInBounds_toArray, List.set_cons_zero, List.set_cons_succ]
                refine takeP (i := 10) (v := ?_) rfl (by kernel_rfl) (by kernel_rfl) (by kernel_rfl) (by kernel_rfl) (fun _ _ _ h => h) (by rfl) ?_ (fun _ => HBd.out) ?_
                rotate_left
                · intro V'; go_simp <;> with_reducible rfl
                simp only [Act.put, List.setIfInBounds_toArray, List.set_cons_zero, List.set_cons_succ]
                refine takeP (i := 11) (v := ?_) rfl (by kernel_rfl) (by kernel_rfl) (by kernel_rfl) (by kernel_rfl) (fun _ _ _ h => h) (by rfl) ?_ (fun _ => HBd.out) ?_
                rotate_left
                · intro V'; go_simp <;> with_reducible rfl
                simp only [Act.put, List.setIfInBounds_toArray, List.set_cons_zero, List.set_cons_succ]
                refine takeT (i := 12) (v := ?_) rfl (by kernel_rfl) (by kernel_rfl) (by kernel_rfl) (by kernel_rfl) (fun _ _ _ h => h) (by rfl) ?_ HBd.out ?_
                rotate_left
                · intro V' hV; obtain ⟨y0, y1, y2, y3, y4, y5, y6, y7, y8, y9, y10, y11, y12⟩ := HL.out V' hV; go_simp <;> with_reducible rfl
                simp only [Act.put, List.setIfInBounds_toArray, List.set_cons_zero, List.set_cons_succ]
                refine takeP (i := 13) (v := ?_) rfl (by kernel_rfl) (by kernel_rfl) (by kernel_rfl) (by kernel_rfl) (fun _ _ _ h => h) (by rfl) ?_ (fun _ => HBd.out) ?_
                rotate_left
                · intro V'; go_simp <;> with_reducible rfl
                simp only [Act.put, List.setIfInBounds_toArray, List.set_cons_zero, List.set_cons_succ]
                refine takeT (i := 14) (v := ?_) rfl (by kernel_rfl) (by kernel_rfl) (by kernel_rfl) (by kernel_rfl) (fun _ _ _ h => h) (by rfl) ?_ HBd.out ?_
                rotate_left
                · intro V' hV; obtain ⟨y0, y1, y2, y3, y4, y5, y6, y7, y8, y9, y10, y11, y12⟩ := HL.out V' hV; go_simp <;> with_reducible rfl
                simp only [Act.put, List.setIfInBounds_toArray, List.set_cons_zero, List.set_cons_succ]
                refine takeP (i := 15) (v := ?_) rfl (by kernel_rfl) (by kernel_rfl) (by kernel_rfl) (by kernel_rfl) (fun _ _ _ h => h) (by rfl) ?_ (fun _ => HBd.out) ?_
                rotate_left
                · intro V'; go_simp <;> with_reducible rfl
                simp only [Act.put, List.setIfInBounds_toArray, List.set_cons_zero, List.set_cons_succ]
                refine takeP (i := 16) (v := ?_) rfl (by kernel_rfl) (by kernel_rfl) (by kernel_rfl) (by kernel_rfl) (fun _ _ _ h => h) (by rfl) ?_ (fun _ => HBd.out) ?_
                rotate_left
                · intro V'; go_simp <;> with_reducible rfl
                simp only [Act.put, List.setIfInBounds_toArray, List.set_cons_zero, List.set_cons_succ]
                refine takeT (i := 17) (v := ?_) rfl (by kernel_rfl) (by kernel_rfl) (by kernel_rfl) (by kernel_rfl) (fun _ _ _ h => h) (by rfl) ?_ HBd.out ?_
                rotate_left
                · intro V' hV; obtain ⟨y0, y1, y2, y3, y4, y5, y6, y7, y8, y9, y10, y11, y12⟩ := HL.out V' hV; go_simp <;> with_reducible rfl
                simp only [Act.put, List.setIfInBounds_toArray, List.set_cons_zero, List.set_cons_succ]
                refine takeP (i := 18) (v := ?_) rfl (by kernel_rfl) (by kernel_rfl) (by kernel_rfl) (by kernel_rfl) (fun _ _ _ h => h) (by rfl) ?_ (fun _ => HBd.out) ?_
                rotate_left
                · intro V'; go_simp <;> with_reducible rfl
                simp only [Act.put, List.setIfInBounds_toArray, List.set_cons_zero, List.set_cons_succ]
                refine takeT (i := 19) (v := .int .i64 ((c1.all : Int))) rfl (by kernel_rfl) (by kernel_rfl) (by kernel_rfl) (by kernel_rfl) (fun _ _ _ h => h) (by rfl) ?_ HBd.out ?_
                · intro V' hV; obtain ⟨y0, y1, y2, y3, y4, y5, y6, y7, y8, y9, y10, y11, y12⟩ := HL.out V' hV; have h9 := Hw3.out; go_simp <;> with_reducible rfl
                simp only [Act.put, List.setIfInBounds_toArray, List.set_cons_zero, List.set_cons_succ]
                refine takeT (i := 20) (v := .bool false) rfl (by kernel_rfl) (by kernel_rfl) (by kernel_rfl) (by kernel_rfl) (fun _ _ _ h => h) (by rfl) ?_ HBd.out ?_
                · intro V' hV; obtain ⟨y0, y1, y2, y3, y4, y5, y6, y7, y8, y9, y10, y11, y12⟩ := HL.out V' hV; go_simp
                simp only [Act.put, List.setIfInBounds_toArray, List.set_cons_zero, List.set_cons_succ]
                refine takeP (i := 21) (v := ?_) rfl (by kernel_rfl) (by kernel_rfl) (by kernel_rfl) (by kernel_rfl) (fun _ _ _ h => h) (by rfl) ?_ (fun _ => HBd.out) ?_
                rotate_left
                · intro V'; go_simp <;> with_reducible rfl
                simp only [Act.put, List.setIfInBounds_toArray, List.set_cons_zero, List.set_cons_succ]
                refine takeP (i := 22) (v := ?_) rfl (by kernel_rfl) (by kernel_rfl) (by kernel_rfl) (by kernel_rfl) (fun _ _ _ h => h) (by rfl) ?_ (fun _ => HBd.out) ?_
                rotate_left
                · intro V'; go_simp <;> with_reducible rfl
                simp only [Act.put, List.setIfInBounds_toArray, List.set_cons_zero, List.set_cons_succ]
                refine takeT (i := 23) (v := brV p a) rfl (by kernel_rfl) (by kernel_rfl) (by kernel_rfl) (by kernel_rfl) (fun _ _ _ h => h) (by rfl) ?_ HBd.out ?_
                · intro V' hV; obtain ⟨y0, y1, y2, y3, y4, y5, y6, y7, y8, y9, y10, y11, y12⟩ := HL.out V' hV; exact exec_load_brain rfl y0
                simp only [Act.put, List.setIfInBounds_toArray, List.set_cons_zero, List.set_cons_succ]
                refine takeP (i := 26) (v := ?_) rfl (by kernel_rfl) (by kernel_rfl) (by kernel_rfl) (by kernel_rfl) (fun _ _ _ h => h) (by rfl) ?_ (fun _ => HBd.out) ?_
                rotate_left
                · intro V'; go_simp <;> with_reducible rfl
                simp only [Act.put, List.setIfInBounds_toArray, List.set_cons_zero, List.set_cons_succ]
                refine takeT (i := 27) (v := ?_) rfl (by kernel_rfl) (by kernel_rfl) (by kernel_rfl) (by kernel_rfl) (fun _ _ _ h => h) (by rfl) ?_ HBd.out ?_
                rotate_left
                · intro V' hV; obtain ⟨y0, y1, y2, y3, y4, y5, y6, y7, y8, y9, y10, y11, y12⟩ := HL.out V' hV; go_simp <;> with_reducible rfl
                simp only [Act.put, List.setIfInBounds_toArray, List.set_cons_zero, List.set_cons_succ]
                refine oneT (i := 24) rfl (by kernel_rfl) (by rfl) (fun K hK => ?_)
                go_simp
                refine (HC.out.zones p a U2.drew (NU.out.under HBd.out)).mono ?_
                rintro e U2_1 ⟨zA, zc, rfl, _, hb_⟩
                rw [HZl.out]
                have HB_1 := Lib.hid (show Below U2.heap.size U2 U2_1 from HBd.out.trans (hb_.mono HBd.out.size))
                clear hb_ HBd
                refine hK.out _ _ (fun _ => HB_1.out) ?_
                clear hK K
                refine takeP (i := 25) (v := ?_) rfl (by kernel_rfl) (by kernel_rfl) (by kernel_rfl) (by kernel_rfl) (fun _ _ _ h => h) (by rfl) ?_ (fun _ => HB_1.out) ?_
                rotate_left
                · intro V'; go_simp <;> with_reducible rfl
                simp only [Act.put, List.setIfInBounds_toArray, List.set_cons_zero, List.set_cons_succ]
                refine takeT (i := 28) (v := .bool false) rfl (by kernel_rfl) (by kernel_rfl) (by kernel_rfl) (by kernel_rfl) (fun _ _ _ h => h) (by rfl) ?_ HB_1.out ?_
                · intro V' hV; obtain ⟨y0, y1, y2, y3, y4, y5, y6, y7, y8, y9, y10, y11, y12⟩ := HL.out V' hV; go_simp
                simp only [Act.put, List.setIfInBounds_toArray, List.set_cons_zero, List.set_cons_succ]
                refine takeP (i := 29) (v := ?_) rfl (by kernel_rfl) (by kernel_rfl) (by kernel_rfl) (by kernel_rfl) (fun _ _ _ h => h) (by rfl) ?_ (fun _ => HB_1.out) ?_
                rotate_left
                · intro V'; go_simp <;> with_reducible rfl
                simp only [Act.put, List.setIfInBounds_toArray, List.set_cons_zero, List.set_cons_succ]
                refine takeP (i := 30) (v := ?_) rfl (by kernel_rfl) (by kernel_rfl) (by kernel_rfl) (by kernel_rfl) (fun _ _ _ h => h) (by rfl) ?_ (fun _ => HB_1.out) ?_
                rotate_left
                · intro V'; go_simp <;> with_reducible rfl
                simp only [Act.put, List.setIfInBounds_toArray, List.set_cons_zero, List.set_cons_succ]
                refine takeP (i := 31) (v := ?_) rfl (by kernel_rfl) (by kernel_rfl) (by kernel_rfl) (by kernel_rfl) (fun _ _ _ h => h) (by rfl) ?_ (fun _ => HB_1.out) ?_
                rotate_left
                · intro V'; go_simp <;> with_reducible rfl
                simp only [Act.put, List.setIfInBounds_toArray, List.set_cons_zero, List.set_cons_succ]
                refine takeT (i := 32) (v := ?_) rfl (by kernel_rfl) (by kernel_rfl) (by kernel_rfl) (by kernel_rfl) (fun _ _ _ h => h) (by rfl) ?_ HB_1.out ?_
                rotate_left
                · intro V' hV; obtain ⟨y0, y1, y2, y3, y4, y5, y6, y7, y8, y9, y10, y11, y12⟩ := HL.out V' hV; go_simp <;> with_reducible rfl
                simp only [Act.put, List.setIfInBounds_toArray, List.set_cons_zero, List.set_cons_succ]
                refine takeP (i := 33) (v := ?_) rfl (by kernel_rfl) (by kernel_rfl) (by kernel_rfl) (by kernel_rfl) (fun _ _ _ h => h) (by rfl) ?_ (fun _ => HB_1.out) ?_
                rotate_left
                · intro V'; go_simp <;> with_reducible rfl
                simp only [Act.put, List.setIfInBounds_toArray, List.set_cons_zero, List.set_cons_succ]
                refine takeT (i := 34) (v := ?_) rfl (by kernel_rfl) (by kernel_rfl) (by kernel_rfl) (by kernel_rfl) (fun _ _ _ h => h) (by rfl) ?_ HB_1.out ?_
                rotate_left
                · intro V' hV; obtain ⟨y0, y1, y2, y3, y4, y5, y6, y7, y8, y9, y10, y11, y12⟩ := HL.out V' hV; go_simp <;> with_reducible rfl
                simp only [Act.put, List.setIfInBounds_toArray, List.set_cons_zero, List.set_cons_succ]
                refine takeT (i := 35) (v := .bool false) rfl (by kernel_rfl) (by kernel_rfl) (by kernel_rfl) (by kernel_rfl) (fun _ _ _ h => h) (by rfl) ?_ HB_1.out ?_
                · intro V' hV; obtain ⟨y0, y1, y2, y3, y4, y5, y6, y7, y8, y9, y10, y11, y12⟩ := HL.out V' hV; have h9 := Hl1.out; go_simp
                simp only [Act.put, List.setIfInBounds_toArray, List.set_cons_zero, List.set_cons_succ]
                refine takeP (i := 36) (v := ?_) rfl (by kernel_rfl) (by kernel_rfl) (by kernel_rfl) (by kernel_rfl) (fun _ _ _ h => h) (by rfl) ?_ (fun _ => HB_1.out) ?_
                rotate_left
                · intro V'; go_simp <;> with_reducible rfl
                simp only [Act.put, List.setIfInBounds_toArray, List.set_cons_zero, List.set_cons_succ]
                refine takeP (i := 37) (v := ?_) rfl (by kernel_rfl) (by kernel_rfl) (by kernel_rfl) (by kernel_rfl) (fun _ _ _ h => h) (by rfl) ?_ (fun _ => HB_1.out) ?_
                rotate_left
                · intro V'; go_simp <;> with_reducible rfl
                simp only [Act.put, List.setIfInBounds_toArray, List.set_cons_zero, List.set_cons_succ]
                refine takeP (i := 38) (v := ?_) rfl (by kernel_rfl) (by kernel_rfl) (by kernel_rfl) (by kernel_rfl) (fun _ _ _ h => h) (by rfl) ?_ (fun _ => HB_1.out) ?_
                rotate_left
                · intro V'; go_simp <;> with_reducible rfl
                simp only [Act.put, List.setIfInBounds_toArray, List.set_cons_zero, List.set_cons_succ]
                refine takeT (i := 39) (v := ?_) rfl (by kernel_rfl) (by kernel_rfl) (by kernel_rfl) (by kernel_rfl) (fun _ _ _ h => h) (by rfl) ?_ HB_1.out ?_
                rotate_left
                · intro V' hV; obtain ⟨y0, y1, y2, y3, y4, y5, y6, y7, y8, y9, y10, y11, y12⟩ := HL.out V' hV; go_simp <;> with_reducible rfl
                simp only [Act.put, List.setIfInBounds_toArray, List.set_cons_zero, List.set_cons_succ]
                refine takeP (i := 40) (v := ?_) rfl (by kernel_rfl) (by kernel_rfl) (by kernel_rfl) (by kernel_rfl) (fun _ _ _ h => h) (by rfl) ?_ (fun _ => HB_1.out) ?_
                rotate_left
                · intro V'; go_simp <;> with_reducible rfl
                simp only [Act.put, List.setIfInBounds_toArray, List.set_cons_zero, List.set_cons_succ]
                refine takeT (i := 41) (v := ?_) rfl (by kernel_rfl) (by kernel_rfl) (by kernel_rfl) (by kernel_rfl) (fun _ _ _ h => h) (by rfl) ?_ HB_1.out ?_
                rotate_left
                · intro V' hV; obtain ⟨y0, y1, y2, y3, y4, y5, y6, y7, y8, y9, y10, y11, y12⟩ := HL.out V' hV; go_simp <;> with_reducible rfl
                simp only [Act.put, List.setIfInBounds_toArray, List.set_cons_zero, List.set_cons_succ]
                refine takeP (i := 42) (v := ?_) rfl (by kernel_rfl) (by kernel_rfl) (by kernel_rfl) (by kernel_rfl) (fun _ _ _ h => h) (by rfl) ?_ (fun _ => HB_1.out) ?_
                rotate_left
                · intro V'; go_simp <;> with_reducible rfl
                simp only [Act.put, List.setIfInBounds_toArray, List.set_cons_zero, List.set_cons_succ]
                refine takeT (i := 43) (v := .int .i64 ((c1.all : Int) - (gn : Int))) rfl (by kernel_rfl) (by kernel_rfl) (by kernel_rfl) (by kernel_rfl) (fun _ _ _ h => h) (by rfl) ?_ HB_1.out ?_
                · intro V' hV; obtain ⟨y0, y1, y2, y3, y4, y5, y6, y7, y8, y9, y10, y11, y12⟩ := HL.out V' hV; have h9 := Hw4.out; go_simp <;> with_reducible rfl
                simp only [Act.put, List.setIfInBounds_toArray, List.set_cons_zero, List.set_cons_succ]
                refine takeT (i := 44) (v := .bool false) rfl (by kernel_rfl) (by kernel_rfl) (by kernel_rfl) (by kernel_rfl) (fun _ _ _ h => h) (by rfl) ?_ HB_1.out ?_
                · intro V' hV; obtain ⟨y0, y1, y2, y3, y4, y5, y6, y7, y8, y9, y10, y11, y12⟩ := HL.out V' hV; have h9 := Hl2.out; go_simp
                simp only [Act.put, List.setIfInBounds_toArray, List.set_cons_zero, List.set_cons_succ]
                refine takeP (i := 45) (v := ?_) rfl (by kernel_rfl) (by kernel_rfl) (by kernel_rfl) (by kernel_rfl) (fun _ _ _ h => h) (by rfl) ?_ (fun _ => HB_1.out) ?_
                rotate_left
                · intro V'; go_simp <;> with_reducible rfl
                simp only [Act.put, List.setIfInBounds_toArray, List.set_cons_zero, List.set_cons_succ]
                refine takeP (i := 46) (v := ?_) rfl (by kernel_rfl) (by kernel_rfl) (by kernel_rfl) (by kernel_rfl) (fun _ _ _ h => h) (by rfl) ?_ (fun _ => HB_1.out) ?_
                rotate_left
                · intro V'; go_simp <;> with_reducible rfl
                simp only [Act.put, List.setIfInBounds_toArray, List.set_cons_zero, List.set_cons_succ]
                refine takeP (i := 47) (v := ?_) rfl (by kernel_rfl) (by kernel_rfl) (by kernel_rfl) (by kernel_rfl) (fun _ _ _ h => h) (by rfl) ?_ (fun _ => HB_1.out) ?_
                rotate_left
                · intro V'; go_simp <;> with_reducible rfl
                simp only [Act.put, List.setIfInBounds_toArray, List.set_cons_zero, List.set_cons_succ]
                refine takeP (i := 48) (v := ?_) rfl (by kernel_rfl) (by kernel_rfl) (by kernel_rfl) (by kernel_rfl) (fun _ _ _ h => h) (by rfl) ?_ (fun _ => HB_1.out) ?_
                rotate_left
                · intro V'; go_simp <;> with_reducible rfl
                simp only [Act.put, List.setIfInBounds_toArray, List.set_cons_zero, List.set_cons_succ]
                refine skipT (i := 49) rfl (by kernel_rfl) (by kernel_rfl) (by kernel_rfl) (by kernel_rfl) (fun _ _ _ h => h) (by rfl) (fun _ => HB_1.out) ?_
                simp only [Act.put, List.setIfInBounds_toArray, List.set_cons_zero, List.set_cons_succ]
                refine skipT (i := 50) rfl (by kernel_rfl) (by kernel_rfl) (by kernel_rfl) (by kernel_rfl) (fun _ _ _ h => h) (by rfl) (fun _ => HB_1.out) ?_
                simp only [Act.put, List.setIfInBounds_toArray, List.set_cons_zero, List.set_cons_succ]
                refine skipT (i := 51) rfl (by kernel_rfl) (by kernel_rfl) (by kernel_rfl) (by kernel_rfl) (fun _ _ _ h => h) (by rfl) (fun _ => HB_1.out) ?_
                simp only [Act.put, List.setIfInBounds_toArray, List.set_cons_zero, List.set_cons_succ]
                refine skipT (i := 52) rfl (by kernel_rfl) (by kernel_rfl) (by kernel_rfl) (by kernel_rfl) (fun _ _ _ h => h) (by rfl) (fun _ => HB_1.out) ?_
                simp only [Act.put, List.setIfInBounds_toArray, List.set_cons_zero, List.set_cons_succ]
                refine skipT (i := 53) rfl (by kernel_rfl) (by kernel_rfl) (by kernel_rfl) (by kernel_rfl) (fun _ _ _ h => h) (by rfl) (fun _ => HB_1.out) ?_
                simp only [Act.put, List.setIfInBounds_toArray, List.set_cons_zero, List.set_cons_succ]
                refine takeP (i := 54) (v := ?_) rfl (by kernel_rfl) (by kernel_rfl) (by kernel_rfl) (by kernel_rfl) (fun _ _ _ h => h) (by rfl) ?_ (fun _ => HB_1.out) ?_
                rotate_left
                · intro V'; go_simp <;> with_reducible rfl
                simp only [Act.put, List.setIfInBounds_toArray, List.set_cons_zero, List.set_cons_succ]
                refine takeP (i := 55) (v := ?_) rfl (by kernel_rfl) (by kernel_rfl) (by kernel_rfl) (by kernel_rfl) (fun _ _ _ h => h) (by rfl) ?_ (fun _ => HB_1.out) ?_
                rotate_left
                · intro V'; go_simp <;> with_reducible rfl
                simp only [Act.put, List.setIfInBounds_toArray, List.set_cons_zero, List.set_cons_succ]
                refine takeP (i := 56) (v := ?_) rfl (by kernel_rfl) (by kernel_rfl) (by kernel_rfl) (by kernel_rfl) (fun _ _ _ h => h) (by rfl) ?_ (fun _ => HB_1.out) ?_
                rotate_left
                · intro V'; go_simp <;> with_reducible rfl
                simp only [Act.put, List.setIfInBounds_toArray, List.set_cons_zero, List.set_cons_succ]
                refine takeP (i := 57) (v := ?_) rfl (by kernel_rfl) (by kernel_rfl) (by kernel_rfl) (by kernel_rfl) (fun _ _ _ h => h) (by rfl) ?_ (fun _ => HB_1.out) ?_
                rotate_left
                · intro V'; go_simp <;> with_reducible rfl
                simp only [Act.put, List.setIfInBounds_toArray, List.set_cons_zero, List.set_cons_succ]
                refine takeP (i := 58) (v := ?_) rfl (by kernel_rfl) (by kernel_rfl) (by kernel_rfl) (by kernel_rfl) (fun _ _ _ h => h) (by rfl) ?_ (fun _ => HB_1.out) ?_
                rotate_left
                · intro V'; go_simp <;> with_reducible rfl
                simp only [Act.put, List.setIfInBounds_toArray, List.set_cons_zero, List.set_cons_succ]
                refine takeP (i := 59) (v := ?_) rfl (by kernel_rfl) (by kernel_rfl) (by kernel_rfl) (by kernel_rfl) (fun _ _ _ h => h) (by rfl) ?_ (fun _ => HB_1.out) ?_
                rotate_left
                · intro V'; go_simp <;> with_reducible rfl
                simp only [Act.put, List.setIfInBounds_toArray, List.set_cons_zero, List.set_cons_succ]
                refine takeP (i := 60) (v := ?_) rfl (by kernel_rfl) (by kernel_rfl) (by kernel_rfl) (by kernel_rfl) (fun _ _ _ h => h) (by rfl) ?_ (fun _ => HB_1.out) ?_
                rotate_left
                · intro V'; go_simp <;> with_reducible rfl
                simp only [Act.put, List.setIfInBounds_toArray, List.set_cons_zero, List.set_cons_succ]
                refine takeT (i := 61) (v := .bool false) rfl (by kernel_rfl) (by kernel_rfl) (by kernel_rfl) (by kernel_rfl) (fun _ _ _ h => h) (by rfl) ?_ HB_1.out ?_
                · intro V' hV; obtain ⟨y0, y1, y2, y3, y4, y5, y6, y7, y8, y9, y10, y11, y12⟩ := HL.out V' hV; go_simp
                simp only [Act.put, List.setIfInBounds_toArray, List.set_cons_zero, List.set_cons_succ]
                refine takeP (i := 62) (v := ?_) rfl (by kernel_rfl) (by kernel_rfl) (by kernel_rfl) (by kernel_rfl) (fun _ _ _ h => h) (by rfl) ?_ (fun _ => HB_1.out) ?_
                rotate_left
                · intro V'; go_simp <;> with_reducible rfl
                simp only [Act.put, List.setIfInBounds_toArray, List.set_cons_zero, List.set_cons_succ]
                refine oneT (i := 63) rfl (by kernel_rfl) (by rfl) (fun K hK => ?_)
                go_simp
                refine hK.out _ _ (fun _ => HB_1.out) ?_
                clear hK K
                refine doneT (by kernel_rfl) ?_ _
                have HBU3 := Lib.hid (HBU2.out.trans (HB_1.out.mono HBU2.out.size))
                have X0_ := Lib.hid (X0.out.under HB_1.out)
                clear X0
                have X0 := X0_
                clear X0_
                have Y3_ := Lib.hid (Y3.out.under HB_1.out)
                clear Y3
                have Y3 := Y3_
                clear Y3_
                have T1_ := Lib.hid (T1.out.under HB_1.out)
                clear T1
                have T1 := T1_
                clear T1_
                have NU_ := Lib.hid (NU.out.under HB_1.out)
                clear NU
                have NU := NU_
                clear NU_
                clear HBU2 HB_1 HL
                go_upto_region 14 with fail
                have HL : Hid (∀ V', Below U2_1.heap.size U2_1 V' → Whole V' w.heap.size 30 (brC p a) ∧ V'.cell? ⟨w.heap.size, 3, none⟩ = some (.int .i64 p.cf.f0) ∧ V'.cell? ⟨w.heap.size, 5, none⟩ = some (.int .i64 p.cf.f2) ∧ V'.cell? ⟨w.heap.size, 18, none⟩ = some (.slice a.A p.its.length a.c) ∧ V'.cell? ⟨w.heap.size, 19, none⟩ = some (.slice a.B p.kps.length a.d) ∧ V'.cell? ⟨U1.heap.size, 1, none⟩ = some (.int .i64 ((c1.old : Int))) ∧ V'.cell? ⟨U1.heap.size, 2, none⟩ = some (.int .i64 ((c1.st : Int))) ∧ V'.cell? ⟨U1.heap.size, 3, none⟩ = some (.int .i64 ((c1.warm : Int))) ∧ V'.cell? ⟨U1.heap.size, 4, none⟩ = some (.int .i64 ((c1.all : Int))) ∧ V'.cell? ⟨U1.heap.size, 5, none⟩ = some (.int .i64 ((c1.serve : Int))) ∧ V'.cell? ⟨U1.heap.size, 6, none⟩ = some (.int .i64 (c1.want)) ∧ V'.cell? ⟨U1.heap.size, 7, none⟩ = some (.int .i64 (c1.fl)) ∧ V'.cell? ⟨U1.heap.size, 8, none⟩ = some (.int .i64 (c1.bd))) := Lib.hid (fun V' hV => ⟨X0.out.under hV, (X0.out.under hV).cell 3, (X0.out.under hV).cell 5, (X0.out.under hV).cell 18, (X0.out.under hV).cell 19, (Y3.out.under hV).cell 1, (Y3.out.under hV).cell 2, (Y3.out.under hV).cell 3, (Y3.out.under hV).cell 4, (Y3.out.under hV).cell 5, (Y3.out.under hV).cell 6, (Y3.out.under hV).cell 7, (Y3.out.under hV).cell 8⟩)
                have HBd := Lib.hid (show Below U2_1.heap.size U2_1 U2_1.drew from below_drewB (Below.refl _ _) 1)
                refine wp_region_T (ls := []) (T := (fun V' => Below U2_1.heap.size U2_1 V')) (by kernel_rfl) ?_
                refine takeP (i := 0) (v := ?_) rfl (by kernel_rfl) (by kernel_rfl) (by kernel_rfl) (by kernel_rfl) (fun _ _ _ h => h) (by rfl) ?_ (fun _ => HBd.out) ?_
                rotate_left
                · intro V'; go_simp <;> with_reducible rfl
                simp only [Act.put, List.setIfInBounds_toArray, List.set_cons_zero, List.set_cons_succ]
                refine takeT (i := 1) (v := ?_) rfl (by kernel_rfl) (by kernel_rfl) (by kernel_rfl) (by kernel_rfl) (fun _ _ _ h => h) (by rfl) ?_ HBd.out ?_
                rotate_left
                · intro V' hV; obtain ⟨y0, y1, y2, y3, y4, y5, y6, y7, y8, y9, y10, y11, y12⟩ := HL.out V' hV; go_simp <;> with_reducible rfl
                simp only [Act.put, List.setIfInBounds_toArray, List.set_cons_zero, List.set_cons_succ]
                refine takeP (i := 2) (v := ?_) rfl (by kernel_rfl) (by kernel_rfl) (by kernel_rfl) (by kernel_rfl) (fun _ _ _ h => h) (by rfl) ?_ (fun _ => HBd.out) ?_
                rotate_left
                · intro V'; go_simp <;> with_reducible rfl
                simp only [Act.put, List.setIfInBounds_toArray, List.set_cons_zero, List.set_cons_succ]
                refine takeP (i := 3) (v := ?_) rfl (by kernel_rfl) (by kernel_rfl) (by kernel_rfl) (by kernel_rfl) (fun _ _ _ h => h) (by rfl) ?_ (fun _ => HBd.out) ?_
                rotate_left
                · intro V'; go_simp <;> with_reducible rfl
                simp only [Act.put, List.setIfInBounds_toArray, List.set_cons_zero, List.set_cons_succ]
                refine takeT (i := 4) (v := ?_) rfl (by kernel_rfl) (by kernel_rfl) (by kernel_rfl) (by kernel_rfl) (fun _ _ _ h => h) (by rfl) ?_ HBd.out ?_
                rotate_left
                · intro V' hV; obtain ⟨y0, y1, y2, y3, y4, y5, y6, y7, y8, y9, y10, y11, y12⟩ := HL.out V' hV; go_simp <;> with_reducible rfl
                simp only [Act.put, List.setIfInBounds_toArray, List.set_cons_zero, List.set_cons_succ]
                refine takeT (i := 5) (v := .bool true) rfl (by kernel_rfl) (by kernel_rfl) (by kernel_rfl) (by kernel_rfl) (fun _ _ _ h => h) (by rfl) ?_ HBd.out ?_
                · intro V' hV; obtain ⟨y0, y1, y2, y3, y4, y5, y6, y7, y8, y9, y10, y11, y12⟩ := HL.out V' hV; have h9 := Hl3.out; go_simp
                simp only [Act.put, List.setIfInBounds_toArray, List.set_cons_zero, List.set_cons_succ]
                refine takeP (i := 6) (v := ?_) rfl (by kernel_rfl) (by kernel_rfl) (by kernel_rfl) (by kernel_rfl) (fun _ _ _ h => h) (by rfl) ?_ (fun _ => HBd.out) ?_
                rotate_left
                · intro V'; go_simp <;> with_reducible rfl
                simp only [Act.put, List.setIfInBounds_toArray, List.set_cons_zero, List.set_cons_succ]
                refine takeP (i := 7) (v := ?_) rfl (by kernel_rfl) (by kernel_rfl) (by kernel_rfl) (by kernel_rfl) (fun _ _ _ h => h) (by rfl) ?_ (fun _ => HBd.out) ?_
                rotate_left
                · intro V'; go_simp <;> with_reducible rfl
                simp only [Act.put, List.setIfInBounds_toArray, List.set_cons_zero, List.set_cons_succ]
                refine takeT (i := 8) (v := ?_) rfl (by kernel_rfl) (by kernel_rfl) (by kernel_rfl) (by kernel_rfl) (fun _ _ _ h => h) (by rfl) ?_ HBd.out ?_
                rotate_left
                · intro V' hV; obtain ⟨y0, y1, y2, y3, y4, y5, y6, y7, y8, y9, y10, y11, y12⟩ := HL.out V' hV; go_simp <;> with_reducible rfl
                simp only [Act.put, List.setIfInBounds_toArray, List.set_cons_zero, List.set_cons_succ]
                refine takeP (i := 9) (v := ?_) rfl (by kernel_rfl) (by kernel_rfl) (by kernel_rfl) (by kernel_rfl) (fun _ _ _ h => h) (by rfl) ?_ (fun _ => HBd.out) ?_
                rotate_left
                · intro V'; go_simp <;> with_reducible rfl
                simp only [Act.put, List.setIfInBounds_toArray, List.set_cons_zero, List.set_cons_succ]
                refine takeT (i := 10) (v := ?_) rfl (by kernel_rfl) (by kernel_rfl) (by kernel_rfl) (by kernel_rfl) (fun _ _ _ h => h) (by rfl) ?_ HBd.out ?_
                rotate_left
                · intro V' hV; obtain ⟨y0, y1, y2, y3, y4, y5, y6, y7, y8, y9, y10, y11, y12⟩ := HL.out V' hV; go_simp <;> with_reducible rfl
                simp only [Act.put, List.setIfInBounds_toArray, List.set_cons_zero, List.set_cons_succ]
                refine takeT (i := 11) (v := .bool true) rfl (by kernel_rfl) (by kernel_rfl) (by kernel_rfl) (by kernel_rfl) (fun _ _ _ h => h) (by rfl) ?_ HBd.out ?_
                · intro V' hV; obtain ⟨y0, y1, y2, y3, y4, y5, y6, y7, y8, y9, y10, y11, y12⟩ := HL.out V' hV; have h9 := Hl4.out; go_simp
                simp only [Act.put, List.setIfInBounds_toArray, List.set_cons_zero, List.set_cons_succ]
                refine takeP (i := 12) (v := ?_) rfl (by kernel_rfl) (by kernel_rfl) (by kernel_rfl) (by kernel_rfl) (fun _ _ _ h => h) (by rfl) ?_ (fun _ => HBd.out) ?_
                rotate_left
                · intro V'; go_simp <;> with_reducible rfl
                simp only [Act.put, List.setIfInBounds_toArray, List.set_cons_zero, List.set_cons_succ]
                refine takeP (i := 13) (v := ?_) rfl (by kernel_rfl) (by kernel_rfl) (by kernel_rfl) (by kernel_rfl) (fun _ _ _ h => h) (by rfl) ?_ (fun _ => HBd.out) ?_
                rotate_left
                · intro V'; go_simp <;> with_reducible rfl
                simp only [Act.put, List.setIfInBounds_toArray, List.set_cons_zero, List.set_cons_succ]
                refine takeT (i := 14) (v := brV p a) rfl (by kernel_rfl) (by kernel_rfl) (by kernel_rfl) (by kernel_rfl) (fun _ _ _ h => h) (by rfl) ?_ HBd.out ?_
                · intro V' hV; obtain ⟨y0, y1, y2, y3, y4, y5, y6, y7, y8, y9, y10, y11, y12⟩ := HL.out V' hV; exact exec_load_brain rfl y0
                simp only [Act.put, List.setIfInBounds_toArray, List.set_cons_zero, List.set_cons_succ]
                refine takeP (i := 16) (v := ?_) rfl (by kernel_rfl) (by kernel_rfl) (by kernel_rfl) (by kernel_rfl) (fun _ _ _ h => h) (by rfl) ?_ (fun _ => HBd.out) ?_
                rotate_left
                · intro V'; go_simp <;> with_reducible rfl
                simp only [Act.put, List.setIfInBounds_toArray, List.set_cons_zero, List.set_cons_succ]
                refine takeT (i := 17) (v := ?_) rfl (by kernel_rfl) (by kernel_rfl) (by kernel_rfl) (by kernel_rfl) (fun _ _ _ h => h) (by rfl) ?_ HBd.out ?_
                rotate_left
                · intro V' hV; obtain ⟨y0, y1, y2, y3, y4, y5, y6, y7, y8, y9, y10, y11, y12⟩ := HL.out V' hV; go_simp <;> with_reducible rfl
                simp only [Act.put, List.setIfInBounds_toArray, List.set_cons_zero, List.set_cons_succ]
                refine takeP (i := 18) (v := ?_) rfl (by kernel_rfl) (by kernel_rfl) (by kernel_rfl) (by kernel_rfl) (fun _ _ _ h => h) (by rfl) ?_ (fun _ => HBd.out) ?_
                rotate_left
                · intro V'; go_simp <;> with_reducible rfl
                simp only [Act.put, List.setIfInBounds_toArray, List.set_cons_zero, List.set_cons_succ]
                refine takeT (i := 19) (v := ?_) rfl (by kernel_rfl) (by kernel_rfl) (by kernel_rfl) (by kernel_rfl) (fun _ _ _ h => h) (by rfl) ?_ HBd.out ?_
                rotate_left
                · intro V' hV; obtain ⟨y0, y1, y2, y3, y4, y5, y6, y7, y8, y9, y10, y11, y12⟩ := HL.out V' hV; go_simp <;> with_reducible rfl
                simp only [Act.put, List.setIfInBounds_toArray, List.set_cons_zero, List.set_cons_succ]
                refine takeT (i := 20) (v := .bool (fullB p)) rfl (by kernel_rfl) (by kernel_rfl) (by kernel_rfl) (by kernel_rfl) (fun _ _ _ h => h) (by rfl) ?_ HBd.out ?_
                · intro V' hV; obtain ⟨y0, y1, y2, y3, y4, y5, y6, y7, y8, y9, y10, y11, y12⟩ := HL.out V' hV; have h9 := HFb.out; rw [h9]; go_simp
                simp only [Act.put, List.setIfInBounds_toArray, List.set_cons_zero, List.set_cons_succ]
                refine oneT (i := 15) rfl (by kernel_rfl) (by rfl) (fun K hK => ?_)
                go_simp
                refine (HC.out.full p a U2_1.drew (NU.out.under HBd.out)).mono ?_
                rintro e U2_1_1 ⟨rfl, hb_⟩
                have HB_1 := Lib.hid (show Below U2_1.heap.size U2_1 U2_1_1 from HBd.out.trans (hb_.mono HBd.out.size))
                clear hb_ HBd
                refine hK.out _ _ (fun _ => HB_1.out) ?_
                clear hK K
                refine takeT (i := 21) (v := .bool true) rfl (by kernel_rfl) (by kernel_rfl) (by kernel_rfl) (by kernel_rfl) (fun _ _ _ h => h) (by rfl) ?_ HB_1.out ?_
                · intro V' hV; obtain ⟨y0, y1, y2, y3, y4, y5, y6, y7, y8, y9, y10, y11, y12⟩ := HL.out V' hV; go_simp
                simp only [Act.put, List.setIfInBounds_toArray, List.set_cons_zero, List.set_cons_succ]
                refine takeP (i := 22) (v := ?_) rfl (by kernel_rfl) (by kernel_rfl) (by kernel_rfl) (by kernel_rfl) (fun _ _ _ h => h) (by rfl) ?_ (fun _ => HB_1.out) ?_
                rotate_left
                · intro V'; go_simp <;> with_reducible rfl
                simp only [Act.put, List.setIfInBounds_toArray, List.set_cons_zero, List.set_cons_succ]
                refine takeP (i := 23) (v := ?_) rfl (by kernel_rfl) (by kernel_rfl) (by kernel_rfl) (by kernel_rfl) (fun _ _ _ h => h) (by rfl) ?_ (fun _ => HB_1.out) ?_
                rotate_left
                · intro V'; go_simp <;> with_reducible rfl
                simp only [Act.put, List.setIfInBounds_toArray, List.set_cons_zero, List.set_cons_succ]
                refine oneT (i := 24) rfl (by kernel_rfl) (by rfl) (fun K hK => ?_)
                go_simp
                refine (wakes15_any HC.out U2_1_1 (T1.out.under HB_1.out)).mono ?_
                rintro e U2_1_2 ⟨rfl, hb_⟩
                have HB_2 := Lib.hid (show Below U2_1.heap.size U2_1 U2_1_2 from HB_1.out.trans (hb_.mono HB_1.out.size))
                clear hb_ HB_1
                refine hK.out _ _ (fun _ => HB_2.out) ?_
                clear hK K
                refine takeP (i := 25) (v := ?_) rfl (by kernel_rfl) (by kernel_rfl) (by kernel_rfl) (by kernel_rfl) (fun _ _ _ h => h) (by rfl) ?_ (fun _ => HB_2.out) ?_
                rotate_left
                · intro V'; go_simp <;> with_reducible rfl
                simp only [Act.put, List.setIfInBounds_toArray, List.set_cons_zero, List.set_cons_succ]
                refine oneT (i := 26) rfl (by kernel_rfl) (by rfl) (fun K hK => ?_)
                go_simp
                refine hK.out _ _ (fun _ => HB_2.out) ?_
                clear hK K
                refine doneT (by kernel_rfl) ?_ _
                have HBx := Lib.hid (HBU3.out.trans (HB_2.out.mono HBU3.out.size))
                go_wp2_with fail
                go_ret
                exact ⟨rfl, HBx.out⟩

end Go.Proofs.YtplejbgecihnpaaDoor
