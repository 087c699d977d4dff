/-
  Texts that the walk of a statement over brains leans on, joined (BrRefRight, BrWakes, BrLawKit, BrRecOwn, RegStay, BrRecMore, BrLawMore, BrRefNums). Conditions: those that each theorem names.
-/
import Derived.Test.YtplejbgecihnpaaDoorK0
import Derived.Test.YtplejbgecihnpaaDoorK2
import Derived.Test.YtplejbgecihnpaaDoorK4
import Derived.Test.YtplejbgecihnpaaDoorK5
import Derived.Test.YtplejbgecihnpaaDoorK6
import Derived.Test.YtplejbgecihnpaaDoorK11

namespace Go.Proofs.YtplejbgecihnpaaDoor
open Go.RowKit Go.Shelf

set_option maxRecDepth 100000 in
set_option maxHeartbeats 8000000 in
theorem rrightB_any (p : Br) (a : Ad) (Z : Nat) (w : World) (hr : RdB_ w Z p a) (hZ : Z ≤ w.heap.size) (hm : p.cf.ms.length ≤ 1000) (hi : p.its.length ≤ 1000) (hk : p.kps.length ≤ 1000) :
    Calls Tryd.prog 23 #[brV p a] w (BoolPost (rightBb p) w) := by
  have hb : Below w.heap.size w (w.alloc (.cells (brC p a) 30)) := (Below.refl _ _).alloc (Nat.le_refl _) _
  have w0 := Whole.new w 30 (brC p a)
  obtain ⟨V, hV⟩ : ∃ V, w.alloc (.cells (brC p a) 30) = V := ⟨_, rfl⟩
  rw [hV] at hb w0
  have HR := Lib.hid (hr.below (hb.mono hZ))
  have HB := Lib.hid hb
  have X0 := Lib.hid w0
  have HV := Lib.hid hV
  have HZ := Lib.hid (Nat.le_trans hZ hb.size)
  have HM := Lib.hid hm
  obtain ⟨r, hres⟩ : ∃ r, rightBb p = r := ⟨_, rfl⟩
  rw [hres]
  unfold rightBb isNum at hres
  have HRes := Lib.hid hres
  clear hb w0 hr hZ hV hres hm
  by_cases m0 : p.ep < 0
  · have e0 : decide (p.ep < 0) = true := decide_eq_true m0
    have HF := Lib.hid (show r = false by
      rw [← HRes.out, show decide (0 ≤ p.ep) = false from decide_eq_false (by omega)]
      simp)
    clear m0
    go_enter Tryd.func23, Tryd.ntmps23
    go_upto_region 1 with fail
    refine wpV (fun V2 hV2 => ?_)
    obtain rfl : V = V2 := HV.out.symm.trans hV2
    clear HV hV2
    obtain ⟨c0, c1, c2, c3, c4, c5, c6, c7, c8, c9, c10, c11, c12, c13, c14, c15, c16, c17, c18, c19, c20, c21, c22, c23, c24, c25, c26⟩ := cells27 X0.out
    go_wp2_with fail
    go_ret
    exact ⟨by rw [HF.out]; rfl, HB.out⟩
  have e0 : decide (p.ep < 0) = false := decide_eq_false m0
  by_cases m1 : 1099511627776 < p.ep
  · have e1 : decide ((1099511627776 : Int) < p.ep) = true := decide_eq_true m1
    have HF := Lib.hid (show r = false by
      rw [← HRes.out, show decide (p.ep ≤ 1099511627776) = false from decide_eq_false (by omega)]
      simp)
    clear m1
    go_enter Tryd.func23, Tryd.ntmps23
    go_upto_region 1 with fail
    refine wpV (fun V2 hV2 => ?_)
    obtain rfl : V = V2 := HV.out.symm.trans hV2
    clear HV hV2
    obtain ⟨c0, c1, c2, c3, c4, c5, c6, c7, c8, c9, c10, c11, c12, c13, c14, c15, c16, c17, c18, c19, c20, c21, c22, c23, c24, c25, c26⟩ := cells27 X0.out
    go_wp2_with fail
    go_ret
    exact ⟨by rw [HF.out]; rfl, HB.out⟩
  have e1 : decide ((1099511627776 : Int) < p.ep) = false := decide_eq_false m1
  by_cases m2 : p.sq < 0
  · have e2 : decide (p.sq < 0) = true := decide_eq_true m2
    have HF := Lib.hid (show r = false by
      rw [← HRes.out, show decide (0 ≤ p.sq) = false from decide_eq_false (by omega)]
      simp)
    clear m2
    go_enter Tryd.func23, Tryd.ntmps23
    go_upto_region 1 with fail
    refine wpV (fun V2 hV2 => ?_)
    obtain rfl : V = V2 := HV.out.symm.trans hV2
    clear HV hV2
    obtain ⟨c0, c1, c2, c3, c4, c5, c6, c7, c8, c9, c10, c11, c12, c13, c14, c15, c16, c17, c18, c19, c20, c21, c22, c23, c24, c25, c26⟩ := cells27 X0.out
    go_wp2_with fail
    go_ret
    exact ⟨by rw [HF.out]; rfl, HB.out⟩
  have e2 : decide (p.sq < 0) = false := decide_eq_false m2
  by_cases m3 : 1099511627776 < p.sq
  · have e3 : decide ((1099511627776 : Int) < p.sq) = true := decide_eq_true m3
    have HF := Lib.hid (show r = false by
      rw [← HRes.out, show decide (p.sq ≤ 1099511627776) = false from decide_eq_false (by omega)]
      simp)
    clear m3
    go_enter Tryd.func23, Tryd.ntmps23
    go_upto_region 1 with fail
    refine wpV (fun V2 hV2 => ?_)
    obtain rfl : V = V2 := HV.out.symm.trans hV2
    clear HV hV2
    obtain ⟨c0, c1, c2, c3, c4, c5, c6, c7, c8, c9, c10, c11, c12, c13, c14, c15, c16, c17, c18, c19, c20, c21, c22, c23, c24, c25, c26⟩ := cells27 X0.out
    go_wp2_with fail
    go_ret
    exact ⟨by rw [HF.out]; rfl, HB.out⟩
  have e3 : decide ((1099511627776 : Int) < p.sq) = false := decide_eq_false m3
  have HN := Lib.hid (show (itsOk p.sq 0 p.its && (kpsOk 0 p.kps && (rfOk p.rf && setOk p))) = r by
    rw [← HRes.out, decide_eq_true (show 0 ≤ p.ep by omega), decide_eq_true (show p.ep ≤ 1099511627776 by omega), decide_eq_true (show 0 ≤ p.sq by omega), decide_eq_true (show p.sq ≤ 1099511627776 by omega)]
    rfl)
  clear m0 m1 m2 m3 HRes
  go_enter Tryd.func23, Tryd.ntmps23
  go_upto_region 1 with fail
  refine wpV (fun V2 hV2 => ?_)
  obtain rfl : V = V2 := HV.out.symm.trans hV2
  clear HV hV2
  obtain ⟨c0, c1, c2, c3, c4, c5, c6, c7, c8, c9, c10, c11, c12, c13, c14, c15, c16, c17, c18, c19, c20, c21, c22, c23, c24, c25, c26⟩ := cells27 X0.out
  go_wp2_with fail
  go_loopw [3, 4] (fun la i wr => ∃ (j : Nat) (L : Int), la = .int .i64 L ∧ i = .int .i64 (j : Int) ∧ j ≤ p.its.length ∧ itsOk p.sq 0 p.its = itsOk p.sq L (p.its.drop j) ∧ ∃ k, wr = V.drewN k) (fun _ i _ => p.its.length - (intOf i).toNat)
  case atStart => exact ⟨0, 0, rfl, rfl, Nat.zero_le _, rfl, 0, rfl⟩
  case round =>
    obtain ⟨j, L, rfl, rfl, hj, hT, k4, rfl⟩ := hrel
    have HT4 := Lib.hid hT
    clear hT
    by_cases hlt : j < p.its.length
    · obtain ⟨b1, off1, h1, _, hc⟩ := RdI.at_ HR.out.its (by omega)
      rw [h1] at c18
      obtain ⟨x, hx⟩ : ∃ x, p.its[j]? = some x := ⟨_, List.getElem?_eq_getElem hlt⟩
      obtain ⟨g0, g1, g2, g3⟩ := hc j x hx
      have hI : (j : Int) < (p.its.length : Int) := by omega
      have hdr : p.its.drop j = x :: p.its.drop (j + 1) := by rw [List.drop_eq_getElem_cons hlt, (List.getElem?_eq_some_iff.1 hx).2]
      have HD := Lib.hid hdr
      have hsx := HT4.out
      rw [hdr] at hsx
      simp only [itsOk] at hsx
      have HSX := Lib.hid hsx
      clear hc hx h1 hdr hsx
      by_cases n0 : x.tok ≤ L
      · have f0 : decide (x.tok ≤ L) = true := decide_eq_true n0
        have HF := Lib.hid (show r = false by
          rw [← HN.out, HSX.out, show decide (L < x.tok) = false from decide_eq_false (by omega)]
          simp)
        clear n0
        go_wp2_with fail
        go_quiet (fail)
        go_wp2_with fail
        go_ret
        exact ⟨by rw [HF.out]; rfl, below_drewB (below_drewB HB.out _) _⟩
      have f0 : decide (x.tok ≤ L) = false := decide_eq_false n0
      by_cases n1 : p.sq < x.tok
      · have f1 : decide (p.sq < x.tok) = true := decide_eq_true n1
        have HF := Lib.hid (show r = false by
          rw [← HN.out, HSX.out, show decide (x.tok ≤ p.sq) = false from decide_eq_false (by omega)]
          simp)
        clear n1
        go_wp2_with fail
        go_quiet (fail)
        go_wp2_with fail
        go_ret
        exact ⟨by rw [HF.out]; rfl, below_drewB (below_drewB HB.out _) _⟩
      have f1 : decide (p.sq < x.tok) = false := decide_eq_false n1
      have HX2 := Lib.hid (show itsOk p.sq 0 p.its = itsOk p.sq x.tok (p.its.drop (j + 1)) by
        rw [HSX.out, decide_eq_true (show L < x.tok by omega), decide_eq_true (show x.tok ≤ p.sq by omega)]
        rfl)
      clear n0 n1
      go_wp2_with fail
      go_quiet (fail)
      go_wp2_with fail
      go_roundw
      case rel => exact ⟨j + 1, x.tok, rfl, by go_num, by omega, HX2.out, _, rfl⟩
      case measure => simp [intOf]; omega
    · have HEi := Lib.hid (show itsOk p.sq 0 p.its = true by
        rw [HT4.out, List.drop_of_length_le (by omega)]; rfl)
      have HN2 := Lib.hid (show (kpsOk 0 p.kps && (rfOk p.rf && setOk p)) = r by rw [← HN.out, HEi.out]; rfl)
      clear HN
      have HN := HN2
      clear HN2
      go_wp2_with fail
      go_loopw [3, 5] (fun la i wr => ∃ (j : Nat) (L : Int), la = .int .i64 L ∧ i = .int .i64 (j : Int) ∧ j ≤ p.kps.length ∧ kpsOk 0 p.kps = kpsOk L (p.kps.drop j) ∧ ∃ k, wr = V.drewN k) (fun _ i _ => p.kps.length - (intOf i).toNat)
      case atStart => exact ⟨0, 0, rfl, rfl, Nat.zero_le _, rfl, _, rfl⟩
      case round =>
        obtain ⟨j, L, rfl, rfl, hj, hT, k5, rfl⟩ := hrel
        have HT5 := Lib.hid hT
        clear hT
        by_cases hlt : j < p.kps.length
        · obtain ⟨b1, off1, h1, _, hc⟩ := RdK.at_ HR.out.kps (by omega)
          rw [h1] at c19
          obtain ⟨x, hx⟩ : ∃ x, p.kps[j]? = some x := ⟨_, List.getElem?_eq_getElem hlt⟩
          obtain ⟨g0, g1, g2, g3, g4, g5, g6, g7⟩ := hc j x hx
          have hI : (j : Int) < (p.kps.length : Int) := by omega
          have hdr : p.kps.drop j = x :: p.kps.drop (j + 1) := by rw [List.drop_eq_getElem_cons hlt, (List.getElem?_eq_some_iff.1 hx).2]
          have HD := Lib.hid hdr
          have hsx := HT5.out
          rw [hdr] at hsx
          simp only [kpsOk] at hsx
          have HSX := Lib.hid hsx
          clear hc hx h1 hdr hsx
          by_cases n0 : x.id ≤ L
          · have f0 : decide (x.id ≤ L) = true := decide_eq_true n0
            have HF := Lib.hid (show r = false by
              rw [← HN.out, HSX.out, show decide (L < x.id) = false from decide_eq_false (by omega)]
              simp)
            clear n0
            go_wp2_with fail
            skip
            skip
            go_ret
            exact ⟨by rw [HF.out]; rfl, below_drewB HB.out _⟩
          have f0 : decide (x.id ≤ L) = false := decide_eq_false n0
          by_cases n1 : 1099511627776 < x.id
          · have f1 : decide ((1099511627776 : Int) < x.id) = true := decide_eq_true n1
            have HF := Lib.hid (show r = false by
              rw [← HN.out, HSX.out, show decide (x.id ≤ brMax) = false from decide_eq_false (by unfold brMax; omega)]
              simp)
            clear n1
            go_wp2_with fail
            skip
            skip
            go_ret
            exact ⟨by rw [HF.out]; rfl, below_drewB HB.out _⟩
          have f1 : decide ((1099511627776 : Int) < x.id) = false := decide_eq_false n1
          by_cases n2 : x.phase < 1
          · have f2 : decide (x.phase < 1) = true := decide_eq_true n2
            have HF := Lib.hid (show r = false by
              rw [← HN.out, HSX.out, show decide (1 ≤ x.phase) = false from decide_eq_false (by omega)]
              simp)
            clear n2
            go_wp2_with fail
            skip
            skip
            go_ret
            exact ⟨by rw [HF.out]; rfl, below_drewB HB.out _⟩
          have f2 : decide (x.phase < 1) = false := decide_eq_false n2
          by_cases n3 : 10 < x.phase
          · have f3 : decide ((10 : Int) < x.phase) = true := decide_eq_true n3
            have HF := Lib.hid (show r = false by
              rw [← HN.out, HSX.out, show decide (x.phase ≤ 10) = false from decide_eq_false (by omega)]
              simp)
            clear n3
            go_wp2_with fail
            skip
            skip
            go_ret
            exact ⟨by rw [HF.out]; rfl, below_drewB HB.out _⟩
          have f3 : decide ((10 : Int) < x.phase) = false := decide_eq_false n3
          have HX2 := Lib.hid (show kpsOk 0 p.kps = kpsOk x.id (p.kps.drop (j + 1)) by
            rw [HSX.out, decide_eq_true (show L < x.id by omega), decide_eq_true (show x.id ≤ brMax by unfold brMax; omega), decide_eq_true (show 1 ≤ x.phase by omega), decide_eq_true (show x.phase ≤ 10 by omega)]
            rfl)
          clear n0 n1 n2 n3
          go_wp2_with fail
          skip
          skip
          go_roundw
          case rel => exact ⟨j + 1, x.id, rfl, by go_num, by omega, HX2.out, _, rfl⟩
          case measure => simp [intOf]; omega
        · have HEk := Lib.hid (show kpsOk 0 p.kps = true by
            rw [HT5.out, List.drop_of_length_le (by omega)]; rfl)
          have HN2 := Lib.hid (show (rfOk p.rf && setOk p) = r by rw [← HN.out, HEk.out]; rfl)
          clear HN
          have HN := HN2
          clear HN2
          have HW : Hid (Whole ((V.drewN k5).alloc (.cells #[.int .u8 0, .int .i64 0, .int .i64 0, .int .i64 0, .bool false, .int .i64 0, .int .i64 0] 28)) V.heap.size 28 #[.int .u8 0, .int .i64 0, .int .i64 0, .int .i64 0, .bool false, .int .i64 0, .int .i64 0]) := Lib.hid (Whole.new (V.drewN k5) _ _)
          have HA : Hid ((#[.int .u8 p.rf.st, .int .i64 p.rf.fr, .int .i64 p.rf.to_, .int .i64 p.rf.step, .bool p.rf.paused, .int .i64 p.rf.since, .int .i64 p.rf.fails] : Array Value).all (·.oneCell') = true) := Lib.hid (by simp [Value.oneCell'])
          have HBw : Hid (Below V.heap.size (V.drewN k5) ((V.drewN k5).alloc (.cells #[.int .u8 0, .int .i64 0, .int .i64 0, .int .i64 0, .bool false, .int .i64 0, .int .i64 0] 28))) := Lib.hid ((Below.refl _ (V.drewN k5)).alloc (Nat.le_refl _) _)
          go_upto_region 18 with (refine wpList_store_row (by rfl) 28 _ _ rfl V.heap.size #[.int .u8 p.rf.st, .int .i64 p.rf.fr, .int .i64 p.rf.to_, .int .i64 p.rf.step, .bool p.rf.paused, .int .i64 p.rf.since, .int .i64 p.rf.fails] (by rfl) (by rfl) 28 _ HW.out (by kernel_rfl) rfl HA.out ?_)
          refine wpV (fun V3 hV3 => ?_)
          have bV : Below V.heap.size (V.drewN k5) V3 := by rw [← hV3]; exact below_rowsetB HBw.out (Nat.le_refl _) _
          have x6 : Whole V3 V.heap.size 28 #[.int .u8 p.rf.st, .int .i64 p.rf.fr, .int .i64 p.rf.to_, .int .i64 p.rf.step, .bool p.rf.paused, .int .i64 p.rf.since, .int .i64 p.rf.fails] := by rw [← hV3]; exact setRow_heap _ _ _ _ _ _ HW.out
          have bV2 : Below V.heap.size V V3 := (below_drewB (Below.refl _ V) k5).trans bV
          have HB3 := Lib.hid (HB.out.trans (bV2.mono HB.out.size))
          have HR3 := Lib.hid (HR.out.below (bV2.mono HZ.out))
          have HZ3 := Lib.hid (Nat.le_trans HZ.out bV2.size)
          have X03 := Lib.hid (X0.out.under bV2)
          clear c0 c1 c2 c3 c4 c5 c6 c7 c8 c9 c10 c11 c12 c13 c14 c15 c16 c17 c18 c19 c20 c21 c22 c23 c24 c25 c26
          obtain ⟨c0, c1, c2, c3, c4, c5, c6, c7, c8, c9, c10, c11, c12, c13, c14, c15, c16, c17, c18, c19, c20, c21, c22, c23, c24, c25, c26⟩ := cells27 X03.out
          have r0 := x6.cell 0
          have r1 := x6.cell 1
          have r2 := x6.cell 2
          simp only [List.getElem?_toArray, List.getElem?_cons_zero, List.getElem?_cons_succ] at r0 r1 r2
          clear hV3 bV bV2 x6 X0 HB HR HZ HW HA HBw
          by_cases z0 : p.rf.st = 1
          rotate_left
          · have z1 : (p.rf.st == 1) = false := by simp [z0]
            have HN2 := Lib.hid (show setOk p = r by rw [← HN.out, rfOk, decide_eq_false z0]; rfl)
            clear HN z0
            have HN := HN2
            clear HN2
            cases hset : p.set with
            | true =>
              have HC := Lib.hid (fun W (hb : Below V3.heap.size V3 W) => refCheck_any (cfM p a) Z W (HR3.out.below (hb.mono HZ3.out)).lies (Nat.le_trans HZ3.out hb.size) HM.out)
              have hme : may (cfM p a) = r := by rw [← HN.out, setOk, if_pos hset]; rfl
              rw [hme] at HC
              rw [hset] at c2
              clear hset hme
              go_wp2_with fail
              refine (HC.out V3 (Below.refl _ _)).mono ?_
              rintro e w9 ⟨rfl, hb9⟩
              have HB9 := Lib.hid (HB3.out.trans (hb9.mono HB3.out.size))
              clear hb9 c0 c1 c2 c3 c4 c5 c6 c7 c8 c9 c10 c11 c12 c13 c14 c15 c16 c17 c18 c19 c20 c21 c22 c23 c24 c25 c26
              cases r with
              | true =>
                go_wp2_with fail
                go_ret
                exact ⟨by rfl, HB9.out⟩
              | false =>
                go_wp2_with fail
                go_ret
                exact ⟨by rfl, HB9.out⟩
            | false =>
              have hme : (decide (p.its = []) && decide (p.rf.st = 0)) = r := by rw [← HN.out, setOk, hset]; rfl
              have HMe := Lib.hid hme
              rw [hset] at c2
              clear hset hme
              by_cases i0 : p.its.length = 0
              · have i1 : ((p.its.length : Int) == 0) = true := by rw [i0]; rfl
                have i2 : p.its = [] := List.eq_nil_of_length_eq_zero i0
                have HF := Lib.hid (show r = decide (p.rf.st = 0) by rw [← HMe.out, decide_eq_true i2]; rfl)
                clear i0 i2
                by_cases s0 : p.rf.st = 0
                · have s1 : (p.rf.st == 0) = true := by simp [s0]
                  have HG := Lib.hid (show r = true by rw [HF.out, decide_eq_true s0])
                  clear s0
                  go_wp2_with fail
                  go_ret
                  exact ⟨by rw [HG.out]; rfl, HB3.out⟩
                · have s1 : (p.rf.st == 0) = false := by simp [s0]
                  have HG := Lib.hid (show r = false by rw [HF.out, decide_eq_false s0])
                  clear s0
                  go_wp2_with fail
                  go_ret
                  exact ⟨by rw [HG.out]; rfl, HB3.out⟩
              · have i1 : ((p.its.length : Int) == 0) = false := by simp only [beq_eq_false_iff_ne, ne_eq]; omega
                have HG := Lib.hid (show r = false by
                  rw [← HMe.out, decide_eq_false (show ¬ p.its = [] from fun e => i0 (by rw [e]; rfl))]; rfl)
                clear i0
                go_wp2_with fail
                go_ret
                exact ⟨by rw [HG.out]; rfl, HB3.out⟩
          have z1 : (p.rf.st == 1) = true := by simp [z0]
          by_cases y0 : p.rf.fr < 1
          · have v0 : decide (p.rf.fr < 1) = true := decide_eq_true y0
            have HF := Lib.hid (show r = false by
              rw [← HN.out, rfOk, decide_eq_true z0, show decide (1 ≤ p.rf.fr) = false from decide_eq_false (by omega)]
              simp)
            clear y0 z0
            go_wp2_with fail
            go_ret
            exact ⟨by rw [HF.out]; rfl, HB3.out⟩
          have v0 : decide (p.rf.fr < 1) = false := decide_eq_false y0
          by_cases y1 : 1099511627776 < p.rf.fr
          · have v1 : decide ((1099511627776 : Int) < p.rf.fr) = true := decide_eq_true y1
            have HF := Lib.hid (show r = false by
              rw [← HN.out, rfOk, decide_eq_true z0, show decide (p.rf.fr ≤ brMax) = false from decide_eq_false (by unfold brMax; omega)]
              simp)
            clear y1 z0
            go_wp2_with fail
            go_ret
            exact ⟨by rw [HF.out]; rfl, HB3.out⟩
          have v1 : decide ((1099511627776 : Int) < p.rf.fr) = false := decide_eq_false y1
          by_cases y2 : p.rf.to_ < 1
          · have v2 : decide (p.rf.to_ < 1) = true := decide_eq_true y2
            have HF := Lib.hid (show r = false by
              rw [← HN.out, rfOk, decide_eq_true z0, show decide (1 ≤ p.rf.to_) = false from decide_eq_false (by omega)]
              simp)
            clear y2 z0
            go_wp2_with fail
            go_ret
            exact ⟨by rw [HF.out]; rfl, HB3.out⟩
          have v2 : decide (p.rf.to_ < 1) = false := decide_eq_false y2
          by_cases y3 : 1099511627776 < p.rf.to_
          · have v3 : decide ((1099511627776 : Int) < p.rf.to_) = true := decide_eq_true y3
            have HF := Lib.hid (show r = false by
              rw [← HN.out, rfOk, decide_eq_true z0, show decide (p.rf.to_ ≤ brMax) = false from decide_eq_false (by unfold brMax; omega)]
              simp)
            clear y3 z0
            go_wp2_with fail
            go_ret
            exact ⟨by rw [HF.out]; rfl, HB3.out⟩
          have v3 : decide ((1099511627776 : Int) < p.rf.to_) = false := decide_eq_false y3
          have HN2 := Lib.hid (show setOk p = r by
            rw [← HN.out, rfOk, decide_eq_true (show 1 ≤ p.rf.fr by omega), decide_eq_true (show p.rf.fr ≤ brMax by unfold brMax; omega), decide_eq_true (show 1 ≤ p.rf.to_ by omega), decide_eq_true (show p.rf.to_ ≤ brMax by unfold brMax; omega)]
            simp)
          clear HN z0 y0 y1 y2 y3
          have HN := HN2
          clear HN2
          cases hset : p.set with
          | true =>
            have HC := Lib.hid (fun W (hb : Below V3.heap.size V3 W) => refCheck_any (cfM p a) Z W (HR3.out.below (hb.mono HZ3.out)).lies (Nat.le_trans HZ3.out hb.size) HM.out)
            have hme : may (cfM p a) = r := by rw [← HN.out, setOk, if_pos hset]; rfl
            rw [hme] at HC
            rw [hset] at c2
            clear hset hme
            go_wp2_with fail
            refine (HC.out V3 (Below.refl _ _)).mono ?_
            rintro e w9 ⟨rfl, hb9⟩
            have HB9 := Lib.hid (HB3.out.trans (hb9.mono HB3.out.size))
            clear hb9 c0 c1 c2 c3 c4 c5 c6 c7 c8 c9 c10 c11 c12 c13 c14 c15 c16 c17 c18 c19 c20 c21 c22 c23 c24 c25 c26
            cases r with
            | true =>
              go_wp2_with fail
              go_ret
              exact ⟨by rfl, HB9.out⟩
            | false =>
              go_wp2_with fail
              go_ret
              exact ⟨by rfl, HB9.out⟩
          | false =>
            have hme : (decide (p.its = []) && decide (p.rf.st = 0)) = r := by rw [← HN.out, setOk, hset]; rfl
            have HMe := Lib.hid hme
            rw [hset] at c2
            clear hset hme
            by_cases i0 : p.its.length = 0
            · have i1 : ((p.its.length : Int) == 0) = true := by rw [i0]; rfl
              have i2 : p.its = [] := List.eq_nil_of_length_eq_zero i0
              have HF := Lib.hid (show r = decide (p.rf.st = 0) by rw [← HMe.out, decide_eq_true i2]; rfl)
              clear i0 i2
              by_cases s0 : p.rf.st = 0
              · have s1 : (p.rf.st == 0) = true := by simp [s0]
                have HG := Lib.hid (show r = true by rw [HF.out, decide_eq_true s0])
                clear s0
                go_wp2_with fail
                go_ret
                exact ⟨by rw [HG.out]; rfl, HB3.out⟩
              · have s1 : (p.rf.st == 0) = false := by simp [s0]
                have HG := Lib.hid (show r = false by rw [HF.out, decide_eq_false s0])
                clear s0
                go_wp2_with fail
                go_ret
                exact ⟨by rw [HG.out]; rfl, HB3.out⟩
            · have i1 : ((p.its.length : Int) == 0) = false := by simp only [beq_eq_false_iff_ne, ne_eq]; omega
              have HG := Lib.hid (show r = false by
                rw [← HMe.out, decide_eq_false (show ¬ p.its = [] from fun e => i0 (by rw [e]; rfl))]; rfl)
              clear i0
              go_wp2_with fail
              go_ret
              exact ⟨by rw [HG.out]; rfl, HB3.out⟩

end Go.Proofs.YtplejbgecihnpaaDoor

namespace Go.Proofs.YtplejbgecihnpaaDoor
open Go.RowKit Go.Shelf

set_option maxRecDepth 100000 in
theorem wp_storeB {K : Act → World → Prop} {o : Oper} {a : Act} {w : World} {Q : Exit → Act → World → Prop} (x y : Operand) (ho : o.op = .store 30 x y) (g : Nat) (p : Br) (ad : Ad) (old : Array Value) (hs : old.size = 27)
    (hx : a.eval x = .pointer (some ⟨g, 0, none⟩)) (hy : a.eval y = brV p ad) (hW : Whole w g 30 old) (h : ∀ W2, W2 = w.setRow g (brC p ad) → K (a.put o.dst undef) W2) : o.wp Tryd.prog a w K Q := by
  refine wp_store_at 30 x y ho g 0 (brC p ad) hx hy 30 old hW (by kernel_rfl) (by rw [hs]; exact Nat.le_refl _) (by simp [Value.oneCell']) (h _ ?_)
  have e : old.toList.drop (0 + (brC p ad).size) = [] := List.drop_of_length_le (by rw [Array.length_toList, hs]; exact Nat.le_refl _)
  rw [e]
  simp
def q2 : Br := allB br0 [((1 : Nat), []), ((1 : Nat), [])]
def q3 : Br := applyB br0 (3 : Nat) [1, 0, 0]
def d4 : Br := allB br0 [((2 : Nat), gZ), ((3 : Nat), [4, 1, 0]), ((4 : Nat), [1, 7, 30]), ((6 : Nat), [7, 2, 31]), ((6 : Nat), [7, 4, 32]), ((8 : Nat), [3, 0, 9, 0, 33])]
end Go.Proofs.YtplejbgecihnpaaDoor

namespace Go.Proofs.YtplejbgecihnpaaDoor
open Go.RowKit Go.Shelf

set_option maxRecDepth 100000 in
theorem ms_apply {p : Br} {k : Int} {zs : List Int} (h : p.cf.ms.length ≤ 1000) : (applyB p k zs).cf.ms.length ≤ 1000 := by
  refine apply_cases (P := fun o : Br => o.cf.ms.length ≤ 1000) (fun _ hr => ?_) (fun hn _ _ => ?_) h
  · unfold confB; rw [if_pos hr]
    have hm : (zs.drop 14).length ≤ 4 := by
      unfold isRow may marksB at hr
      simp only [Bool.and_eq_true, decide_eq_true_eq] at hr
      exact hr.2.2.1.1
    show (if p.set then { ofRow zs none 0 0 with f12 := p.cf.f12 } else ofRow zs none 0 0 : Cf).ms.length ≤ 1000
    split
    · show (zs.drop 14).length ≤ 1000
      omega
    · show (zs.drop 14).length ≤ 1000
      omega
  refine fit_cases (P := fun o : Br => o.cf.ms.length ≤ 1000) (fun e => ?_) (fun e => ?_) (fun e => ?_) (fun e => ?_) (fun e => ?_) (fun e => ?_) (fun e => ?_) (fun e => ?_) (fun e => ?_) (fun _ e => ?_) h
  · unfold bootB; split <;> exact h
  · unfold intentB; split <;> exact h
  · unfold madeB; split
    · exact h
    · split <;> exact h
  · unfold phaseB; split
    · exact h
    · split <;> exact h
  · unfold goneB_; split <;> exact h
  · unfold takeB; split <;> exact h
  · unfold guardB; split
    · exact h
    · split <;> exact h
  · unfold doneB; split
    · exact h
    · split <;> exact h
  · unfold startB; split <;> exact h
  · unfold refB
    repeat' split
    all_goals exact h
section
variable {K : Act → World → Prop} {Q : Exit → Act → World → Prop} {a : Act} {w : World} {d : Tmp} {t : TypeId} {pos : String} {after : Array Edge} {x y : Operand}
end

/-- A brain that reads: as it was handed in, or in memory of its own. -/
def Hs (w : World) (q : Br) (a : Ad) (W : World) : Prop := RdB_ W w.heap.size q a ∨ OwB 0 W q a
section
variable {w W W' : World} {q : Br} {a : Ad}
set_option maxRecDepth 100000 in
theorem Hs.under (h : Hs w q a W) (hle : w.heap.size ≤ W.heap.size) (hb : Below W.heap.size W W') : Hs w q a W' := by
  rcases h with h | h
  · exact .inl (h.below (hb.mono hle))
  · exact .inr (h.under hb)
set_option maxRecDepth 100000 in
theorem Hs.rowset {g : Nat} {cs : Array Value} (h : Hs w q a W) (hW : Whole W g 30 cs) (hg : w.heap.size ≤ g) (c' : Array Value) : Hs w q a (W.setRow g c') := by
  rcases h with h | h
  · exact .inl (h.below (below_rowsetB (Below.refl _ _) hg c'))
  · exact .inr (h.rowset hW (by decide) (by decide) (by decide) c')
set_option maxRecDepth 100000 in
theorem Hs.reads (h : Hs w q a W) (hle : w.heap.size ≤ W.heap.size) : RdB_ W W.heap.size q a := by
  rcases h with h | h
  · exact h.more hle
  · exact h.reads
end
def BrR (q : Br) (v : Value) (w : World) : Prop := ∃ a, v = brV q a ∧ RdB_ w w.heap.size q a
set_option maxRecDepth 100000 in
theorem BrR.under {q : Br} {v : Value} {w w' : World} (hb : Below w.heap.size w w') (h : BrR q v w) : BrR q v w' := by
  obtain ⟨a, h1, h2⟩ := h
  exact ⟨a, h1, h2.up hb⟩
section
variable {K : Act → World → Prop} {Q : Exit → Act → World → Prop} {a : Act} {w : World} {d : Tmp} {t : TypeId} {pos : String} {after : Array Edge} {x y : Operand}
end

end Go.Proofs.YtplejbgecihnpaaDoor

namespace Go.Proofs.YtplejbgecihnpaaDoor
open Go.RowKit Go.Shelf

/-- A slice of numbers in memory of its own, from lo on. -/
def SlOwn (lo n : Nat) (zs : List Int) (v : Value) (w : World) : Prop := ∃ A c, v = .slice A n c ∧ w.ownsRow lo 3 1 (.slice A n c) n (iv zs)
def RecOwn (lo n k : Nat) (zs : List Int) (v : Value) (w : World) : Prop := ∃ A c, v = .agg #[.int .u8 (k : Int), .slice A n c] ∧ w.ownsRow lo 3 1 (.slice A n c) n (iv zs)
def RboxIs (lo : Nat) (v : Value) (w : World) : Prop := ∃ b, v = .pointer (some ⟨b, 0, none⟩) ∧ lo ≤ b ∧ Whole w b 50 #[.int .u8 0, .slice none 0 0]
section
variable {w w' : World}
set_option maxRecDepth 100000 in
theorem SlOwn.under {lo n : Nat} {zs : List Int} {v : Value} (hb : Below w.heap.size w w') (h : SlOwn lo n zs v w) : SlOwn lo n zs v w' := by
  obtain ⟨A, c, e, h⟩ := h
  exact ⟨A, c, e, own_under h hb⟩
set_option maxRecDepth 100000 in
theorem RecOwn.under {lo n k : Nat} {zs : List Int} {v : Value} (hb : Below w.heap.size w w') (h : RecOwn lo n k zs v w) : RecOwn lo n k zs v w' := by
  obtain ⟨A, c, e, h⟩ := h
  exact ⟨A, c, e, own_under h hb⟩
set_option maxRecDepth 100000 in
theorem RboxIs.under {lo : Nat} {v : Value} (hb : Below w.heap.size w w') (h : RboxIs lo v w) : RboxIs lo v w' := by
  obtain ⟨b, e, h1, h2⟩ := h
  exact ⟨b, e, h1, h2.under hb⟩
end
section
variable {K : Act → World → Prop} {Q : Exit → Act → World → Prop} {a : Act} {w : World} {d : Tmp} {t : TypeId} {pos : String} {after : Array Edge} {x y : Operand}
end
end Go.Proofs.YtplejbgecihnpaaDoor

namespace Go.Proofs.YtplejbgecihnpaaDoor
open Go.RowKit Go.Shelf

section
variable {P : Program} {ops : Array Oper} {Q : Exit → Act → World → Prop}
/-- Operation i leaves what lay ahead of the region, and what each operation has yielded that does not wait for it. -/
def Stay (ops : Array Oper) (n : Nat) (W : World) (R : Nat → Value → World → Prop) (i : Nat) (w w' : World) : Prop :=
  Below W.heap.size w w' ∧ ∀ j v, j < n → j ≠ i → (∀ oj, ops[j]? = some oj → waits oj i = false) → R j v w → R j v w'
set_option maxRecDepth 100000 in
theorem stay_grow {n : Nat} {W : World} {R : Nat → Value → World → Prop} {i : Nat} {w w' : World} (hR : ∀ i v w w', Below w.heap.size w w' → R i v w → R i v w') (hW : W.heap.size ≤ w.heap.size) (h : Below w.heap.size w w') : Stay ops n W R i w w' :=
  ⟨h.mono hW, fun j v _ _ _ hr => hR j v w w' h hr⟩
end

end Go.Proofs.YtplejbgecihnpaaDoor

namespace Go.Proofs.YtplejbgecihnpaaDoor
open Go.RowKit Go.Shelf

/-- An empty slice that is not nil, and where it lies. -/
def LitOwn (lo : Nat) (v : Value) (w : World) : Prop := ∃ b, v = .slice (some ⟨b, 0, none⟩) 0 0 ∧ w.ownsRow lo 3 1 v 0 []
/-- A slice of numbers of its own that is not nil; with no room if it is empty. -/
def SlAt (lo n : Nat) (zs : List Int) (v : Value) (w : World) : Prop := ∃ b c, v = .slice (some ⟨b, 0, none⟩) n c ∧ w.ownsRow lo 3 1 v n (iv zs) ∧ (n = 0 → c = 0)
section
variable {w w' : World}
set_option maxRecDepth 100000 in
theorem LitOwn.under {lo : Nat} {v : Value} (hb : Below w.heap.size w w') (h : LitOwn lo v w) : LitOwn lo v w' := by
  obtain ⟨b, e, h⟩ := h
  exact ⟨b, e, own_under h hb⟩
set_option maxRecDepth 100000 in
theorem SlAt.under {lo n : Nat} {zs : List Int} {v : Value} (hb : Below w.heap.size w w') (h : SlAt lo n zs v w) : SlAt lo n zs v w' := by
  obtain ⟨b, c, e, h, h0⟩ := h
  exact ⟨b, c, e, own_under h hb, h0⟩
end
section
variable {K : Act → World → Prop} {Q : Exit → Act → World → Prop} {a : Act} {w : World} {d : Tmp} {t : TypeId} {pos : String} {after : Array Edge} {x y : Operand}
end

end Go.Proofs.YtplejbgecihnpaaDoor

namespace Go.Proofs.YtplejbgecihnpaaDoor
open Go.RowKit Go.Shelf

set_option maxRecDepth 100000 in
theorem tokO {q : Br} {a : Ad} {id v : Int} {W : World} (h : OwB 0 W q a) (hn : q.its.length ≤ 1000) (e : tokenB q id = v) :
    Calls Tryd.prog 62 #[brV q a, .int .i64 id] W fun e w' => e = .returned (.int .i64 v) ∧ Below W.heap.size W w' := by
  subst e
  exact rtokenB_any q a id W.heap.size W h.reads (Nat.le_refl _) hn
set_option maxRecDepth 100000 in
theorem findO {q : Br} {a : Ad} {id v : Int} {W : World} (h : OwB 0 W q a) (hn : q.kps.length ≤ 1000) (e : findB q id = v) :
    Calls Tryd.prog 63 #[brV q a, .int .i64 id] W fun e w' => e = .returned (.int .i64 v) ∧ Below W.heap.size W w' := by
  subst e
  exact rfindB_any q a id W.heap.size W h.reads (Nat.le_refl _) hn
end Go.Proofs.YtplejbgecihnpaaDoor

namespace Go.Proofs.YtplejbgecihnpaaDoor
open Go.RowKit Go.Shelf

set_option maxRecDepth 100000 in
set_option maxHeartbeats 1000000 in
theorem rnumbersB_any (A : Option Addr) (n c : Nat) (l : List Int) (Z : Nat) (w : World) (hr : Rd w Z A n (iv l)) (hn : n ≤ 1000) :
    Calls Tryd.prog 39 #[.slice A n c] w fun e w' => e = .returned (.bool (numsB l)) ∧ w' = w := by
  have HR := Lib.hid hr
  have HL := Lib.hid (show l.length = n by have := hr.1; rwa [iv_length] at this)
  obtain ⟨v, hv⟩ : ∃ v, numsB l = v := ⟨_, rfl⟩
  rw [hv]
  have HV := Lib.hid hv
  clear hr hv
  go_enter Tryd.func39, Tryd.ntmps39
  go_wp2_with fail
  go_loopw [3] (fun i wr => ∃ j : Nat, i = .int .i64 (j : Int) ∧ j ≤ n ∧ (∀ x ∈ l.take j, isNum x = true) ∧ wr = w) (fun i _ => n - (intOf i).toNat)
  case atStart => exact ⟨0, rfl, Nat.zero_le _, by simp, rfl⟩
  case round =>
    obtain ⟨j, rfl, hj, hT, rfl⟩ := hrel
    have HT := Lib.hid hT
    clear hT
    by_cases hlt : j < n
    · have hr2 := HR.out
      obtain ⟨b, off, hA, _, hc⟩ := hr2.2 (by omega)
      subst hA
      obtain ⟨x, hx⟩ : ∃ x, l[j]? = some x := ⟨_, List.getElem?_eq_getElem (by rw [HL.out]; exact hlt)⟩
      have hcell : wr.cell? ⟨b, off + j, none⟩ = some (.int .i64 x) := by
        rw [hc j hlt]
        simp [iv, hx]
      have hI : (j : Int) < (n : Int) := by omega
      have HX := Lib.hid hx
      clear hc hx hr2
      have hfalse : isNum x = false → numsB l = false := fun e => by
        rw [numsB, List.all_eq_false]
        exact ⟨x, List.mem_of_getElem? HX.out, by rw [e]; simp⟩
      by_cases h0 : x < 0
      · have q0 : decide (x < 0) = true := decide_eq_true h0
        have HF := Lib.hid (show v = false by rw [← HV.out]; exact hfalse (by simp [isNum, show ¬ 0 ≤ x by omega]))
        clear h0 hfalse
        go_wp2_with fail
        go_ret
        exact ⟨by rw [HF.out]; rfl, rfl⟩
      by_cases h1 : 1099511627776 < x
      · have q0 : decide (x < 0) = false := decide_eq_false h0
        have q1 : decide ((1099511627776 : Int) < x) = true := decide_eq_true h1
        have HF := Lib.hid (show v = false by rw [← HV.out]; exact hfalse (by simp [isNum, show ¬ x ≤ 1099511627776 by omega]))
        clear h0 h1 hfalse
        go_wp2_with fail
        go_ret
        exact ⟨by rw [HF.out]; rfl, rfl⟩
      have q0 : decide (x < 0) = false := decide_eq_false h0
      have q1 : decide ((1099511627776 : Int) < x) = false := decide_eq_false h1
      have HN : Hid (∀ y ∈ l.take (j + 1), isNum y = true) := Lib.hid (fun y hy => by
        rw [List.take_succ_eq_append_getElem (List.getElem?_eq_some_iff.1 HX.out).1, (List.getElem?_eq_some_iff.1 HX.out).2, List.mem_append, List.mem_singleton] at hy
        rcases hy with hy | rfl
        · exact HT.out y hy
        · exact isNum_yes (by omega) (by omega))
      clear h0 h1 hfalse
      go_wp2_with fail
      go_roundw
      case rel => exact ⟨j + 1, by go_num, by omega, HN.out, by first | rfl | trivial⟩
      case measure => simp [intOf]; omega
    · have HF := Lib.hid (show v = true by
        rw [← HV.out, numsB, List.all_eq_true]
        intro x hx
        exact HT.out x (by rw [List.take_of_length_le (by have := HL.out; omega)]; exact hx))
      go_wp2_with fail
      go_ret
      exact ⟨by rw [HF.out]; rfl, by first | rfl | trivial⟩

end Go.Proofs.YtplejbgecihnpaaDoor
