/-
  Texts that the walks of the statements over logs lean on, joined (BrRefRight, BrLawKit, CtLawMore, CtSums). Conditions: those that each theorem names.
-/
import Derived.Test.YtplejbgecihnpaaDoorJ1
import Derived.Test.YtplejbgecihnpaaDoorJ5
import Derived.Test.YtplejbgecihnpaaDoorJ6
import Derived.Test.YtplejbgecihnpaaDoorJ8
import Derived.Test.YtplejbgecihnpaaDoorJ10
import Derived.Test.YtplejbgecihnpaaDoorJ18
import Derived.Test.YtplejbgecihnpaaDoorJ19

/-
  The walk of the document's own 'Right' of brains. Conditions: those that each theorem names.
-/
namespace Go.Proofs.YtplejbgecihnpaaDoor
open Go.RowKit Go.Shelf

set_option maxRecDepth 100000 in
set_option maxHeartbeats 8000000 in
theorem rrightB_any (p : Br) (a : Ad) (Z : Nat) (w : World) (hr : RdB_ w Z p a) (hZ : Z ≤ w.heap.size) (hm : p.cf.ms.length ≤ 1000) (hi : p.its.length ≤ 1000) (hk : p.kps.length ≤ 1000) :
    Calls Tryd.prog 23 #[brV p a] w (BoolPost (rightBb p) w) := by
  have hb : Below w.heap.size w (w.alloc (.cells (brC p a) 30)) := (Below.refl _ _).alloc (Nat.le_refl _) _
  have w0 := Whole.new w 30 (brC p a)
  obtain ⟨V, hV⟩ : ∃ V, w.alloc (.cells (brC p a) 30) = V := ⟨_, rfl⟩
  rw [hV] at hb w0
  have HR := Lib.hid (hr.below (hb.mono hZ))
  have HB := Lib.hid hb
  have X0 := Lib.hid w0
  have HV := Lib.hid hV
  have HZ := Lib.hid (Nat.le_trans hZ hb.size)
  have HM := Lib.hid hm
  obtain ⟨r, hres⟩ : ∃ r, rightBb p = r := ⟨_, rfl⟩
  rw [hres]
  unfold rightBb isNum at hres
  have HRes := Lib.hid hres
  clear hb w0 hr hZ hV hres hm
  by_cases m0 : p.ep < 0
  · have e0 : decide (p.ep < 0) = true := decide_eq_true m0
    have HF := Lib.hid (show r = false by
      rw [← HRes.out, show decide (0 ≤ p.ep) = false from decide_eq_false (by omega)]
      simp)
    clear m0
    go_enter Tryd.func23, Tryd.ntmps23
    go_upto_region 1 with fail
    refine wpV (fun V2 hV2 => ?_)
    obtain rfl : V = V2 := HV.out.symm.trans hV2
    clear HV hV2
    obtain ⟨c0, c1, c2, c3, c4, c5, c6, c7, c8, c9, c10, c11, c12, c13, c14, c15, c16, c17, c18, c19, c20, c21, c22, c23, c24, c25, c26⟩ := cells27 X0.out
    go_wp2_with fail
    go_ret
    exact ⟨by rw [HF.out]; rfl, HB.out⟩
  have e0 : decide (p.ep < 0) = false := decide_eq_false m0
  by_cases m1 : 1099511627776 < p.ep
  · have e1 : decide ((1099511627776 : Int) < p.ep) = true := decide_eq_true m1
    have HF := Lib.hid (show r = false by
      rw [← HRes.out, show decide (p.ep ≤ 1099511627776) = false from decide_eq_false (by omega)]
      simp)
    clear m1
    go_enter Tryd.func23, Tryd.ntmps23
    go_upto_region 1 with fail
    refine wpV (fun V2 hV2 => ?_)
    obtain rfl : V = V2 := HV.out.symm.trans hV2
    clear HV hV2
    obtain ⟨c0, c1, c2, c3, c4, c5, c6, c7, c8, c9, c10, c11, c12, c13, c14, c15, c16, c17, c18, c19, c20, c21, c22, c23, c24, c25, c26⟩ := cells27 X0.out
    go_wp2_with fail
    go_ret
    exact ⟨by rw [HF.out]; rfl, HB.out⟩
  have e1 : decide ((1099511627776 : Int) < p.ep) = false := decide_eq_false m1
  by_cases m2 : p.sq < 0
  · have e2 : decide (p.sq < 0) = true := decide_eq_true m2
    have HF := Lib.hid (show r = false by
      rw [← HRes.out, show decide (0 ≤ p.sq) = false from decide_eq_false (by omega)]
      simp)
    clear m2
    go_enter Tryd.func23, Tryd.ntmps23
    go_upto_region 1 with fail
    refine wpV (fun V2 hV2 => ?_)
    obtain rfl : V = V2 := HV.out.symm.trans hV2
    clear HV hV2
    obtain ⟨c0, c1, c2, c3, c4, c5, c6, c7, c8, c9, c10, c11, c12, c13, c14, c15, c16, c17, c18, c19, c20, c21, c22, c23, c24, c25, c26⟩ := cells27 X0.out
    go_wp2_with fail
    go_ret
    exact ⟨by rw [HF.out]; rfl, HB.out⟩
  have e2 : decide (p.sq < 0) = false := decide_eq_false m2
  by_cases m3 : 1099511627776 < p.sq
  · have e3 : decide ((1099511627776 : Int) < p.sq) = true := decide_eq_true m3
    have HF := Lib.hid (show r = false by
      rw [← HRes.out, show decide (p.sq ≤ 1099511627776) = false from decide_eq_false (by omega)]
      simp)
    clear m3
    go_enter Tryd.func23, Tryd.ntmps23
    go_upto_region 1 with fail
    refine wpV (fun V2 hV2 => ?_)
    obtain rfl : V = V2 := HV.out.symm.trans hV2
    clear HV hV2
    obtain ⟨c0, c1, c2, c3, c4, c5, c6, c7, c8, c9, c10, c11, c12, c13, c14, c15, c16, c17, c18, c19, c20, c21, c22, c23, c24, c25, c26⟩ := cells27 X0.out
    go_wp2_with fail
    go_ret
    exact ⟨by rw [HF.out]; rfl, HB.out⟩
  have e3 : decide ((1099511627776 : Int) < p.sq) = false := decide_eq_false m3
  have HN := Lib.hid (show (itsOk p.sq 0 p.its && (kpsOk 0 p.kps && (rfOk p.rf && setOk p))) = r by
    rw [← HRes.out, decide_eq_true (show 0 ≤ p.ep by omega), decide_eq_true (show p.ep ≤ 1099511627776 by omega), decide_eq_true (show 0 ≤ p.sq by omega), decide_eq_true (show p.sq ≤ 1099511627776 by omega)]
    rfl)
  clear m0 m1 m2 m3 HRes
  go_enter Tryd.func23, Tryd.ntmps23
  go_upto_region 1 with fail
  refine wpV (fun V2 hV2 => ?_)
  obtain rfl : V = V2 := HV.out.symm.trans hV2
  clear HV hV2
  obtain ⟨c0, c1, c2, c3, c4, c5, c6, c7, c8, c9, c10, c11, c12, c13, c14, c15, c16, c17, c18, c19, c20, c21, c22, c23, c24, c25, c26⟩ := cells27 X0.out
  go_wp2_with fail
  go_loopw [3, 4] (fun la i wr => ∃ (j : Nat) (L : Int), la = .int .i64 L ∧ i = .int .i64 (j : Int) ∧ j ≤ p.its.length ∧ itsOk p.sq 0 p.its = itsOk p.sq L (p.its.drop j) ∧ ∃ k, wr = V.drewN k) (fun _ i _ => p.its.length - (intOf i).toNat)
  case atStart => exact ⟨0, 0, rfl, rfl, Nat.zero_le _, rfl, 0, rfl⟩
  case round =>
    obtain ⟨j, L, rfl, rfl, hj, hT, k4, rfl⟩ := hrel
    have HT4 := Lib.hid hT
    clear hT
    by_cases hlt : j < p.its.length
    · obtain ⟨b1, off1, h1, _, hc⟩ := RdI.at_ HR.out.its (by omega)
      rw [h1] at c18
      obtain ⟨x, hx⟩ : ∃ x, p.its[j]? = some x := ⟨_, List.getElem?_eq_getElem hlt⟩
      obtain ⟨g0, g1, g2, g3⟩ := hc j x hx
      have hI : (j : Int) < (p.its.length : Int) := by omega
      have hdr : p.its.drop j = x :: p.its.drop (j + 1) := by rw [List.drop_eq_getElem_cons hlt, (List.getElem?_eq_some_iff.1 hx).2]
      have HD := Lib.hid hdr
      have hsx := HT4.out
      rw [hdr] at hsx
      simp only [itsOk] at hsx
      have HSX := Lib.hid hsx
      clear hc hx h1 hdr hsx
      by_cases n0 : x.tok ≤ L
      · have f0 : decide (x.tok ≤ L) = true := decide_eq_true n0
        have HF := Lib.hid (show r = false by
          rw [← HN.out, HSX.out, show decide (L < x.tok) = false from decide_eq_false (by omega)]
          simp)
        clear n0
        go_wp2_with fail
        go_quiet (fail)
        go_wp2_with fail
        go_ret
        exact ⟨by rw [HF.out]; rfl, below_drewB (below_drewB HB.out _) _⟩
      have f0 : decide (x.tok ≤ L) = false := decide_eq_false n0
      by_cases n1 : p.sq < x.tok
      · have f1 : decide (p.sq < x.tok) = true := decide_eq_true n1
        have HF := Lib.hid (show r = false by
          rw [← HN.out, HSX.out, show decide (x.tok ≤ p.sq) = false from decide_eq_false (by omega)]
          simp)
        clear n1
        go_wp2_with fail
        go_quiet (fail)
        go_wp2_with fail
        go_ret
        exact ⟨by rw [HF.out]; rfl, below_drewB (below_drewB HB.out _) _⟩
      have f1 : decide (p.sq < x.tok) = false := decide_eq_false n1
      have HX2 := Lib.hid (show itsOk p.sq 0 p.its = itsOk p.sq x.tok (p.its.drop (j + 1)) by
        rw [HSX.out, decide_eq_true (show L < x.tok by omega), decide_eq_true (show x.tok ≤ p.sq by omega)]
        rfl)
      clear n0 n1
      go_wp2_with fail
      go_quiet (fail)
      go_wp2_with fail
      go_roundw
      case rel => exact ⟨j + 1, x.tok, rfl, by go_num, by omega, HX2.out, _, rfl⟩
      case measure => simp [intOf]; omega
    · have HEi := Lib.hid (show itsOk p.sq 0 p.its = true by
        rw [HT4.out, List.drop_of_length_le (by omega)]; rfl)
      have HN2 := Lib.hid (show (kpsOk 0 p.kps && (rfOk p.rf && setOk p)) = r by rw [← HN.out, HEi.out]; rfl)
      clear HN
      have HN := HN2
      clear HN2
      go_wp2_with fail
      go_loopw [3, 5] (fun la i wr => ∃ (j : Nat) (L : Int), la = .int .i64 L ∧ i = .int .i64 (j : Int) ∧ j ≤ p.kps.length ∧ kpsOk 0 p.kps = kpsOk L (p.kps.drop j) ∧ ∃ k, wr = V.drewN k) (fun _ i _ => p.kps.length - (intOf i).toNat)
      case atStart => exact ⟨0, 0, rfl, rfl, Nat.zero_le _, rfl, _, rfl⟩
      case round =>
        obtain ⟨j, L, rfl, rfl, hj, hT, k5, rfl⟩ := hrel
        have HT5 := Lib.hid hT
        clear hT
        by_cases hlt : j < p.kps.length
        · obtain ⟨b1, off1, h1, _, hc⟩ := RdK.at_ HR.out.kps (by omega)
          rw [h1] at c19
          obtain ⟨x, hx⟩ : ∃ x, p.kps[j]? = some x := ⟨_, List.getElem?_eq_getElem hlt⟩
          obtain ⟨g0, g1, g2, g3, g4, g5, g6, g7⟩ := hc j x hx
          have hI : (j : Int) < (p.kps.length : Int) := by omega
          have hdr : p.kps.drop j = x :: p.kps.drop (j + 1) := by rw [List.drop_eq_getElem_cons hlt, (List.getElem?_eq_some_iff.1 hx).2]
          have HD := Lib.hid hdr
          have hsx := HT5.out
          rw [hdr] at hsx
          simp only [kpsOk] at hsx
          have HSX := Lib.hid hsx
          clear hc hx h1 hdr hsx
          by_cases n0 : x.id ≤ L
          · have f0 : decide (x.id ≤ L) = true := decide_eq_true n0
            have HF := Lib.hid (show r = false by
              rw [← HN.out, HSX.out, show decide (L < x.id) = false from decide_eq_false (by omega)]
              simp)
            clear n0
            go_wp2_with fail
            skip
            skip
            go_ret
            exact ⟨by rw [HF.out]; rfl, below_drewB HB.out _⟩
          have f0 : decide (x.id ≤ L) = false := decide_eq_false n0
          by_cases n1 : 1099511627776 < x.id
          · have f1 : decide ((1099511627776 : Int) < x.id) = true := decide_eq_true n1
            have HF := Lib.hid (show r = false by
              rw [← HN.out, HSX.out, show decide (x.id ≤ brMax) = false from decide_eq_false (by unfold brMax; omega)]
              simp)
            clear n1
            go_wp2_with fail
            skip
            skip
            go_ret
            exact ⟨by rw [HF.out]; rfl, below_drewB HB.out _⟩
          have f1 : decide ((1099511627776 : Int) < x.id) = false := decide_eq_false n1
          by_cases n2 : x.phase < 1
          · have f2 : decide (x.phase < 1) = true := decide_eq_true n2
            have HF := Lib.hid (show r = false by
              rw [← HN.out, HSX.out, show decide (1 ≤ x.phase) = false from decide_eq_false (by omega)]
              simp)
            clear n2
            go_wp2_with fail
            skip
            skip
            go_ret
            exact ⟨by rw [HF.out]; rfl, below_drewB HB.out _⟩
          have f2 : decide (x.phase < 1) = false := decide_eq_false n2
          by_cases n3 : 10 < x.phase
          · have f3 : decide ((10 : Int) < x.phase) = true := decide_eq_true n3
            have HF := Lib.hid (show r = false by
              rw [← HN.out, HSX.out, show decide (x.phase ≤ 10) = false from decide_eq_false (by omega)]
              simp)
            clear n3
            go_wp2_with fail
            skip
            skip
            go_ret
            exact ⟨by rw [HF.out]; rfl, below_drewB HB.out _⟩
          have f3 : decide ((10 : Int) < x.phase) = false := decide_eq_false n3
          have HX2 := Lib.hid (show kpsOk 0 p.kps = kpsOk x.id (p.kps.drop (j + 1)) by
            rw [HSX.out, decide_eq_true (show L < x.id by omega), decide_eq_true (show x.id ≤ brMax by unfold brMax; omega), decide_eq_true (show 1 ≤ x.phase by omega), decide_eq_true (show x.phase ≤ 10 by omega)]
            rfl)
          clear n0 n1 n2 n3
          go_wp2_with fail
          skip
          skip
          go_roundw
          case rel => exact ⟨j + 1, x.id, rfl, by go_num, by omega, HX2.out, _, rfl⟩
          case measure => simp [intOf]; omega
        · have HEk := Lib.hid (show kpsOk 0 p.kps = true by
            rw [HT5.out, List.drop_of_length_le (by omega)]; rfl)
          have HN2 := Lib.hid (show (rfOk p.rf && setOk p) = r by rw [← HN.out, HEk.out]; rfl)
          clear HN
          have HN := HN2
          clear HN2
          have HW : Hid (Whole ((V.drewN k5).alloc (.cells #[.int .u8 0, .int .i64 0, .int .i64 0, .int .i64 0, .bool false, .int .i64 0, .int .i64 0] 28)) V.heap.size 28 #[.int .u8 0, .int .i64 0, .int .i64 0, .int .i64 0, .bool false, .int .i64 0, .int .i64 0]) := Lib.hid (Whole.new (V.drewN k5) _ _)
          have HA : Hid ((#[.int .u8 p.rf.st, .int .i64 p.rf.fr, .int .i64 p.rf.to_, .int .i64 p.rf.step, .bool p.rf.paused, .int .i64 p.rf.since, .int .i64 p.rf.fails] : Array Value).all (·.oneCell') = true) := Lib.hid (by simp [Value.oneCell'])
          have HBw : Hid (Below V.heap.size (V.drewN k5) ((V.drewN k5).alloc (.cells #[.int .u8 0, .int .i64 0, .int .i64 0, .int .i64 0, .bool false, .int .i64 0, .int .i64 0] 28))) := Lib.hid ((Below.refl _ (V.drewN k5)).alloc (Nat.le_refl _) _)
          go_upto_region 18 with (refine wpList_store_row (by rfl) 28 _ _ rfl V.heap.size #[.int .u8 p.rf.st, .int .i64 p.rf.fr, .int .i64 p.rf.to_, .int .i64 p.rf.step, .bool p.rf.paused, .int .i64 p.rf.since, .int .i64 p.rf.fails] (by rfl) (by rfl) 28 _ HW.out (by kernel_rfl) rfl HA.out ?_)
          refine wpV (fun V3 hV3 => ?_)
          have bV : Below V.heap.size (V.drewN k5) V3 := by rw [← hV3]; exact below_rowsetB HBw.out (Nat.le_refl _) _
          have x6 : Whole V3 V.heap.size 28 #[.int .u8 p.rf.st, .int .i64 p.rf.fr, .int .i64 p.rf.to_, .int .i64 p.rf.step, .bool p.rf.paused, .int .i64 p.rf.since, .int .i64 p.rf.fails] := by rw [← hV3]; exact setRow_heap _ _ _ _ _ _ HW.out
          have bV2 : Below V.heap.size V V3 := (below_drewB (Below.refl _ V) k5).trans bV
          have HB3 := Lib.hid (HB.out.trans (bV2.mono HB.out.size))
          have HR3 := Lib.hid (HR.out.below (bV2.mono HZ.out))
          have HZ3 := Lib.hid (Nat.le_trans HZ.out bV2.size)
          have X03 := Lib.hid (X0.out.under bV2)
          clear c0 c1 c2 c3 c4 c5 c6 c7 c8 c9 c10 c11 c12 c13 c14 c15 c16 c17 c18 c19 c20 c21 c22 c23 c24 c25 c26
          obtain ⟨c0, c1, c2, c3, c4, c5, c6, c7, c8, c9, c10, c11, c12, c13, c14, c15, c16, c17, c18, c19, c20, c21, c22, c23, c24, c25, c26⟩ := cells27 X03.out
          have r0 := x6.cell 0
          have r1 := x6.cell 1
          have r2 := x6.cell 2
          simp only [List.getElem?_toArray, List.getElem?_cons_zero, List.getElem?_cons_succ] at r0 r1 r2
          clear hV3 bV bV2 x6 X0 HB HR HZ HW HA HBw
          by_cases z0 : p.rf.st = 1
          rotate_left
          · have z1 : (p.rf.st == 1) = false := by simp [z0]
            have HN2 := Lib.hid (show setOk p = r by rw [← HN.out, rfOk, decide_eq_false z0]; rfl)
            clear HN z0
            have HN := HN2
            clear HN2
            cases hset : p.set with
            | true =>
              have HC := Lib.hid (fun W (hb : Below V3.heap.size V3 W) => refCheck_any (cfM p a) Z W (HR3.out.below (hb.mono HZ3.out)).lies (Nat.le_trans HZ3.out hb.size) HM.out)
              have hme : may (cfM p a) = r := by rw [← HN.out, setOk, if_pos hset]; rfl
              rw [hme] at HC
              rw [hset] at c2
              clear hset hme
              go_wp2_with fail
              refine (HC.out V3 (Below.refl _ _)).mono ?_
              rintro e w9 ⟨rfl, hb9⟩
              have HB9 := Lib.hid (HB3.out.trans (hb9.mono HB3.out.size))
              clear hb9 c0 c1 c2 c3 c4 c5 c6 c7 c8 c9 c10 c11 c12 c13 c14 c15 c16 c17 c18 c19 c20 c21 c22 c23 c24 c25 c26
              cases r with
              | true =>
                go_wp2_with fail
                go_ret
                exact ⟨by rfl, HB9.out⟩
              | false =>
                go_wp2_with fail
                go_ret
                exact ⟨by rfl, HB9.out⟩
            | false =>
              have hme : (decide (p.its = []) && decide (p.rf.st = 0)) = r := by rw [← HN.out, setOk, hset]; rfl
              have HMe := Lib.hid hme
              rw [hset] at c2
              clear hset hme
              by_cases i0 : p.its.length = 0
              · have i1 : ((p.its.length : Int) == 0) = true := by rw [i0]; rfl
                have i2 : p.its = [] := List.eq_nil_of_length_eq_zero i0
                have HF := Lib.hid (show r = decide (p.rf.st = 0) by rw [← HMe.out, decide_eq_true i2]; rfl)
                clear i0 i2
                by_cases s0 : p.rf.st = 0
                · have s1 : (p.rf.st == 0) = true := by simp [s0]
                  have HG := Lib.hid (show r = true by rw [HF.out, decide_eq_true s0])
                  clear s0
                  go_wp2_with fail
                  go_ret
                  exact ⟨by rw [HG.out]; rfl, HB3.out⟩
                · have s1 : (p.rf.st == 0) = false := by simp [s0]
                  have HG := Lib.hid (show r = false by rw [HF.out, decide_eq_false s0])
                  clear s0
                  go_wp2_with fail
                  go_ret
                  exact ⟨by rw [HG.out]; rfl, HB3.out⟩
              · have i1 : ((p.its.length : Int) == 0) = false := by simp only [beq_eq_false_iff_ne, ne_eq]; omega
                have HG := Lib.hid (show r = false by
                  rw [← HMe.out, decide_eq_false (show ¬ p.its = [] from fun e => i0 (by rw [e]; rfl))]; rfl)
                clear i0
                go_wp2_with fail
                go_ret
                exact ⟨by rw [HG.out]; rfl, HB3.out⟩
          have z1 : (p.rf.st == 1) = true := by simp [z0]
          by_cases y0 : p.rf.fr < 1
          · have v0 : decide (p.rf.fr < 1) = true := decide_eq_true y0
            have HF := Lib.hid (show r = false by
              rw [← HN.out, rfOk, decide_eq_true z0, show decide (1 ≤ p.rf.fr) = false from decide_eq_false (by omega)]
              simp)
            clear y0 z0
            go_wp2_with fail
            go_ret
            exact ⟨by rw [HF.out]; rfl, HB3.out⟩
          have v0 : decide (p.rf.fr < 1) = false := decide_eq_false y0
          by_cases y1 : 1099511627776 < p.rf.fr
          · have v1 : decide ((1099511627776 : Int) < p.rf.fr) = true := decide_eq_true y1
            have HF := Lib.hid (show r = false by
              rw [← HN.out, rfOk, decide_eq_true z0, show decide (p.rf.fr ≤ brMax) = false from decide_eq_false (by unfold brMax; omega)]
              simp)
            clear y1 z0
            go_wp2_with fail
            go_ret
            exact ⟨by rw [HF.out]; rfl, HB3.out⟩
          have v1 : decide ((1099511627776 : Int) < p.rf.fr) = false := decide_eq_false y1
          by_cases y2 : p.rf.to_ < 1
          · have v2 : decide (p.rf.to_ < 1) = true := decide_eq_true y2
            have HF := Lib.hid (show r = false by
              rw [← HN.out, rfOk, decide_eq_true z0, show decide (1 ≤ p.rf.to_) = false from decide_eq_false (by omega)]
              simp)
            clear y2 z0
            go_wp2_with fail
            go_ret
            exact ⟨by rw [HF.out]; rfl, HB3.out⟩
          have v2 : decide (p.rf.to_ < 1) = false := decide_eq_false y2
          by_cases y3 : 1099511627776 < p.rf.to_
          · have v3 : decide ((1099511627776 : Int) < p.rf.to_) = true := decide_eq_true y3
            have HF := Lib.hid (show r = false by
              rw [← HN.out, rfOk, decide_eq_true z0, show decide (p.rf.to_ ≤ brMax) = false from decide_eq_false (by unfold brMax; omega)]
              simp)
            clear y3 z0
            go_wp2_with fail
            go_ret
            exact ⟨by rw [HF.out]; rfl, HB3.out⟩
          have v3 : decide ((1099511627776 : Int) < p.rf.to_) = false := decide_eq_false y3
          have HN2 := Lib.hid (show setOk p = r by
            rw [← HN.out, rfOk, decide_eq_true (show 1 ≤ p.rf.fr by omega), decide_eq_true (show p.rf.fr ≤ brMax by unfold brMax; omega), decide_eq_true (show 1 ≤ p.rf.to_ by omega), decide_eq_true (show p.rf.to_ ≤ brMax by unfold brMax; omega)]
            simp)
          clear HN z0 y0 y1 y2 y3
          have HN := HN2
          clear HN2
          cases hset : p.set with
          | true =>
            have HC := Lib.hid (fun W (hb : Below V3.heap.size V3 W) => refCheck_any (cfM p a) Z W (HR3.out.below (hb.mono HZ3.out)).lies (Nat.le_trans HZ3.out hb.size) HM.out)
            have hme : may (cfM p a) = r := by rw [← HN.out, setOk, if_pos hset]; rfl
            rw [hme] at HC
            rw [hset] at c2
            clear hset hme
            go_wp2_with fail
            refine (HC.out V3 (Below.refl _ _)).mono ?_
            rintro e w9 ⟨rfl, hb9⟩
            have HB9 := Lib.hid (HB3.out.trans (hb9.mono HB3.out.size))
            clear hb9 c0 c1 c2 c3 c4 c5 c6 c7 c8 c9 c10 c11 c12 c13 c14 c15 c16 c17 c18 c19 c20 c21 c22 c23 c24 c25 c26
            cases r with
            | true =>
              go_wp2_with fail
              go_ret
              exact ⟨by rfl, HB9.out⟩
            | false =>
              go_wp2_with fail
              go_ret
              exact ⟨by rfl, HB9.out⟩
          | false =>
            have hme : (decide (p.its = []) && decide (p.rf.st = 0)) = r := by rw [← HN.out, setOk, hset]; rfl
            have HMe := Lib.hid hme
            rw [hset] at c2
            clear hset hme
            by_cases i0 : p.its.length = 0
            · have i1 : ((p.its.length : Int) == 0) = true := by rw [i0]; rfl
              have i2 : p.its = [] := List.eq_nil_of_length_eq_zero i0
              have HF := Lib.hid (show r = decide (p.rf.st = 0) by rw [← HMe.out, decide_eq_true i2]; rfl)
              clear i0 i2
              by_cases s0 : p.rf.st = 0
              · have s1 : (p.rf.st == 0) = true := by simp [s0]
                have HG := Lib.hid (show r = true by rw [HF.out, decide_eq_true s0])
                clear s0
                go_wp2_with fail
                go_ret
                exact ⟨by rw [HG.out]; rfl, HB3.out⟩
              · have s1 : (p.rf.st == 0) = false := by simp [s0]
                have HG := Lib.hid (show r = false by rw [HF.out, decide_eq_false s0])
                clear s0
                go_wp2_with fail
                go_ret
                exact ⟨by rw [HG.out]; rfl, HB3.out⟩
            · have i1 : ((p.its.length : Int) == 0) = false := by simp only [beq_eq_false_iff_ne, ne_eq]; omega
              have HG := Lib.hid (show r = false by
                rw [← HMe.out, decide_eq_false (show ¬ p.its = [] from fun e => i0 (by rw [e]; rfl))]; rfl)
              clear i0
              go_wp2_with fail
              go_ret
              exact ⟨by rw [HG.out]; rfl, HB3.out⟩

end Go.Proofs.YtplejbgecihnpaaDoor

/-
  What the walks of the statements over brains share. Conditions: those that each theorem names.
-/
namespace Go.Proofs.YtplejbgecihnpaaDoor
open Go.RowKit Go.Shelf

def TruePostB (w : World) (e : Ending) (w' : World) : Prop := e = .returned (.bool true) ∧ Below w.heap.size w w'
set_option maxRecDepth 100000 in
theorem ms_apply {p : Br} {k : Int} {zs : List Int} (h : p.cf.ms.length ≤ 1000) : (applyB p k zs).cf.ms.length ≤ 1000 := by
  refine apply_cases (P := fun o : Br => o.cf.ms.length ≤ 1000) (fun _ hr => ?_) (fun hn _ _ => ?_) h
  · unfold confB; rw [if_pos hr]
    have hm : (zs.drop 14).length ≤ 4 := by
      unfold isRow may marksB at hr
      simp only [Bool.and_eq_true, decide_eq_true_eq] at hr
      exact hr.2.2.1.1
    show (if p.set then { ofRow zs none 0 0 with f12 := p.cf.f12 } else ofRow zs none 0 0 : Cf).ms.length ≤ 1000
    split
    · show (zs.drop 14).length ≤ 1000
      omega
    · show (zs.drop 14).length ≤ 1000
      omega
  refine fit_cases (P := fun o : Br => o.cf.ms.length ≤ 1000) (fun e => ?_) (fun e => ?_) (fun e => ?_) (fun e => ?_) (fun e => ?_) (fun e => ?_) (fun e => ?_) (fun e => ?_) (fun e => ?_) (fun _ e => ?_) h
  · unfold bootB; split <;> exact h
  · unfold intentB; split <;> exact h
  · unfold madeB; split
    · exact h
    · split <;> exact h
  · unfold phaseB; split
    · exact h
    · split <;> exact h
  · unfold goneB_; split <;> exact h
  · unfold takeB; split <;> exact h
  · unfold guardB; split
    · exact h
    · split <;> exact h
  · unfold doneB; split
    · exact h
    · split <;> exact h
  · unfold startB; split <;> exact h
  · unfold refB
    repeat' split
    all_goals exact h
set_option maxRecDepth 100000 in
/-- A brain handed in reads, and may be asked. -/
theorem BrAny.good {W : World} {p : Br} {a : Ad} (h : BrAny W p a) (hg : gB p = false) : Good 80 p ∧ p.cf.ms.length ≤ 1000 := by
  obtain ⟨h1, h2, h3⟩ := gB_no hg
  exact ⟨⟨by omega, h.ep, h.sq, h.ph⟩, by omega⟩

section
variable {K : Act → World → Prop} {Q : Exit → Act → World → Prop} {a : Act} {w : World} {d : Tmp} {t : TypeId} {pos : String} {after : Array Edge} {x y : Operand}
set_option maxRecDepth 100000 in
theorem opB_move {v : Value} (hx : a.eval x = v) (h : K (a.put (some d) v) w) :
    ({ dst := some d, op := .move x, type := t, pos := pos, after := after, guard := none } : Oper).wp Tryd.prog a w K Q := by
  unfold Oper.wp execOp
  simp only [hx]
  go_simp
  exact h
set_option maxRecDepth 100000 in
theorem opB_loadRec {b o k n c : Nat} {A : Option Addr} (hx : a.eval x = .pointer (some ⟨b, o, none⟩)) (h0 : w.cell? ⟨b, o, none⟩ = some (.int .u8 (k : Int))) (h1 : w.cell? ⟨b, o + 1, none⟩ = some (.slice A n c)) (h : K (a.put (some d) (.agg #[.int .u8 (k : Int), .slice A n c])) w) :
    ({ dst := some d, op := .load 50 x, type := t, pos := pos, after := after, guard := none } : Oper).wp Tryd.prog a w K Q := by
  unfold Oper.wp execOp
  simp only [hx]
  go_simp
  exact h
end

/-- A brain that reads: as it was handed in, or in memory of its own. -/
def Hs (w : World) (q : Br) (a : Ad) (W : World) : Prop := RdB_ W w.heap.size q a ∨ OwB 0 W q a
section
variable {w W W' : World} {q : Br} {a : Ad}
set_option maxRecDepth 100000 in
theorem Hs.under (h : Hs w q a W) (hle : w.heap.size ≤ W.heap.size) (hb : Below W.heap.size W W') : Hs w q a W' := by
  rcases h with h | h
  · exact .inl (h.below (hb.mono hle))
  · exact .inr (h.under hb)
set_option maxRecDepth 100000 in
theorem Hs.rowset {g : Nat} {cs : Array Value} (h : Hs w q a W) (hW : Whole W g 30 cs) (hg : w.heap.size ≤ g) (c' : Array Value) : Hs w q a (W.setRow g c') := by
  rcases h with h | h
  · exact .inl (h.below (below_rowsetB (Below.refl _ _) hg c'))
  · exact .inr (h.rowset hW (by decide) (by decide) (by decide) c')
set_option maxRecDepth 100000 in
theorem Hs.reads (h : Hs w q a W) (hle : w.heap.size ≤ W.heap.size) : RdB_ W W.heap.size q a := by
  rcases h with h | h
  · exact h.more hle
  · exact h.reads
end
def BrR (q : Br) (v : Value) (w : World) : Prop := ∃ a, v = brV q a ∧ RdB_ w w.heap.size q a
set_option maxRecDepth 100000 in
theorem BrR.under {q : Br} {v : Value} {w w' : World} (hb : Below w.heap.size w w') (h : BrR q v w) : BrR q v w' := by
  obtain ⟨a, h1, h2⟩ := h
  exact ⟨a, h1, h2.up hb⟩
section
variable {K : Act → World → Prop} {Q : Exit → Act → World → Prop} {a : Act} {w : World} {d : Tmp} {t : TypeId} {pos : String} {after : Array Edge} {x y : Operand}
end

end Go.Proofs.YtplejbgecihnpaaDoor

/-
  The walk of the statement CountMore, over what package count's functions tell. Conditions: those that the theorem names.
-/
namespace Go.Proofs.YtplejbgecihnpaaDoor
open Go.RowKit Go.Shelf

theorem rw20 {n : Nat} (h : n ≤ 5000) : IntKind.i64.wrap ((n : Int) + 1) = (n : Int) + 1 := wrapS (by omega) (by omega)

set_option maxRecDepth 100000 in
set_option maxHeartbeats 8000000 in
theorem countMore_any (C : CountOk) (p : Br) (a : Ad) (x : Kp) (w : World) (hb0 : BrAny w p a) (hT : Tab w) :
    Calls Tryd.prog 5 #[brV p a, x.v] w (TruePost w) := by
  obtain ⟨hb, w0, w1⟩ := two_new w 30 32 (brC p a) x.cells
  obtain ⟨V, hV⟩ : ∃ V, ((w.alloc (.cells (brC p a) 30)).alloc (.cells x.cells 32)) = V := ⟨_, rfl⟩
  rw [hV] at hb w0 w1
  have HB := Lib.hid hb
  have HV := Lib.hid hV
  have W0 := Lib.hid w0
  have W1 := Lib.hid w1
  have HT := Lib.hid (hT.under hb)
  have HC := Lib.hid C
  have HA := Lib.hid hb0
  have HT0 := Lib.hid hT
  clear hb w0 w1 hV hT C hb0
  obtain ⟨bg, hbg⟩ : ∃ b, gB p = b := ⟨_, rfl⟩
  have HG := Lib.hid hbg
  clear hbg
  go_enter Tryd.func5, Tryd.ntmps5
  go_upto_region 1 with fail
  refine wpV (fun V2 hV2 => ?_)
  obtain rfl : V = V2 := HV.out.symm.trans hV2
  clear HV hV2
  go_wp2_with (refine wpList_loadB (by rfl) _ rfl w.heap.size p a (by rfl) W0.out ?_)
  refine (greatB_any p a V).mono ?_
  rintro e U ⟨rfl, hb1⟩
  rw [HG.out]
  have HBU := Lib.hid (HB.out.trans (hb1.mono HB.out.size))
  have T1 := Lib.hid (HT.out.under hb1)
  have X0 := Lib.hid (W0.out.under hb1)
  have X1 := Lib.hid (W1.out.under hb1)
  clear hb1 W0 W1 HT HB
  cases bg with
  | true =>
    go_wp2_with fail
    refine (wakes15_any HC.out U T1.out).mono ?_
    rintro e w7 ⟨rfl, hb7⟩
    have HB7 := Lib.hid (HBU.out.trans (hb7.mono HBU.out.size))
    clear hb7
    go_wp2_with fail
    go_ret
    exact ⟨rfl, HB7.out⟩
  | false =>
    have N0 := Lib.hid (ctNow HA.out HT0.out HG.out)
    have NU := Lib.hid (N0.out.under HBU.out)
    have HN := Lib.hid (gB_no HG.out)
    obtain ⟨c1, hc1⟩ : ∃ c, countB p = c := ⟨_, rfl⟩
    obtain ⟨c2, hc2⟩ : ∃ c, countB { p with kps := p.kps ++ [x] } = c := ⟨_, rfl⟩
    have HM := count_more p x
    rw [hc1, hc2] at HM
    obtain ⟨m1, m2, m3, m4, m5, m6⟩ := HM
    have hl1 : c1.all ≤ 5000 := by rw [← hc1]; have := HN.out; simp only [countB]; omega
    have hl2 : c1.old ≤ 5000 := by
      rw [← hc1]
      have h1 : oldB p ≤ p.its.length + p.kps.length := Nat.add_le_add List.countP_le_length List.countP_le_length
      have := HN.out
      show oldB p ≤ 5000
      omega
    have hl3 : c1.st ≤ 5000 := by
      rw [← hc1]
      have h1 : itSt p.its + kpSt p.kps ≤ p.its.length + p.kps.length := Nat.add_le_add List.countP_le_length List.countP_le_length
      have := HN.out
      show itSt p.its + kpSt p.kps ≤ 5000
      omega
    have hv1 : c1.ver = verB p := by rw [← hc1]; rfl
    have HC1 := Lib.hid hc1
    have HC2 := Lib.hid hc2
    have M := Lib.hid (And.intro m1 (And.intro m2 (And.intro m3 (And.intro m4 (And.intro m5 m6)))))
    have HL := Lib.hid (And.intro hl1 (And.intro hl2 hl3))
    have HV1 := Lib.hid hv1
    clear hc1 hc2 m1 m2 m3 m4 m5 m6 hl1 hl2 hl3 hv1
    go_upto_region 3 with fail
    go_wp2_with (refine wpList_loadB (by rfl) _ rfl w.heap.size p a (by rfl) X0.out ?_)
    refine (HC.out.of p a U NU.out).mono ?_
    rintro e U1 ⟨rfl, hb1⟩
    rw [HC1.out]
    have X0_ := Lib.hid (X0.out.under hb1)
    clear X0
    have X0 := X0_
    clear X0_
    have X1_ := Lib.hid (X1.out.under hb1)
    clear X1
    have X1 := X1_
    clear X1_
    have T1_ := Lib.hid (T1.out.under hb1)
    clear T1
    have T1 := T1_
    clear T1_
    have NU_ := Lib.hid (NU.out.under hb1)
    clear NU
    have NU := NU_
    clear NU_
    have HBU1 := Lib.hid (HBU.out.trans (hb1.mono HBU.out.size))
    have HS1 := Lib.hid (show w.heap.size + 1 + 1 ≤ U1.heap.size from Nat.lt_of_lt_of_le X1.out.lt (Nat.le_refl _))
    clear hb1 HBU
    go_upto_region 4 with fail
    refine wpV (fun U2 hU2 => ?_)
    have hb2 : Below U1.heap.size U1 U2 := by rw [← hU2]; exact (Below.refl _ _).alloc (Nat.le_refl _) _
    have Y5 := Lib.hid (show Whole U2 U1.heap.size 38 c1.cells by rw [← hU2]; exact Whole.new _ _ _)
    have X0_ := Lib.hid (X0.out.under hb2)
    clear X0
    have X0 := X0_
    clear X0_
    have X1_ := Lib.hid (X1.out.under hb2)
    clear X1
    have X1 := X1_
    clear X1_
    have T1_ := Lib.hid (T1.out.under hb2)
    clear T1
    have T1 := T1_
    clear T1_
    have NU_ := Lib.hid (NU.out.under hb2)
    clear NU
    have NU := NU_
    clear NU_
    have HBU2 := Lib.hid (HBU1.out.trans (hb2.mono HBU1.out.size))
    have HS12 := Lib.hid (show U1.heap.size < U2.heap.size by rw [← hU2, World.size_alloc]; omega)
    clear hb2 HBU1 hU2
    go_wp2_with (refine wpList_loadB (by rfl) _ rfl w.heap.size p a (by rfl) X0.out ?_)
    refine (rownB_any p a U2.heap.size U2 NU.out.rd (Nat.le_refl _) NU.out.ms NU.out.its NU.out.kps).mono ?_
    rintro e U3 ⟨a2, rfl, ho3, hb3⟩
    have X0_ := Lib.hid (X0.out.under hb3)
    clear X0
    have X0 := X0_
    clear X0_
    have X1_ := Lib.hid (X1.out.under hb3)
    clear X1
    have X1 := X1_
    clear X1_
    have T1_ := Lib.hid (T1.out.under hb3)
    clear T1
    have T1 := T1_
    clear T1_
    have Y5_ := Lib.hid (Y5.out.under hb3)
    clear Y5
    have Y5 := Y5_
    clear Y5_
    have HBU3 := Lib.hid (HBU2.out.trans (hb3.mono HBU2.out.size))
    have hb4 : Below U3.heap.size U3 (U3.alloc (.cells (brC br0 ad0) 30)) := (Below.refl _ _).alloc (Nat.le_refl _) _
    have HX4 : Hid (Whole (U3.alloc (.cells (brC br0 ad0) 30)) U3.heap.size 30 (brC br0 ad0)) := Lib.hid (Whole.new _ _ _)
    have HO4 := Lib.hid (ho3.under hb4)
    have HB4 := Lib.hid hb4
    have HS3 := Lib.hid hb3.size
    have HS2 := Lib.hid (show w.heap.size + 1 + 1 ≤ U1.heap.size ∧ U1.heap.size < U2.heap.size from ⟨HS1.out, HS12.out⟩)
    clear hb3 hb4 ho3 HBU2 NU
    go_upto_region 5 with (refine wpList_storeB rfl _ _ rfl U3.heap.size p a2 _ rfl (by rfl) (by rfl) HX4.out ?_; intro U5 hU5)
    have X6 := Lib.hid (show Whole U5 U3.heap.size 30 (brC p a2) by rw [hU5]; exact setRow_heap _ _ _ _ _ _ HX4.out)
    have O6 := Lib.hid (show OwB U2.heap.size U5 p a2 by rw [hU5]; exact HO4.out.rowset HX4.out (by decide) (by decide) (by decide) _)
    have hb5 : Below U3.heap.size U3 U5 := by rw [hU5]; exact below_rowsetB HB4.out (Nat.le_refl _) _
    have X0_ := Lib.hid (X0.out.under hb5)
    clear X0
    have X0 := X0_
    clear X0_
    have X1_ := Lib.hid (X1.out.under hb5)
    clear X1
    have X1 := X1_
    clear X1_
    have T1_ := Lib.hid (T1.out.under hb5)
    clear T1
    have T1 := T1_
    clear T1_
    have Y5_ := Lib.hid (Y5.out.under hb5)
    clear Y5
    have Y5 := Y5_
    clear Y5_
    have HBU5 := Lib.hid (HBU3.out.trans (hb5.mono HBU3.out.size))
    have HS5 := Lib.hid hb5.size
    clear hb5 hU5 HX4 HO4 HB4 HBU3
    have i0 : U5.cell? ⟨w.heap.size + 1, 0, none⟩ = some (.int .i64 x.id) := X1.out.cell 0
    have i1 : U5.cell? ⟨w.heap.size + 1, 1, none⟩ = some (.int .i64 x.tok) := X1.out.cell 1
    have i2 : U5.cell? ⟨w.heap.size + 1, 2, none⟩ = some (.int .i64 x.ver) := X1.out.cell 2
    have i3 : U5.cell? ⟨w.heap.size + 1, 3, none⟩ = some (.int .i64 x.zone) := X1.out.cell 3
    have i4 : U5.cell? ⟨w.heap.size + 1, 4, none⟩ = some (.int .u8 x.phase) := X1.out.cell 4
    have i5 : U5.cell? ⟨w.heap.size + 1, 5, none⟩ = some (.int .i64 x.since) := X1.out.cell 5
    have i6 : U5.cell? ⟨w.heap.size + 1, 6, none⟩ = some (.bool x.guard) := X1.out.cell 6
    have i7 : U5.cell? ⟨w.heap.size + 1, 7, none⟩ = some (.bool x.done) := X1.out.cell 7
    have c19 : U5.cell? ⟨U3.heap.size, 19, none⟩ = some (.slice a2.B p.kps.length a2.d) := X6.out.cell 19
    have hbl : Below U5.heap.size U5 (U5.alloc (.cells #[.int .i64 x.id, .int .i64 x.tok, .int .i64 x.ver, .int .i64 x.zone, .int .u8 x.phase, .int .i64 x.since, .bool x.guard, .bool x.done] 32)) := (Below.refl _ _).alloc (Nat.le_refl _) _
    have hOl := O6.out.under hbl
    have hszl : U2.heap.size ≤ (U5.alloc (.cells #[.int .i64 x.id, .int .i64 x.tok, .int .i64 x.ver, .int .i64 x.zone, .int .u8 x.phase, .int .i64 x.since, .bool x.guard, .bool x.done] 32)).heap.size := Nat.le_trans (Nat.le_trans HS3.out HS5.out) hbl.size
    obtain ⟨A', c', U6, hrun, hk6, hg6, hw6⟩ := kps_app (U5.alloc (.cells #[.int .i64 x.id, .int .i64 x.tok, .int .i64 x.ver, .int .i64 x.zone, .int .u8 x.phase, .int .i64 x.since, .bool x.guard, .bool x.done] 32)) U2.heap.size (.slice a2.B p.kps.length a2.d) p.kps hOl.kps (U5.heap.size + 1) (some ⟨U5.heap.size, 0, none⟩) 1 1 [x] (rdK_whole (Whole.new U5 32 #[.int .i64 x.id, .int .i64 x.tok, .int .i64 x.ver, .int .i64 x.zone, .int .u8 x.phase, .int .i64 x.since, .bool x.guard, .bool x.done])) (by have := HN.out; omega) hszl
    have hb6 : Below U2.heap.size (U5.alloc (.cells #[.int .i64 x.id, .int .i64 x.tok, .int .i64 x.ver, .int .i64 x.zone, .int .u8 x.phase, .int .i64 x.since, .bool x.guard, .bool x.done] 32)) U6 := below_row hOl.kps hg6 hszl
    have hms6 := own_kept_F (by decide) hOl.kps hOl.ms hg6
    have hit6 := own_kept_F (by decide) hOl.kps hOl.its hg6
    have x6 := hw6 _ _ _ (X6.out.under hbl) (by decide)
    have c19b : U6.cell? ⟨U3.heap.size, 19, none⟩ = some (.slice a2.B p.kps.length a2.d) := x6.cell 19
    have f19b : U6.frozen? ⟨U3.heap.size, 19, none⟩ = false := x6.frozen 19
    have HRun := Lib.hid hrun
    have K6 := Lib.hid hk6
    have MS6 := Lib.hid hms6
    have IT6 := Lib.hid hit6
    have XX6 := Lib.hid x6
    have HB6 := Lib.hid ((hbl.mono (Nat.le_trans HS3.out HS5.out)).trans hb6)
    clear hrun hk6 hg6 hw6 hb6 hms6 hit6 x6 hOl hszl hbl
    go_upto_region 6 with (at_builtin; refine wpList_app (by rfl) _ _ 26 rfl _ _ _ U6 (by rfl) (by rfl) HRun.out ?_)
    refine wpV (fun U7 hU7 => ?_)
    have k7 := Only.set U6 U3.heap.size 19 (.slice A' (p.kps.length + 1) c')
    have x7 := set19L XX6.out (p.kps ++ [x]) A' c'
    rw [List.length_append, List.length_singleton] at x7
    rw [hU7] at k7 x7
    have hO7 : OwB U2.heap.size U7 { p with kps := p.kps ++ [x] } ⟨a2.C, a2.e, a2.A, a2.c, A', c'⟩ := ⟨k7.own MS6.out XX6.out (by decide), k7.own IT6.out XX6.out (by decide), by
      have h9 := k7.own K6.out XX6.out (by decide)
      show KpsAt _ _ (.slice A' (p.kps ++ [x]).length c') (p.kps ++ [x])
      rw [List.length_append, List.length_singleton]
      exact h9⟩
    have HB7 := Lib.hid (show Below U2.heap.size U5 U7 from k7.bel HB6.out HS3.out)
    have X7 := Lib.hid x7
    have R7 := Lib.hid hO7.reads
    have hX0 := X0.out.below HB7.out (by have := HS2.out; omega)
    have hX1 := X1.out.below HB7.out (by have := HS2.out; omega)
    have hY5 := Y5.out.below HB7.out (by have := HS2.out; omega)
    clear X0 X1 Y5
    have X0 := Lib.hid hX0
    have X1 := Lib.hid hX1
    have Y5 := Lib.hid hY5
    have HBU7 := Lib.hid (HBU5.out.trans (HB7.out.mono (by have := HS2.out; omega)))
    have N7 := Lib.hid (show BrNow { p with kps := p.kps ++ [x] } ⟨a2.C, a2.e, a2.A, a2.c, A', c'⟩ U7 from ⟨R7.out, HT0.out.under HBU7.out, by have := HN.out; show p.its.length ≤ 1000; omega, by have := HN.out; show (p.kps ++ [x]).length ≤ 1000; simp; omega, by have := HN.out; show p.cf.ms.length ≤ 1000; omega⟩)
    clear k7 x7 hU7 hO7 c19 c19b f19b i0 i1 i2 i3 i4 i5 i6 i7 HRun K6 MS6 IT6 XX6 HB6 R7 X6 O6 T1 hX0 hX1 hY5 HB7 HBU5
    go_wp2_with (refine wpList_loadB (by rfl) _ rfl U3.heap.size { p with kps := p.kps ++ [x] } ⟨a2.C, a2.e, a2.A, a2.c, A', c'⟩ (by rfl) X7.out ?_)
    refine (HC.out.of _ _ U7 N7.out).mono ?_
    rintro e U8 ⟨rfl, hb8⟩
    rw [HC2.out]
    have X0_ := Lib.hid (X0.out.under hb8)
    clear X0
    have X0 := X0_
    clear X0_
    have X1_ := Lib.hid (X1.out.under hb8)
    clear X1
    have X1 := X1_
    clear X1_
    have Y5_ := Lib.hid (Y5.out.under hb8)
    clear Y5
    have Y5 := Y5_
    clear Y5_
    have HBU8 := Lib.hid (HBU7.out.trans (hb8.mono HBU7.out.size))
    clear hb8 HBU7 N7 X7
    go_upto_region 7 with fail
    refine wpV (fun U9 hU9 => ?_)
    have hb9 : Below U8.heap.size U8 U9 := by rw [← hU9]; exact (Below.refl _ _).alloc (Nat.le_refl _) _
    have Y7 := Lib.hid (show Whole U9 U8.heap.size 38 c2.cells by rw [← hU9]; exact Whole.new _ _ _)
    have X0_ := Lib.hid (X0.out.under hb9)
    clear X0
    have X0 := X0_
    clear X0_
    have X1_ := Lib.hid (X1.out.under hb9)
    clear X1
    have X1 := X1_
    clear X1_
    have Y5_ := Lib.hid (Y5.out.under hb9)
    clear Y5
    have Y5 := Y5_
    clear Y5_
    have HBU9 := Lib.hid (HBU8.out.trans (hb9.mono HBU8.out.size))
    clear hb9 HBU8 hU9
    have T9 := Lib.hid (HT0.out.under HBU9.out)
    obtain ⟨oN, hoN⟩ : ∃ o : Int, (if oldK p x then (1 : Int) else 0) = o := ⟨_, rfl⟩
    obtain ⟨sN, hsN⟩ : ∃ o : Int, (if standsI x.phase then (1 : Int) else 0) = o := ⟨_, rfl⟩
    have HoN := Lib.hid hoN
    have HsN := Lib.hid hsN
    clear hoN hsN
    obtain ⟨oB, hoB⟩ : ∃ o, oldK p x = o := ⟨_, rfl⟩
    have HoB := Lib.hid hoB
    clear hoB
    go_upto_region 8 with fail
    go_cut [45] (fun s wx => s = .bool oB ∧ wx = U9)
    case first =>
      have k2 : U9.cell? ⟨w.heap.size + 1, 2, none⟩ = some (.int .i64 x.ver) := X1.out.cell 2
      have k4 : U9.cell? ⟨w.heap.size + 1, 4, none⟩ = some (.int .u8 x.phase) := X1.out.cell 4
      have k6 : U9.cell? ⟨w.heap.size + 1, 6, none⟩ = some (.bool x.guard) := X1.out.cell 6
      have d16 : U9.cell? ⟨w.heap.size, 16, none⟩ = some (.bool p.cf.sk) := X0.out.cell 16
      have n0 : U9.cell? ⟨U1.heap.size, 0, none⟩ = some (.int .i64 (verB p)) := by rw [← HV1.out]; exact Y5.out.cell 0
      obtain ⟨vb, hvb⟩ : ∃ v, verB p = v := ⟨_, rfl⟩
      rw [hvb] at n0
      have HVb := Lib.hid hvb
      clear hvb
      by_cases hv : x.ver = vb
      · have ho : oB = false := by rw [← HoB.out]; simp [oldK, HVb.out, hv]
        subst ho
        go_wp2_with fail
        go_meet
        first | exact ⟨rfl, rfl⟩ | exact ⟨by rw [show (x.ver != vb) = true from by simp [HVn.out]], rfl⟩
      · have HVn := Lib.hid hv
        cases hgo : goesI x.phase with
        | true =>
          have HGo := Lib.hid hgo
          clear hgo
          have ho : oB = false := by rw [← HoB.out]; simp [oldK, HGo.out]
          subst ho
          go_wp2_with fail
          refine (refGoes_any x.phase U9).mono ?_
          rintro e W6 ⟨rfl, hw6⟩
          subst hw6
          rw [HGo.out]
          go_wp2_with fail
          go_meet
          first | exact ⟨rfl, rfl⟩ | exact ⟨by rw [show (x.ver != vb) = true from by simp [HVn.out]], rfl⟩
        | false =>
          have HGo := Lib.hid hgo
          clear hgo
          cases hgd : x.guard with
          | false =>
            have HGd := Lib.hid hgd
            rw [hgd] at k6
            clear hgd
            have ho : oB = true := by rw [← HoB.out]; simp [oldK, HGo.out, HGd.out, HVb.out, HVn.out]
            subst ho
            go_wp2_with fail
            refine (refGoes_any x.phase U9).mono ?_
            rintro e W6 ⟨rfl, hw6⟩
            subst hw6
            rw [HGo.out]
            go_wp2_with fail
            go_meet
            first | exact ⟨rfl, rfl⟩ | exact ⟨by rw [show (x.ver != vb) = true from by simp [HVn.out]], rfl⟩
          | true =>
            have HGd := Lib.hid hgd
            rw [hgd] at k6
            clear hgd
            cases hsk : p.cf.sk with
            | true =>
              have HSk := Lib.hid hsk
              rw [hsk] at d16
              clear hsk
              have ho : oB = false := by rw [← HoB.out]; simp [oldK, HGd.out, HSk.out]
              subst ho
              go_wp2_with fail
              refine (refGoes_any x.phase U9).mono ?_
              rintro e W6 ⟨rfl, hw6⟩
              subst hw6
              rw [HGo.out]
              go_wp2_with fail
              go_meet
              first | exact ⟨rfl, rfl⟩ | exact ⟨by rw [show (x.ver != vb) = true from by simp [HVn.out]], rfl⟩
            | false =>
              have HSk := Lib.hid hsk
              rw [hsk] at d16
              clear hsk
              have ho : oB = true := by rw [← HoB.out]; simp [oldK, HGo.out, HSk.out, HVb.out, HVn.out]
              subst ho
              go_wp2_with fail
              refine (refGoes_any x.phase U9).mono ?_
              rintro e W6 ⟨rfl, hw6⟩
              subst hw6
              rw [HGo.out]
              go_wp2_with fail
              go_meet
              first | exact ⟨rfl, rfl⟩ | exact ⟨by rw [show (x.ver != vb) = true from by simp [HVn.out]], rfl⟩
    case rest =>
     obtain ⟨rfl, hwx⟩ := hcut
     have hwy := hwx.symm
     subst hwy
     clear hwx
     go_upto_if 45 with fail
     go_cut [8] (fun s wx => s = .int .i64 oN ∧ wx = U9)
     case first =>
      cases oB with
      | true =>
        have ho : oN = 1 := by rw [← HoN.out, HoB.out]; rfl
        subst ho
        go_wp2_with fail
        go_meet
        exact ⟨rfl, rfl⟩
      | false =>
        have ho : oN = 0 := by rw [← HoN.out, HoB.out]; rfl
        subst ho
        go_wp2_with fail
        go_meet
        exact ⟨rfl, rfl⟩
     case rest =>
      obtain ⟨rfl, hwx⟩ := hcut
      have hwy := hwx.symm
      subst hwy
      clear hwx
      have k4 : U9.cell? ⟨w.heap.size + 1, 4, none⟩ = some (.int .u8 x.phase) := X1.out.cell 4
      go_upto_region 11 with fail
      go_wp2_with fail
      refine (refStands_any x.phase U9).mono ?_
      rintro e W6 ⟨rfl, hw6⟩
      have hw7 := hw6.symm
      subst hw7
      clear k4 hw6
      go_upto_if 48 with fail
      go_cut [9] (fun s wx => s = .int .i64 sN ∧ wx = U9)
      case first =>
        cases hst : standsI x.phase with
        | true =>
          have ho : sN = 1 := by rw [← HsN.out]; simp [hst]
          subst ho
          go_wp2_with fail
          go_meet
          exact ⟨rfl, rfl⟩
        | false =>
          have ho : sN = 0 := by rw [← HsN.out]; simp [hst]
          subst ho
          go_wp2_with fail
          go_meet
          exact ⟨rfl, rfl⟩
      case rest =>
        obtain ⟨rfl, hwx⟩ := hcut
        have hwy := hwx.symm
        subst hwy
        clear hwx
        have HoS := Lib.hid (show (0 ≤ oN ∧ oN ≤ 1) ∧ (0 ≤ sN ∧ sN ≤ 1) from by
          have h1 := HoN.out
          have h2 := HsN.out
          constructor
          · cases h9 : oldK p x <;> rw [h9] at h1 <;> simp at h1 <;> omega
          · cases h9 : standsI x.phase <;> rw [h9] at h2 <;> simp at h2 <;> omega)
        have HE := Lib.hid (show (c2.old : Int) = (c1.old : Int) + oN ∧ (c2.st : Int) = (c1.st : Int) + sN ∧ (c2.all : Int) = (c1.all : Int) + 1 from by
          obtain ⟨m1, m2, m3, _⟩ := M.out
          have h1 := HoN.out
          have h2 := HsN.out
          refine ⟨?_, ?_, by omega⟩
          · cases h9 : oldK p x <;> rw [h9] at h1 m2 <;> simp at h1 m2 <;> omega
          · cases h9 : standsI x.phase <;> rw [h9] at h2 m3 <;> simp at h2 m3 <;> omega)
        have Hw1 := Lib.hid (show IntKind.i64.wrap ((c1.all : Int) + 1) = (c1.all : Int) + 1 from wrapS (by omega) (by have := HL.out; omega))
        have Hw2 := Lib.hid (show IntKind.i64.wrap ((c1.old : Int) + oN) = (c1.old : Int) + oN from wrapS (by have := HoS.out; omega) (by have := HL.out; have := HoS.out; omega))
        have Hw3 := Lib.hid (show IntKind.i64.wrap ((c1.st : Int) + sN) = (c1.st : Int) + sN from wrapS (by have := HoS.out; omega) (by have := HL.out; have := HoS.out; omega))
        go_upto_region 13 with fail
        have a0 : U9.cell? ⟨U1.heap.size, 0, none⟩ = some (.int .i64 (c1.ver)) := Y5.out.cell 0
        have a1 : U9.cell? ⟨U1.heap.size, 1, none⟩ = some (.int .i64 ((c1.old : Int))) := Y5.out.cell 1
        have a2 : U9.cell? ⟨U1.heap.size, 2, none⟩ = some (.int .i64 ((c1.st : Int))) := Y5.out.cell 2
        have a4 : U9.cell? ⟨U1.heap.size, 4, none⟩ = some (.int .i64 ((c1.all : Int))) := Y5.out.cell 4
        have a7 : U9.cell? ⟨U1.heap.size, 7, none⟩ = some (.int .i64 (c1.fl)) := Y5.out.cell 7
        have a8 : U9.cell? ⟨U1.heap.size, 8, none⟩ = some (.int .i64 (c1.bd)) := Y5.out.cell 8
        have b0 : U9.cell? ⟨U8.heap.size, 0, none⟩ = some (.int .i64 (c1.ver)) := by rw [← M.out.2.2.2.1]; exact Y7.out.cell 0
        have b1 : U9.cell? ⟨U8.heap.size, 1, none⟩ = some (.int .i64 ((c1.old : Int) + oN)) := by rw [← HE.out.1]; exact Y7.out.cell 1
        have b2 : U9.cell? ⟨U8.heap.size, 2, none⟩ = some (.int .i64 ((c1.st : Int) + sN)) := by rw [← HE.out.2.1]; exact Y7.out.cell 2
        have b4 : U9.cell? ⟨U8.heap.size, 4, none⟩ = some (.int .i64 ((c1.all : Int) + 1)) := by rw [← HE.out.2.2]; exact Y7.out.cell 4
        have b7 : U9.cell? ⟨U8.heap.size, 7, none⟩ = some (.int .i64 (c1.fl)) := by rw [← M.out.2.2.2.2.1]; exact Y7.out.cell 7
        have b8 : U9.cell? ⟨U8.heap.size, 8, none⟩ = some (.int .i64 (c1.bd)) := by rw [← M.out.2.2.2.2.2]; exact Y7.out.cell 8
        have g1 := Hw1.out
        have g2 := Hw2.out
        have g3 := Hw3.out
        go_wp2_with fail
        refine (wakes15_any HC.out _ T9.out).mono ?_
        rintro e W9 ⟨rfl, hb9⟩
        have HBx := Lib.hid (HBU9.out.trans (hb9.mono HBU9.out.size))
        clear hb9 g1 g2 g3
        go_wp2_with fail
        go_ret
        exact ⟨rfl, HBx.out⟩

end Go.Proofs.YtplejbgecihnpaaDoor

/-
  What counts of a brain that may be add up to. Plain. Conditions: those that each theorem names.
-/
namespace Go.Proofs.YtplejbgecihnpaaDoor
open Go.RowKit Go.Shelf

def kpGo (l : List Kp) : Nat := l.countP fun x => goesI x.phase
theorem phase_one {z : Int} (h1 : 1 ≤ z) (h2 : z ≤ 10) : (if standsI z = true then 1 else 0) + (if decide (z = 9) = true then 1 else 0) + (if goesI z = true then 1 else 0) = 1 := by
  have : z = 1 ∨ z = 2 ∨ z = 3 ∨ z = 4 ∨ z = 5 ∨ z = 6 ∨ z = 7 ∨ z = 8 ∨ z = 9 ∨ z = 10 := by omega
  rcases this with rfl | rfl | rfl | rfl | rfl | rfl | rfl | rfl | rfl | rfl <;> decide
theorem kp_sum : ∀ (l : List Kp), (∀ x ∈ l, 1 ≤ x.phase ∧ x.phase ≤ 10) → kpSt l + kpWarm l + kpGo l = l.length
  | [], _ => rfl
  | x :: l, h => by
    have ih := kp_sum l (fun y hy => h y (List.mem_cons_of_mem _ hy))
    have h0 := h x (List.mem_cons_self ..)
    have h1 := phase_one h0.1 h0.2
    simp only [kpSt, kpWarm, kpGo, List.countP_cons, List.length_cons] at ih ⊢
    omega
theorem kp_old (p : Br) : ∀ (l : List Kp), kpOld p l + kpGo l ≤ l.length
  | [] => Nat.le_refl _
  | x :: l => by
    have ih := kp_old p l
    have h1 : (if oldK p x = true then 1 else 0) + (if goesI x.phase = true then 1 else 0) ≤ 1 := by
      cases h : goesI x.phase <;> simp [oldK, h]
      split <;> omega
    simp only [kpOld, kpGo, List.countP_cons, List.length_cons] at ih ⊢
    omega
theorem kp_serve : ∀ (l : List Kp), kpServe l ≤ kpSt l
  | [] => Nat.le_refl _
  | x :: l => by
    have ih := kp_serve l
    have h1 : (if decide (x.phase = 4) = true then 1 else 0) ≤ (if standsI x.phase = true then 1 else 0) := by
      by_cases h : x.phase = 4
      · rw [h]; decide
      · simp [h]
    simp only [kpServe, kpSt, List.countP_cons] at ih ⊢
    omega
theorem it_sum : ∀ (l : List It), itSt l + itWarm l = l.length
  | [] => rfl
  | x :: l => by
    have ih := it_sum l
    have h1 : (if (!x.warm) = true then 1 else 0) + (if x.warm = true then 1 else 0) = 1 := by cases x.warm <;> rfl
    simp only [itSt, itWarm, List.countP_cons, List.length_cons] at ih ⊢
    omega
theorem zones_len (p : Br) : (zonesB p).length = (countB p).st := by
  simp only [zonesB, countB, itSt, kpSt, List.length_append, List.length_map, List.countP_eq_length_filter]
/-- Whether a refresh goes on with some that are old. -/
def goOn (p : Br) : Bool := decide (p.rf.st = 1) && ((!p.rf.paused) && decide (0 < oldB p))
structure Sums (p : Br) : Prop where
  all : (countB p).st + (countB p).warm + kpGo p.kps = (countB p).all
  len : (countB p).all = p.its.length + p.kps.length
  serve : (countB p).serve ≤ (countB p).st
  old : (countB p).old + kpGo p.kps ≤ (countB p).all
  f0 : 0 ≤ p.cf.f0 ∧ p.cf.f0 ≤ 1000000
  f2 : 0 ≤ p.cf.f2 ∧ p.cf.f2 ≤ 1000000
  want : (countB p).want = p.cf.f0 + (if goOn p = true then p.cf.f2 else 0)
  fl : (countB p).fl ≤ p.cf.f0
  bd : (countB p).want ≤ (countB p).bd
theorem sums_of {p : Br} (hr : rightBb p = true) (hs : p.set = true) : Sums p := by
  have hR := rightBb_iff.1 hr
  have hm := hR.yes hs
  have hi : inB p.cf = true := by
    have h := hm
    simp only [may, Bool.and_eq_true] at h
    exact h.1
  obtain ⟨⟨a0, a1, a2, a3⟩, _⟩ := inB_iff.1 hi
  have e0 : (countB p).bd = p.cf.f0 + p.cf.f2 + p.cf.f3 := by simp [countB, boundOf, hm]
  have e1 : (countB p).fl = (p.cf.f0 * p.cf.f1 + 99) / 100 := by simp [countB, floorOf, hm, fl]
  have hw : wrap64 (p.cf.f0 + p.cf.f2) = p.cf.f0 + p.cf.f2 := by
    unfold wrap64
    omega
  have e2 : (countB p).want = p.cf.f0 + (if goOn p = true then p.cf.f2 else 0) := by
    show wantB p = _
    unfold wantB goOn
    by_cases h1 : p.rf.st = 1
    · cases h2 : p.rf.paused with
      | true => simp
      | false =>
        by_cases h3 : 0 < oldB p
        · simp [h1, h3, hw]
        · simp [h3]
    · simp [h1]
  have h9 := kp_sum p.kps (fun x hx => (hR.kps x hx).2)
  have h8 := it_sum p.its
  have h7 := kp_old p p.kps
  have h6 := kp_serve p.kps
  have h5 : itOld p p.its ≤ p.its.length := List.countP_le_length
  refine ⟨?_, rfl, ?_, ?_, by omega, by omega, e2, ?_, ?_⟩
  · show itSt p.its + kpSt p.kps + (itWarm p.its + kpWarm p.kps) + kpGo p.kps = p.its.length + p.kps.length
    omega
  · show kpServe p.kps ≤ itSt p.its + kpSt p.kps
    omega
  · show itOld p p.its + kpOld p p.kps + kpGo p.kps ≤ p.its.length + p.kps.length
    omega
  · rw [e1]
    have h1 : p.cf.f0 * p.cf.f1 ≤ p.cf.f0 * 100 := Int.mul_le_mul_of_nonneg_left a1.2 a0.1
    omega
  · rw [e2, e0]
    split <;> omega
theorem kpGo_next {l : List Kp} {j : Nat} {x : Kp} (h : l[j]? = some x) : kpGo (l.take (j + 1)) = kpGo (l.take j) + (if goesI x.phase = true then 1 else 0) := countP_next _ h
theorem kpGo_le (l : List Kp) (j : Nat) : kpGo (l.take j) ≤ l.length := countP_le' _ _ _

end Go.Proofs.YtplejbgecihnpaaDoor
