/-
  Texts that the walk of a statement over brains leans on, joined (CfSame, RefSameC, BrRefSame, BrSmall, BrRefOwn). Conditions: those that each theorem names.
-/
import Derived.Test.YtdaimejlcfhfiaaGreatDoorKQ
import Derived.Test.YtdaimejlcfhfiaaGreatDoorK4
import Derived.Test.YtdaimejlcfhfiaaGreatDoorK5
import Derived.ChangeKeysEq
set_option maxRecDepth 100000

namespace Go.Proofs.YtdaimejlcfhfiaaGreatDoor
open Go.RowKit Go.Shelf

theorem ite_chain {a : Prop} [Decidable a] {r : Bool} {w : World} {R : Result Bool} (h : R = Result.ok r w) : (if a then R else Result.ok false w) = Result.ok (decide a && r) w := by
  split
  · rename_i ha; rw [h, decide_eq_true ha, Bool.true_and]
  · rename_i ha; rw [decide_eq_false ha, Bool.false_and]

theorem run_eq13 (w : World) (x y : Cf) : (Op.equalIn 10000 86 (.agg x.arr) (.agg y.arr)).run Tryz.prog w = .ok (decide (x.fs = y.fs)) w := by
  obtain ⟨i0, hi, hz0, hz1, hz2⟩ := info_parts info_int
  have hc : Tryz.prog.cellsOf 3 = 1 := by kernel_rfl
  rw [run_equalIn_array w 9999 _ _ Tryz.underlying86 hi, hc]
  have hr : List.range 13 = [0, 1, 2, 3, 4, 5, 6, 7, 8, 9, 10, 11, 12] := rfl
  rw [hr]
  unfold Cf.arr
  simp only [Op.eqItems]
  go_simp
  exact (ite_chain (ite_chain (ite_chain (ite_chain (ite_chain (ite_chain (ite_chain (ite_chain (ite_chain (ite_chain (ite_chain (ite_chain (ite_chain rfl))))))))))))).trans (by simp [Cf.fs])

/-- Two groups in their boxes. -/
def Two (x y : Cf) (w W : World) : Prop := Whole W w.heap.size 24 x.cells ∧ Whole W (w.heap.size + 1) 24 y.cells ∧ Below w.heap.size w W
theorem Two.new (x y : Cf) (w : World) : Two x y w ((w.alloc (.cells x.cells 24)).alloc (.cells y.cells 24)) := by
  refine ⟨(Whole.new w _ _).alloc _, ?_, ((Below.refl _ w).alloc (Nat.le_refl _) _).alloc (by simp) _⟩
  have := Whole.new (w.alloc (.cells x.cells 24)) 24 y.cells
  rwa [World.size_alloc] at this
theorem Two.under {x y : Cf} {w W W' : World} (h : Two x y w W) (hb : Below W.heap.size W W') : Two x y w W' := ⟨h.1.under hb, h.2.1.under hb, h.2.2.trans (hb.mono h.2.2.size)⟩

set_option maxHeartbeats 2000000 in
theorem sameC_any (x y : Cf) (B B' : Nat) (w : World) (hx : Lies x w B) (hy : Lies y w B') (hB : B ≤ w.heap.size) (hB' : B' ≤ w.heap.size) (hn : x.n ≤ 1000000) : Calls Tryz.prog 49 #[x.v, y.v] w (BoolPost (sameC x y) w) := by
  have HX := Lib.hid (hx.more hB)
  have HY := Lib.hid (hy.more hB')
  have HT := Lib.hid (Two.new x y w)
  have HV1 := Lib.hid (fun W h => values_any x w.heap.size W h)
  have HV2 := Lib.hid (fun W h => values_any y (w.heap.size + 1) W h)
  clear hx hy hB hB'
  go_enter Tryz.func49, Tryz.ntmps49
  by_cases hf : x.fs = y.fs
  · have HE := Lib.hid (fun W => (run_eq13 W x y).trans (by rw [decide_eq_true hf]))
    have HF := Lib.hid (decide_eq_true hf)
    clear hf
    by_cases hs : x.sk = y.sk
    · have hsb : (x.sk == y.sk) = true := by simp [hs]
      have HS := Lib.hid (decide_eq_true hs)
      clear hs
      go_wp2_with fail
      refine (HV1.out _ HT.out.1).mono ?_
      rintro e w1 ⟨rfl, b1⟩
      have HT1 := Lib.hid (HT.out.under b1)
      clear b1 HT HV1
      go_wp2_with fail
      refine (HV2.out _ HT1.out.2.1).mono ?_
      rintro e w2 ⟨rfl, b2⟩
      have HT2 := Lib.hid (HT1.out.under b2)
      have q := HE.out w2
      clear b2 HT1 HV2 HE
      obtain ⟨c0, c1, c2, c3, c4, c5, c6, c7, c8, c9, c10, c11, c12, c13, c14⟩ := HT2.out.1.conf
      obtain ⟨d0, d1, d2, d3, d4, d5, d6, d7, d8, d9, d10, d11, d12, d13, d14⟩ := HT2.out.2.1.conf
      have HEq := Lib.hid (equal_any x.A y.A x.n x.c y.n y.c x.ms y.ms w.heap.size w.heap.size w2 (HX.out.below HT2.out.2.2).rd (HY.out.below HT2.out.2.2).rd hn)
      clear c0 c1 c2 c3 c4 c5 c6 c7 c8 c9 c10 c11 c12 d0 d1 d2 d3 d4 d5 d6 d7 d8 d9 d10 d11 d12
      go_wp2_with fail
      refine (HEq.out).mono ?_
      rintro e w3 ⟨rfl, k, rfl⟩
      clear HEq
      go_wp2_with fail
      go_ret
      exact ⟨by unfold sameC; rw [HF.out, HS.out]; rfl, below_drewN HT2.out.2.2 k⟩
    · have hsb : (x.sk == y.sk) = false := by rw [beq_eq_false_iff_ne]; exact hs
      have HS := Lib.hid (decide_eq_false hs)
      clear hs
      go_wp2_with fail
      refine (HV1.out _ HT.out.1).mono ?_
      rintro e w1 ⟨rfl, b1⟩
      have HT1 := Lib.hid (HT.out.under b1)
      clear b1 HT HV1
      go_wp2_with fail
      refine (HV2.out _ HT1.out.2.1).mono ?_
      rintro e w2 ⟨rfl, b2⟩
      have HT2 := Lib.hid (HT1.out.under b2)
      have q := HE.out w2
      clear b2 HT1 HV2 HE
      obtain ⟨c0, c1, c2, c3, c4, c5, c6, c7, c8, c9, c10, c11, c12, c13, c14⟩ := HT2.out.1.conf
      obtain ⟨d0, d1, d2, d3, d4, d5, d6, d7, d8, d9, d10, d11, d12, d13, d14⟩ := HT2.out.2.1.conf
      clear c0 c1 c2 c3 c4 c5 c6 c7 c8 c9 c10 c11 c12 d0 d1 d2 d3 d4 d5 d6 d7 d8 d9 d10 d11 d12
      go_wp2_with fail
      go_ret
      exact ⟨by unfold sameC; rw [HF.out, HS.out]; rfl, HT2.out.2.2⟩
  · have HE := Lib.hid (fun W => (run_eq13 W x y).trans (by rw [decide_eq_false hf]))
    have HF := Lib.hid (decide_eq_false hf)
    clear hf
    go_wp2_with fail
    refine (HV1.out _ HT.out.1).mono ?_
    rintro e w1 ⟨rfl, b1⟩
    have HT1 := Lib.hid (HT.out.under b1)
    clear b1 HT HV1
    go_wp2_with fail
    refine (HV2.out _ HT1.out.2.1).mono ?_
    rintro e w2 ⟨rfl, b2⟩
    have HT2 := Lib.hid (HT1.out.under b2)
    have q := HE.out w2
    clear b2 HT1 HV2 HE
    go_wp2_with fail
    go_ret
    exact ⟨by unfold sameC; rw [HF.out]; rfl, HT2.out.2.2⟩

end Go.Proofs.YtdaimejlcfhfiaaGreatDoor

namespace Go.Proofs.YtdaimejlcfhfiaaGreatDoor
open Go.RowKit Go.Shelf

theorem Two.drewN {x y : Cf} {w W : World} (h : Two x y w W) (k : Nat) : Two x y w (W.drewN k) := ⟨h.1, h.2.1, below_drewN h.2.2 k⟩

set_option maxHeartbeats 4000000 in
theorem refSameC_any (x y : Cf) (B B' : Nat) (w : World) (hx : Lies x w B) (hy : Lies y w B') (hB : B ≤ w.heap.size) (hB' : B' ≤ w.heap.size) (hxn : x.n ≤ 1000) : Calls Tryz.prog 25 #[x.v, y.v] w (BoolPost (sameC x y) w) := by
  have HX := Lib.hid (hx.more hB)
  have HY := Lib.hid (hy.more hB')
  have hl := hx.len
  have hl' := hy.len
  have HT := Lib.hid (Two.new x y w)
  have HQ := Lib.hid (fun W => run_eq13 W x y)
  clear hx hy hB hB'
  by_cases hn : x.n = y.n
  · by_cases hs : x.sk = y.sk
    · have hsb : (x.sk == y.sk) = true := by simp [hs]
      have hnb2 : ((x.n : Int) != (y.n : Int)) = false := by simp [hn]
      have hsb2 : (x.sk != y.sk) = false := by simp [hs]
      have HS := Lib.hid (decide_eq_true hs)
      have HN := Lib.hid hn
      have HL := Lib.hid hl
      have HL' := Lib.hid hl'
      clear hs hn hl hl'
      go_enter Tryz.func25, Tryz.ntmps25
      go_wp2_with fail
      go_loopw [5] (fun i wr => ∃ j : Nat, i = .int .i64 (j : Int) ∧ j ≤ x.n ∧ x.ms.take j = y.ms.take j ∧ Two x y w wr) (fun i _ => x.n - (intOf i).toNat)
      case atStart => exact ⟨0, rfl, Nat.zero_le _, rfl, HT.out⟩
      case round =>
        obtain ⟨j, rfl, hj, hT, hW⟩ := hrel
        have HTk := Lib.hid hT
        have HW := Lib.hid hW
        have k14 := HW.out.1.cell 14
        have d14 := HW.out.2.1.cell 14
        simp only [List.getElem?_toArray, List.getElem?_cons_zero, List.getElem?_cons_succ] at k14 d14
        clear hT hW HT
        by_cases hlt : j < x.n
        · have hlt2 : j < y.n := by rw [← HN.out]; exact hlt
          obtain ⟨b, off, hA, _, hc⟩ := (HX.out.below HW.out.2.2).rd.2 (by omega)
          obtain ⟨b', off', hA', _, hc'⟩ := (HY.out.below HW.out.2.2).rd.2 (by omega)
          have hjl : j < x.ms.length := by rw [HL.out]; exact hlt
          have hjl' : j < y.ms.length := by rw [HL'.out]; exact hlt2
          obtain ⟨u, hu⟩ : ∃ u, x.ms[j]? = some u := ⟨_, List.getElem?_eq_getElem hjl⟩
          obtain ⟨v, hv⟩ : ∃ v, y.ms[j]? = some v := ⟨_, List.getElem?_eq_getElem hjl'⟩
          have h1 := hc j hlt
          have h2 := hc' j hlt2
          rw [show (iv x.ms)[j]? = some (.int .i64 u) by simp [iv, hu]] at h1
          rw [show (iv y.ms)[j]? = some (.int .i64 v) by simp [iv, hv]] at h2
          have hI : (j : Int) < (x.n : Int) := by omega
          have hI2 : (j : Int) < (y.n : Int) := by omega
          have HU := Lib.hid hu
          have HV := Lib.hid hv
          rw [hA] at k14
          rw [hA'] at d14
          clear hc hc' hu hv hjl hjl' hA hA'
          by_cases huv : u = v
          · subst huv
            go_wp2_with fail
            go_quiet (fail)
            go_wp2_with fail
            go_roundw
            case rel => exact ⟨j + 1, by go_num, by omega, take_grow HTk.out HU.out HV.out, HW.out.drewN _⟩
            case measure => simp [intOf]; omega
          · have hb : (u == v) = false := by rw [beq_eq_false_iff_ne]; exact huv
            have hb2 : (u != v) = true := by simp [bne, hb]
            have HF : Hid (sameC x y = false) := Lib.hid (by
              have h : ¬ x.ms = y.ms := fun e => by have h3 := HU.out; rw [e, HV.out] at h3; exact huv (Option.some.inj h3).symm
              unfold sameC; rw [decide_eq_false h, Bool.and_false, Bool.and_false])
            clear huv
            go_wp2_with fail
            go_quiet (fail)
            go_wp2_with fail
            go_ret
            exact ⟨by rw [HF.out]; rfl, below_drewN HW.out.2.2 _⟩
        · have HE : Hid (sameC x y = decide (x.fs = y.fs)) := Lib.hid (by
            have h1 := HTk.out
            rw [List.take_of_length_le (by have := HL.out; omega), List.take_of_length_le (by have := HL'.out; have := HN.out; omega)] at h1
            unfold sameC
            rw [HS.out, decide_eq_true h1, Bool.and_true, Bool.and_true])
          have hI : ¬ (j : Int) < (x.n : Int) := by omega
          have q := HQ.out
          unfold Cf.arr at q
          obtain ⟨c0, c1, c2, c3, c4, c5, c6, c7, c8, c9, c10, c11, c12, c13, c14⟩ := HW.out.1.conf
          obtain ⟨W2, hW2⟩ : ∃ W2, wr.alloc (.cells #[.int .i64 x.f0, .int .i64 x.f1, .int .i64 x.f2, .int .i64 x.f3, .int .i64 x.f4, .int .i64 x.f5, .int .i64 x.f6, .int .i64 x.f7, .int .i64 x.f8, .int .i64 x.f9, .int .i64 x.f10, .int .i64 x.f11, .int .i64 x.f12] 86) = W2 := ⟨_, rfl⟩
          have hb2 : Below wr.heap.size wr W2 := by rw [← hW2]; exact (Below.refl _ _).alloc (Nat.le_refl _) _
          have HW2 := Lib.hid (HW.out.under hb2)
          have HA2 : Hid (Whole W2 wr.heap.size 86 #[.int .i64 x.f0, .int .i64 x.f1, .int .i64 x.f2, .int .i64 x.f3, .int .i64 x.f4, .int .i64 x.f5, .int .i64 x.f6, .int .i64 x.f7, .int .i64 x.f8, .int .i64 x.f9, .int .i64 x.f10, .int .i64 x.f11, .int .i64 x.f12]) := Lib.hid (by rw [← hW2]; exact Whole.new wr _ _)
          obtain ⟨d0, d1, d2, d3, d4, d5, d6, d7, d8, d9, d10, d11, d12, d13, _⟩ := HW2.out.2.1.conf
          clear hb2
          obtain ⟨W3, hW3⟩ : ∃ W3, W2.alloc (.cells #[.int .i64 y.f0, .int .i64 y.f1, .int .i64 y.f2, .int .i64 y.f3, .int .i64 y.f4, .int .i64 y.f5, .int .i64 y.f6, .int .i64 y.f7, .int .i64 y.f8, .int .i64 y.f9, .int .i64 y.f10, .int .i64 y.f11, .int .i64 y.f12] 86) = W3 := ⟨_, rfl⟩
          have HA3 : Hid (Whole W3 wr.heap.size 86 x.arr) := Lib.hid (by rw [← hW3]; exact HA2.out.alloc _)
          have HB3 : Hid (Whole W3 W2.heap.size 86 y.arr) := Lib.hid (by rw [← hW3]; exact Whole.new W2 _ _)
          have HBel : Hid (Below w.heap.size w W3) := Lib.hid (by rw [← hW3]; exact HW2.out.2.2.alloc HW2.out.2.2.size _)
          have a0 := HA3.out.cell 0
          have a1 := HA3.out.cell 1
          have a2 := HA3.out.cell 2
          have a3 := HA3.out.cell 3
          have a4 := HA3.out.cell 4
          have a5 := HA3.out.cell 5
          have a6 := HA3.out.cell 6
          have a7 := HA3.out.cell 7
          have a8 := HA3.out.cell 8
          have a9 := HA3.out.cell 9
          have a10 := HA3.out.cell 10
          have a11 := HA3.out.cell 11
          have a12 := HA3.out.cell 12
          have e0 := HB3.out.cell 0
          have e1 := HB3.out.cell 1
          have e2 := HB3.out.cell 2
          have e3 := HB3.out.cell 3
          have e4 := HB3.out.cell 4
          have e5 := HB3.out.cell 5
          have e6 := HB3.out.cell 6
          have e7 := HB3.out.cell 7
          have e8 := HB3.out.cell 8
          have e9 := HB3.out.cell 9
          have e10 := HB3.out.cell 10
          have e11 := HB3.out.cell 11
          have e12 := HB3.out.cell 12
          simp only [Cf.arr, List.getElem?_toArray, List.getElem?_cons_zero, List.getElem?_cons_succ] at a0 e0 a1 e1 a2 e2 a3 e3 a4 e4 a5 e5 a6 e6 a7 e7 a8 e8 a9 e9 a10 e10 a11 e11 a12 e12
          go_wp2_with fail
          go_ret
          exact ⟨by rw [HE.out]; rfl, HBel.out⟩
    · have hsb : (x.sk == y.sk) = false := by rw [beq_eq_false_iff_ne]; exact hs
      have hsb2 : (x.sk != y.sk) = true := by simp [bne, hsb]
      have hnb : ((x.n : Int) == (y.n : Int)) = true := by simp [hn]
      have hnb2 : ((x.n : Int) != (y.n : Int)) = false := by simp [hn]
      have HF : Hid (sameC x y = false) := Lib.hid (by unfold sameC; rw [decide_eq_false hs]; simp)
      clear hs hl hl' hn hnb
      go_enter Tryz.func25, Tryz.ntmps25
      go_wp2_with fail
      go_ret
      exact ⟨by rw [HF.out]; rfl, HT.out.2.2⟩
  · have hnb : ((x.n : Int) == (y.n : Int)) = false := by rw [beq_eq_false_iff_ne]; omega
    have hnb2 : ((x.n : Int) != (y.n : Int)) = true := by simp [bne, hnb]
    have HF : Hid (sameC x y = false) := Lib.hid (by
      have h : ¬ x.ms = y.ms := fun e => hn (by rw [← hl, ← hl', e])
      unfold sameC; rw [decide_eq_false h, Bool.and_false, Bool.and_false])
    clear hn hl hl'
    go_enter Tryz.func25, Tryz.ntmps25
    go_wp2_with fail
    go_ret
    exact ⟨by rw [HF.out]; rfl, HT.out.2.2⟩

end Go.Proofs.YtdaimejlcfhfiaaGreatDoor

namespace Go.Proofs.YtdaimejlcfhfiaaGreatDoor
open Go.RowKit Go.Shelf

theorem take_growB {α : Type} {l l' : List α} {j : Nat} {x : α} (h : l.take j = l'.take j) (h1 : l[j]? = some x) (h2 : l'[j]? = some x) : l.take (j + 1) = l'.take (j + 1) := by
  have l1 : j < l.length := (List.getElem?_eq_some_iff.1 h1).1
  have l2 : j < l'.length := (List.getElem?_eq_some_iff.1 h2).1
  rw [List.take_succ_eq_append_getElem l1, List.take_succ_eq_append_getElem l2, h]
  rw [List.getElem?_eq_getElem l1] at h1
  rw [List.getElem?_eq_getElem l2] at h2
  rw [Option.some.inj h1, Option.some.inj h2]
theorem below_drewB {B : Nat} {w w' : World} (h : Below B w w') (k : Nat) : Below B w (w'.drewN k) := ⟨h.os, h.tape, h.output, h.size, h.block⟩
theorem cells27 {w : World} {g : Nat} {p : Br} {a : Ad} (h : Whole w g 30 (brC p a)) : w.cell? ⟨g, 0, none⟩ = some (.int .i64 p.ep) ∧ w.cell? ⟨g, 1, none⟩ = some (.int .i64 p.sq) ∧ w.cell? ⟨g, 2, none⟩ = some (.bool p.set) ∧ w.cell? ⟨g, 3, none⟩ = some (.int .i64 p.cf.f0) ∧ w.cell? ⟨g, 4, none⟩ = some (.int .i64 p.cf.f1) ∧ w.cell? ⟨g, 5, none⟩ = some (.int .i64 p.cf.f2) ∧ w.cell? ⟨g, 6, none⟩ = some (.int .i64 p.cf.f3) ∧ w.cell? ⟨g, 7, none⟩ = some (.int .i64 p.cf.f4) ∧ w.cell? ⟨g, 8, none⟩ = some (.int .i64 p.cf.f5) ∧ w.cell? ⟨g, 9, none⟩ = some (.int .i64 p.cf.f6) ∧ w.cell? ⟨g, 10, none⟩ = some (.int .i64 p.cf.f7) ∧ w.cell? ⟨g, 11, none⟩ = some (.int .i64 p.cf.f8) ∧ w.cell? ⟨g, 12, none⟩ = some (.int .i64 p.cf.f9) ∧ w.cell? ⟨g, 13, none⟩ = some (.int .i64 p.cf.f10) ∧ w.cell? ⟨g, 14, none⟩ = some (.int .i64 p.cf.f11) ∧ w.cell? ⟨g, 15, none⟩ = some (.int .i64 p.cf.f12) ∧ w.cell? ⟨g, 16, none⟩ = some (.bool p.cf.sk) ∧ w.cell? ⟨g, 17, none⟩ = some (.slice a.C p.cf.ms.length a.e) ∧ w.cell? ⟨g, 18, none⟩ = some (.slice a.A p.its.length a.c) ∧ w.cell? ⟨g, 19, none⟩ = some (.slice a.B p.kps.length a.d) ∧ w.cell? ⟨g, 20, none⟩ = some (.int .u8 p.rf.st) ∧ w.cell? ⟨g, 21, none⟩ = some (.int .i64 p.rf.fr) ∧ w.cell? ⟨g, 22, none⟩ = some (.int .i64 p.rf.to_) ∧ w.cell? ⟨g, 23, none⟩ = some (.int .i64 p.rf.step) ∧ w.cell? ⟨g, 24, none⟩ = some (.bool p.rf.paused) ∧ w.cell? ⟨g, 25, none⟩ = some (.int .i64 p.rf.since) ∧ w.cell? ⟨g, 26, none⟩ = some (.int .i64 p.rf.fails) := ⟨h.cell 0, h.cell 1, h.cell 2, h.cell 3, h.cell 4, h.cell 5, h.cell 6, h.cell 7, h.cell 8, h.cell 9, h.cell 10, h.cell 11, h.cell 12, h.cell 13, h.cell 14, h.cell 15, h.cell 16, h.cell 17, h.cell 18, h.cell 19, h.cell 20, h.cell 21, h.cell 22, h.cell 23, h.cell 24, h.cell 25, h.cell 26⟩

set_option maxHeartbeats 4000000 in
theorem rsameB_any (p q : Br) (a b : Ad) (Z Z' : Nat) (w : World) (hr : RdB_ w Z p a) (hr' : RdB_ w Z' q b) (hZ : Z ≤ w.heap.size) (hZ' : Z' ≤ w.heap.size) (hm : p.cf.ms.length ≤ 1000) (hi : p.its.length ≤ 1000) (hk : p.kps.length ≤ 1000) :
    Calls Tryz.prog 11 #[brV p a, brV q b] w (BoolPost (sameB p q) w) := by
  obtain ⟨hb, w0, w1⟩ := two_new w 30 30 (brC p a) (brC q b)
  obtain ⟨V, hV⟩ : ∃ V, (w.alloc (.cells (brC p a) 30)).alloc (.cells (brC q b) 30) = V := ⟨_, rfl⟩
  rw [hV] at hb w0 w1
  have hs := refSameC_any (cfM p a) (cfM q b) Z Z' V (hr.below (hb.mono hZ)).lies (hr'.below (hb.mono hZ')).lies (Nat.le_trans hZ hb.size) (Nat.le_trans hZ' hb.size) hm
  have hsc : sameC (cfM p a) (cfM q b) = sameC p.cf q.cf := rfl
  rw [hsc] at hs
  have HR := Lib.hid (hr.below (hb.mono hZ))
  have HR' := Lib.hid (hr'.below (hb.mono hZ'))
  have HB := Lib.hid hb
  have X0 := Lib.hid w0
  have X1 := Lib.hid w1
  have HV := Lib.hid hV
  obtain ⟨sc, hsv⟩ : ∃ sc, sameC p.cf q.cf = sc := ⟨_, rfl⟩
  rw [hsv] at hs
  have HS := Lib.hid hs
  obtain ⟨r, hres⟩ : ∃ r, sameB p q = r := ⟨_, rfl⟩
  rw [hres]
  unfold sameB at hres
  rw [hsv] at hres
  have HRes := Lib.hid hres
  have HZ := Lib.hid (And.intro (Nat.le_trans hZ hb.size) (Nat.le_trans hZ' hb.size))
  clear hb w0 w1 hr hr' hZ hZ' hV hs hsc hsv hres
  by_cases t0 : p.ep = q.ep
  rotate_left
  · have b0 : (p.ep != q.ep) = true := by simp [t0]
    have HF := Lib.hid (show r = false by rw [← HRes.out]; simp [t0])
    clear t0
    go_enter Tryz.func11, Tryz.ntmps11
    go_upto_region 1 with fail
    refine wpV (fun V2 hV2 => ?_)
    obtain rfl : V = V2 := HV.out.symm.trans hV2
    clear HV hV2
    obtain ⟨c0, c1, c2, c3, c4, c5, c6, c7, c8, c9, c10, c11, c12, c13, c14, c15, c16, c17, c18, c19, c20, c21, c22, c23, c24, c25, c26⟩ := cells27 X0.out
    obtain ⟨d0, d1, d2, d3, d4, d5, d6, d7, d8, d9, d10, d11, d12, d13, d14, d15, d16, d17, d18, d19, d20, d21, d22, d23, d24, d25, d26⟩ := cells27 X1.out
    go_wp2_with fail
    go_ret
    exact ⟨by rw [HF.out]; rfl, HB.out⟩
  have b0 : (p.ep != q.ep) = false := by simp [t0]
  by_cases t1 : p.sq = q.sq
  rotate_left
  · have b1 : (p.sq != q.sq) = true := by simp [t1]
    have HF := Lib.hid (show r = false by rw [← HRes.out]; simp [t1])
    clear t0 t1
    go_enter Tryz.func11, Tryz.ntmps11
    go_upto_region 1 with fail
    refine wpV (fun V2 hV2 => ?_)
    obtain rfl : V = V2 := HV.out.symm.trans hV2
    clear HV hV2
    obtain ⟨c0, c1, c2, c3, c4, c5, c6, c7, c8, c9, c10, c11, c12, c13, c14, c15, c16, c17, c18, c19, c20, c21, c22, c23, c24, c25, c26⟩ := cells27 X0.out
    obtain ⟨d0, d1, d2, d3, d4, d5, d6, d7, d8, d9, d10, d11, d12, d13, d14, d15, d16, d17, d18, d19, d20, d21, d22, d23, d24, d25, d26⟩ := cells27 X1.out
    go_wp2_with fail
    go_ret
    exact ⟨by rw [HF.out]; rfl, HB.out⟩
  have b1 : (p.sq != q.sq) = false := by simp [t1]
  by_cases t2 : p.set = q.set
  rotate_left
  · have b2 : (p.set != q.set) = true := by simp [t2]
    have b2' : decide (p.set = q.set) = false := decide_eq_false t2
    have HF := Lib.hid (show r = false by rw [← HRes.out]; simp [t2])
    clear t0 t1
    have T2 := Lib.hid t2
    clear t2
    go_enter Tryz.func11, Tryz.ntmps11
    go_upto_region 1 with fail
    refine wpV (fun V2 hV2 => ?_)
    obtain rfl : V = V2 := HV.out.symm.trans hV2
    clear HV hV2
    have t2 := T2.out
    obtain ⟨c0, c1, c2, c3, c4, c5, c6, c7, c8, c9, c10, c11, c12, c13, c14, c15, c16, c17, c18, c19, c20, c21, c22, c23, c24, c25, c26⟩ := cells27 X0.out
    obtain ⟨d0, d1, d2, d3, d4, d5, d6, d7, d8, d9, d10, d11, d12, d13, d14, d15, d16, d17, d18, d19, d20, d21, d22, d23, d24, d25, d26⟩ := cells27 X1.out
    go_wp2_with fail
    go_ret
    exact ⟨by rw [HF.out]; rfl, HB.out⟩
  have b2 : (p.set != q.set) = false := by simp [t2]
  have b2' : decide (p.set = q.set) = true := decide_eq_true t2
  by_cases t3 : sc = true
  rotate_left
  · obtain rfl : sc = false := by simpa using t3
    have HF := Lib.hid (show r = false by rw [← HRes.out]; simp)
    clear t0 t1 t3
    have T2 := Lib.hid t2
    clear t2
    go_enter Tryz.func11, Tryz.ntmps11
    go_upto_region 1 with fail
    refine wpV (fun V2 hV2 => ?_)
    obtain rfl : V = V2 := HV.out.symm.trans hV2
    clear HV hV2
    have t2 := T2.out
    obtain ⟨c0, c1, c2, c3, c4, c5, c6, c7, c8, c9, c10, c11, c12, c13, c14, c15, c16, c17, c18, c19, c20, c21, c22, c23, c24, c25, c26⟩ := cells27 X0.out
    obtain ⟨d0, d1, d2, d3, d4, d5, d6, d7, d8, d9, d10, d11, d12, d13, d14, d15, d16, d17, d18, d19, d20, d21, d22, d23, d24, d25, d26⟩ := cells27 X1.out
    go_wp2_with fail
    refine HS.out.mono ?_
    rintro e w2 ⟨rfl, hb2⟩
    clear c0 c1 c2 c3 c4 c5 c6 c7 c8 c9 c10 c11 c12 c13 c14 c15 c16 c17 c18 c19 c20 c21 c22 c23 c24 c25 c26 d0 d1 d2 d3 d4 d5 d6 d7 d8 d9 d10 d11 d12 d13 d14 d15 d16 d17 d18 d19 d20 d21 d22 d23 d24 d25 d26
    obtain ⟨c0, c1, c2, c3, c4, c5, c6, c7, c8, c9, c10, c11, c12, c13, c14, c15, c16, c17, c18, c19, c20, c21, c22, c23, c24, c25, c26⟩ := cells27 (X0.out.under hb2)
    obtain ⟨d0, d1, d2, d3, d4, d5, d6, d7, d8, d9, d10, d11, d12, d13, d14, d15, d16, d17, d18, d19, d20, d21, d22, d23, d24, d25, d26⟩ := cells27 (X1.out.under hb2)
    have HB2 := Lib.hid (HB.out.trans (hb2.mono HB.out.size))
    have X02 := Lib.hid (X0.out.under hb2)
    have X12 := Lib.hid (X1.out.under hb2)
    have HR2 := Lib.hid (HR.out.below (hb2.mono HZ.out.1))
    have HR2' := Lib.hid (HR'.out.below (hb2.mono HZ.out.2))
    clear hb2 HB X0 X1 HR HR'
    go_wp2_with fail
    go_ret
    exact ⟨by rw [HF.out]; rfl, HB2.out⟩
  by_cases t4 : p.rf = q.rf
  rotate_left
  · have b4 := fun W => (run_neqRf W p.rf q.rf).trans (by rw [decide_eq_false t4, Bool.not_false])
    have HF := Lib.hid (show r = false by rw [← HRes.out]; simp [t4])
    subst t3
    clear t0 t1 t4
    have T2 := Lib.hid t2
    clear t2
    go_enter Tryz.func11, Tryz.ntmps11
    go_upto_region 1 with fail
    refine wpV (fun V2 hV2 => ?_)
    obtain rfl : V = V2 := HV.out.symm.trans hV2
    clear HV hV2
    have t2 := T2.out
    obtain ⟨c0, c1, c2, c3, c4, c5, c6, c7, c8, c9, c10, c11, c12, c13, c14, c15, c16, c17, c18, c19, c20, c21, c22, c23, c24, c25, c26⟩ := cells27 X0.out
    obtain ⟨d0, d1, d2, d3, d4, d5, d6, d7, d8, d9, d10, d11, d12, d13, d14, d15, d16, d17, d18, d19, d20, d21, d22, d23, d24, d25, d26⟩ := cells27 X1.out
    go_wp2_with fail
    refine HS.out.mono ?_
    rintro e w2 ⟨rfl, hb2⟩
    clear c0 c1 c2 c3 c4 c5 c6 c7 c8 c9 c10 c11 c12 c13 c14 c15 c16 c17 c18 c19 c20 c21 c22 c23 c24 c25 c26 d0 d1 d2 d3 d4 d5 d6 d7 d8 d9 d10 d11 d12 d13 d14 d15 d16 d17 d18 d19 d20 d21 d22 d23 d24 d25 d26
    obtain ⟨c0, c1, c2, c3, c4, c5, c6, c7, c8, c9, c10, c11, c12, c13, c14, c15, c16, c17, c18, c19, c20, c21, c22, c23, c24, c25, c26⟩ := cells27 (X0.out.under hb2)
    obtain ⟨d0, d1, d2, d3, d4, d5, d6, d7, d8, d9, d10, d11, d12, d13, d14, d15, d16, d17, d18, d19, d20, d21, d22, d23, d24, d25, d26⟩ := cells27 (X1.out.under hb2)
    have HB2 := Lib.hid (HB.out.trans (hb2.mono HB.out.size))
    have X02 := Lib.hid (X0.out.under hb2)
    have X12 := Lib.hid (X1.out.under hb2)
    have HR2 := Lib.hid (HR.out.below (hb2.mono HZ.out.1))
    have HR2' := Lib.hid (HR'.out.below (hb2.mono HZ.out.2))
    clear hb2 HB X0 X1 HR HR'
    go_wp2_with fail
    go_ret
    exact ⟨by rw [HF.out]; rfl, HB2.out⟩
  by_cases t5 : p.its.length = q.its.length
  rotate_left
  · have b5 : ((p.its.length : Int) != (q.its.length : Int)) = true := by simp; omega
    have HF := Lib.hid (show r = false by
      rw [← HRes.out]
      have : p.its ≠ q.its := fun e => t5 (by rw [e])
      simp [this])
    subst t3
    have b4 := fun W => (run_neqRf W p.rf q.rf).trans (by rw [decide_eq_true t4, Bool.not_true])
    clear t0 t1 t4 t5
    have T2 := Lib.hid t2
    clear t2
    go_enter Tryz.func11, Tryz.ntmps11
    go_upto_region 1 with fail
    refine wpV (fun V2 hV2 => ?_)
    obtain rfl : V = V2 := HV.out.symm.trans hV2
    clear HV hV2
    have t2 := T2.out
    obtain ⟨c0, c1, c2, c3, c4, c5, c6, c7, c8, c9, c10, c11, c12, c13, c14, c15, c16, c17, c18, c19, c20, c21, c22, c23, c24, c25, c26⟩ := cells27 X0.out
    obtain ⟨d0, d1, d2, d3, d4, d5, d6, d7, d8, d9, d10, d11, d12, d13, d14, d15, d16, d17, d18, d19, d20, d21, d22, d23, d24, d25, d26⟩ := cells27 X1.out
    go_wp2_with fail
    refine HS.out.mono ?_
    rintro e w2 ⟨rfl, hb2⟩
    clear c0 c1 c2 c3 c4 c5 c6 c7 c8 c9 c10 c11 c12 c13 c14 c15 c16 c17 c18 c19 c20 c21 c22 c23 c24 c25 c26 d0 d1 d2 d3 d4 d5 d6 d7 d8 d9 d10 d11 d12 d13 d14 d15 d16 d17 d18 d19 d20 d21 d22 d23 d24 d25 d26
    obtain ⟨c0, c1, c2, c3, c4, c5, c6, c7, c8, c9, c10, c11, c12, c13, c14, c15, c16, c17, c18, c19, c20, c21, c22, c23, c24, c25, c26⟩ := cells27 (X0.out.under hb2)
    obtain ⟨d0, d1, d2, d3, d4, d5, d6, d7, d8, d9, d10, d11, d12, d13, d14, d15, d16, d17, d18, d19, d20, d21, d22, d23, d24, d25, d26⟩ := cells27 (X1.out.under hb2)
    have HB2 := Lib.hid (HB.out.trans (hb2.mono HB.out.size))
    have X02 := Lib.hid (X0.out.under hb2)
    have X12 := Lib.hid (X1.out.under hb2)
    have HR2 := Lib.hid (HR.out.below (hb2.mono HZ.out.1))
    have HR2' := Lib.hid (HR'.out.below (hb2.mono HZ.out.2))
    clear hb2 HB X0 X1 HR HR'
    go_wp2_with fail
    go_ret
    exact ⟨by rw [HF.out]; rfl, HB2.out⟩
  have b5 : ((p.its.length : Int) != (q.its.length : Int)) = false := by simp [t5]
  by_cases t6 : p.kps.length = q.kps.length
  rotate_left
  · have b6 : ((p.kps.length : Int) != (q.kps.length : Int)) = true := by simp; omega
    have HF := Lib.hid (show r = false by
      rw [← HRes.out]
      have : p.kps ≠ q.kps := fun e => t6 (by rw [e])
      simp [this])
    subst t3
    have b4 := fun W => (run_neqRf W p.rf q.rf).trans (by rw [decide_eq_true t4, Bool.not_true])
    clear t0 t1 t4 t5 t6
    have T2 := Lib.hid t2
    clear t2
    go_enter Tryz.func11, Tryz.ntmps11
    go_upto_region 1 with fail
    refine wpV (fun V2 hV2 => ?_)
    obtain rfl : V = V2 := HV.out.symm.trans hV2
    clear HV hV2
    have t2 := T2.out
    obtain ⟨c0, c1, c2, c3, c4, c5, c6, c7, c8, c9, c10, c11, c12, c13, c14, c15, c16, c17, c18, c19, c20, c21, c22, c23, c24, c25, c26⟩ := cells27 X0.out
    obtain ⟨d0, d1, d2, d3, d4, d5, d6, d7, d8, d9, d10, d11, d12, d13, d14, d15, d16, d17, d18, d19, d20, d21, d22, d23, d24, d25, d26⟩ := cells27 X1.out
    go_wp2_with fail
    refine HS.out.mono ?_
    rintro e w2 ⟨rfl, hb2⟩
    clear c0 c1 c2 c3 c4 c5 c6 c7 c8 c9 c10 c11 c12 c13 c14 c15 c16 c17 c18 c19 c20 c21 c22 c23 c24 c25 c26 d0 d1 d2 d3 d4 d5 d6 d7 d8 d9 d10 d11 d12 d13 d14 d15 d16 d17 d18 d19 d20 d21 d22 d23 d24 d25 d26
    obtain ⟨c0, c1, c2, c3, c4, c5, c6, c7, c8, c9, c10, c11, c12, c13, c14, c15, c16, c17, c18, c19, c20, c21, c22, c23, c24, c25, c26⟩ := cells27 (X0.out.under hb2)
    obtain ⟨d0, d1, d2, d3, d4, d5, d6, d7, d8, d9, d10, d11, d12, d13, d14, d15, d16, d17, d18, d19, d20, d21, d22, d23, d24, d25, d26⟩ := cells27 (X1.out.under hb2)
    have HB2 := Lib.hid (HB.out.trans (hb2.mono HB.out.size))
    have X02 := Lib.hid (X0.out.under hb2)
    have X12 := Lib.hid (X1.out.under hb2)
    have HR2 := Lib.hid (HR.out.below (hb2.mono HZ.out.1))
    have HR2' := Lib.hid (HR'.out.below (hb2.mono HZ.out.2))
    clear hb2 HB X0 X1 HR HR'
    go_wp2_with fail
    go_ret
    exact ⟨by rw [HF.out]; rfl, HB2.out⟩
  have b6 : ((p.kps.length : Int) != (q.kps.length : Int)) = false := by simp [t6]
  have b4 := fun W => (run_neqRf W p.rf q.rf).trans (by rw [decide_eq_true t4, Bool.not_true])
  have HRl := Lib.hid (show (decide (p.its = q.its) && decide (p.kps = q.kps)) = r by rw [← HRes.out]; simp [t0, t1, t2, t3, t4])
  have HLi := Lib.hid t5
  have HLk := Lib.hid t6
  subst t3
  clear t0 t1 t4 t5 t6 HRes
  have T2 := Lib.hid t2
  clear t2
  go_enter Tryz.func11, Tryz.ntmps11
  go_upto_region 1 with fail
  refine wpV (fun V2 hV2 => ?_)
  obtain rfl : V = V2 := HV.out.symm.trans hV2
  clear HV hV2
  have t2 := T2.out
  obtain ⟨c0, c1, c2, c3, c4, c5, c6, c7, c8, c9, c10, c11, c12, c13, c14, c15, c16, c17, c18, c19, c20, c21, c22, c23, c24, c25, c26⟩ := cells27 X0.out
  obtain ⟨d0, d1, d2, d3, d4, d5, d6, d7, d8, d9, d10, d11, d12, d13, d14, d15, d16, d17, d18, d19, d20, d21, d22, d23, d24, d25, d26⟩ := cells27 X1.out
  go_wp2_with fail
  refine HS.out.mono ?_
  rintro e w2 ⟨rfl, hb2⟩
  clear c0 c1 c2 c3 c4 c5 c6 c7 c8 c9 c10 c11 c12 c13 c14 c15 c16 c17 c18 c19 c20 c21 c22 c23 c24 c25 c26 d0 d1 d2 d3 d4 d5 d6 d7 d8 d9 d10 d11 d12 d13 d14 d15 d16 d17 d18 d19 d20 d21 d22 d23 d24 d25 d26
  obtain ⟨c0, c1, c2, c3, c4, c5, c6, c7, c8, c9, c10, c11, c12, c13, c14, c15, c16, c17, c18, c19, c20, c21, c22, c23, c24, c25, c26⟩ := cells27 (X0.out.under hb2)
  obtain ⟨d0, d1, d2, d3, d4, d5, d6, d7, d8, d9, d10, d11, d12, d13, d14, d15, d16, d17, d18, d19, d20, d21, d22, d23, d24, d25, d26⟩ := cells27 (X1.out.under hb2)
  have HB2 := Lib.hid (HB.out.trans (hb2.mono HB.out.size))
  have X02 := Lib.hid (X0.out.under hb2)
  have X12 := Lib.hid (X1.out.under hb2)
  have HR2 := Lib.hid (HR.out.below (hb2.mono HZ.out.1))
  have HR2' := Lib.hid (HR'.out.below (hb2.mono HZ.out.2))
  clear hb2 HB X0 X1 HR HR'
  go_wp2_with fail
  go_loopw [5] (fun i wr => ∃ j : Nat, i = .int .i64 (j : Int) ∧ j ≤ p.its.length ∧ p.its.take j = q.its.take j ∧ ∃ k, wr = w2.drewN k) (fun i _ => p.its.length - (intOf i).toNat)
  case atStart => exact ⟨0, rfl, Nat.zero_le _, rfl, 0, rfl⟩
  case round =>
    obtain ⟨j, rfl, hj, hT, k5, rfl⟩ := hrel
    have HT5 := Lib.hid hT
    clear hT
    by_cases hlt : j < p.its.length
    · obtain ⟨b1, off1, h1, _, hc⟩ := RdI.at_ HR2.out.its (by omega)
      obtain ⟨b2, off2, h2, _, hc'⟩ := RdI.at_ HR2'.out.its (by have := HLi.out; omega)
      rw [h1] at c18
      rw [h2] at d18
      obtain ⟨x, hx⟩ : ∃ x, p.its[j]? = some x := ⟨_, List.getElem?_eq_getElem hlt⟩
      obtain ⟨y, hy⟩ : ∃ y, q.its[j]? = some y := ⟨_, List.getElem?_eq_getElem (by have := HLi.out; omega)⟩
      obtain ⟨g0, g1, g2, g3⟩ := hc j x hx
      obtain ⟨q0, q1, q2, q3⟩ := hc' j y hy
      have hI : (j : Int) < (p.its.length : Int) := by omega
      have hI' : (j : Int) < (q.its.length : Int) := by have := HLi.out; omega
      have HX := Lib.hid hx
      have HY := Lib.hid hy
      clear hc hc' hx hy h1 h2
      by_cases hxy : x = y
      · subst hxy
        go_wp2_with fail
        go_quiet (fail)
        go_wp2_with fail
        go_roundw
        case rel => exact ⟨j + 1, by go_num, by omega, take_growB HT5.out HX.out HY.out, _, rfl⟩
        case measure => simp [intOf]; omega
      · have hq := fun W => (run_neqIt W x y).trans (by rw [decide_eq_false hxy, Bool.not_false])
        have HF := Lib.hid (show r = false by
          rw [← HRl.out]
          have : p.its ≠ q.its := by intro e; have h3 := HX.out; rw [e, HY.out] at h3; exact hxy (Option.some.inj h3).symm
          simp [this])
        clear hxy
        go_wp2_with fail
        go_quiet (fail)
        go_wp2_with fail
        go_ret
        exact ⟨by rw [HF.out]; rfl, below_drewB (below_drewB HB2.out _) _⟩
    · have HE := Lib.hid (show p.its = q.its by
        have h1 := HT5.out
        rwa [List.take_of_length_le (by omega), List.take_of_length_le (by have := HLi.out; omega)] at h1)
      go_wp2_with fail
      go_loopw [6] (fun i wr => ∃ j : Nat, i = .int .i64 (j : Int) ∧ j ≤ p.kps.length ∧ p.kps.take j = q.kps.take j ∧ ∃ k, wr = w2.drewN k) (fun i _ => p.kps.length - (intOf i).toNat)
      case atStart => exact ⟨0, rfl, Nat.zero_le _, rfl, _, rfl⟩
      case round =>
        obtain ⟨j, rfl, hj, hT, k6, rfl⟩ := hrel
        have HT6 := Lib.hid hT
        clear hT
        by_cases hlt : j < p.kps.length
        · obtain ⟨b1, off1, h1, _, hc⟩ := RdK.at_ HR2.out.kps (by omega)
          obtain ⟨b2, off2, h2, _, hc'⟩ := RdK.at_ HR2'.out.kps (by have := HLk.out; omega)
          rw [h1] at c19
          rw [h2] at d19
          obtain ⟨x, hx⟩ : ∃ x, p.kps[j]? = some x := ⟨_, List.getElem?_eq_getElem hlt⟩
          obtain ⟨y, hy⟩ : ∃ y, q.kps[j]? = some y := ⟨_, List.getElem?_eq_getElem (by have := HLk.out; omega)⟩
          obtain ⟨g0, g1, g2, g3, g4, g5, g6, g7⟩ := hc j x hx
          obtain ⟨q0, q1, q2, q3, q4, q5, q6, q7⟩ := hc' j y hy
          have hI : (j : Int) < (p.kps.length : Int) := by omega
          have hI' : (j : Int) < (q.kps.length : Int) := by have := HLk.out; omega
          have HX := Lib.hid hx
          have HY := Lib.hid hy
          clear hc hc' hx hy h1 h2
          by_cases hxy : x = y
          · subst hxy
            go_wp2_with fail
            go_quiet (fail)
            go_wp2_with fail
            go_roundw
            case rel => exact ⟨j + 1, by go_num, by omega, take_growB HT6.out HX.out HY.out, _, rfl⟩
            case measure => simp [intOf]; omega
          · have hq := fun W => (run_neqKp W x y).trans (by rw [decide_eq_false hxy, Bool.not_false])
            have HF := Lib.hid (show r = false by
              rw [← HRl.out]
              have : p.kps ≠ q.kps := by intro e; have h3 := HX.out; rw [e, HY.out] at h3; exact hxy (Option.some.inj h3).symm
              simp [this])
            clear hxy
            go_wp2_with fail
            go_quiet (fail)
            go_wp2_with fail
            go_ret
            exact ⟨by rw [HF.out]; rfl, below_drewB (below_drewB HB2.out _) _⟩
        · have HF := Lib.hid (show r = true by
            rw [← HRl.out, decide_eq_true HE.out, Bool.true_and, decide_eq_true_eq]
            have h1 := HT6.out
            rwa [List.take_of_length_le (by omega), List.take_of_length_le (by have := HLk.out; omega)] at h1)
          go_wp2_with fail
          go_ret
          exact ⟨by rw [HF.out]; rfl, below_drewB HB2.out _⟩

end Go.Proofs.YtdaimejlcfhfiaaGreatDoor

namespace Go.Proofs.YtdaimejlcfhfiaaGreatDoor
open Go.RowKit Go.Shelf

def numsF (least : Int) (l : List Int) : Bool := l.all fun n => decide (least ≤ n) && decide (n ≤ brMax)

set_option maxHeartbeats 1000000 in
theorem bnumbers_any (least : Int) (A : Option Addr) (n c : Nat) (l : List Int) (Z : Nat) (w : World) (hr : Rd w Z A n (iv l)) (hn : n ≤ 1000) :
    Calls Tryz.prog 43 #[.int .i64 least, .slice A n c] w fun e w' => e = .returned (.bool (numsF least l)) ∧ w' = w := by
  have HR := Lib.hid hr
  have HL := Lib.hid (show l.length = n by have := hr.1; rwa [iv_length] at this)
  obtain ⟨v, hv⟩ : ∃ v, numsF least l = v := ⟨_, rfl⟩
  rw [hv]
  have HV := Lib.hid hv
  clear hr hv
  go_enter Tryz.func43, Tryz.ntmps43
  go_wp2_with fail
  go_loopw [9] (fun i wr => ∃ j : Nat, i = .int .i64 (j : Int) ∧ j ≤ n ∧ (∀ x ∈ l.take j, (decide (least ≤ x) && decide (x ≤ brMax)) = true) ∧ wr = w) (fun i _ => n - (intOf i).toNat)
  case atStart => exact ⟨0, rfl, Nat.zero_le _, by simp, rfl⟩
  case round =>
    obtain ⟨j, rfl, hj, hT, rfl⟩ := hrel
    have HT := Lib.hid hT
    clear hT
    by_cases hlt : j < n
    · have hr2 := HR.out
      obtain ⟨b, off, hA, _, hc⟩ := hr2.2 (by omega)
      subst hA
      obtain ⟨x, hx⟩ : ∃ x, l[j]? = some x := ⟨_, List.getElem?_eq_getElem (by rw [HL.out]; exact hlt)⟩
      have hcell : wr.cell? ⟨b, off + j, none⟩ = some (.int .i64 x) := by
        rw [hc j hlt]
        simp [iv, hx]
      have hI : (j : Int) < (n : Int) := by omega
      have HX := Lib.hid hx
      clear hc hx hr2
      have hfalse : (decide (least ≤ x) && decide (x ≤ brMax)) = false → numsF least l = false := fun e => by
        rw [numsF, List.all_eq_false]
        exact ⟨x, List.mem_of_getElem? HX.out, by rw [e]; simp⟩
      by_cases h0 : x < least
      · have q0 : decide (x < least) = true := decide_eq_true h0
        have HF := Lib.hid (show v = false by rw [← HV.out]; exact hfalse (by simp [show ¬ least ≤ x by omega]))
        clear h0 hfalse
        go_wp2_with fail
        go_ret
        exact ⟨by rw [HF.out]; rfl, rfl⟩
      by_cases h1 : 1099511627776 < x
      · have q0 : decide (x < least) = false := decide_eq_false h0
        have q1 : decide ((1099511627776 : Int) < x) = true := decide_eq_true h1
        have HF := Lib.hid (show v = false by rw [← HV.out]; exact hfalse (by simp [brMax, show ¬ x ≤ 1099511627776 by omega]))
        clear h0 h1 hfalse
        go_wp2_with fail
        go_ret
        exact ⟨by rw [HF.out]; rfl, rfl⟩
      have q0 : decide (x < least) = false := decide_eq_false h0
      have q1 : decide ((1099511627776 : Int) < x) = false := decide_eq_false h1
      have HN : Hid (∀ y ∈ l.take (j + 1), (decide (least ≤ y) && decide (y ≤ brMax)) = true) := Lib.hid (fun y hy => by
        rw [List.take_succ_eq_append_getElem (List.getElem?_eq_some_iff.1 HX.out).1, (List.getElem?_eq_some_iff.1 HX.out).2, List.mem_append, List.mem_singleton] at hy
        rcases hy with hy | rfl
        · exact HT.out y hy
        · rw [decide_eq_true (by omega), decide_eq_true (by unfold brMax; omega)]; rfl)
      clear h0 h1 hfalse
      go_wp2_with fail
      go_roundw
      case rel => exact ⟨j + 1, by go_num, by omega, HN.out, by first | rfl | trivial⟩
      case measure => simp [intOf]; omega
    · have HF := Lib.hid (show v = true by
        rw [← HV.out, numsF, List.all_eq_true]
        intro x hx
        exact HT.out x (by rw [List.take_of_length_le (by have := HL.out; omega)]; exact hx))
      go_wp2_with fail
      go_ret
      exact ⟨by rw [HF.out]; rfl, by first | rfl | trivial⟩

set_option maxHeartbeats 1000000 in
theorem phased_any (A : Option Addr) (n c : Nat) (l : List Kp) (Z : Nat) (w : World) (hr : RdK w Z A n l) (hZ : Z ≤ w.heap.size) (hn : n ≤ 1000) :
    Calls Tryz.prog 45 #[.slice A n c] w (BoolPost (phOk l) w) := by
  have HR := Lib.hid (hr.more hZ)
  have HL := Lib.hid (show l.length = n from hr.1)
  obtain ⟨v, hv⟩ : ∃ v, phOk l = v := ⟨_, rfl⟩
  rw [hv]
  have HV := Lib.hid hv
  clear hr hv hZ
  go_enter Tryz.func45, Tryz.ntmps45
  go_wp2_with fail
  go_loopw [7] (fun i wr => ∃ j : Nat, i = .int .i64 (j : Int) ∧ j ≤ n ∧ (∀ x ∈ l.take j, (decide (1 ≤ x.phase) && decide (x.phase ≤ 10)) = true) ∧ Below w.heap.size w wr) (fun i _ => n - (intOf i).toNat)
  case atStart => exact ⟨0, rfl, Nat.zero_le _, by simp, Below.refl _ _⟩
  case round =>
    obtain ⟨j, rfl, hj, hT, hb⟩ := hrel
    have HT := Lib.hid hT
    have HB := Lib.hid hb
    clear hT hb
    by_cases hlt : j < n
    · obtain ⟨b, off, hA, hbl, hc⟩ := RdK.at_ (HR.out.below HB.out) (by omega)
      subst hA
      obtain ⟨x, hx⟩ : ∃ x, l[j]? = some x := ⟨_, List.getElem?_eq_getElem (by rw [HL.out]; exact hlt)⟩
      obtain ⟨c0, c1, c2, c3, c4, c5, c6, c7⟩ := hc j x hx
      have hI : (j : Int) < (n : Int) := by omega
      have HX := Lib.hid hx
      clear hc hx hbl
      have hfalse : (decide (1 ≤ x.phase) && decide (x.phase ≤ 10)) = false → phOk l = false := fun e => by
        rw [phOk, List.all_eq_false]
        exact ⟨x, List.mem_of_getElem? HX.out, by rw [e]; simp⟩
      have hB1 : Below w.heap.size w (wr.alloc (.cells #[.int .i64 x.id, .int .i64 x.tok, .int .i64 x.ver, .int .i64 x.zone, .int .u8 x.phase, .int .i64 x.since, .bool x.guard, .bool x.done] 47)) := HB.out.alloc HB.out.size _
      have HB1 := Lib.hid hB1
      clear hB1
      by_cases h0 : x.phase < 1
      · have q0 : decide (x.phase < 1) = true := decide_eq_true h0
        have HF := Lib.hid (show v = false by rw [← HV.out]; exact hfalse (by simp [show ¬ 1 ≤ x.phase by omega]))
        clear h0 hfalse
        go_wp2_with fail
        go_ret
        exact ⟨by rw [HF.out]; rfl, HB1.out⟩
      by_cases h1 : 10 < x.phase
      · have q0 : decide (x.phase < 1) = false := decide_eq_false h0
        have q1 : decide (10 < x.phase) = true := decide_eq_true h1
        have HF := Lib.hid (show v = false by rw [← HV.out]; exact hfalse (by simp [show ¬ x.phase ≤ 10 by omega]))
        clear h0 h1 hfalse
        go_wp2_with fail
        go_ret
        exact ⟨by rw [HF.out]; rfl, HB1.out⟩
      have q0 : decide (x.phase < 1) = false := decide_eq_false h0
      have q1 : decide (10 < x.phase) = false := decide_eq_false h1
      have HN : Hid (∀ y ∈ l.take (j + 1), (decide (1 ≤ y.phase) && decide (y.phase ≤ 10)) = true) := Lib.hid (fun y hy => by
        rw [List.take_succ_eq_append_getElem (List.getElem?_eq_some_iff.1 HX.out).1, (List.getElem?_eq_some_iff.1 HX.out).2, List.mem_append, List.mem_singleton] at hy
        rcases hy with hy | rfl
        · exact HT.out y hy
        · simp; omega)
      clear h0 h1 hfalse
      go_wp2_with fail
      go_roundw
      case rel => exact ⟨j + 1, by go_num, by omega, HN.out, HB1.out⟩
      case measure => simp [intOf]; omega
    · have HF := Lib.hid (show v = true by
        rw [← HV.out, phOk, List.all_eq_true]
        intro x hx
        exact HT.out x (by rw [List.take_of_length_le (by have := HL.out; omega)]; exact hx))
      go_wp2_with fail
      go_ret
      exact ⟨by rw [HF.out]; rfl, HB.out⟩

theorem numsF2 (m x y : Int) : numsF m [x, y] = ((decide (m ≤ x) && decide (x ≤ brMax)) && (decide (m ≤ y) && decide (y ≤ brMax))) := by simp [numsF]
theorem numsF0 (x y : Int) : numsF 0 [x, y] = (isNum x && isNum y) := by
  rw [Bool.eq_iff_iff]
  simp only [numsF, isNum, List.all_cons, List.all_nil, Bool.and_true, Bool.and_eq_true, decide_eq_true_eq]
  exact Iff.rfl
set_option maxHeartbeats 1000000 in
theorem refreshed_any (r : Rf) (w : World) : Calls Tryz.prog 46 #[.agg #[.int .u8 r.st, .int .i64 r.fr, .int .i64 r.to_, .int .i64 r.step, .bool r.paused, .int .i64 r.since, .int .i64 r.fails]] w (BoolPost (rfOk r) w) := by
  by_cases h : r.st = 1
  · have hv : rfOk r = numsF 1 [r.fr, r.to_] := by rw [numsF2]; simp [rfOk, h]
    rw [hv, h]
    have b0 : ((1 : Int) != 1) = false := by simp
    clear hv h
    go_enter Tryz.func46, Tryz.ntmps46
    go_wp2_with fail
    obtain ⟨hb0, w0, w1⟩ := two_new w 28 3 #[.int .u8 1, .int .i64 r.fr, .int .i64 r.to_, .int .i64 r.step, .bool r.paused, .int .i64 r.since, .int .i64 r.fails] #[.int .i64 r.fr, .int .i64 r.to_]
    have hR := rd_lit_at (w.alloc (.cells #[.int .u8 1, .int .i64 r.fr, .int .i64 r.to_, .int .i64 r.step, .bool r.paused, .int .i64 r.since, .int .i64 r.fails] 28)) [.int .i64 r.fr, .int .i64 r.to_] 3 2 (w.heap.size + 1) rfl (by simp)
    have HB := Lib.hid hb0
    refine (bnumbers_any 1 _ 2 2 [r.fr, r.to_] _ _ hR (by omega)).mono ?_
    rintro e w2 ⟨rfl, rfl⟩
    clear hR hb0 w0 w1
    go_wp2_with fail
    go_ret
    exact ⟨rfl, HB.out⟩
  · have hv : rfOk r = true := by simp [rfOk, h]
    rw [hv]
    have b0 : (r.st != 1) = true := by simp [h]
    clear hv h
    go_enter Tryz.func46, Tryz.ntmps46
    go_wp2_with fail
    go_ret
    exact ⟨rfl, (Below.refl _ w).alloc (Nat.le_refl _) _⟩

set_option maxHeartbeats 1000000 in
theorem grouped_any (p : Br) (a : Ad) (Z : Nat) (w : World) (hr : RdB_ w Z p a) (hZ : Z ≤ w.heap.size) (hT : Tab w) : Calls Tryz.prog 47 #[brV p a] w (BoolPost (setOk p) w) := by
  obtain ⟨V, hV⟩ : ∃ V, w.alloc (.cells (brC p a) 30) = V := ⟨_, rfl⟩
  have hw : Whole V w.heap.size 30 (brC p a) := by rw [← hV]; exact Whole.new _ _ _
  have hb : Below w.heap.size w V := by rw [← hV]; exact (Below.refl _ _).alloc (Nat.le_refl _) _
  have HV := Lib.hid hV
  have hH : Has (cfM p a) V := ⟨((hr.more hZ).up hb).lies, hT.under hb⟩
  have hck := check_any (cfM p a) V hH
  have hme : may (cfM p a) = may p.cf := rfl
  rw [hme] at hck
  obtain ⟨m, hm⟩ : ∃ m, may p.cf = m := ⟨_, rfl⟩
  rw [hm] at hck
  have HCk := Lib.hid hck
  have HB := Lib.hid hb
  have HX := Lib.hid hw
  obtain ⟨v, hv⟩ : ∃ v, setOk p = v := ⟨_, rfl⟩
  rw [hv]
  unfold setOk at hv
  rw [hm] at hv
  have HV2 := Lib.hid hv
  clear hr hZ hT hV hw hb hH hck hme hm hv
  cases hs : p.set with
  | true =>
    have HF := Lib.hid (show v = m by rw [← HV2.out, hs]; rfl)
    have HS := Lib.hid hs
    clear hs
    go_enter Tryz.func47, Tryz.ntmps47
    go_upto_region 1 with fail
    refine wpV (fun V2 hV2 => ?_)
    obtain rfl : V = V2 := HV.out.symm.trans hV2
    clear HV hV2
    obtain ⟨c0, c1, c2, c3, c4, c5, c6, c7, c8, c9, c10, c11, c12, c13, c14, c15, c16, c17, c18, c19, c20, c21, c22, c23, c24, c25, c26⟩ := cells27 HX.out
    rw [HS.out] at c2
    go_wp2_with fail
    refine HCk.out.mono ?_
    rintro e w2 ⟨rfl, hb2⟩
    have HB2 := Lib.hid (HB.out.trans (hb2.mono HB.out.size))
    clear hb2 HB c0 c1 c2 c3 c4 c5 c6 c7 c8 c9 c10 c11 c12 c13 c14 c15 c16 c17 c18 c19 c20 c21 c22 c23 c24 c25 c26
    cases m with
    | true =>
      have b0 : (er true == 0) = true := rfl
      go_wp2_with fail
      go_ret
      exact ⟨by rw [HF.out]; rfl, HB2.out⟩
    | false =>
      have b0 : (er false == 0) = false := rfl
      go_wp2_with fail
      go_ret
      exact ⟨by rw [HF.out]; rfl, HB2.out⟩
  | false =>
    have HS := Lib.hid hs
    by_cases h1 : p.its.length = 0
    · have hi : p.its = [] := List.length_eq_zero_iff.1 h1
      by_cases h2 : p.rf.st = 0
      · have HF := Lib.hid (show v = true by rw [← HV2.out, hs, hi]; simp [h2])
        have b1 : ((p.its.length : Int) == 0) = true := by simp [h1]
        have b2 : (p.rf.st == 0) = true := by simp [h2]
        clear hs h1 h2 hi
        go_enter Tryz.func47, Tryz.ntmps47
        go_upto_region 1 with fail
        refine wpV (fun V2 hV2 => ?_)
        obtain rfl : V = V2 := HV.out.symm.trans hV2
        clear HV hV2
        obtain ⟨c0, c1, c2, c3, c4, c5, c6, c7, c8, c9, c10, c11, c12, c13, c14, c15, c16, c17, c18, c19, c20, c21, c22, c23, c24, c25, c26⟩ := cells27 HX.out
        rw [HS.out] at c2
        go_wp2_with fail
        go_ret
        exact ⟨by rw [HF.out]; rfl, HB.out⟩
      · have HF := Lib.hid (show v = false by rw [← HV2.out, hs, hi]; simp [h2])
        have b1 : ((p.its.length : Int) == 0) = true := by simp [h1]
        have b2 : (p.rf.st == 0) = false := by simp [h2]
        clear hs h1 h2 hi
        go_enter Tryz.func47, Tryz.ntmps47
        go_upto_region 1 with fail
        refine wpV (fun V2 hV2 => ?_)
        obtain rfl : V = V2 := HV.out.symm.trans hV2
        clear HV hV2
        obtain ⟨c0, c1, c2, c3, c4, c5, c6, c7, c8, c9, c10, c11, c12, c13, c14, c15, c16, c17, c18, c19, c20, c21, c22, c23, c24, c25, c26⟩ := cells27 HX.out
        rw [HS.out] at c2
        go_wp2_with fail
        go_ret
        exact ⟨by rw [HF.out]; rfl, HB.out⟩
    · have hi : p.its ≠ [] := fun e => h1 (by rw [e]; rfl)
      have HF := Lib.hid (show v = false by rw [← HV2.out, hs]; simp [hi])
      have b1 : ((p.its.length : Int) == 0) = false := by rw [beq_eq_false_iff_ne]; omega
      clear hs h1 hi
      go_enter Tryz.func47, Tryz.ntmps47
      go_upto_region 1 with fail
      refine wpV (fun V2 hV2 => ?_)
      obtain rfl : V = V2 := HV.out.symm.trans hV2
      clear HV hV2
      obtain ⟨c0, c1, c2, c3, c4, c5, c6, c7, c8, c9, c10, c11, c12, c13, c14, c15, c16, c17, c18, c19, c20, c21, c22, c23, c24, c25, c26⟩ := cells27 HX.out
      rw [HS.out] at c2
      go_wp2_with fail
      go_ret
      exact ⟨by rw [HF.out]; rfl, HB.out⟩

end Go.Proofs.YtdaimejlcfhfiaaGreatDoor

namespace Go.Proofs.YtdaimejlcfhfiaaGreatDoor
open Go.RowKit Go.Shelf

set_option maxHeartbeats 4000000 in
theorem rownB_any (p : Br) (a : Ad) (Z : Nat) (w : World) (hr : RdB_ w Z p a) (hZ : Z ≤ w.heap.size) (hm : p.cf.ms.length ≤ 1000) (hi : p.its.length ≤ 1000) (hk : p.kps.length ≤ 1000) :
    Calls Tryz.prog 24 #[brV p a] w (BrPost w.heap.size p w) := by
  obtain ⟨hb, w0, w1⟩ := two_new w 30 30 (brC p a) (brC br0 ad0)
  obtain ⟨V, hV⟩ : ∃ V, (w.alloc (.cells (brC p a) 30)).alloc (.cells (brC br0 ad0) 30) = V := ⟨_, rfl⟩
  rw [hV] at hb w0 w1
  have HR := Lib.hid (hr.below (hb.mono hZ))
  have HB := Lib.hid hb
  have X0 := Lib.hid w0
  have X1 := Lib.hid w1
  have HV := Lib.hid hV
  have HZ := Lib.hid (show Z ≤ V.heap.size from Nat.le_trans hZ hb.size)
  have HZw := Lib.hid hZ
  clear hb w0 w1 hr hZ hV
  go_enter Tryz.func24, Tryz.ntmps24
  go_upto_region 1 with fail
  refine wpV (fun V2 hV2 => ?_)
  obtain rfl : V = V2 := HV.out.symm.trans hV2
  clear HV hV2
  have b3 := (Below.refl V.heap.size V).alloc (Nat.le_refl _) (.cells #[] 3)
  obtain ⟨C1, e1, W1, hrun, ho, hb⟩ := fresh_ms V Z a.C p.cf.ms.length a.e p.cf.ms HR.out.ms HZ.out hm
  have s0 : (V.alloc (.cells #[] 3)).cell? ⟨w.heap.size, 17, none⟩ = some (.slice a.C p.cf.ms.length a.e) := (X0.out.under b3).cell 17
  have g0 := X0.out.under hb
  have x0 : W1.cell? ⟨w.heap.size, 17, none⟩ = some (.slice a.C p.cf.ms.length a.e) := g0.cell 17
  have y0 := g0.frozen 17
  have HRun := Lib.hid hrun
  have G0 := Lib.hid g0
  have O1 := Lib.hid ho
  have X1_ := Lib.hid (X1.out.under hb)
  have HB_ := Lib.hid (HB.out.trans (hb.mono HB.out.size))
  have HR_ := Lib.hid (HR.out.below (hb.mono HZ.out))
  have HZ_ := Lib.hid (Nat.le_trans HZ.out hb.size)
  have Sz1 := Lib.hid HB.out.size
  clear hrun g0 ho hb b3 X0 X1 HB HR HZ 
  go_upto_region 2 with (at_builtin; refine wpList_app (by rfl) _ _ 22 rfl _ _ _ W1 (by rfl) (by rfl) HRun.out ?_)
  refine wpV (fun V1 hV1 => ?_)
  have k := Only.set W1 w.heap.size 17 (.slice C1 p.cf.ms.length e1)
  have e0 := set17 G0.out C1 e1
  rw [hV1] at k e0
  have X0 := Lib.hid e0
  have X1 := Lib.hid (k.far X1_.out (by omega))
  have HB := Lib.hid (k.bel HB_.out (Nat.le_refl _))
  have HR := Lib.hid (show RdB_ V1 Z p a from HR_.out.below (k.bel (Below.refl Z _) HZw.out))
  have HZ := Lib.hid (show Z ≤ V1.heap.size by rw [k.size]; exact HZ_.out)
  have O1' := Lib.hid (k.own O1.out G0.out (by decide))
  clear k e0 hV1 s0 x0 y0 HRun G0 X1_ HB_ HR_ HZ_  O1
  have O1 := O1'
  clear O1'
  have b3 := (Below.refl V1.heap.size V1).alloc (Nat.le_refl _) (.cells #[] 45)
  obtain ⟨A1, c1, W2, hrun, ho, hb⟩ := fresh_its V1 Z a.A a.c p.its HR.out.its HZ.out hi
  have s0 : (V1.alloc (.cells #[] 45)).cell? ⟨w.heap.size, 18, none⟩ = some (.slice a.A p.its.length a.c) := (X0.out.under b3).cell 18
  have g0 := X0.out.under hb
  have x0 : W2.cell? ⟨w.heap.size, 18, none⟩ = some (.slice a.A p.its.length a.c) := g0.cell 18
  have y0 := g0.frozen 18
  have HRun := Lib.hid hrun
  have G0 := Lib.hid g0
  have O2 := Lib.hid ho
  have X1_ := Lib.hid (X1.out.under hb)
  have HB_ := Lib.hid (HB.out.trans (hb.mono HB.out.size))
  have HR_ := Lib.hid (HR.out.below (hb.mono HZ.out))
  have HZ_ := Lib.hid (Nat.le_trans HZ.out hb.size)
  have Sz2 := Lib.hid HB.out.size
  have O1_ := Lib.hid (own_under O1.out hb)
  clear hrun g0 ho hb b3 X0 X1 HB HR HZ O1
  go_upto_region 3 with (at_builtin; refine wpList_app (by rfl) _ _ 25 rfl _ _ _ W2 (by rfl) (by rfl) HRun.out ?_)
  refine wpV (fun V2 hV2 => ?_)
  have k := Only.set W2 w.heap.size 18 (.slice A1 p.its.length c1)
  have e0 := set18 G0.out A1 c1
  rw [hV2] at k e0
  have X0 := Lib.hid e0
  have X1 := Lib.hid (k.far X1_.out (by omega))
  have HB := Lib.hid (k.bel HB_.out (Nat.le_refl _))
  have HR := Lib.hid (show RdB_ V2 Z p a from HR_.out.below (k.bel (Below.refl Z _) HZw.out))
  have HZ := Lib.hid (show Z ≤ V2.heap.size by rw [k.size]; exact HZ_.out)
  have O1' := Lib.hid (k.own O1_.out G0.out (by decide))
  have O2' := Lib.hid (O2.out.only k G0.out (by decide))
  clear k e0 hV2 s0 x0 y0 HRun G0 X1_ HB_ HR_ HZ_ O1_ O2
  have O1 := O1'
  clear O1'
  have O2 := O2'
  clear O2'
  have b3 := (Below.refl V2.heap.size V2).alloc (Nat.le_refl _) (.cells #[] 47)
  obtain ⟨B1, d1, W3, hrun, ho, hb⟩ := fresh_kps V2 Z a.B a.d p.kps HR.out.kps HZ.out hk
  have s0 : (V2.alloc (.cells #[] 47)).cell? ⟨w.heap.size, 19, none⟩ = some (.slice a.B p.kps.length a.d) := (X0.out.under b3).cell 19
  have g0 := X0.out.under hb
  have x0 : W3.cell? ⟨w.heap.size, 19, none⟩ = some (.slice a.B p.kps.length a.d) := g0.cell 19
  have y0 := g0.frozen 19
  have HRun := Lib.hid hrun
  have G0 := Lib.hid g0
  have O3 := Lib.hid ho
  have X1_ := Lib.hid (X1.out.under hb)
  have HB_ := Lib.hid (HB.out.trans (hb.mono HB.out.size))
  have HR_ := Lib.hid (HR.out.below (hb.mono HZ.out))
  have HZ_ := Lib.hid (Nat.le_trans HZ.out hb.size)
  have Sz3 := Lib.hid HB.out.size
  have O1_ := Lib.hid (own_under O1.out hb)
  have O2_ := Lib.hid (O2.out.under hb)
  clear hrun g0 ho hb b3 X0 X1 HB HR HZ O1 O2
  go_upto_region 4 with (at_builtin; refine wpList_app (by rfl) _ _ 26 rfl _ _ _ W3 (by rfl) (by rfl) HRun.out ?_)
  refine wpV (fun V3 hV3 => ?_)
  have k := Only.set W3 w.heap.size 19 (.slice B1 p.kps.length d1)
  have e0 := set19 G0.out B1 d1
  rw [hV3] at k e0
  have X0 := Lib.hid e0
  have X1 := Lib.hid (k.far X1_.out (by omega))
  have HB := Lib.hid (k.bel HB_.out (Nat.le_refl _))
  have HR := Lib.hid (show RdB_ V3 Z p a from HR_.out.below (k.bel (Below.refl Z _) HZw.out))
  have HZ := Lib.hid (show Z ≤ V3.heap.size by rw [k.size]; exact HZ_.out)
  have O1' := Lib.hid (k.own O1_.out G0.out (by decide))
  have O2' := Lib.hid (O2_.out.only k G0.out (by decide))
  have O3' := Lib.hid (O3.out.only k G0.out (by decide))
  clear k e0 hV3 s0 x0 y0 HRun G0 X1_ HB_ HR_ HZ_ O1_ O2_ O3
  have O1 := O1'
  clear O1'
  have O2 := O2'
  clear O2'
  have O3 := O3'
  clear O3'
  have HA : Hid ((brC p ⟨C1, e1, A1, c1, B1, d1⟩).all (·.oneCell') = true) := Lib.hid (brC_one _ _)
  go_wp2_with (first | refine wpList_load_row (by rfl) 30 _ rfl w.heap.size (by rfl) 30 _ (0, 0) _ X0.out Tryz.underlying30 rfl (by kernel_rfl) ?_ | refine wpList_store_row (by rfl) 30 _ _ rfl (w.heap.size + 1) (brC p ⟨C1, e1, A1, c1, B1, d1⟩) (by rfl) (by rfl) 30 _ X1.out (by kernel_rfl) rfl HA.out ?_)
  have hown : OwB w.heap.size V3 p ⟨C1, e1, A1, c1, B1, d1⟩ := ⟨own_weaker O1.out Sz1.out, O2.out.weaker Sz2.out, O3.out.weaker Sz3.out⟩
  exact brain_end (k := 2) rfl (by rfl) (setRow_heap _ _ _ _ _ _ X1.out) rfl ⟨⟨C1, e1, A1, c1, B1, d1⟩, rfl, hown.rowset X1.out (by decide) (by decide) (by decide) _, below_rowsetB HB.out (by omega) _⟩

end Go.Proofs.YtdaimejlcfhfiaaGreatDoor
