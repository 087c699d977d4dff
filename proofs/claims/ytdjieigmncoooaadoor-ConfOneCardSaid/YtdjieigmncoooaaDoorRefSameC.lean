/-
  The walk of 'Same' of the document's own answer (layer 7). Conditions: those that each theorem names.
-/
import Derived.Test.YtdjieigmncoooaaDoorCfSame
namespace Go.Proofs.YtdjieigmncoooaaDoor
open Go.RowKit Go.Shelf

set_option maxRecDepth 100000 in
theorem Two.drewN {x y : Cf} {w W : World} (h : Two x y w W) (k : Nat) : Two x y w (W.drewN k) := ⟨h.1, h.2.1, below_drewN h.2.2 k⟩

set_option maxRecDepth 100000 in
set_option maxHeartbeats 4000000 in
theorem refSameC_any (x y : Cf) (B B' : Nat) (w : World) (hx : Lies x w B) (hy : Lies y w B') (hB : B ≤ w.heap.size) (hB' : B' ≤ w.heap.size) (hxn : x.n ≤ 1000) : Calls Tryd.prog 14 #[x.v, y.v] w (BoolPost (sameC x y) w) := by
  have HX := Lib.hid (hx.more hB)
  have HY := Lib.hid (hy.more hB')
  have hl := hx.len
  have hl' := hy.len
  have HT := Lib.hid (Two.new x y w)
  have HQ := Lib.hid (fun W => run_eq13 W x y)
  clear hx hy hB hB'
  by_cases hn : x.n = y.n
  · by_cases hs : x.sk = y.sk
    · have hsb : (x.sk == y.sk) = true := by simp [hs]
      have hnb2 : ((x.n : Int) != (y.n : Int)) = false := by simp [hn]
      have hsb2 : (x.sk != y.sk) = false := by simp [hs]
      have HS := Lib.hid (decide_eq_true hs)
      have HN := Lib.hid hn
      have HL := Lib.hid hl
      have HL' := Lib.hid hl'
      clear hs hn hl hl'
      go_enter Tryd.func14, Tryd.ntmps14
      go_wp2_with fail
      go_loopw [5] (fun i wr => ∃ j : Nat, i = .int .i64 (j : Int) ∧ j ≤ x.n ∧ x.ms.take j = y.ms.take j ∧ Two x y w wr) (fun i _ => x.n - (intOf i).toNat)
      case atStart => exact ⟨0, rfl, Nat.zero_le _, rfl, HT.out⟩
      case round =>
        obtain ⟨j, rfl, hj, hT, hW⟩ := hrel
        have HTk := Lib.hid hT
        have HW := Lib.hid hW
        have k14 := HW.out.1.cell 14
        have d14 := HW.out.2.1.cell 14
        simp only [List.getElem?_toArray, List.getElem?_cons_zero, List.getElem?_cons_succ] at k14 d14
        clear hT hW HT
        by_cases hlt : j < x.n
        · have hlt2 : j < y.n := by rw [← HN.out]; exact hlt
          obtain ⟨b, off, hA, _, hc⟩ := (HX.out.below HW.out.2.2).rd.2 (by omega)
          obtain ⟨b', off', hA', _, hc'⟩ := (HY.out.below HW.out.2.2).rd.2 (by omega)
          have hjl : j < x.ms.length := by rw [HL.out]; exact hlt
          have hjl' : j < y.ms.length := by rw [HL'.out]; exact hlt2
          obtain ⟨u, hu⟩ : ∃ u, x.ms[j]? = some u := ⟨_, List.getElem?_eq_getElem hjl⟩
          obtain ⟨v, hv⟩ : ∃ v, y.ms[j]? = some v := ⟨_, List.getElem?_eq_getElem hjl'⟩
          have h1 := hc j hlt
          have h2 := hc' j hlt2
          rw [show (iv x.ms)[j]? = some (.int .i64 u) by simp [iv, hu]] at h1
          rw [show (iv y.ms)[j]? = some (.int .i64 v) by simp [iv, hv]] at h2
          have hI : (j : Int) < (x.n : Int) := by omega
          have hI2 : (j : Int) < (y.n : Int) := by omega
          have HU := Lib.hid hu
          have HV := Lib.hid hv
          rw [hA] at k14
          rw [hA'] at d14
          clear hc hc' hu hv hjl hjl' hA hA'
          by_cases huv : u = v
          · subst huv
            go_wp2_with fail
            go_quiet (fail)
            go_wp2_with fail
            go_roundw
            case rel => exact ⟨j + 1, by go_num, by omega, take_grow HTk.out HU.out HV.out, HW.out.drewN _⟩
            case measure => simp [intOf]; omega
          · have hb : (u == v) = false := by rw [beq_eq_false_iff_ne]; exact huv
            have hb2 : (u != v) = true := by simp [bne, hb]
            have HF : Hid (sameC x y = false) := Lib.hid (by
              have h : ¬ x.ms = y.ms := fun e => by have h3 := HU.out; rw [e, HV.out] at h3; exact huv (Option.some.inj h3).symm
              unfold sameC; rw [decide_eq_false h, Bool.and_false, Bool.and_false])
            clear huv
            go_wp2_with fail
            go_quiet (fail)
            go_wp2_with fail
            go_ret
            exact ⟨by rw [HF.out]; rfl, below_drewN HW.out.2.2 _⟩
        · have HE : Hid (sameC x y = decide (x.fs = y.fs)) := Lib.hid (by
            have h1 := HTk.out
            rw [List.take_of_length_le (by have := HL.out; omega), List.take_of_length_le (by have := HL'.out; have := HN.out; omega)] at h1
            unfold sameC
            rw [HS.out, decide_eq_true h1, Bool.and_true, Bool.and_true])
          have hI : ¬ (j : Int) < (x.n : Int) := by omega
          have q := HQ.out
          unfold Cf.arr at q
          obtain ⟨c0, c1, c2, c3, c4, c5, c6, c7, c8, c9, c10, c11, c12, c13, c14⟩ := HW.out.1.conf
          obtain ⟨W2, hW2⟩ : ∃ W2, wr.alloc (.cells #[.int .i64 x.f0, .int .i64 x.f1, .int .i64 x.f2, .int .i64 x.f3, .int .i64 x.f4, .int .i64 x.f5, .int .i64 x.f6, .int .i64 x.f7, .int .i64 x.f8, .int .i64 x.f9, .int .i64 x.f10, .int .i64 x.f11, .int .i64 x.f12] 40) = W2 := ⟨_, rfl⟩
          have hb2 : Below wr.heap.size wr W2 := by rw [← hW2]; exact (Below.refl _ _).alloc (Nat.le_refl _) _
          have HW2 := Lib.hid (HW.out.under hb2)
          have HA2 : Hid (Whole W2 wr.heap.size 40 #[.int .i64 x.f0, .int .i64 x.f1, .int .i64 x.f2, .int .i64 x.f3, .int .i64 x.f4, .int .i64 x.f5, .int .i64 x.f6, .int .i64 x.f7, .int .i64 x.f8, .int .i64 x.f9, .int .i64 x.f10, .int .i64 x.f11, .int .i64 x.f12]) := Lib.hid (by rw [← hW2]; exact Whole.new wr _ _)
          obtain ⟨d0, d1, d2, d3, d4, d5, d6, d7, d8, d9, d10, d11, d12, d13, _⟩ := HW2.out.2.1.conf
          clear hb2
          obtain ⟨W3, hW3⟩ : ∃ W3, W2.alloc (.cells #[.int .i64 y.f0, .int .i64 y.f1, .int .i64 y.f2, .int .i64 y.f3, .int .i64 y.f4, .int .i64 y.f5, .int .i64 y.f6, .int .i64 y.f7, .int .i64 y.f8, .int .i64 y.f9, .int .i64 y.f10, .int .i64 y.f11, .int .i64 y.f12] 40) = W3 := ⟨_, rfl⟩
          have HA3 : Hid (Whole W3 wr.heap.size 40 x.arr) := Lib.hid (by rw [← hW3]; exact HA2.out.alloc _)
          have HB3 : Hid (Whole W3 W2.heap.size 40 y.arr) := Lib.hid (by rw [← hW3]; exact Whole.new W2 _ _)
          have HBel : Hid (Below w.heap.size w W3) := Lib.hid (by rw [← hW3]; exact HW2.out.2.2.alloc HW2.out.2.2.size _)
          have a0 := HA3.out.cell 0
          have a1 := HA3.out.cell 1
          have a2 := HA3.out.cell 2
          have a3 := HA3.out.cell 3
          have a4 := HA3.out.cell 4
          have a5 := HA3.out.cell 5
          have a6 := HA3.out.cell 6
          have a7 := HA3.out.cell 7
          have a8 := HA3.out.cell 8
          have a9 := HA3.out.cell 9
          have a10 := HA3.out.cell 10
          have a11 := HA3.out.cell 11
          have a12 := HA3.out.cell 12
          have e0 := HB3.out.cell 0
          have e1 := HB3.out.cell 1
          have e2 := HB3.out.cell 2
          have e3 := HB3.out.cell 3
          have e4 := HB3.out.cell 4
          have e5 := HB3.out.cell 5
          have e6 := HB3.out.cell 6
          have e7 := HB3.out.cell 7
          have e8 := HB3.out.cell 8
          have e9 := HB3.out.cell 9
          have e10 := HB3.out.cell 10
          have e11 := HB3.out.cell 11
          have e12 := HB3.out.cell 12
          simp only [Cf.arr, List.getElem?_toArray, List.getElem?_cons_zero, List.getElem?_cons_succ] at a0 e0 a1 e1 a2 e2 a3 e3 a4 e4 a5 e5 a6 e6 a7 e7 a8 e8 a9 e9 a10 e10 a11 e11 a12 e12
          go_wp2_with fail
          go_ret
          exact ⟨by rw [HE.out]; rfl, HBel.out⟩
    · have hsb : (x.sk == y.sk) = false := by rw [beq_eq_false_iff_ne]; exact hs
      have hsb2 : (x.sk != y.sk) = true := by simp [bne, hsb]
      have hnb : ((x.n : Int) == (y.n : Int)) = true := by simp [hn]
      have hnb2 : ((x.n : Int) != (y.n : Int)) = false := by simp [hn]
      have HF : Hid (sameC x y = false) := Lib.hid (by unfold sameC; rw [decide_eq_false hs]; simp)
      clear hs hl hl' hn hnb
      go_enter Tryd.func14, Tryd.ntmps14
      go_wp2_with fail
      go_ret
      exact ⟨by rw [HF.out]; rfl, HT.out.2.2⟩
  · have hnb : ((x.n : Int) == (y.n : Int)) = false := by rw [beq_eq_false_iff_ne]; omega
    have hnb2 : ((x.n : Int) != (y.n : Int)) = true := by simp [bne, hnb]
    have HF : Hid (sameC x y = false) := Lib.hid (by
      have h : ¬ x.ms = y.ms := fun e => hn (by rw [← hl, ← hl', e])
      unfold sameC; rw [decide_eq_false h, Bool.and_false, Bool.and_false])
    clear hn hl hl'
    go_enter Tryd.func14, Tryd.ntmps14
    go_wp2_with fail
    go_ret
    exact ⟨by rw [HF.out]; rfl, HT.out.2.2⟩

end Go.Proofs.YtdjieigmncoooaaDoor
