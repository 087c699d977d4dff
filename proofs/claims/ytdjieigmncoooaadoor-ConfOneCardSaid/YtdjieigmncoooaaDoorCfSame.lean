/-
  The walks of 'Same' of package conf, and of the statements' 'ints'. Conditions: those that each theorem names.
-/
import Derived.Test.YtdjieigmncoooaaDoorCfVals
import Derived.Test.YtdjieigmncoooaaDoorIntsEqual
import Derived.ChangeKeysEq
namespace Go.Proofs.YtdjieigmncoooaaDoor
open Go.RowKit Go.Shelf

set_option maxRecDepth 100000 in
theorem ite_chain {a : Prop} [Decidable a] {r : Bool} {w : World} {R : Result Bool} (h : R = Result.ok r w) : (if a then R else Result.ok false w) = Result.ok (decide a && r) w := by
  split
  · rename_i ha; rw [h, decide_eq_true ha, Bool.true_and]
  · rename_i ha; rw [decide_eq_false ha, Bool.false_and]

set_option maxRecDepth 100000 in
theorem run_eq13 (w : World) (x y : Cf) : (Op.equalIn 10000 40 (.agg x.arr) (.agg y.arr)).run Tryd.prog w = .ok (decide (x.fs = y.fs)) w := by
  obtain ⟨i0, hi, hz0, hz1, hz2⟩ := info_parts info_int
  have hc : Tryd.prog.cellsOf 3 = 1 := by kernel_rfl
  rw [run_equalIn_array w 9999 _ _ Tryd.underlying40 hi, hc]
  have hr : List.range 13 = [0, 1, 2, 3, 4, 5, 6, 7, 8, 9, 10, 11, 12] := rfl
  rw [hr]
  unfold Cf.arr
  simp only [Op.eqItems]
  go_simp
  exact (ite_chain (ite_chain (ite_chain (ite_chain (ite_chain (ite_chain (ite_chain (ite_chain (ite_chain (ite_chain (ite_chain (ite_chain (ite_chain rfl))))))))))))).trans (by simp [Cf.fs])

/-- Two groups in their boxes. -/
def Two (x y : Cf) (w W : World) : Prop := Whole W w.heap.size 24 x.cells ∧ Whole W (w.heap.size + 1) 24 y.cells ∧ Below w.heap.size w W
set_option maxRecDepth 100000 in
theorem Two.new (x y : Cf) (w : World) : Two x y w ((w.alloc (.cells x.cells 24)).alloc (.cells y.cells 24)) := by
  refine ⟨(Whole.new w _ _).alloc _, ?_, ((Below.refl _ w).alloc (Nat.le_refl _) _).alloc (by simp) _⟩
  have := Whole.new (w.alloc (.cells x.cells 24)) 24 y.cells
  rwa [World.size_alloc] at this
set_option maxRecDepth 100000 in
theorem Two.under {x y : Cf} {w W W' : World} (h : Two x y w W) (hb : Below W.heap.size W W') : Two x y w W' := ⟨h.1.under hb, h.2.1.under hb, h.2.2.trans (hb.mono h.2.2.size)⟩

set_option maxRecDepth 100000 in
set_option maxHeartbeats 2000000 in
theorem sameC_any (x y : Cf) (B B' : Nat) (w : World) (hx : Lies x w B) (hy : Lies y w B') (hB : B ≤ w.heap.size) (hB' : B' ≤ w.heap.size) (hn : x.n ≤ 1000000) : Calls Tryd.prog 21 #[x.v, y.v] w (BoolPost (sameC x y) w) := by
  have HX := Lib.hid (hx.more hB)
  have HY := Lib.hid (hy.more hB')
  have HT := Lib.hid (Two.new x y w)
  have HV1 := Lib.hid (fun W h => values_any x w.heap.size W h)
  have HV2 := Lib.hid (fun W h => values_any y (w.heap.size + 1) W h)
  clear hx hy hB hB'
  go_enter Tryd.func21, Tryd.ntmps21
  by_cases hf : x.fs = y.fs
  · have HE := Lib.hid (fun W => (run_eq13 W x y).trans (by rw [decide_eq_true hf]))
    have HF := Lib.hid (decide_eq_true hf)
    clear hf
    by_cases hs : x.sk = y.sk
    · have hsb : (x.sk == y.sk) = true := by simp [hs]
      have HS := Lib.hid (decide_eq_true hs)
      clear hs
      go_wp2_with fail
      refine (HV1.out _ HT.out.1).mono ?_
      rintro e w1 ⟨rfl, b1⟩
      have HT1 := Lib.hid (HT.out.under b1)
      clear b1 HT HV1
      go_wp2_with fail
      refine (HV2.out _ HT1.out.2.1).mono ?_
      rintro e w2 ⟨rfl, b2⟩
      have HT2 := Lib.hid (HT1.out.under b2)
      have q := HE.out w2
      clear b2 HT1 HV2 HE
      obtain ⟨c0, c1, c2, c3, c4, c5, c6, c7, c8, c9, c10, c11, c12, c13, c14⟩ := HT2.out.1.conf
      obtain ⟨d0, d1, d2, d3, d4, d5, d6, d7, d8, d9, d10, d11, d12, d13, d14⟩ := HT2.out.2.1.conf
      have HEq := Lib.hid (equal_any x.A y.A x.n x.c y.n y.c x.ms y.ms w.heap.size w.heap.size w2 (HX.out.below HT2.out.2.2).rd (HY.out.below HT2.out.2.2).rd hn)
      clear c0 c1 c2 c3 c4 c5 c6 c7 c8 c9 c10 c11 c12 d0 d1 d2 d3 d4 d5 d6 d7 d8 d9 d10 d11 d12
      go_wp2_with fail
      refine (HEq.out).mono ?_
      rintro e w3 ⟨rfl, k, rfl⟩
      clear HEq
      go_wp2_with fail
      go_ret
      exact ⟨by unfold sameC; rw [HF.out, HS.out]; rfl, below_drewN HT2.out.2.2 k⟩
    · have hsb : (x.sk == y.sk) = false := by rw [beq_eq_false_iff_ne]; exact hs
      have HS := Lib.hid (decide_eq_false hs)
      clear hs
      go_wp2_with fail
      refine (HV1.out _ HT.out.1).mono ?_
      rintro e w1 ⟨rfl, b1⟩
      have HT1 := Lib.hid (HT.out.under b1)
      clear b1 HT HV1
      go_wp2_with fail
      refine (HV2.out _ HT1.out.2.1).mono ?_
      rintro e w2 ⟨rfl, b2⟩
      have HT2 := Lib.hid (HT1.out.under b2)
      have q := HE.out w2
      clear b2 HT1 HV2 HE
      obtain ⟨c0, c1, c2, c3, c4, c5, c6, c7, c8, c9, c10, c11, c12, c13, c14⟩ := HT2.out.1.conf
      obtain ⟨d0, d1, d2, d3, d4, d5, d6, d7, d8, d9, d10, d11, d12, d13, d14⟩ := HT2.out.2.1.conf
      clear c0 c1 c2 c3 c4 c5 c6 c7 c8 c9 c10 c11 c12 d0 d1 d2 d3 d4 d5 d6 d7 d8 d9 d10 d11 d12
      go_wp2_with fail
      go_ret
      exact ⟨by unfold sameC; rw [HF.out, HS.out]; rfl, HT2.out.2.2⟩
  · have HE := Lib.hid (fun W => (run_eq13 W x y).trans (by rw [decide_eq_false hf]))
    have HF := Lib.hid (decide_eq_false hf)
    clear hf
    go_wp2_with fail
    refine (HV1.out _ HT.out.1).mono ?_
    rintro e w1 ⟨rfl, b1⟩
    have HT1 := Lib.hid (HT.out.under b1)
    clear b1 HT HV1
    go_wp2_with fail
    refine (HV2.out _ HT1.out.2.1).mono ?_
    rintro e w2 ⟨rfl, b2⟩
    have HT2 := Lib.hid (HT1.out.under b2)
    have q := HE.out w2
    clear b2 HT1 HV2 HE
    go_wp2_with fail
    go_ret
    exact ⟨by unfold sameC; rw [HF.out]; rfl, HT2.out.2.2⟩

set_option maxRecDepth 100000 in
set_option maxHeartbeats 1000000 in
theorem ints_any (A A' : Option Addr) (n c n' c' : Nat) (zs zs' : List Int) (B B' : Nat) (w : World) (hr : Rd w B A n (iv zs)) (hr' : Rd w B' A' n' (iv zs')) (hn : n ≤ 1000000) :
    Calls Tryd.prog 13 #[.slice A n c, .slice A' n' c'] w (QuietBool (decide (zs = zs')) w) := by
  have hl : zs.length = n := by have := hr.1; rwa [iv_length] at this
  have hl' : zs'.length = n' := by have := hr'.1; rwa [iv_length] at this
  by_cases hne : n = n'
  · subst hne
    have HR := Lib.hid hr
    have HR' := Lib.hid hr'
    have HL := Lib.hid hl
    have HL' := Lib.hid hl'
    clear hr hr' hl hl'
    go_enter Tryd.func13, Tryd.ntmps13
    go_wp2_with fail
    go_loopw [5] (fun i wr => ∃ j : Nat, i = .int .i64 (j : Int) ∧ j ≤ n ∧ zs.take j = zs'.take j ∧ ∃ k, wr = w.drewN k) (fun i _ => n - (intOf i).toNat)
    case atStart => exact ⟨0, rfl, Nat.zero_le _, rfl, 0, rfl⟩
    case round =>
      obtain ⟨j, rfl, hj, hT, k, rfl⟩ := hrel
      have HT := Lib.hid hT
      clear hT
      by_cases hlt : j < n
      · obtain ⟨b, off, rfl, _, hc⟩ := HR.out.2 (by omega)
        obtain ⟨b', off', rfl, _, hc'⟩ := HR'.out.2 (by omega)
        have hjl : j < zs.length := by rw [HL.out]; exact hlt
        have hjl' : j < zs'.length := by rw [HL'.out]; exact hlt
        obtain ⟨x, hx⟩ : ∃ x, zs[j]? = some x := ⟨_, List.getElem?_eq_getElem hjl⟩
        obtain ⟨y, hy⟩ : ∃ y, zs'[j]? = some y := ⟨_, List.getElem?_eq_getElem hjl'⟩
        have h1 := hc j hlt
        have h2 := hc' j hlt
        rw [show (iv zs)[j]? = some (.int .i64 x) by simp [iv, hx]] at h1
        rw [show (iv zs')[j]? = some (.int .i64 y) by simp [iv, hy]] at h2
        have hI : (j : Int) < (n : Int) := by omega
        have HX := Lib.hid hx
        have HY := Lib.hid hy
        clear hc hc' hx hy hjl hjl'
        by_cases hxy : x = y
        · subst hxy
          go_wp2_with fail
          go_quiet (fail)
          go_wp2_with fail
          go_roundw
          case rel => exact ⟨j + 1, by go_num, by omega, take_grow HT.out HX.out HY.out, _, rfl⟩
          case measure => simp [intOf]; omega
        · have hb : (x == y) = false := by rw [beq_eq_false_iff_ne]; exact hxy
          have hb2 : (x != y) = true := by simp [bne, hb]
          have HF := Lib.hid (show decide (zs = zs') = false by rw [decide_eq_false_iff_not]; rintro rfl; have h3 := HX.out; rw [HY.out] at h3; exact hxy (Option.some.inj h3).symm)
          clear hxy
          go_wp2_with fail
          go_quiet (fail)
          go_wp2_with fail
          go_ret
          exact ⟨by rw [HF.out]; rfl, _, World.drewN_drewN _ _ _⟩
      · have HF := Lib.hid (show decide (zs = zs') = true by
          rw [decide_eq_true_eq]
          have h1 := HT.out
          rwa [List.take_of_length_le (by have := HL.out; omega), List.take_of_length_le (by have := HL'.out; omega)] at h1)
        have hI : ¬ (j : Int) < (n : Int) := by omega
        go_wp2_with fail
        go_ret
        exact ⟨by rw [HF.out]; rfl, _, rfl⟩
  · have HF := Lib.hid (show decide (zs = zs') = false by rw [decide_eq_false_iff_not]; rintro rfl; exact hne (hl.symm.trans hl'))
    have hne2 : ((n : Int) == (n' : Int)) = false := by rw [beq_eq_false_iff_ne]; omega
    clear hl hl' hr hr'
    go_enter Tryd.func13, Tryd.ntmps13
    go_wp2_with fail
    go_ret
    exact ⟨by rw [HF.out]; rfl, 0, rfl⟩

end Go.Proofs.YtdjieigmncoooaaDoor
