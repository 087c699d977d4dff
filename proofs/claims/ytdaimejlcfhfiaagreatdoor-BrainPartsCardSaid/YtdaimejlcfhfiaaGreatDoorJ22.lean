/-
  Texts that the walks of the statements over logs lean on, joined (BrKit, BrOps, BrWakes, MemOpen, OpenF). Conditions: those that each theorem names.
-/
import Derived.Test.YtdaimejlcfhfiaaGreatDoorJ0
import Derived.Test.YtdaimejlcfhfiaaGreatDoorJ2
import Derived.Test.YtdaimejlcfhfiaaGreatDoorJ9
import Derived.Test.YtdaimejlcfhfiaaGreatDoorJ10
import Derived.Test.YtdaimejlcfhfiaaGreatDoorJ21
import Derived.Lib.SmallJoins
import Derived.Deep.Fields
import Derived.ChangeSame
import Derived.LaidMore
import Derived.Stop.Joined

/-
  What the statements over brains share: records, a group's record, what is too great. Conditions: those that each theorem names.
-/
namespace Go.Proofs.YtdaimejlcfhfiaaGreatDoor
open Go.RowKit Go.Shelf

/-- A record that reads; a row of numbers that reads. -/
def RecIs (k : Nat) (zs : List Int) (v : Value) (w : World) : Prop :=
  ∃ A c, v = .agg #[.int .u8 (k : Int), .slice A zs.length c] ∧ Rd w w.heap.size A zs.length (iv zs) ∧ zs.length ≤ c ∧ c ≤ maxLen
def SlIs (zs : List Int) (v : Value) (w : World) : Prop :=
  ∃ A c, v = .slice A zs.length c ∧ Rd w w.heap.size A zs.length (iv zs) ∧ zs.length ≤ c ∧ c ≤ maxLen
set_option maxRecDepth 100000 in
theorem RecIs.under {k : Nat} {zs : List Int} {v : Value} {w w' : World} (hb : Below w.heap.size w w') (h : RecIs k zs v w) : RecIs k zs v w' := by
  obtain ⟨A, c, h1, h2, h3⟩ := h
  exact ⟨A, c, h1, (h2.below hb).more hb.size, h3⟩
set_option maxRecDepth 100000 in
theorem SlIs.under {zs : List Int} {v : Value} {w w' : World} (hb : Below w.heap.size w w') (h : SlIs zs v w) : SlIs zs v w' := by
  obtain ⟨A, c, h1, h2, h3⟩ := h
  exact ⟨A, c, h1, (h2.below hb).more hb.size, h3⟩

set_option maxRecDepth 100000 in
set_option maxHeartbeats 400000 in
theorem rec_any (k : Nat) (A : Option Addr) (n c : Nat) (w : World) : Calls Tryz.prog 27 #[.int .u8 (k : Int), .slice A n c] w fun e w' => e = .returned (.agg #[.int .u8 (k : Int), .slice A n c]) ∧ Below w.heap.size w w' := by
  go_enter Tryz.func27, Tryz.ntmps27
  go_wp2_with fail
  refine bodyPost_ret (v := .agg #[.int .u8 (k : Int), .slice A n c]) (by simp [results, Tryz.results27, go_sem]) rfl ⟨rfl, ?_⟩
  exact (Below.refl _ w).alloc (Nat.le_refl _) _

set_option maxRecDepth 100000 in
theorem own_maxB {w : World} {base n c : Nat} {A : Option Addr} {e : TypeId} {size : Nat} {xs : List Value} (h : w.ownsRow base e size (.slice A n c) n xs) : c ≤ maxLen := by
  rcases h.2 with ⟨h1, h2⟩ | ⟨g, cap, cur, h1, _, _, _, h3, _⟩
  · injection h1 with _ _ h4
    subst h4
    exact Nat.zero_le _
  · injection h1 with _ _ h4
    subst h4
    exact h3
/-- The group of the statements' own. -/
def gC : Cf := ⟨2, 50, 1, 0, 0, 0, 0, 0, 3, 2, 2, 0, 4, false, none, 0, 0, []⟩
def gZ : List Int := [2, 50, 1, 0, 0, 0, 0, 0, 3, 2, 2, 0, 4, 0]
set_option maxRecDepth 100000 in
theorem gC_row : (if may gC = true then rowOf gC else []) = gZ := by kernel_rfl
set_option maxRecDepth 100000 in
set_option maxHeartbeats 1000000 in
theorem group_any (w : World) : Calls Tryz.prog 28 #[] w fun e w' => ∃ v, e = .returned v ∧ RecIs 2 gZ v w' ∧ Below w.heap.size w w' := by
  obtain ⟨V, hV⟩ : ∃ V, w.alloc (.cells #[.int .u8 0, .slice none 0 0] 32) = V := ⟨_, rfl⟩
  have hw : Whole V w.heap.size 32 #[.int .u8 0, .slice none 0 0] := by rw [← hV]; exact Whole.new _ _ _
  have hb : Below w.heap.size w V := by rw [← hV]; exact (Below.refl _ _).alloc (Nat.le_refl _) _
  have HW := Lib.hid hw
  have HB := Lib.hid hb
  have HV := Lib.hid hV
  have HR := Lib.hid (refRow_any gC V ⟨Rd.nil_ _ _ _, Nat.le_refl _, Nat.zero_le _⟩ (by decide))
  clear hw hb hV
  go_enter Tryz.func28, Tryz.ntmps28
  go_upto_region 1 with fail
  rw [HV.out]
  go_wp2_with fail
  refine HR.out.mono ?_
  rintro e w1 ⟨A, n, c, rfl, ho, b1⟩
  rw [gC_row] at ho
  have hn : n = 14 := by have := ho.1; simp [gZ, iv] at this; omega
  subst hn
  have hc := own_cap ho
  have hmx := own_maxB ho
  have he : er (may gC) = 0 := by kernel_rfl
  rw [he]
  have HW1 := Lib.hid (HW.out.under b1)
  have HO := Lib.hid ho
  have HB1 := Lib.hid (HB.out.trans (b1.mono HB.out.size))
  have HL := Lib.hid (show w.heap.size < V.heap.size from HW.out.lt)
  have k0 := HW1.out.cell 0
  have k1 := HW1.out.cell 1
  have f0 := HW1.out.frozen 0
  have f1 := HW1.out.frozen 1
  simp only [List.getElem?_toArray, List.getElem?_cons_zero, List.getElem?_cons_succ] at k0 k1
  clear ho b1 HR HV HW HB he
  go_wp2_with fail
  obtain ⟨e2, k2⟩ := put2 HW1.out (.int .u8 2) (.slice A 14 c)
  have q0 := e2.cell 0
  have q1 := e2.cell 1
  simp only [List.getElem?_toArray, List.getElem?_cons_zero, List.getElem?_cons_succ] at q0 q1
  refine bodyPost_ret (v := .agg #[.int .u8 2, .slice A 14 c]) (by simp [results, Tryz.results28, go_sem, q0, q1]) rfl ⟨_, rfl, ⟨A, c, rfl, ?_, hc, hmx⟩, k2.bel HB1.out (Nat.le_refl _)⟩
  exact Rd.of_own (k2.ownB HO.out HL.out)

def gB (p : Br) : Bool := decide (40 < p.its.length) || (decide (40 < p.kps.length) || decide (40 < p.cf.ms.length))
set_option maxRecDepth 100000 in
theorem gB_no {p : Br} (h : gB p = false) : p.its.length ≤ 40 ∧ p.kps.length ≤ 40 ∧ p.cf.ms.length ≤ 40 := by
  simp only [gB, Bool.or_eq_false_iff, decide_eq_false_iff_not] at h
  omega
set_option maxRecDepth 100000 in
set_option maxHeartbeats 1000000 in
theorem greatB_any (p : Br) (a : Ad) (w : World) : Calls Tryz.prog 26 #[brV p a] w (BoolPost (gB p) w) := by
  obtain ⟨V, hV⟩ : ∃ V, w.alloc (.cells (brC p a) 30) = V := ⟨_, rfl⟩
  have hw : Whole V w.heap.size 30 (brC p a) := by rw [← hV]; exact Whole.new _ _ _
  have hb : Below w.heap.size w V := by rw [← hV]; exact (Below.refl _ _).alloc (Nat.le_refl _) _
  have c17 := hw.cell 17
  have c18 := hw.cell 18
  have c19 := hw.cell 19
  simp only [List.getElem?_toArray, List.getElem?_cons_zero, List.getElem?_cons_succ] at c17 c18 c19
  have HB := Lib.hid hb
  have HV := Lib.hid hV
  clear hb hw hV
  unfold gB
  have e1 : ∀ n : Nat, decide ((40 : Int) < (n : Int)) = decide (40 < n) := fun n => by
    by_cases h : 40 < n
    · rw [decide_eq_true h, decide_eq_true (by omega)]
    · rw [decide_eq_false h, decide_eq_false (by omega)]
  cases h1 : decide (40 < p.its.length) with
  | true =>
    have d1 : decide ((40 : Int) < (p.its.length : Int)) = true := by rw [e1]; exact h1
    clear h1 e1
    go_enter Tryz.func26, Tryz.ntmps26
    go_upto_region 1 with fail
    rw [HV.out]
    go_wp2_with fail
    go_ret
    exact ⟨rfl, HB.out⟩
  | false =>
    have d1 : decide ((40 : Int) < (p.its.length : Int)) = false := by rw [e1]; exact h1
    cases h2 : decide (40 < p.kps.length) with
    | true =>
      have d2 : decide ((40 : Int) < (p.kps.length : Int)) = true := by rw [e1]; exact h2
      clear h1 h2 e1
      go_enter Tryz.func26, Tryz.ntmps26
      go_upto_region 1 with fail
      rw [HV.out]
      go_wp2_with fail
      go_ret
      exact ⟨rfl, HB.out⟩
    | false =>
      have d2 : decide ((40 : Int) < (p.kps.length : Int)) = false := by rw [e1]; exact h2
      have d3 := e1 p.cf.ms.length
      clear h1 h2 e1
      go_enter Tryz.func26, Tryz.ntmps26
      go_upto_region 1 with fail
      rw [HV.out]
      go_wp2_with fail
      go_ret
      exact ⟨by simp, HB.out⟩

/-- Too great to be asked. -/
def gR (xs : List RE) : Bool := (xs.take 61).any (fun x => decide (40 < x.n)) || decide (60 < xs.length)
set_option maxRecDepth 100000 in
theorem gR_no {xs : List RE} (h : gR xs = false) : xs.length ≤ 60 ∧ ∀ x ∈ xs, x.n ≤ 40 := by
  simp only [gR, Bool.or_eq_false_iff, decide_eq_false_iff_not, List.any_eq_false] at h
  refine ⟨by omega, fun x hx => ?_⟩
  have := h.1 x (by rw [List.take_of_length_le (by omega)]; exact hx)
  simpa using this

set_option maxRecDepth 100000 in
theorem gR_yes {xs : List RE} {j : Nat} {x : RE} (hx : xs[j]? = some x) (hj : j ≤ 60) (h : 40 < x.n) : gR xs = true := by
  have : (xs.take 61).any (fun x => decide (40 < x.n)) = true := by
    rw [List.any_eq_true]
    refine ⟨x, ?_, by simpa using h⟩
    refine List.mem_of_getElem? (i := j) ?_
    rw [List.getElem?_take, if_pos (by omega)]
    exact hx
  simp [gR, this]
set_option maxRecDepth 100000 in
theorem gR_end {xs : List RE} {j : Nat} (h : ∀ x ∈ xs.take j, ¬ 40 < x.n) (hj : j = xs.length ∨ j = 61) : gR xs = decide (60 < xs.length) := by
  have : (xs.take 61).any (fun x => decide (40 < x.n)) = false := by
    rw [List.any_eq_false]
    intro x hx
    have hm : x ∈ xs.take j := by
      rcases hj with rfl | rfl
      · rw [List.take_of_length_le (Nat.le_refl _)]
        exact List.mem_of_mem_take hx
      · exact hx
    simpa using h x hm
  simp [gR, this]

set_option maxRecDepth 100000 in
set_option maxHeartbeats 2000000 in
theorem great0_any (A : Option Addr) (n c : Nat) (xs : List RE) (Z : Nat) (w : World) (hx : RdR w Z A n xs) : Calls Tryz.prog 9 #[.slice A n c, .slice none 0 0] w (BoolPost (gR xs) w) := by
  have hl := hx.1
  have HX := Lib.hid hx
  have HB := Lib.hid (Below.refl w.heap.size w)
  obtain ⟨V, hV⟩ : ∃ V, w = V := ⟨_, rfl⟩
  rw [hV] at HX HB ⊢
  clear hx hV
  go_enter Tryz.func9, Tryz.ntmps9
  go_wp2_with fail
  refine wp_loop_rounds 1 ?_
  rw [rounds_succ]
  go_wp2_with fail
  go_loopw [6] (fun i wr => ∃ j : Nat, i = .int .i64 (j : Int) ∧ j ≤ n ∧ j ≤ 61 ∧ (∀ x ∈ xs.take j, ¬ 40 < x.n) ∧ wr = V) (fun i _ => n - (intOf i).toNat)
  case atStart => exact ⟨0, rfl, Nat.zero_le _, Nat.zero_le _, by simp, rfl⟩
  case round =>
    obtain ⟨j, rfl, hj, hj6, hno, rfl⟩ := hrel
    by_cases hin : j < n ∧ j ≤ 60
    rotate_left
    · have HE := Lib.hid (show gR xs = decide ((60 : Int) < (n : Int)) by
        rw [gR_end hno (by omega : j = xs.length ∨ j = 61), hl]
        by_cases h : 60 < n
        · rw [decide_eq_true h, decide_eq_true (by omega)]
        · rw [decide_eq_false h, decide_eq_false (by omega)])
      by_cases hjn : j < n
      · have d1 : decide (j < n) = true := by simp; omega
        have d2 : decide ((j : Int) ≤ 60) = false := by simp; omega
        clear hno hin hjn hj hj6
        go_wp2_with fail
        go_ret
        exact ⟨by rw [HE.out]; rfl, HB.out⟩
      · have d1 : decide (j < n) = false := by simp; omega
        clear hno hin hjn hj hj6
        go_wp2_with fail
        go_ret
        exact ⟨by rw [HE.out]; rfl, HB.out⟩
    · have d1 : decide (j < n) = true := by simp; omega
      have d2 : decide ((j : Int) ≤ 60) = true := by simp; omega
      have hlt : (j : Int) < (n : Int) := by omega
      obtain ⟨x, hx⟩ : ∃ x, xs[j]? = some x := ⟨_, List.getElem?_eq_getElem (by omega)⟩
      obtain ⟨b, off, rfl, hb, hc⟩ := HX.out.2.1 (by omega)
      have c1 := (hc j x hx).2
      by_cases h40 : 40 < x.n
      · have d3 : decide ((40 : Int) < (x.n : Int)) = true := by simp; omega
        have HY := Lib.hid (gR_yes hx hin.2 h40)
        clear hno hin hj hj6 hc h40 hx hb
        go_wp2_with fail
        go_ret
        exact ⟨by rw [HY.out]; rfl, HB.out⟩
      · have d3 : decide ((40 : Int) < (x.n : Int)) = false := by simp; omega
        have HNo := Lib.hid (show ∀ y ∈ xs.take (j + 1), ¬ 40 < y.n by
          intro y hy
          rw [List.take_add_one, hx, List.mem_append] at hy
          rcases hy with hy | hy
          · exact hno y hy
          · simp only [Option.toList_some, List.mem_singleton] at hy
            rw [hy]; exact h40)
        have hj61 : j < 61 := by omega
        have HIn := Lib.hid hin
        clear hno hin hj hj6 hc h40 hx hb
        go_wp2_with fail
        go_roundw
        case rel => exact ⟨j + 1, by simp, by have := HIn.out.1; omega, by have := HIn.out.2; omega, HNo.out, trivial⟩
        case measure => have := HIn.out.1; simp [intOf]; omega

set_option maxRecDepth 100000 in
set_option maxHeartbeats 2000000 in
theorem great1_any (A : Option Addr) (n c : Nat) (xs : List RE) (Z : Nat) (p : Br) (a : Ad) (bb : Nat) (w : World) (hx : RdR w Z A n xs) (hZ : Z ≤ w.heap.size) (hb : Whole w bb 30 (brC p a)) : Calls Tryz.prog 9 #[.slice A n c, .slice (some ⟨bb, 0, none⟩) 1 1] w (BoolPost (gB p || gR xs) w) := by
  have hl := hx.1
  have HX0 := Lib.hid hx
  have HG := Lib.hid (greatB_any p a w)
  have HBB := Lib.hid hb
  have HZ := Lib.hid hZ
  cases hg : gB p with
  | true =>
    rw [hg] at HG
    clear hx hb hg hZ
    go_enter Tryz.func9, Tryz.ntmps9
    go_wp2_with fail
    refine wp_loop_rounds 2 ?_
    rw [rounds_succ]
    go_wp2_with (refine wpList_loadB (by rfl) _ rfl bb p a (by rfl) HBB.out ?_)
    refine HG.out.mono ?_
    rintro e V ⟨rfl, hb1⟩
    have HB := Lib.hid hb1
    clear hb1 HG
    go_wp2_with fail
    go_ret
    exact ⟨by simp, HB.out⟩
  | false =>
    rw [hg] at HG
    rw [Bool.false_or]
    clear hx hb hg hZ
    go_enter Tryz.func9, Tryz.ntmps9
    go_wp2_with fail
    refine wp_loop_rounds 2 ?_
    rw [rounds_succ]
    go_wp2_with (refine wpList_loadB (by rfl) _ rfl bb p a (by rfl) HBB.out ?_)
    refine HG.out.mono ?_
    rintro e V ⟨rfl, hb1⟩
    have HB := Lib.hid hb1
    have HX := Lib.hid (HX0.out.below (hb1.mono HZ.out))
    clear hb1 HG HX0
    go_wp2_with fail
    rw [rounds_succ]
    go_wp2_with fail
    go_loopw [6] (fun i wr => ∃ j : Nat, i = .int .i64 (j : Int) ∧ j ≤ n ∧ j ≤ 61 ∧ (∀ x ∈ xs.take j, ¬ 40 < x.n) ∧ wr = V) (fun i _ => n - (intOf i).toNat)
    case atStart => exact ⟨0, rfl, Nat.zero_le _, Nat.zero_le _, by simp, rfl⟩
    case round =>
      obtain ⟨j, rfl, hj, hj6, hno, rfl⟩ := hrel
      by_cases hin : j < n ∧ j ≤ 60
      rotate_left
      · have HE := Lib.hid (show gR xs = decide ((60 : Int) < (n : Int)) by
          rw [gR_end hno (by omega : j = xs.length ∨ j = 61), hl]
          by_cases h : 60 < n
          · rw [decide_eq_true h, decide_eq_true (by omega)]
          · rw [decide_eq_false h, decide_eq_false (by omega)])
        by_cases hjn : j < n
        · have d1 : decide (j < n) = true := by simp; omega
          have d2 : decide ((j : Int) ≤ 60) = false := by simp; omega
          clear hno hin hjn hj hj6
          go_wp2_with fail
          go_ret
          exact ⟨by rw [HE.out]; rfl, HB.out⟩
        · have d1 : decide (j < n) = false := by simp; omega
          clear hno hin hjn hj hj6
          go_wp2_with fail
          go_ret
          exact ⟨by rw [HE.out]; rfl, HB.out⟩
      · have d1 : decide (j < n) = true := by simp; omega
        have d2 : decide ((j : Int) ≤ 60) = true := by simp; omega
        have hlt : (j : Int) < (n : Int) := by omega
        obtain ⟨x, hx⟩ : ∃ x, xs[j]? = some x := ⟨_, List.getElem?_eq_getElem (by omega)⟩
        obtain ⟨b, off, rfl, hb, hc⟩ := HX.out.2.1 (by omega)
        have c1 := (hc j x hx).2
        by_cases h40 : 40 < x.n
        · have d3 : decide ((40 : Int) < (x.n : Int)) = true := by simp; omega
          have HY := Lib.hid (gR_yes hx hin.2 h40)
          clear hno hin hj hj6 hc h40 hx hb
          go_wp2_with fail
          go_ret
          exact ⟨by rw [HY.out]; rfl, HB.out⟩
        · have d3 : decide ((40 : Int) < (x.n : Int)) = false := by simp; omega
          have HNo := Lib.hid (show ∀ y ∈ xs.take (j + 1), ¬ 40 < y.n by
            intro y hy
            rw [List.take_add_one, hx, List.mem_append] at hy
            rcases hy with hy | hy
            · exact hno y hy
            · simp only [Option.toList_some, List.mem_singleton] at hy
              rw [hy]; exact h40)
          have hj61 : j < 61 := by omega
          have HIn := Lib.hid hin
          clear hno hin hj hj6 hc h40 hx hb
          go_wp2_with fail
          go_roundw
          case rel => exact ⟨j + 1, by simp, by have := HIn.out.1; omega, by have := HIn.out.2; omega, HNo.out, trivial⟩
          case measure => have := HIn.out.1; simp [intOf]; omega

end Go.Proofs.YtdaimejlcfhfiaaGreatDoor

/-
  Operations of a drawn region in the statements over brains, one by one. Conditions: those that each theorem names.
-/
namespace Go.Proofs.YtdaimejlcfhfiaaGreatDoor
open Go.RowKit Go.Shelf

/-- A row of records that reads; a brain that reads; a box with a brain of nothing. -/
def RecsIs (ks : List (Int × List Int)) (v : Value) (w : World) : Prop :=
  ∃ A c xs, v = .slice A xs.length c ∧ RdR w w.heap.size A xs.length xs ∧ recsB xs = ks ∧ ∀ x ∈ xs, x.n ≤ x.c ∧ x.c ≤ maxLen
def BrIs (q : Br) (v : Value) (w : World) : Prop := ∃ a, v = brV q a ∧ OwB 0 w q a
def BoxIs (lo : Nat) (v : Value) (w : World) : Prop := ∃ b, v = .pointer (some ⟨b, 0, none⟩) ∧ lo ≤ b ∧ Whole w b 30 (brC br0 ad0)
section
variable {v : Value} {w w' : World}
set_option maxRecDepth 100000 in
theorem RecsIs.under {ks : List (Int × List Int)} (hb : Below w.heap.size w w') (h : RecsIs ks v w) : RecsIs ks v w' := by
  obtain ⟨A, c, xs, h1, h2, h3⟩ := h
  exact ⟨A, c, xs, h1, (h2.below hb).more hb.size, h3⟩
set_option maxRecDepth 100000 in
theorem BrIs.under {q : Br} (hb : Below w.heap.size w w') (h : BrIs q v w) : BrIs q v w' := by
  obtain ⟨a, h1, h2⟩ := h
  exact ⟨a, h1, h2.under hb⟩
set_option maxRecDepth 100000 in
theorem BoxIs.under {lo : Nat} (hb : Below w.heap.size w w') (h : BoxIs lo v w) : BoxIs lo v w' := by
  obtain ⟨b, h1, h2, h3⟩ := h
  exact ⟨b, h1, h2, h3.under hb⟩
end
def recF (x : RE) : List Value := [.int .u8 (x.k : Int), .slice x.A x.n x.c]
set_option maxRecDepth 100000 in
theorem recF_len (x : RE) : (recF x).length = 2 := rfl
set_option maxRecDepth 100000 in
/-- Records in one row of one's own making. -/
theorem recs_new (w : World) (xs : List RE) (h : ∀ x ∈ xs, x.k < 256 ∧ Rd w w.heap.size x.A x.n (iv x.zs)) : RdR (w.alloc (.cells (xs.flatMap recF).toArray 32)) (w.alloc (.cells (xs.flatMap recF).toArray 32)).heap.size (some ⟨w.heap.size, 0, none⟩) xs.length xs := by
  refine ⟨rfl, fun _ => ⟨w.heap.size, 0, rfl, by simp, fun j x hx => ?_⟩, fun x hx => ⟨(h x hx).1, ((h x hx).2.alloc (Nat.le_refl _) _).more (by simp)⟩⟩
  have e0 := flatF_at recF_len hx (i := 0) (by omega)
  have e1 := flatF_at recF_len hx (i := 1) (by omega)
  refine ⟨?_, ?_⟩
  · rw [Nat.zero_add, cell_new, List.getElem?_toArray]
    exact e0
  · rw [Nat.zero_add, cell_new, List.getElem?_toArray]
    exact e1
set_option maxRecDepth 100000 in
theorem recIs_RE {k : Nat} {zs : List Int} {v : Value} {w : World} (hk : k < 256) (h : RecIs k zs v w) : ∃ x : RE, v = .agg (recF x).toArray ∧ x.k = k ∧ x.zs = zs ∧ (x.k < 256 ∧ Rd w w.heap.size x.A x.n (iv x.zs)) ∧ x.n ≤ x.c ∧ x.c ≤ maxLen := by
  obtain ⟨A, c, h1, h2, h3⟩ := h
  exact ⟨⟨k, A, zs.length, c, zs⟩, h1, rfl, rfl, ⟨hk, h2⟩, h3⟩

section
variable {K : Act → World → Prop} {Q : Exit → Act → World → Prop} {a : Act} {w : World} {d : Tmp} {t : TypeId} {pos : String} {after : Array Edge} {x y : Operand}
set_option maxRecDepth 100000 in
set_option maxHeartbeats 2000000 in
theorem opB_load {b : Nat} {p : Br} {ad : Ad} (hx : a.eval x = .pointer (some ⟨b, 0, none⟩)) (hW : Whole w b 30 (brC p ad)) (h : K (a.put (some d) (brV p ad)) w) :
    ({ dst := some d, op := .load 30 x, type := t, pos := pos, after := after, guard := none } : Oper).wp Tryz.prog a w K Q := by
  unfold Oper.wp execOp
  simp only [hx, Instr.loadAt, Instr.sureAddr, Sem.run_bind, Sem.run_pure, Result.andThen_ok, run_loadVar_row (P := Tryz.prog) w b 30 30 (brC p ad) (0, 0) _ hW Tryz.underlying30 rfl (by kernel_rfl)]
  exact h
set_option maxRecDepth 100000 in
set_option maxHeartbeats 2000000 in
theorem opB_rec (k : Nat) {zs : List Int} (hy : SlIs zs (a.eval y) w) (h : ∀ v w', Below w.heap.size w w' → RecIs k zs v w' → K (a.put (some d) v) w') :
    ({ dst := some d, op := .call { callee := .value (.func 27), args := #[.const (.int .u8 (k : Int)), y], argTypes := #[5, 22] }, type := t, pos := pos, after := after, guard := none } : Oper).wp Tryz.prog a w K Q := by
  obtain ⟨A, c, e, hr⟩ := hy
  have hf : a.eval (.func 27) = .func (.func 27) #[] #[] := rfl
  have hc : a.eval (.const (.int .u8 (k : Int))) = .int .u8 (k : Int) := rfl
  unfold Oper.wp execOp
  simp only [resolve, List.map_toArray, List.map_cons, List.map_nil, e, hc, hf]
  go_simp
  refine (rec_any k A zs.length c w).mono ?_
  rintro e w' ⟨rfl, hb⟩
  exact h _ _ hb (RecIs.under hb ⟨A, c, rfl, hr⟩)
set_option maxRecDepth 100000 in
set_option maxHeartbeats 2000000 in
theorem opB_group (h : ∀ v w', Below w.heap.size w w' → RecIs 2 gZ v w' → K (a.put (some d) v) w') :
    ({ dst := some d, op := .call { callee := .value (.func 28), args := #[], argTypes := #[] }, type := t, pos := pos, after := after, guard := none } : Oper).wp Tryz.prog a w K Q := by
  have hf : a.eval (.func 28) = .func (.func 28) #[] #[] := rfl
  unfold Oper.wp execOp
  simp only [resolve, List.map_toArray, List.map_nil, hf]
  go_simp
  refine (group_any w).mono ?_
  rintro e w' ⟨v, rfl, hv, hb⟩
  exact h _ _ hb hv
set_option maxRecDepth 100000 in
set_option maxRecDepth 100000 in
set_option maxHeartbeats 2000000 in
theorem opB_alloc {lo : Nat} (hlo : lo ≤ w.heap.size) (h : ∀ v w', Below w.heap.size w w' → BoxIs lo v w' → K (a.put (some d) v) w') :
    ({ dst := some d, op := .alloc 30, type := t, pos := pos, after := after, guard := none } : Oper).wp Tryz.prog a w K Q := by
  have hw := Whole.new w 30 (brC br0 ad0)
  have hb : Below w.heap.size w (w.alloc (.cells (brC br0 ad0) 30)) := (Below.refl _ _).alloc (Nat.le_refl _) _
  have HW := Lib.hid hw
  have HB := Lib.hid hb
  clear hw hb
  unfold Oper.wp execOp
  go_simp
  exact h _ _ HB.out ⟨_, rfl, hlo, HW.out⟩
set_option maxRecDepth 100000 in
set_option maxHeartbeats 2000000 in
theorem opB_all {ks : List (Int × List Int)} {p : Br} (hx : BrIs p (a.eval x) w) (hy : RecsIs ks (a.eval y) w) (hk : ks.length ≤ 300) (hm : p.cf.ms.length ≤ 1000) (hg : Good 400 p) (hT : Tab w) (hH : TabH w)
    (h : ∀ v w', Below w.heap.size w w' → BrIs (allB p ks) v w' → K (a.put (some d) v) w') :
    ({ dst := some d, op := .call { callee := .value (.func 14), args := #[x, y], argTypes := #[30, 33] }, type := t, pos := pos, after := after, guard := none } : Oper).wp Tryz.prog a w K Q := by
  obtain ⟨ad, e1, hr⟩ := hx
  obtain ⟨A, c, xs, e2, hrs, rfl, hcap⟩ := hy
  have hl : xs.length = (recsB xs).length := by simp [recsB]
  have hf : a.eval (.func 14) = .func (.func 14) #[] #[] := rfl
  have HA := Lib.hid (all_any p ad A xs.length c xs w.heap.size w hr.reads (Nat.le_refl _) hrs hm hcap (by omega) hg hT hH)
  clear hr hrs hm hcap hg hT hH hl hk
  unfold Oper.wp execOp
  simp only [resolve, List.map_toArray, List.map_cons, List.map_nil, e1, e2, hf]
  go_simp
  refine HA.out.mono ?_
  rintro e w' ⟨a', rfl, ho, hb⟩
  exact h _ _ hb ⟨a', rfl, ho.weaker (Nat.zero_le _)⟩
set_option maxRecDepth 100000 in
set_option maxHeartbeats 2000000 in
theorem opB_apply {k : Nat} {zs : List Int} {p : Br} (hx : BrIs p (a.eval x) w) (hy : RecIs k zs (a.eval y) w) (hk : k < 256) (hm : p.cf.ms.length ≤ 1000) (hg : Good 400 p) (hT : Tab w) (hH : TabH w)
    (h : ∀ v w', Below w.heap.size w w' → BrIs (applyB p (k : Int) zs) v w' → K (a.put (some d) v) w') :
    ({ dst := some d, op := .call { callee := .value (.func 12), args := #[x, y], argTypes := #[30, 32] }, type := t, pos := pos, after := after, guard := none } : Oper).wp Tryz.prog a w K Q := by
  obtain ⟨ad, e1, hr⟩ := hx
  obtain ⟨A, c, e2, hrd, hcap⟩ := hy
  have hf : a.eval (.func 12) = .func (.func 12) #[] #[] := rfl
  have HA := Lib.hid (apply_any p ad ⟨k, A, zs.length, c, zs⟩ w.heap.size w hr.reads (Nat.le_refl _) hk hrd hcap hm hg hT hH)
  clear hr hrd hm hcap hg hT hH
  unfold Oper.wp execOp
  simp only [resolve, List.map_toArray, List.map_cons, List.map_nil, e1, e2, hf]
  go_simp
  refine HA.out.mono ?_
  rintro e w' ⟨a', rfl, ho, hb⟩
  exact h _ _ hb ⟨a', rfl, ho.weaker (Nat.zero_le _)⟩
set_option maxRecDepth 100000 in
set_option maxHeartbeats 2000000 in
theorem opB_ints3 (z0 z1 z2 : Int) (h : ∀ v w', Below w.heap.size w w' → SlIs [z0, z1, z2] v w' → K (a.put (some d) v) w') :
    ({ dst := some d, op := .buildSlice 22 3 #[(0, .const (.int .i64 z0)), (1, .const (.int .i64 z1)), (2, .const (.int .i64 z2))], type := t, pos := pos, after := after, guard := none } : Oper).wp Tryz.prog a w K Q := by
  have hb : Below w.heap.size w (w.alloc (.cells #[.int .i64 z0, .int .i64 z1, .int .i64 z2] 3)) := (Below.refl _ _).alloc (Nat.le_refl _) _
  have hr := (rd_lit w [.int .i64 z0, .int .i64 z1, .int .i64 z2] 3 3 rfl)
  have HB := Lib.hid hb
  have HR := Lib.hid hr
  clear hb hr
  unfold Oper.wp execOp
  go_simp
  exact h _ _ HB.out ⟨_, 3, rfl, HR.out.more (by simp), Nat.le_refl _, by unfold maxLen; omega⟩
set_option maxRecDepth 100000 in
set_option maxHeartbeats 2000000 in
theorem opB_ints5 (z0 z1 z2 z3 z4 : Int) (h : ∀ v w', Below w.heap.size w w' → SlIs [z0, z1, z2, z3, z4] v w' → K (a.put (some d) v) w') :
    ({ dst := some d, op := .buildSlice 22 5 #[(0, .const (.int .i64 z0)), (1, .const (.int .i64 z1)), (2, .const (.int .i64 z2)), (3, .const (.int .i64 z3)), (4, .const (.int .i64 z4))], type := t, pos := pos, after := after, guard := none } : Oper).wp Tryz.prog a w K Q := by
  have hb : Below w.heap.size w (w.alloc (.cells #[.int .i64 z0, .int .i64 z1, .int .i64 z2, .int .i64 z3, .int .i64 z4] 3)) := (Below.refl _ _).alloc (Nat.le_refl _) _
  have hr := (rd_lit w [.int .i64 z0, .int .i64 z1, .int .i64 z2, .int .i64 z3, .int .i64 z4] 3 5 rfl)
  have HB := Lib.hid hb
  have HR := Lib.hid hr
  clear hb hr
  unfold Oper.wp execOp
  go_simp
  exact h _ _ HB.out ⟨_, 5, rfl, HR.out.more (by simp), Nat.le_refl _, by unfold maxLen; omega⟩
set_option maxRecDepth 100000 in
set_option maxHeartbeats 2000000 in
theorem opB_recs2 {k0 k1 : Nat} {l0 l1 : List Int} {x0 x1 : Operand} (h0 : RecIs k0 l0 (a.eval x0) w) (h1 : RecIs k1 l1 (a.eval x1) w) (hk0 : k0 < 256) (hk1 : k1 < 256)
    (h : ∀ v w', Below w.heap.size w w' → RecsIs [((k0 : Int), l0), ((k1 : Int), l1)] v w' → K (a.put (some d) v) w') :
    ({ dst := some d, op := .buildSlice 33 2 #[(0, x0), (1, x1)], type := t, pos := pos, after := after, guard := none } : Oper).wp Tryz.prog a w K Q := by
  obtain ⟨r0, e0, rfl, rfl, g0, q0⟩ := recIs_RE hk0 h0
  obtain ⟨r1, e1, rfl, rfl, g1, q1⟩ := recIs_RE hk1 h1
  have hb : Below w.heap.size w (w.alloc (.cells ([r0, r1].flatMap recF).toArray 32)) := (Below.refl _ _).alloc (Nat.le_refl _) _
  have hr := recs_new w [r0, r1] (by intro x hx; simp only [List.mem_cons, List.not_mem_nil, or_false] at hx; rcases hx with rfl | rfl <;> first | exact g0 | exact g1)
  have HB := Lib.hid hb
  have HR := Lib.hid hr
  have HQ := Lib.hid (show ∀ x ∈ [r0, r1], x.n ≤ x.c ∧ x.c ≤ maxLen by intro x hx; simp only [List.mem_cons, List.not_mem_nil, or_false] at hx; rcases hx with rfl | rfl <;> first | exact q0 | exact q1)
  clear hb hr g0 g1 q0 q1 h0 h1
  simp only [recF] at e0 e1
  unfold Oper.wp execOp
  simp only [e0, e1, List.map_toArray, List.map_cons, List.map_nil]
  go_simp
  exact h _ _ HB.out ⟨_, 2, _, rfl, HR.out, rfl, HQ.out⟩
set_option maxRecDepth 100000 in
set_option maxHeartbeats 2000000 in
theorem opB_recs6 {k0 k1 k2 k3 k4 k5 : Nat} {l0 l1 l2 l3 l4 l5 : List Int} {x0 x1 x2 x3 x4 x5 : Operand} (h0 : RecIs k0 l0 (a.eval x0) w) (h1 : RecIs k1 l1 (a.eval x1) w) (h2 : RecIs k2 l2 (a.eval x2) w) (h3 : RecIs k3 l3 (a.eval x3) w) (h4 : RecIs k4 l4 (a.eval x4) w) (h5 : RecIs k5 l5 (a.eval x5) w) (hk0 : k0 < 256) (hk1 : k1 < 256) (hk2 : k2 < 256) (hk3 : k3 < 256) (hk4 : k4 < 256) (hk5 : k5 < 256)
    (h : ∀ v w', Below w.heap.size w w' → RecsIs [((k0 : Int), l0), ((k1 : Int), l1), ((k2 : Int), l2), ((k3 : Int), l3), ((k4 : Int), l4), ((k5 : Int), l5)] v w' → K (a.put (some d) v) w') :
    ({ dst := some d, op := .buildSlice 33 6 #[(0, x0), (1, x1), (2, x2), (3, x3), (4, x4), (5, x5)], type := t, pos := pos, after := after, guard := none } : Oper).wp Tryz.prog a w K Q := by
  obtain ⟨r0, e0, rfl, rfl, g0, q0⟩ := recIs_RE hk0 h0
  obtain ⟨r1, e1, rfl, rfl, g1, q1⟩ := recIs_RE hk1 h1
  obtain ⟨r2, e2, rfl, rfl, g2, q2⟩ := recIs_RE hk2 h2
  obtain ⟨r3, e3, rfl, rfl, g3, q3⟩ := recIs_RE hk3 h3
  obtain ⟨r4, e4, rfl, rfl, g4, q4⟩ := recIs_RE hk4 h4
  obtain ⟨r5, e5, rfl, rfl, g5, q5⟩ := recIs_RE hk5 h5
  have hb : Below w.heap.size w (w.alloc (.cells ([r0, r1, r2, r3, r4, r5].flatMap recF).toArray 32)) := (Below.refl _ _).alloc (Nat.le_refl _) _
  have hr := recs_new w [r0, r1, r2, r3, r4, r5] (by intro x hx; simp only [List.mem_cons, List.not_mem_nil, or_false] at hx; rcases hx with rfl | rfl | rfl | rfl | rfl | rfl <;> first | exact g0 | exact g1 | exact g2 | exact g3 | exact g4 | exact g5)
  have HB := Lib.hid hb
  have HR := Lib.hid hr
  have HQ := Lib.hid (show ∀ x ∈ [r0, r1, r2, r3, r4, r5], x.n ≤ x.c ∧ x.c ≤ maxLen by intro x hx; simp only [List.mem_cons, List.not_mem_nil, or_false] at hx; rcases hx with rfl | rfl | rfl | rfl | rfl | rfl <;> first | exact q0 | exact q1 | exact q2 | exact q3 | exact q4 | exact q5)
  clear hb hr g0 q0 h0 g1 q1 h1 g2 q2 h2 g3 q3 h3 g4 q4 h4 g5 q5 h5
  simp only [recF] at e0 e1 e2 e3 e4 e5
  unfold Oper.wp execOp
  simp only [e0, e1, e2, e3, e4, e5, List.map_toArray, List.map_cons, List.map_nil]
  go_simp
  exact h _ _ HB.out ⟨_, 6, _, rfl, HR.out, rfl, HQ.out⟩
end

end Go.Proofs.YtdaimejlcfhfiaaGreatDoor

/-
  What each statement over brains says at its end. Conditions: those that each theorem names.
-/
namespace Go.Proofs.YtdaimejlcfhfiaaGreatDoor
open Go.RowKit Go.Shelf

set_option maxRecDepth 100000 in
theorem wp_storeB {K : Act → World → Prop} {o : Oper} {a : Act} {w : World} {Q : Exit → Act → World → Prop} (x y : Operand) (ho : o.op = .store 30 x y) (g : Nat) (p : Br) (ad : Ad) (old : Array Value) (hs : old.size = 27)
    (hx : a.eval x = .pointer (some ⟨g, 0, none⟩)) (hy : a.eval y = brV p ad) (hW : Whole w g 30 old) (h : ∀ W2, W2 = w.setRow g (brC p ad) → K (a.put o.dst undef) W2) : o.wp Tryz.prog a w K Q := by
  refine wp_store_at 30 x y ho g 0 (brC p ad) hx hy 30 old hW (by kernel_rfl) (by rw [hs]; exact Nat.le_refl _) (by simp [Value.oneCell']) (h _ ?_)
  have e : old.toList.drop (0 + (brC p ad).size) = [] := List.drop_of_length_le (by rw [Array.length_toList, hs]; exact Nat.le_refl _)
  rw [e]
  simp
def q2 : Br := allB br0 [((1 : Nat), []), ((1 : Nat), [])]
def q3 : Br := applyB br0 (3 : Nat) [1, 0, 0]
def d4 : Br := allB br0 [((2 : Nat), gZ), ((3 : Nat), [4, 1, 0]), ((4 : Nat), [1, 7, 30]), ((6 : Nat), [7, 2, 31]), ((6 : Nat), [7, 4, 32]), ((8 : Nat), [3, 0, 9, 0, 33])]
def k0_ : Kp := ⟨3, 0, 9, 0, 8, 33, false, false⟩
def k1_ : Kp := ⟨7, 1, 4, 1, 2, 31, false, false⟩
set_option maxRecDepth 100000 in
theorem d4_kps : d4.kps = [k0_, k1_] := by kernel_rfl
set_option maxRecDepth 100000 in
theorem d4_its : d4.its = [] := by kernel_rfl
set_option maxRecDepth 100000 in
theorem d4_sq : d4.sq = 1 := by kernel_rfl
set_option maxRecDepth 100000 in
theorem d4_set : d4.set = true := by kernel_rfl
set_option maxRecDepth 100000 in
theorem d4_ms : d4.cf.ms = [] := by kernel_rfl
set_option maxRecDepth 100000 in
theorem q2_ep : q2.ep = 2 := by kernel_rfl
set_option maxRecDepth 100000 in
theorem q3_its : q3.its = [] := by kernel_rfl
set_option maxRecDepth 100000 in
theorem good0 : Good 400 br0 := ⟨by decide, by decide, by decide, by simp [br0]⟩
set_option maxRecDepth 100000 in
theorem slNil (a : Act) (w : World) : SlIs [] (a.eval (.const (.slice none 0 0))) w := ⟨none, 0, rfl, Rd.nil_ _ _ _, Nat.le_refl _, Nat.zero_le _⟩
set_option maxRecDepth 100000 in
theorem own0 (w : World) : OwB 0 w br0 ad0 := ⟨World.ownsRow_nil _ _ _ _, ItsAt.nil_ _ _, KpsAt.nil_ _ _⟩

set_option maxRecDepth 100000 in
set_option maxHeartbeats 8000000 in
theorem wakes_any (w : World) (hT : Tab w) (hH : TabH w) : Calls Tryz.prog 10 #[] w (BoolPost true w) := by
  obtain ⟨V, hV⟩ : ∃ V, w.alloc (.cells (brC br0 ad0) 30) = V := ⟨_, rfl⟩
  have hw : Whole V w.heap.size 30 (brC br0 ad0) := by rw [← hV]; exact Whole.new _ _ _
  have hb : Below w.heap.size w V := by rw [← hV]; exact (Below.refl _ _).alloc (Nat.le_refl _) _
  have HV := Lib.hid hV
  have HW := Lib.hid hw
  have HB := Lib.hid hb
  have HT := Lib.hid (hT.under hb)
  have HH := Lib.hid (hH.under hb)
  clear hV hw hb hT hH
  go_enter Tryz.func10, Tryz.ntmps10
  go_upto_region 2 with fail
  refine wpV (fun V2 hV2 => ?_)
  obtain rfl : V = V2 := HV.out.symm.trans hV2
  clear HV hV2
  refine region_grow (by kernel_rfl) (by kernel_rfl) 6 [5, 6, 7, 8, 9, 2] (by kernel_rfl) (by simp)
    (fun i v w => match i with | 0 => BrIs br0 v w | 1 => RecIs 1 [] v w | 2 => RecIs 1 [] v w | 3 => RecsIs [((1 : Nat), []), ((1 : Nat), [])] v w | 4 => BrIs q2 v w | 5 => BoxIs V.heap.size v w | _ => True) ?_ ?_ ?_
  · intro i v w w' hb h
    match i, h with
    | 0, h => exact BrIs.under hb h
    | 1, h => exact RecIs.under hb h
    | 2, h => exact RecIs.under hb h
    | 3, h => exact RecsIs.under hb h
    | 4, h => exact BrIs.under hb h
    | 5, h => exact BoxIs.under hb h
    | n + 6, h => trivial
  · intro i o d a w hi ho hd hag hbel hgot K hK
    rcases (by omega : i = 0 ∨ i = 1 ∨ i = 2 ∨ i = 3 ∨ i = 4 ∨ i = 5) with rfl | rfl | rfl | rfl | rfl | rfl
    all_goals
      simp only [List.getElem?_toArray, List.getElem?_cons_zero, List.getElem?_cons_succ, Option.some.injEq] at ho
      subst ho
      injection hd with hd
      subst hd
    · exact opB_load (hag.eval (t := 1) (by decide)) (HW.out.under hbel) (hK _ _ (Below.refl _ _) ⟨ad0, rfl, own0 w⟩)
    · exact opB_rec 1 (slNil a w) hK
    · exact opB_rec 1 (slNil a w) hK
    · exact opB_recs2 (hgot 1 6 (by kernel_rfl) rfl) (hgot 2 7 (by kernel_rfl) rfl) (by decide) (by decide) hK
    · exact opB_all (hgot 0 5 (by kernel_rfl) rfl) (hgot 3 8 (by kernel_rfl) rfl) (by decide) (by decide) good0 (HT.out.under hbel) (HH.out.under hbel) hK
    · exact opB_alloc hbel.size hK
  intro o a w1_ ho hag hbel hgot K hK
  simp only [List.getElem?_toArray, List.getElem?_cons_zero, List.getElem?_cons_succ, Option.some.injEq] at ho
  subst ho
  obtain ⟨b2, e2, hlo2, hw2⟩ := hgot 5 2 (by decide) rfl
  obtain ⟨a2, f2, ho2⟩ := hgot 4 9 (by decide) rfl
  refine wp_storeB _ _ rfl b2 q2 a2 _ (by rfl) e2 f2 hw2 (fun V3 hW_ => hK _ _ ?_)
  have X2 := Lib.hid (show Whole V3 b2 30 (brC q2 a2) by rw [hW_]; exact setRow_heap _ _ _ _ _ _ hw2)
  have O2 := Lib.hid (show OwB 0 V3 q2 a2 by rw [hW_]; exact ho2.rowset hw2 (by decide) (by decide) (by decide) _)
  have HBel2 := Lib.hid (show Below V.heap.size V V3 by rw [hW_]; exact below_rowsetB hbel hlo2 _)
  have HW_ := Lib.hid (HW.out.under HBel2.out)
  have HT_ := Lib.hid (HT.out.under HBel2.out)
  have HH_ := Lib.hid (HH.out.under HBel2.out)
  have HB_ := Lib.hid (HB.out.trans (HBel2.out.mono HB.out.size))
  clear HW HT HH HB
  have HW := HW_
  have HT := HT_
  have HH := HH_
  have HB := HB_
  clear HW_ HT_ HH_ HB_
  obtain ⟨σ, hσ⟩ : ∃ σ : Nat → Value, (fun d => a.eval (.tmp d)) = σ := ⟨_, rfl⟩
  have ha := hag.lay (by simp)
  rw [hσ] at ha
  have s_ : σ 2 = .pointer (some ⟨b2, 0, none⟩) := by rw [← hσ]; exact e2
  clear hσ hag hgot hK hbel hW_ e2 f2 ho2 hw2 hlo2 HBel2
  subst ha
  simp only [lay, List.foldl_cons, List.foldl_nil, Act.put, List.setIfInBounds_toArray, List.set_cons_zero, List.set_cons_succ, s_]
  obtain ⟨u5, hu5⟩ : ∃ u, σ 5 = u := ⟨_, rfl⟩
  rw [hu5]
  obtain ⟨u6, hu6⟩ : ∃ u, σ 6 = u := ⟨_, rfl⟩
  rw [hu6]
  obtain ⟨u7, hu7⟩ : ∃ u, σ 7 = u := ⟨_, rfl⟩
  rw [hu7]
  obtain ⟨u8, hu8⟩ : ∃ u, σ 8 = u := ⟨_, rfl⟩
  rw [hu8]
  obtain ⟨u9, hu9⟩ : ∃ u, σ 9 = u := ⟨_, rfl⟩
  rw [hu9]
  clear hu5 hu6 hu7 hu8 hu9 s_
  go_upto_region 3 with fail
  clear O2
  refine region_grow (by kernel_rfl) (by kernel_rfl) 5 [10, 11, 12, 13, 3] (by kernel_rfl) (by simp)
    (fun i v w => match i with | 0 => BrIs br0 v w | 1 => SlIs [1, 0, 0] v w | 2 => RecIs 3 [1, 0, 0] v w | 3 => BrIs q3 v w | 4 => BoxIs V3.heap.size v w | _ => True) ?_ ?_ ?_
  · intro i v w w' hb h
    match i, h with
    | 0, h => exact BrIs.under hb h
    | 1, h => exact SlIs.under hb h
    | 2, h => exact RecIs.under hb h
    | 3, h => exact BrIs.under hb h
    | 4, h => exact BoxIs.under hb h
    | n + 5, h => trivial
  · intro i o d a w hi ho hd hag hbel hgot K hK
    rcases (by omega : i = 0 ∨ i = 1 ∨ i = 2 ∨ i = 3 ∨ i = 4) with rfl | rfl | rfl | rfl | rfl
    all_goals
      simp only [List.getElem?_toArray, List.getElem?_cons_zero, List.getElem?_cons_succ, Option.some.injEq] at ho
      subst ho
      injection hd with hd
      subst hd
    · exact opB_load (hag.eval (t := 1) (by decide)) (HW.out.under hbel) (hK _ _ (Below.refl _ _) ⟨ad0, rfl, own0 w⟩)
    · exact opB_ints3 1 0 0 hK
    · exact opB_rec 3 (hgot 1 11 (by kernel_rfl) rfl) hK
    · exact opB_apply (hgot 0 10 (by kernel_rfl) rfl) (hgot 2 12 (by kernel_rfl) rfl) (by decide) (by decide) good0 (HT.out.under hbel) (HH.out.under hbel) hK
    · exact opB_alloc hbel.size hK
  intro o a w1_ ho hag hbel hgot K hK
  simp only [List.getElem?_toArray, List.getElem?_cons_zero, List.getElem?_cons_succ, Option.some.injEq] at ho
  subst ho
  obtain ⟨b3, e3, hlo3, hw3⟩ := hgot 4 3 (by decide) rfl
  obtain ⟨a3, f3, ho3⟩ := hgot 3 13 (by decide) rfl
  refine wp_storeB _ _ rfl b3 q3 a3 _ (by rfl) e3 f3 hw3 (fun V4 hW_ => hK _ _ ?_)
  have X3 := Lib.hid (show Whole V4 b3 30 (brC q3 a3) by rw [hW_]; exact setRow_heap _ _ _ _ _ _ hw3)
  have O3 := Lib.hid (show OwB 0 V4 q3 a3 by rw [hW_]; exact ho3.rowset hw3 (by decide) (by decide) (by decide) _)
  have HBel3 := Lib.hid (show Below V3.heap.size V3 V4 by rw [hW_]; exact below_rowsetB hbel hlo3 _)
  have HW_ := Lib.hid (HW.out.under HBel3.out)
  have HT_ := Lib.hid (HT.out.under HBel3.out)
  have HH_ := Lib.hid (HH.out.under HBel3.out)
  have HB_ := Lib.hid (HB.out.trans (HBel3.out.mono HB.out.size))
  have X2_ := Lib.hid (X2.out.under HBel3.out)
  clear HW HT HH HB X2
  have HW := HW_
  have HT := HT_
  have HH := HH_
  have HB := HB_
  have X2 := X2_
  clear HW_ HT_ HH_ HB_ X2_
  obtain ⟨σ, hσ⟩ : ∃ σ : Nat → Value, (fun d => a.eval (.tmp d)) = σ := ⟨_, rfl⟩
  have ha := hag.lay (by simp)
  rw [hσ] at ha
  have s_ : σ 3 = .pointer (some ⟨b3, 0, none⟩) := by rw [← hσ]; exact e3
  clear hσ hag hgot hK hbel hW_ e3 f3 ho3 hw3 hlo3 HBel3
  subst ha
  simp only [lay, List.foldl_cons, List.foldl_nil, Act.put, List.setIfInBounds_toArray, List.set_cons_zero, List.set_cons_succ, s_]
  obtain ⟨u10, hu10⟩ : ∃ u, σ 10 = u := ⟨_, rfl⟩
  rw [hu10]
  obtain ⟨u11, hu11⟩ : ∃ u, σ 11 = u := ⟨_, rfl⟩
  rw [hu11]
  obtain ⟨u12, hu12⟩ : ∃ u, σ 12 = u := ⟨_, rfl⟩
  rw [hu12]
  obtain ⟨u13, hu13⟩ : ∃ u, σ 13 = u := ⟨_, rfl⟩
  rw [hu13]
  clear hu10 hu11 hu12 hu13 s_
  go_upto_region 4 with fail
  clear O3
  refine region_grow (by kernel_rfl) (by kernel_rfl) 15 [14, 15, 16, 17, 18, 19, 20, 21, 22, 23, 24, 25, 26, 27, 4] (by kernel_rfl) (by simp)
    (fun i v w => match i with | 0 => BrIs br0 v w | 1 => RecIs 2 gZ v w | 2 => SlIs [4, 1, 0] v w | 3 => RecIs 3 [4, 1, 0] v w | 4 => SlIs [1, 7, 30] v w | 5 => RecIs 4 [1, 7, 30] v w | 6 => SlIs [7, 2, 31] v w | 7 => RecIs 6 [7, 2, 31] v w | 8 => SlIs [7, 4, 32] v w | 9 => RecIs 6 [7, 4, 32] v w | 10 => SlIs [3, 0, 9, 0, 33] v w | 11 => RecIs 8 [3, 0, 9, 0, 33] v w | 12 => RecsIs [((2 : Nat), gZ), ((3 : Nat), [4, 1, 0]), ((4 : Nat), [1, 7, 30]), ((6 : Nat), [7, 2, 31]), ((6 : Nat), [7, 4, 32]), ((8 : Nat), [3, 0, 9, 0, 33])] v w | 13 => BrIs d4 v w | 14 => BoxIs V4.heap.size v w | _ => True) ?_ ?_ ?_
  · intro i v w w' hb h
    match i, h with
    | 0, h => exact BrIs.under hb h
    | 1, h => exact RecIs.under hb h
    | 2, h => exact SlIs.under hb h
    | 3, h => exact RecIs.under hb h
    | 4, h => exact SlIs.under hb h
    | 5, h => exact RecIs.under hb h
    | 6, h => exact SlIs.under hb h
    | 7, h => exact RecIs.under hb h
    | 8, h => exact SlIs.under hb h
    | 9, h => exact RecIs.under hb h
    | 10, h => exact SlIs.under hb h
    | 11, h => exact RecIs.under hb h
    | 12, h => exact RecsIs.under hb h
    | 13, h => exact BrIs.under hb h
    | 14, h => exact BoxIs.under hb h
    | n + 15, h => trivial
  · intro i o d a w hi ho hd hag hbel hgot K hK
    rcases (by omega : i = 0 ∨ i = 1 ∨ i = 2 ∨ i = 3 ∨ i = 4 ∨ i = 5 ∨ i = 6 ∨ i = 7 ∨ i = 8 ∨ i = 9 ∨ i = 10 ∨ i = 11 ∨ i = 12 ∨ i = 13 ∨ i = 14) with rfl | rfl | rfl | rfl | rfl | rfl | rfl | rfl | rfl | rfl | rfl | rfl | rfl | rfl | rfl
    all_goals
      simp only [List.getElem?_toArray, List.getElem?_cons_zero, List.getElem?_cons_succ, Option.some.injEq] at ho
      subst ho
      injection hd with hd
      subst hd
    · exact opB_load (hag.eval (t := 1) (by decide)) (HW.out.under hbel) (hK _ _ (Below.refl _ _) ⟨ad0, rfl, own0 w⟩)
    · exact opB_group hK
    · exact opB_ints3 4 1 0 hK
    · exact opB_rec 3 (hgot 2 16 (by kernel_rfl) rfl) hK
    · exact opB_ints3 1 7 30 hK
    · exact opB_rec 4 (hgot 4 18 (by kernel_rfl) rfl) hK
    · exact opB_ints3 7 2 31 hK
    · exact opB_rec 6 (hgot 6 20 (by kernel_rfl) rfl) hK
    · exact opB_ints3 7 4 32 hK
    · exact opB_rec 6 (hgot 8 22 (by kernel_rfl) rfl) hK
    · exact opB_ints5 3 0 9 0 33 hK
    · exact opB_rec 8 (hgot 10 24 (by kernel_rfl) rfl) hK
    · exact opB_recs6 (hgot 1 15 (by kernel_rfl) rfl) (hgot 3 17 (by kernel_rfl) rfl) (hgot 5 19 (by kernel_rfl) rfl) (hgot 7 21 (by kernel_rfl) rfl) (hgot 9 23 (by kernel_rfl) rfl) (hgot 11 25 (by kernel_rfl) rfl) (by decide) (by decide) (by decide) (by decide) (by decide) (by decide) hK
    · exact opB_all (hgot 0 14 (by kernel_rfl) rfl) (hgot 12 26 (by kernel_rfl) rfl) (by decide) (by decide) good0 (HT.out.under hbel) (HH.out.under hbel) hK
    · exact opB_alloc hbel.size hK
  intro o a w1_ ho hag hbel hgot K hK
  simp only [List.getElem?_toArray, List.getElem?_cons_zero, List.getElem?_cons_succ, Option.some.injEq] at ho
  subst ho
  obtain ⟨b4, e4, hlo4, hw4⟩ := hgot 14 4 (by decide) rfl
  obtain ⟨a4, f4, ho4⟩ := hgot 13 27 (by decide) rfl
  refine wp_storeB _ _ rfl b4 d4 a4 _ (by rfl) e4 f4 hw4 (fun V5 hW_ => hK _ _ ?_)
  have X4 := Lib.hid (show Whole V5 b4 30 (brC d4 a4) by rw [hW_]; exact setRow_heap _ _ _ _ _ _ hw4)
  have O4 := Lib.hid (show OwB 0 V5 d4 a4 by rw [hW_]; exact ho4.rowset hw4 (by decide) (by decide) (by decide) _)
  have HBel4 := Lib.hid (show Below V4.heap.size V4 V5 by rw [hW_]; exact below_rowsetB hbel hlo4 _)
  have HW_ := Lib.hid (HW.out.under HBel4.out)
  have HT_ := Lib.hid (HT.out.under HBel4.out)
  have HH_ := Lib.hid (HH.out.under HBel4.out)
  have HB_ := Lib.hid (HB.out.trans (HBel4.out.mono HB.out.size))
  have X2_ := Lib.hid (X2.out.under HBel4.out)
  have X3_ := Lib.hid (X3.out.under HBel4.out)
  clear HW HT HH HB X2 X3
  have HW := HW_
  have HT := HT_
  have HH := HH_
  have HB := HB_
  have X2 := X2_
  have X3 := X3_
  clear HW_ HT_ HH_ HB_ X2_ X3_
  obtain ⟨σ, hσ⟩ : ∃ σ : Nat → Value, (fun d => a.eval (.tmp d)) = σ := ⟨_, rfl⟩
  have ha := hag.lay (by simp)
  rw [hσ] at ha
  have s_ : σ 4 = .pointer (some ⟨b4, 0, none⟩) := by rw [← hσ]; exact e4
  clear hσ hag hgot hK hbel hW_ e4 f4 ho4 hw4 hlo4 HBel4
  subst ha
  simp only [lay, List.foldl_cons, List.foldl_nil, Act.put, List.setIfInBounds_toArray, List.set_cons_zero, List.set_cons_succ, s_]
  obtain ⟨u14, hu14⟩ : ∃ u, σ 14 = u := ⟨_, rfl⟩
  rw [hu14]
  obtain ⟨u15, hu15⟩ : ∃ u, σ 15 = u := ⟨_, rfl⟩
  rw [hu15]
  obtain ⟨u16, hu16⟩ : ∃ u, σ 16 = u := ⟨_, rfl⟩
  rw [hu16]
  obtain ⟨u17, hu17⟩ : ∃ u, σ 17 = u := ⟨_, rfl⟩
  rw [hu17]
  obtain ⟨u18, hu18⟩ : ∃ u, σ 18 = u := ⟨_, rfl⟩
  rw [hu18]
  obtain ⟨u19, hu19⟩ : ∃ u, σ 19 = u := ⟨_, rfl⟩
  rw [hu19]
  obtain ⟨u20, hu20⟩ : ∃ u, σ 20 = u := ⟨_, rfl⟩
  rw [hu20]
  obtain ⟨u21, hu21⟩ : ∃ u, σ 21 = u := ⟨_, rfl⟩
  rw [hu21]
  obtain ⟨u22, hu22⟩ : ∃ u, σ 22 = u := ⟨_, rfl⟩
  rw [hu22]
  obtain ⟨u23, hu23⟩ : ∃ u, σ 23 = u := ⟨_, rfl⟩
  rw [hu23]
  obtain ⟨u24, hu24⟩ : ∃ u, σ 24 = u := ⟨_, rfl⟩
  rw [hu24]
  obtain ⟨u25, hu25⟩ : ∃ u, σ 25 = u := ⟨_, rfl⟩
  rw [hu25]
  obtain ⟨u26, hu26⟩ : ∃ u, σ 26 = u := ⟨_, rfl⟩
  rw [hu26]
  obtain ⟨u27, hu27⟩ : ∃ u, σ 27 = u := ⟨_, rfl⟩
  rw [hu27]
  clear hu14 hu15 hu16 hu17 hu18 hu19 hu20 hu21 hu22 hu23 hu24 hu25 hu26 hu27 s_
  have hO := O4.out.reads
  have hkp := hO.kps
  rw [d4_kps] at hkp
  obtain ⟨b, off, eB, hbl, hc⟩ := hkp.2 (by decide)
  have hoff : off = 0 := by
    rcases O4.out.kps.2 with ⟨_, h2⟩ | ⟨g, cap, cur, h1, _⟩
    · rw [d4_kps] at h2; cases h2
    · injection h1 with h1 _ _
      rw [eB] at h1
      injection h1 with h1
      injection h1
  subst hoff
  have c0 : V5.cell? ⟨b, 0, none⟩ = some (.int .i64 3) := hc 0 k0_ rfl 0 (by omega)
  have c4 : V5.cell? ⟨b, 4, none⟩ = some (.int .u8 8) := hc 0 k0_ rfl 4 (by omega)
  have c8 : V5.cell? ⟨b, 8, none⟩ = some (.int .i64 7) := hc 1 k1_ rfl 0 (by omega)
  have c9 : V5.cell? ⟨b, 9, none⟩ = some (.int .i64 1) := hc 1 k1_ rfl 1 (by omega)
  have c10 : V5.cell? ⟨b, 10, none⟩ = some (.int .i64 4) := hc 1 k1_ rfl 2 (by omega)
  have c11 : V5.cell? ⟨b, 11, none⟩ = some (.int .i64 1) := hc 1 k1_ rfl 3 (by omega)
  have c12 : V5.cell? ⟨b, 12, none⟩ = some (.int .u8 2) := hc 1 k1_ rfl 4 (by omega)
  have c13 : V5.cell? ⟨b, 13, none⟩ = some (.int .i64 31) := hc 1 k1_ rfl 5 (by omega)
  have c14 : V5.cell? ⟨b, 14, none⟩ = some (.bool false) := hc 1 k1_ rfl 6 (by omega)
  have c15 : V5.cell? ⟨b, 15, none⟩ = some (.bool false) := hc 1 k1_ rfl 7 (by omega)
  have k1 : V5.cell? ⟨b4, 1, none⟩ = some (.int .i64 1) := by
    have h := X4.out.cell 1
    rw [show (brC d4 a4)[1]? = some (.int .i64 d4.sq) from rfl, d4_sq] at h
    exact h
  have k2 : V5.cell? ⟨b4, 2, none⟩ = some (.bool true) := by
    have h := X4.out.cell 2
    rw [show (brC d4 a4)[2]? = some (.bool d4.set) from rfl, d4_set] at h
    exact h
  have k18 : V5.cell? ⟨b4, 18, none⟩ = some (.slice a4.A 0 a4.c) := by
    have h := X4.out.cell 18
    rw [show (brC d4 a4)[18]? = some (.slice a4.A d4.its.length a4.c) from rfl, d4_its] at h
    exact h
  have k19 : V5.cell? ⟨b4, 19, none⟩ = some (.slice (some ⟨b, 0, none⟩) 2 a4.d) := by
    have h := X4.out.cell 19
    rw [show (brC d4 a4)[19]? = some (.slice a4.B d4.kps.length a4.d) from rfl, d4_kps, eB] at h
    exact h
  have j0 : V5.cell? ⟨b2, 0, none⟩ = some (.int .i64 2) := by
    have h := X2.out.cell 0
    rw [show (brC q2 a2)[0]? = some (.int .i64 q2.ep) from rfl, q2_ep] at h
    exact h
  have j18 : V5.cell? ⟨b3, 18, none⟩ = some (.slice a3.A 0 a3.c) := by
    have h := X3.out.cell 18
    rw [show (brC q3 a3)[18]? = some (.slice a3.A q3.its.length a3.c) from rfl, q3_its] at h
    exact h
  have HO := Lib.hid hO
  clear hO hkp hc eB hbl X2 X3 HW HH
  go_wp2_with (refine wpList_loadB (by rfl) _ rfl b4 d4 a4 (by rfl) X4.out ?_)
  refine (bfind_any d4 a4 7 _ V5 HO.out (Nat.le_refl _) (by decide)).mono ?_
  rintro e V6 ⟨rfl, b6⟩
  rw [show findB d4 7 = 1 by kernel_rfl]
  have X6 := Lib.hid (X4.out.under b6)
  have HO6 := Lib.hid (HO.out.up b6)
  have HT6 := Lib.hid (HT.out.under b6)
  have HB6 := Lib.hid (HB.out.trans (b6.mono HB.out.size))
  clear b6 X4 O4 HO HT HB c0 c4 c8 c9 c10 c11 c12 c13 c14 c15 k1 k2 k18 k19 j0 j18
  go_wp2_with (refine wpList_loadB (by rfl) _ rfl b4 d4 a4 (by rfl) X6.out ?_)
  refine (btoken_any d4 a4 1 _ V6 HO6.out (Nat.le_refl _) (by decide)).mono ?_
  rintro e V7 ⟨rfl, b7⟩
  rw [show tokenB d4 1 = -1 by kernel_rfl]
  have X7 := Lib.hid (X6.out.under b7)
  have HO7 := Lib.hid (HO6.out.up b7)
  have HT7 := Lib.hid (HT6.out.under b7)
  have HB7 := Lib.hid (HB6.out.trans (b7.mono HB6.out.size))
  clear b7 X6 HO6 HT6 HB6
  go_wp2_with (refine wpList_loadB (by rfl) _ rfl b4 d4 a4 (by rfl) X7.out ?_)
  refine (bright_any d4 a4 _ V7 HO7.out (Nat.le_refl _) (by decide) (by decide) HT7.out).mono ?_
  rintro e V8 ⟨rfl, b8⟩
  rw [show rightBb d4 = true by kernel_rfl]
  have HB8 := Lib.hid (HB7.out.trans (b8.mono HB7.out.size))
  clear b8 X7 HO7 HT7 HB7
  go_wp2_with fail
  go_ret
  exact ⟨rfl, HB8.out⟩

end Go.Proofs.YtdaimejlcfhfiaaGreatDoor

/-
  What statements are handed: bytes, numbers, rows of them, opened to lists. Conditions: those that each theorem names.
-/
namespace Go.Proofs.YtdaimejlcfhfiaaGreatDoor
open Go.RowKit Go.Shelf Go.ChangeShapes Go.WideShapes Go.Deep Go.Joins

section
variable {H : Type} {enc : TypeId × Value → H} {W : World} {base : Nat} {held : Bool} {d : DataW H} {p : List MemPlace} {v : Value}

set_option maxRecDepth 100000 in
theorem open_u8 (hv : Value.okWide Tryz.prog W .any base 5 v) (h : DataW.Trod enc Tryz.prog W 0 (fun _ => true) held 5 v d p) : ∃ k : Nat, v = .int .u8 (k : Int) ∧ k < 256 := by
  obtain ⟨z, rfl, _, _, hw⟩ := open_int Tryz.underlying5 hv h
  have hb := bounds_u8 hw
  obtain ⟨k, rfl⟩ := Int.eq_ofNat_of_zero_le hb.1
  exact ⟨k, rfl, by omega⟩

set_option maxRecDepth 100000 in
theorem open_i64 (hv : Value.okWide Tryz.prog W .any base 3 v) (h : DataW.Trod enc Tryz.prog W 0 (fun _ => true) held 3 v d p) : ∃ z : Int, v = .int .i64 z ∧ (Lit.int .i64 z).wf = true := by
  obtain ⟨z, rfl, _, _, hw⟩ := open_int Tryz.underlying3 hv h
  exact ⟨z, rfl, hw⟩

set_option maxRecDepth 100000 in
/-- A slice of integers, its one cell read. -/
theorem open_intsC {n : Nat} {y : DataW H × List MemPlace} (h : DataW.trod enc Tryz.prog W 0 (fun _ => true) held n 22 [v] = some y) : ∃ A m c zs, v = .slice A m c ∧ Rd W W.heap.size A m (iv zs) ∧ m ≤ c ∧ c ≤ maxLen := by
  rcases open_ints Tryz.underlying22 Tryz.underlying3 (by kernel_rfl) h with ⟨hcs, _⟩ | ⟨x, l, c, zs, hcs, _, hl, hm, hz, _, hcell, hwz⟩
  · simp only [List.cons.injEq, and_true] at hcs
    subst hcs
    exact ⟨none, 0, 0, [], rfl, Rd.nil_ _ _ _, Nat.le_refl _, by omega⟩
  · simp only [List.cons.injEq, and_true] at hcs
    subst hcs
    obtain ⟨h1, h2, h3⟩ := rd_of_ints (w := W) (a := some x) (len := l) (cap := c) (zs := zs) (.inr ⟨x, rfl, hl, hm, by simpa using hz, hcell, hwz⟩)
    exact ⟨_, _, _, _, rfl, h1, h2, h3⟩

set_option maxRecDepth 100000 in
theorem open_intsV (hv : Value.okWide Tryz.prog W .any base 22 v) (h : DataW.Trod enc Tryz.prog W 0 (fun _ => true) held 22 v d p) : ∃ A m c zs, v = .slice A m c ∧ Rd W W.heap.size A m (iv zs) ∧ m ≤ c ∧ c ≤ maxLen := by
  obtain ⟨A, m, c, rfl⟩ := okWide_slice Tryz.underlying22 hv
  obtain ⟨fuel, hf⟩ := h
  exact open_intsC hf

set_option maxRecDepth 100000 in
theorem open_kindC {n : Nat} {y : DataW H × List MemPlace} (h : DataW.trod enc Tryz.prog W 0 (fun _ => true) held n 5 [v] = some y) : ∃ k : Nat, v = .int .u8 (k : Int) ∧ k < 256 := by
  obtain ⟨z, hz, _, hw⟩ := DataW.trod_int Tryz.underlying5 h
  simp only [List.cons.injEq, and_true] at hz
  have hb := bounds_u8 hw
  obtain ⟨k, rfl⟩ := Int.eq_ofNat_of_zero_le hb.1
  exact ⟨k, hz, by omega⟩
end

end Go.Proofs.YtdaimejlcfhfiaaGreatDoor

/-
  What a statement is handed as a slice of structs, opened: by how one of them is opened. Conditions: those that each theorem names.
-/
namespace Go.Proofs.YtdaimejlcfhfiaaGreatDoor
open Go.RowKit Go.Shelf Go.ChangeShapes Go.WideShapes Go.Deep Go.Joins

section
variable {H : Type} {enc : TypeId × Value → H} {W : World} {held : Bool} {v : Value}

set_option maxRecDepth 100000 in
theorem open_rowF {α : Type} {f : α → List Value} {size : Nat} {ty e : TypeId} {P : α → Prop} (ht : Tryz.prog.underlying ty = some (.slice e)) (hC : Tryz.prog.cellsOf e = size) (hs : 0 < size) (hf : ∀ x, (f x).length = size)
    (one : ∀ (fu : Nat) (c : List Value) (y : DataW H × List MemPlace), c.length = size → DataW.trod enc Tryz.prog W 0 (fun _ => true) held fu e c = some y → ∃ x : α, c = f x ∧ P x)
    {fu : Nat} {y : DataW H × List MemPlace} (h : DataW.trod enc Tryz.prog W 0 (fun _ => true) held fu ty [v] = some y) : ∃ A m c l, v = .slice A m c ∧ RdF size f W W.heap.size A m l ∧ m ≤ maxLen ∧ m ≤ c ∧ ∀ x ∈ l, P x := by
  rcases open_slice ht h with ⟨hcs, _⟩ | ⟨a, len, cap, m, n', D, Pl, hcs, _, hl, hm, hmm, _, hi⟩
  · simp only [List.cons.injEq, and_true] at hcs
    subst hcs
    exact ⟨none, 0, 0, [], rfl, RdF.nil_ _ _ _, by unfold maxLen; omega, by omega, by simp⟩
  · simp only [List.cons.injEq, and_true] at hcs
    subst hcs
    have hmc : m = cap := by simpa using hmm
    have each : ∀ i, i < len → ∃ x : α, (∀ j, j < size → W.cell? (a.add (i * size + j)) = (f x)[j]?) ∧ P x := by
      intro i hin
      obtain ⟨cs', hc, ht'⟩ := hi i (by omega)
      rw [hC] at hc
      obtain ⟨_, hcl, hat⟩ := World.cells?_some hc
      obtain ⟨x, rfl, hx⟩ := one _ _ _ hcl ht'
      refine ⟨x, fun j hj => ?_, hx⟩
      have := hat j hj
      rwa [Go.Deep.add_add] at this
    have build : ∀ j, j ≤ len → ∃ l : List α, l.length = j ∧ (∀ i x, l[i]? = some x → ∀ k, k < size → W.cell? (a.add (i * size + k)) = (f x)[k]?) ∧ ∀ x ∈ l, P x := by
      intro j
      induction j with
      | zero => intro _; exact ⟨[], rfl, by simp, by simp⟩
      | succ j ih =>
        intro hj
        obtain ⟨l, hl1, hl2, hl3⟩ := ih (by omega)
        obtain ⟨x, x1, x2⟩ := each j (by omega)
        refine ⟨l ++ [x], by simp [hl1], ?_, ?_⟩
        · intro i y hy
          rcases Nat.lt_or_ge i l.length with h | h
          · rw [List.getElem?_append_left h] at hy
            exact hl2 i y hy
          · rw [List.getElem?_append_right h] at hy
            have h0 : i - l.length = 0 := by
              rcases Nat.eq_zero_or_pos (i - l.length) with h1 | h1
              · exact h1
              · rw [List.getElem?_eq_none (by simp; omega)] at hy; cases hy
            rw [h0] at hy
            simp only [List.getElem?_cons_zero, Option.some.injEq] at hy
            subst hy
            obtain rfl : i = j := by omega
            exact x1
        · intro y hy
          simp only [List.mem_append, List.mem_singleton] at hy
          rcases hy with hy | rfl
          · exact hl3 y hy
          · exact x2
    obtain ⟨l, hl1, hl2, hl3⟩ := build len (Nat.le_refl _)
    refine ⟨_, _, _, l, rfl, ⟨hl1, fun hn => ?_⟩, by omega, by omega, hl3⟩
    obtain ⟨x, hx⟩ : ∃ x, l[0]? = some x := ⟨_, List.getElem?_eq_getElem (by omega)⟩
    have h00 := hl2 0 x hx 0 hs
    obtain ⟨b, off, spot⟩ := a
    rw [List.getElem?_eq_getElem (by rw [hf]; exact hs)] at h00
    have hspot : spot = none := by simpa [Addr.add] using World.cell?_spot h00
    subst hspot
    rw [Addr.add_lit] at h00
    refine ⟨b, off, rfl, World.block_lt_of_cell? W _ h00, fun j y hy i hi => ?_⟩
    have h1 := hl2 j y hy i hi
    rw [Go.WideShapes.add_plain, ← Nat.add_assoc] at h1
    exact h1
end

end Go.Proofs.YtdaimejlcfhfiaaGreatDoor
