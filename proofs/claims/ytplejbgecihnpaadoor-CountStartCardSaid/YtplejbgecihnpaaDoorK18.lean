/-
  Texts that the walk of a statement over brains leans on, joined (RefOf). Conditions: those that each theorem names.
-/
import Derived.Test.YtplejbgecihnpaaDoorK5
import Derived.Test.YtplejbgecihnpaaDoorK6

namespace Go.Proofs.YtplejbgecihnpaaDoor
open Go.RowKit Go.Shelf

def ZS (b off : Nat) (z0 z1 z2 z3 z4 z5 z6 z7 z8 z9 z10 z11 z12 z13 : Int) (W : World) : Prop := W.cell? ⟨b, off, none⟩ = some (.int .i64 z0) ∧ W.cell? ⟨b, off + 1, none⟩ = some (.int .i64 z1) ∧ W.cell? ⟨b, off + 2, none⟩ = some (.int .i64 z2) ∧ W.cell? ⟨b, off + 3, none⟩ = some (.int .i64 z3) ∧ W.cell? ⟨b, off + 4, none⟩ = some (.int .i64 z4) ∧ W.cell? ⟨b, off + 5, none⟩ = some (.int .i64 z5) ∧ W.cell? ⟨b, off + 6, none⟩ = some (.int .i64 z6) ∧ W.cell? ⟨b, off + 7, none⟩ = some (.int .i64 z7) ∧ W.cell? ⟨b, off + 8, none⟩ = some (.int .i64 z8) ∧ W.cell? ⟨b, off + 9, none⟩ = some (.int .i64 z9) ∧ W.cell? ⟨b, off + 10, none⟩ = some (.int .i64 z10) ∧ W.cell? ⟨b, off + 11, none⟩ = some (.int .i64 z11) ∧ W.cell? ⟨b, off + 12, none⟩ = some (.int .i64 z12) ∧ W.cell? ⟨b, off + 13, none⟩ = some (.int .i64 z13)
set_option maxRecDepth 100000 in
theorem zs_of {l : List Int} {n b off : Nat} {w : World} {B : Nat} (hr : Rd w B (some ⟨b, off, none⟩) n (iv l)) (hn : 14 ≤ n) : ZS b off (l.getD 0 0) (l.getD 1 0) (l.getD 2 0) (l.getD 3 0) (l.getD 4 0) (l.getD 5 0) (l.getD 6 0) (l.getD 7 0) (l.getD 8 0) (l.getD 9 0) (l.getD 10 0) (l.getD 11 0) (l.getD 12 0) (l.getD 13 0) w := by
  have h : ∀ k, k < 14 → w.cell? ⟨b, off + k, none⟩ = some (.int .i64 (l.getD k 0)) := fun k hk => by
    obtain ⟨b', off', hA, _, hc⟩ := at_of hr (show k < n by omega)
    injection hA with hA
    injection hA with h1 h2
    rw [h1, h2]; exact hc
  exact ⟨h 0 (by omega), h 1 (by omega), h 2 (by omega), h 3 (by omega), h 4 (by omega), h 5 (by omega), h 6 (by omega), h 7 (by omega), h 8 (by omega), h 9 (by omega), h 10 (by omega), h 11 (by omega), h 12 (by omega), h 13 (by omega)⟩
set_option maxRecDepth 100000 in
theorem ZS.under {b off : Nat} {z0 z1 z2 z3 z4 z5 z6 z7 z8 z9 z10 z11 z12 z13 : Int} {W W' : World} {B : Nat} (h : ZS b off z0 z1 z2 z3 z4 z5 z6 z7 z8 z9 z10 z11 z12 z13 W) (hb : Below B W W') (hB : b < B) : ZS b off z0 z1 z2 z3 z4 z5 z6 z7 z8 z9 z10 z11 z12 z13 W' := by
  have k : ∀ j, W'.cell? ⟨b, j, none⟩ = W.cell? ⟨b, j, none⟩ := fun j => hb.cell (p := ⟨b, j, none⟩) hB
  unfold ZS at h ⊢
  rw [k (off), k (off + 1), k (off + 2), k (off + 3), k (off + 4), k (off + 5), k (off + 6), k (off + 7), k (off + 8), k (off + 9), k (off + 10), k (off + 11), k (off + 12), k (off + 13)]
  exact h

set_option maxRecDepth 100000 in
theorem own_maxC {w : World} {base n c : Nat} {e : TypeId} {A : Option Addr} {xs : List Value} (h : w.ownsRow base e 1 (.slice A n c) n xs) : c ≤ maxLen := by
  rcases h.2 with ⟨h1, _⟩ | ⟨g, cap, cur, h1, _, _, _, h2, _⟩
  · injection h1 with _ _ h1; rw [h1]; exact Nat.zero_le _
  · injection h1 with _ _ h1; rw [h1]; exact h2
set_option maxRecDepth 100000 in
/-- The end where there is no group. -/
theorem refOf_end {l : List Int} {w W : World} {tm : Array Value} {b : Nat} (h2 : tm[2]? = some (.pointer (some ⟨b, 0, none⟩))) (h3 : tm[3]? = some (.int .i64 70)) (hw : Whole W b 24 cf0.cells) (hno : isRow l = false) (hb : Below w.heap.size w W) :
    bodyPost Tryd.prog Tryd.f40 (OfIs l w) .ret { tmps := tm, defers := [] } W := by
  obtain ⟨p0, p1, p2, p3, p4, p5, p6, p7, p8, p9, p10, p11, p12, p13, p14⟩ := hw.conf
  simp only [cf0] at p0 p1 p2 p3 p4 p5 p6 p7 p8 p9 p10 p11 p12 p13 p14
  exact bodyPost_ret (v := .tuple #[cf0.v, .int .i64 70]) (by simp [results, Tryd.results40, go_sem, p0, p1, p2, p3, p4, p5, p6, p7, p8, p9, p10, p11, p12, p13, p14, h2, h3, cf0]) rfl ⟨cf0, by rw [hno]; rfl, ⟨fun h => (by rw [hno] at h; cases h), fun _ => rfl⟩, hb⟩
set_option maxRecDepth 100000 in
theorem refOf_some {l : List Int} {w W : World} {tm : Array Value} {b : Nat} {y : Cf} (h2 : tm[2]? = some (.pointer (some ⟨b, 0, none⟩))) (h3 : tm[3]? = some (.int .i64 0)) (hw : Whole W b 24 y.cells) (hy : isRow l = true) (hb : Below w.heap.size w W) (ho : y = ofRow l y.A y.n y.c ∧ W.ownsRow w.heap.size 3 1 (.slice y.A y.n y.c) y.n (iv y.ms)) :
    bodyPost Tryd.prog Tryd.f40 (OfIs l w) .ret { tmps := tm, defers := [] } W := by
  obtain ⟨p0, p1, p2, p3, p4, p5, p6, p7, p8, p9, p10, p11, p12, p13, p14⟩ := hw.conf
  exact bodyPost_ret (v := .tuple #[y.v, .int .i64 0]) (by simp [results, Tryd.results40, go_sem, p0, p1, p2, p3, p4, p5, p6, p7, p8, p9, p10, p11, p12, p13, p14, h2, h3]) rfl ⟨y, by rw [hy]; rfl, ⟨fun _ => ho, fun h => (by rw [hy] at h; cases h)⟩, hb⟩

set_option maxRecDepth 100000 in
set_option maxHeartbeats 2000000 in
theorem refOf_shape (A : Option Addr) (n c : Nat) (l : List Int) (B : Nat) (w : World) (hr : Rd w B A n (iv l)) (hs : shapeB l = false) : Calls Tryd.prog 40 #[.slice A n c] w (OfIs l w) := by
  have hl : l.length = n := by have := hr.1; rwa [iv_length] at this
  have HNo : Hid (isRow l = false) := Lib.hid (by unfold isRow; rw [hs]; rfl)
  have hW0 := Whole.new w 24 cf0.cells
  have hb0 : Below w.heap.size w (w.alloc (.cells cf0.cells 24)) := (Below.refl _ w).alloc (Nat.le_refl _) _
  have HA1 : Hid (cf0.cells.all (·.oneCell') = true) := Lib.hid (by simp [cf0, Value.oneCell'])
  have HW0 := Lib.hid hW0
  have HB0 := Lib.hid hb0
  clear hW0 hb0
  by_cases h14 : 14 ≤ n
  · obtain ⟨b, off, rfl, _, hc⟩ := at_of hr (show 13 < n by omega)
    have hI : (13 : Int) < (n : Int) := by omega
    have hI1 : ¬ (n : Int) < 14 := by omega
    have hI2 : decide ((n : Int) < 14) = false := decide_eq_false hI1
    have hz : ¬ (l.getD 13 0 = 0) ∧ ¬ (l.getD 13 0 = 1) := by
      unfold shapeB at hs
      rw [decide_eq_true (by rw [hl]; exact h14)] at hs
      simpa using hs
    obtain ⟨z, hze⟩ : ∃ z, l.getD 13 0 = z := ⟨_, rfl⟩
    rw [hze] at hc hz
    obtain ⟨hz0, hz1⟩ := hz
    clear hr hl hs hze
    by_cases hneg : z < 0
    · have hd : decide (z < 0) = true := decide_eq_true hneg
      go_enter Tryd.func40, Tryd.ntmps40
      have hc' : (w.alloc (.cells cf0.cells 24)).cell? ⟨b, off + 13, none⟩ = some (.int .i64 z) := (World.cell?_alloc_some w ⟨b, off + 13, none⟩ _ (by rw [hc]; rfl)).trans hc
      simp only [cf0] at hc'
      go_wp2_with (refine wpList_store_row rfl 24 _ _ rfl w.heap.size cf0.cells (by rfl) (by rfl) 24 _ HW0.out (by kernel_rfl) rfl HA1.out ?_)
      exact refOf_end (by rfl) (by rfl) (setRow_heap _ _ _ _ _ _ HW0.out) HNo.out (below_rowset HB0.out (Nat.le_refl _) _)
    · have hd : decide (z < 0) = false := decide_eq_false hneg
      have hd1 : decide (1 < z) = true := decide_eq_true (by omega)
      go_enter Tryd.func40, Tryd.ntmps40
      have hc' : (w.alloc (.cells cf0.cells 24)).cell? ⟨b, off + 13, none⟩ = some (.int .i64 z) := (World.cell?_alloc_some w ⟨b, off + 13, none⟩ _ (by rw [hc]; rfl)).trans hc
      simp only [cf0] at hc'
      go_wp2_with (refine wpList_store_row rfl 24 _ _ rfl w.heap.size cf0.cells (by rfl) (by rfl) 24 _ HW0.out (by kernel_rfl) rfl HA1.out ?_)
      exact refOf_end (by rfl) (by rfl) (setRow_heap _ _ _ _ _ _ HW0.out) HNo.out (below_rowset HB0.out (Nat.le_refl _) _)
  · have hI2 : decide ((n : Int) < 14) = true := decide_eq_true (by omega)
    have hI3 : (n : Int) < 14 := by omega
    clear hr hl hs h14
    go_enter Tryd.func40, Tryd.ntmps40
    go_wp2_with (refine wpList_store_row rfl 24 _ _ rfl w.heap.size cf0.cells (by rfl) (by rfl) 24 _ HW0.out (by kernel_rfl) rfl HA1.out ?_)
    exact refOf_end (by rfl) (by rfl) (setRow_heap _ _ _ _ _ _ HW0.out) HNo.out (below_rowset HB0.out (Nat.le_refl _) _)

set_option maxRecDepth 100000 in
set_option maxHeartbeats 8000000 in
theorem refOf_on (b off n c : Nat) (l : List Int) (w : World) (hr : Rd w w.heap.size (some ⟨b, off, none⟩) n (iv l)) (hbl : b < w.heap.size) (hc : n ≤ c) (hm : c ≤ maxLen) (hn : n ≤ 1000) (hs : shapeB l = true) : Calls Tryd.prog 40 #[.slice (some ⟨b, off, none⟩) n c] w (OfIs l w) := by
  have hl : l.length = n := by have := hr.1; rwa [iv_length] at this
  have hs2 := hs
  unfold shapeB at hs2
  simp only [Bool.and_eq_true, decide_eq_true_eq, Bool.or_eq_true] at hs2
  have hl14 : 14 ≤ l.length := hs2.1
  have hn14 : 14 ≤ n := by rw [← hl]; exact hl14
  have hzs := zs_of hr hn14
  have hz13 := hs2.2
  obtain ⟨y, hy⟩ : ∃ y, ofRow l none 0 0 = y := ⟨_, rfl⟩
  have hyc : ∀ (A : Option Addr) (m k : Nat), { y with A := A, n := m, c := k } = ofRow l A m k := fun A m k => by rw [← hy]; rfl
  have hys : (l.getD 13 0 == 1) = y.sk := by rw [← hy]; rfl
  have hyf : ∀ k, k < 13 → l.getD k 0 = y.at k := fun k hk => by
    rw [← hy]
    rcases (by omega : k = 0 ∨ k = 1 ∨ k = 2 ∨ k = 3 ∨ k = 4 ∨ k = 5 ∨ k = 6 ∨ k = 7 ∨ k = 8 ∨ k = 9 ∨ k = 10 ∨ k = 11 ∨ k = 12) with rfl | rfl | rfl | rfl | rfl | rfl | rfl | rfl | rfl | rfl | rfl | rfl | rfl <;> rfl
  have hy0 : y.A = none ∧ y.n = 0 ∧ y.c = 0 := by rw [← hy]; exact ⟨rfl, rfl, rfl⟩
  have hym : y.ms = l.drop 14 := by rw [← hy]; rfl
  have hfa : l.getD 0 0 = y.f0 ∧ l.getD 1 0 = y.f1 ∧ l.getD 2 0 = y.f2 ∧ l.getD 3 0 = y.f3 ∧ l.getD 4 0 = y.f4 ∧ l.getD 5 0 = y.f5 ∧ l.getD 6 0 = y.f6 ∧ l.getD 7 0 = y.f7 ∧ l.getD 8 0 = y.f8 ∧ l.getD 9 0 = y.f9 ∧ l.getD 10 0 = y.f10 ∧ l.getD 11 0 = y.f11 ∧ l.getD 12 0 = y.f12 := ⟨hyf 0 (by omega), hyf 1 (by omega), hyf 2 (by omega), hyf 3 (by omega), hyf 4 (by omega), hyf 5 (by omega), hyf 6 (by omega), hyf 7 (by omega), hyf 8 (by omega), hyf 9 (by omega), hyf 10 (by omega), hyf 11 (by omega), hyf 12 (by omega)⟩
  obtain ⟨q0, q1, q2, q3, q4, q5, q6, q7, q8, q9, q10, q11, q12⟩ := hfa
  obtain ⟨z, hz⟩ : ∃ z, l.getD 13 0 = z := ⟨_, rfl⟩
  rw [q0, q1, q2, q3, q4, q5, q6, q7, q8, q9, q10, q11, q12, hz] at hzs
  rw [hz] at hys hz13
  have hmay : isRow l = may y := by unfold isRow; rw [hs, ← hy]; rfl
  have HZ := Lib.hid hzs
  have HYC := Lib.hid hyc
  have HY0 := Lib.hid hy0
  have HYM := Lib.hid hym
  have HMay := Lib.hid hmay
  have HR := Lib.hid hr
  have HBl := Lib.hid hbl
  have HM := Lib.hid hm
  have hI : (13 : Int) < (n : Int) := by omega
  have hI1 : ¬ (n : Int) < 14 := by omega
  have hI2 : decide ((n : Int) < 14) = false := decide_eq_false hI1
  have hd : decide (z < 0) = false := decide_eq_false (by omega)
  have hd1 : decide (1 < z) = false := decide_eq_false (by omega)
  have hIs : (0 : Int) < (n : Int) ∧ (1 : Int) < (n : Int) ∧ (2 : Int) < (n : Int) ∧ (3 : Int) < (n : Int) ∧ (4 : Int) < (n : Int) ∧ (5 : Int) < (n : Int) ∧ (6 : Int) < (n : Int) ∧ (7 : Int) < (n : Int) ∧ (8 : Int) < (n : Int) ∧ (9 : Int) < (n : Int) ∧ (10 : Int) < (n : Int) ∧ (11 : Int) < (n : Int) ∧ (12 : Int) < (n : Int) := ⟨by omega, by omega, by omega, by omega, by omega, by omega, by omega, by omega, by omega, by omega, by omega, by omega, by omega⟩
  obtain ⟨i0, i1, i2, i3, i4, i5, i6, i7, i8, i9, i10, i11, i12⟩ := hIs
  have i0' : 0 < n := by omega
  clear hz13
  clear hzs hyc hy0 hym hmay hr hbl hm q0 q1 q2 q3 q4 q5 q6 q7 q8 q9 q10 q11 q12 hyf hy hz hs hs2 hl hl14
  obtain ⟨W0, hW0⟩ : ∃ W0, w.alloc (.cells #[.int .i64 0, .int .i64 0, .int .i64 0, .int .i64 0, .int .i64 0, .int .i64 0, .int .i64 0, .int .i64 0, .int .i64 0, .int .i64 0, .int .i64 0, .int .i64 0, .int .i64 0, .bool false, .slice none 0 0] 24) = W0 := ⟨_, rfl⟩
  have HW0 : Hid (Whole W0 w.heap.size 24 cf0.cells) := Lib.hid (by rw [← hW0]; exact Whole.new w _ _)
  have HB0 : Hid (Below w.heap.size w W0) := Lib.hid (by rw [← hW0]; exact (Below.refl _ w).alloc (Nat.le_refl _) _)
  have hs0 : W0.heap.size = w.heap.size + 1 := by rw [← hW0]; simp
  have c13 : W0.cell? ⟨b, off + 13, none⟩ = some (.int .i64 z) := (HZ.out.under HB0.out HBl.out).2.2.2.2.2.2.2.2.2.2.2.2.2
  go_enter Tryd.func40, Tryd.ntmps40
  go_wp2_with fail
  clear hW0
  have HC : Hid (ZS b off y.f0 y.f1 y.f2 y.f3 y.f4 y.f5 y.f6 y.f7 y.f8 y.f9 y.f10 y.f11 y.f12 z W0.drew) := Lib.hid (HZ.out.under HB0.out.drew HBl.out)
  have HL := Lib.hid (fun (W' : World) (h : ZS b off y.f0 y.f1 y.f2 y.f3 y.f4 y.f5 y.f6 y.f7 y.f8 y.f9 y.f10 y.f11 y.f12 z W') => (show ZS b off y.f0 y.f1 y.f2 y.f3 y.f4 y.f5 y.f6 y.f7 y.f8 y.f9 y.f10 y.f11 y.f12 z W' from h))
  have hb0 : b < W0.heap.size := by have := HBl.out; omega
  have hK0 : Hid (∀ o, ZS b off y.f0 y.f1 y.f2 y.f3 y.f4 y.f5 y.f6 y.f7 y.f8 y.f9 y.f10 y.f11 y.f12 z (W0.drew.alloc o)) := Lib.hid (fun o => HC.out.under ((Below.refl W0.drew.heap.size W0.drew).alloc (Nat.le_refl _) o) hb0)
  refine wp_region_held_drew (S := ZS b off y.f0 y.f1 y.f2 y.f3 y.f4 y.f5 y.f6 y.f7 y.f8 y.f9 y.f10 y.f11 y.f12 z) (by kernel_rfl) HC.out (fun _ => ?_)
  refine takeH (i := 0) (v := ?_) rfl (by kernel_rfl) (by kernel_rfl) (by kernel_rfl) (fun _ _ _ h => by first | exact h | exact h.elim | exact nomatch h.1) (by rfl) ?_ HC.out ?_
  rotate_left
  · intro W' hW; obtain ⟨z0, z1, z2, z3, z4, z5, z6, z7, z8, z9, z10, z11, z12, z13⟩ := HL.out W' hW; go_simp <;> with_reducible rfl
  simp only [Act.put, List.setIfInBounds_toArray, List.set_cons_zero, List.set_cons_succ]
  refine takeH (i := 1) (v := ?_) rfl (by kernel_rfl) (by kernel_rfl) (by kernel_rfl) (fun _ _ _ h => by first | exact h | exact h.elim | exact nomatch h.1) (by rfl) ?_ HC.out ?_
  rotate_left
  · intro W' hW; obtain ⟨z0, z1, z2, z3, z4, z5, z6, z7, z8, z9, z10, z11, z12, z13⟩ := HL.out W' hW; go_simp <;> with_reducible rfl
  simp only [Act.put, List.setIfInBounds_toArray, List.set_cons_zero, List.set_cons_succ]
  refine takeH (i := 2) (v := ?_) rfl (by kernel_rfl) (by kernel_rfl) (by kernel_rfl) (fun _ _ _ h => by first | exact h | exact h.elim | exact nomatch h.1) (by rfl) ?_ HC.out ?_
  rotate_left
  · intro W' hW; obtain ⟨z0, z1, z2, z3, z4, z5, z6, z7, z8, z9, z10, z11, z12, z13⟩ := HL.out W' hW; go_simp <;> with_reducible rfl
  simp only [Act.put, List.setIfInBounds_toArray, List.set_cons_zero, List.set_cons_succ]
  refine takeH (i := 3) (v := ?_) rfl (by kernel_rfl) (by kernel_rfl) (by kernel_rfl) (fun _ _ _ h => by first | exact h | exact h.elim | exact nomatch h.1) (by rfl) ?_ HC.out ?_
  rotate_left
  · intro W' hW; obtain ⟨z0, z1, z2, z3, z4, z5, z6, z7, z8, z9, z10, z11, z12, z13⟩ := HL.out W' hW; go_simp <;> with_reducible rfl
  simp only [Act.put, List.setIfInBounds_toArray, List.set_cons_zero, List.set_cons_succ]
  refine takeH (i := 4) (v := ?_) rfl (by kernel_rfl) (by kernel_rfl) (by kernel_rfl) (fun _ _ _ h => by first | exact h | exact h.elim | exact nomatch h.1) (by rfl) ?_ HC.out ?_
  rotate_left
  · intro W' hW; obtain ⟨z0, z1, z2, z3, z4, z5, z6, z7, z8, z9, z10, z11, z12, z13⟩ := HL.out W' hW; go_simp <;> with_reducible rfl
  simp only [Act.put, List.setIfInBounds_toArray, List.set_cons_zero, List.set_cons_succ]
  refine takeH (i := 5) (v := ?_) rfl (by kernel_rfl) (by kernel_rfl) (by kernel_rfl) (fun _ _ _ h => by first | exact h | exact h.elim | exact nomatch h.1) (by rfl) ?_ HC.out ?_
  rotate_left
  · intro W' hW; obtain ⟨z0, z1, z2, z3, z4, z5, z6, z7, z8, z9, z10, z11, z12, z13⟩ := HL.out W' hW; go_simp <;> with_reducible rfl
  simp only [Act.put, List.setIfInBounds_toArray, List.set_cons_zero, List.set_cons_succ]
  refine takeH (i := 6) (v := ?_) rfl (by kernel_rfl) (by kernel_rfl) (by kernel_rfl) (fun _ _ _ h => by first | exact h | exact h.elim | exact nomatch h.1) (by rfl) ?_ HC.out ?_
  rotate_left
  · intro W' hW; obtain ⟨z0, z1, z2, z3, z4, z5, z6, z7, z8, z9, z10, z11, z12, z13⟩ := HL.out W' hW; go_simp <;> with_reducible rfl
  simp only [Act.put, List.setIfInBounds_toArray, List.set_cons_zero, List.set_cons_succ]
  refine takeH (i := 7) (v := ?_) rfl (by kernel_rfl) (by kernel_rfl) (by kernel_rfl) (fun _ _ _ h => by first | exact h | exact h.elim | exact nomatch h.1) (by rfl) ?_ HC.out ?_
  rotate_left
  · intro W' hW; obtain ⟨z0, z1, z2, z3, z4, z5, z6, z7, z8, z9, z10, z11, z12, z13⟩ := HL.out W' hW; go_simp <;> with_reducible rfl
  simp only [Act.put, List.setIfInBounds_toArray, List.set_cons_zero, List.set_cons_succ]
  refine takeH (i := 8) (v := ?_) rfl (by kernel_rfl) (by kernel_rfl) (by kernel_rfl) (fun _ _ _ h => by first | exact h | exact h.elim | exact nomatch h.1) (by rfl) ?_ HC.out ?_
  rotate_left
  · intro W' hW; obtain ⟨z0, z1, z2, z3, z4, z5, z6, z7, z8, z9, z10, z11, z12, z13⟩ := HL.out W' hW; go_simp <;> with_reducible rfl
  simp only [Act.put, List.setIfInBounds_toArray, List.set_cons_zero, List.set_cons_succ]
  refine takeH (i := 9) (v := ?_) rfl (by kernel_rfl) (by kernel_rfl) (by kernel_rfl) (fun _ _ _ h => by first | exact h | exact h.elim | exact nomatch h.1) (by rfl) ?_ HC.out ?_
  rotate_left
  · intro W' hW; obtain ⟨z0, z1, z2, z3, z4, z5, z6, z7, z8, z9, z10, z11, z12, z13⟩ := HL.out W' hW; go_simp <;> with_reducible rfl
  simp only [Act.put, List.setIfInBounds_toArray, List.set_cons_zero, List.set_cons_succ]
  refine takeH (i := 10) (v := ?_) rfl (by kernel_rfl) (by kernel_rfl) (by kernel_rfl) (fun _ _ _ h => by first | exact h | exact h.elim | exact nomatch h.1) (by rfl) ?_ HC.out ?_
  rotate_left
  · intro W' hW; obtain ⟨z0, z1, z2, z3, z4, z5, z6, z7, z8, z9, z10, z11, z12, z13⟩ := HL.out W' hW; go_simp <;> with_reducible rfl
  simp only [Act.put, List.setIfInBounds_toArray, List.set_cons_zero, List.set_cons_succ]
  refine takeH (i := 11) (v := ?_) rfl (by kernel_rfl) (by kernel_rfl) (by kernel_rfl) (fun _ _ _ h => by first | exact h | exact h.elim | exact nomatch h.1) (by rfl) ?_ HC.out ?_
  rotate_left
  · intro W' hW; obtain ⟨z0, z1, z2, z3, z4, z5, z6, z7, z8, z9, z10, z11, z12, z13⟩ := HL.out W' hW; go_simp <;> with_reducible rfl
  simp only [Act.put, List.setIfInBounds_toArray, List.set_cons_zero, List.set_cons_succ]
  refine takeH (i := 12) (v := ?_) rfl (by kernel_rfl) (by kernel_rfl) (by kernel_rfl) (fun _ _ _ h => by first | exact h | exact h.elim | exact nomatch h.1) (by rfl) ?_ HC.out ?_
  rotate_left
  · intro W' hW; obtain ⟨z0, z1, z2, z3, z4, z5, z6, z7, z8, z9, z10, z11, z12, z13⟩ := HL.out W' hW; go_simp <;> with_reducible rfl
  simp only [Act.put, List.setIfInBounds_toArray, List.set_cons_zero, List.set_cons_succ]
  refine takeH (i := 13) (v := ?_) rfl (by kernel_rfl) (by kernel_rfl) (by kernel_rfl) (fun _ _ _ h => by first | exact h | exact h.elim | exact nomatch h.1) (by rfl) ?_ HC.out ?_
  rotate_left
  · intro W' hW; obtain ⟨z0, z1, z2, z3, z4, z5, z6, z7, z8, z9, z10, z11, z12, z13⟩ := HL.out W' hW; go_simp <;> with_reducible rfl
  simp only [Act.put, List.setIfInBounds_toArray, List.set_cons_zero, List.set_cons_succ]
  refine takeH (i := 14) (v := ?_) rfl (by kernel_rfl) (by kernel_rfl) (by kernel_rfl) (fun _ _ _ h => by first | exact h | exact h.elim | exact nomatch h.1) (by rfl) ?_ HC.out ?_
  rotate_left
  · intro W' hW; obtain ⟨z0, z1, z2, z3, z4, z5, z6, z7, z8, z9, z10, z11, z12, z13⟩ := HL.out W' hW; go_simp <;> with_reducible rfl
  simp only [Act.put, List.setIfInBounds_toArray, List.set_cons_zero, List.set_cons_succ]
  refine takeH (i := 15) (v := ?_) rfl (by kernel_rfl) (by kernel_rfl) (by kernel_rfl) (fun _ _ _ h => by first | exact h | exact h.elim | exact nomatch h.1) (by rfl) ?_ HC.out ?_
  rotate_left
  · intro W' hW; obtain ⟨z0, z1, z2, z3, z4, z5, z6, z7, z8, z9, z10, z11, z12, z13⟩ := HL.out W' hW; go_simp <;> with_reducible rfl
  simp only [Act.put, List.setIfInBounds_toArray, List.set_cons_zero, List.set_cons_succ]
  refine takeH (i := 16) (v := ?_) rfl (by kernel_rfl) (by kernel_rfl) (by kernel_rfl) (fun _ _ _ h => by first | exact h | exact h.elim | exact nomatch h.1) (by rfl) ?_ HC.out ?_
  rotate_left
  · intro W' hW; obtain ⟨z0, z1, z2, z3, z4, z5, z6, z7, z8, z9, z10, z11, z12, z13⟩ := HL.out W' hW; go_simp <;> with_reducible rfl
  simp only [Act.put, List.setIfInBounds_toArray, List.set_cons_zero, List.set_cons_succ]
  refine takeH (i := 17) (v := ?_) rfl (by kernel_rfl) (by kernel_rfl) (by kernel_rfl) (fun _ _ _ h => by first | exact h | exact h.elim | exact nomatch h.1) (by rfl) ?_ HC.out ?_
  rotate_left
  · intro W' hW; obtain ⟨z0, z1, z2, z3, z4, z5, z6, z7, z8, z9, z10, z11, z12, z13⟩ := HL.out W' hW; go_simp <;> with_reducible rfl
  simp only [Act.put, List.setIfInBounds_toArray, List.set_cons_zero, List.set_cons_succ]
  refine takeH (i := 18) (v := ?_) rfl (by kernel_rfl) (by kernel_rfl) (by kernel_rfl) (fun _ _ _ h => by first | exact h | exact h.elim | exact nomatch h.1) (by rfl) ?_ HC.out ?_
  rotate_left
  · intro W' hW; obtain ⟨z0, z1, z2, z3, z4, z5, z6, z7, z8, z9, z10, z11, z12, z13⟩ := HL.out W' hW; go_simp <;> with_reducible rfl
  simp only [Act.put, List.setIfInBounds_toArray, List.set_cons_zero, List.set_cons_succ]
  refine takeH (i := 19) (v := ?_) rfl (by kernel_rfl) (by kernel_rfl) (by kernel_rfl) (fun _ _ _ h => by first | exact h | exact h.elim | exact nomatch h.1) (by rfl) ?_ HC.out ?_
  rotate_left
  · intro W' hW; obtain ⟨z0, z1, z2, z3, z4, z5, z6, z7, z8, z9, z10, z11, z12, z13⟩ := HL.out W' hW; go_simp <;> with_reducible rfl
  simp only [Act.put, List.setIfInBounds_toArray, List.set_cons_zero, List.set_cons_succ]
  refine takeH (i := 20) (v := ?_) rfl (by kernel_rfl) (by kernel_rfl) (by kernel_rfl) (fun _ _ _ h => by first | exact h | exact h.elim | exact nomatch h.1) (by rfl) ?_ HC.out ?_
  rotate_left
  · intro W' hW; obtain ⟨z0, z1, z2, z3, z4, z5, z6, z7, z8, z9, z10, z11, z12, z13⟩ := HL.out W' hW; go_simp <;> with_reducible rfl
  simp only [Act.put, List.setIfInBounds_toArray, List.set_cons_zero, List.set_cons_succ]
  refine takeH (i := 21) (v := ?_) rfl (by kernel_rfl) (by kernel_rfl) (by kernel_rfl) (fun _ _ _ h => by first | exact h | exact h.elim | exact nomatch h.1) (by rfl) ?_ HC.out ?_
  rotate_left
  · intro W' hW; obtain ⟨z0, z1, z2, z3, z4, z5, z6, z7, z8, z9, z10, z11, z12, z13⟩ := HL.out W' hW; go_simp <;> with_reducible rfl
  simp only [Act.put, List.setIfInBounds_toArray, List.set_cons_zero, List.set_cons_succ]
  refine takeH (i := 22) (v := ?_) rfl (by kernel_rfl) (by kernel_rfl) (by kernel_rfl) (fun _ _ _ h => by first | exact h | exact h.elim | exact nomatch h.1) (by rfl) ?_ HC.out ?_
  rotate_left
  · intro W' hW; obtain ⟨z0, z1, z2, z3, z4, z5, z6, z7, z8, z9, z10, z11, z12, z13⟩ := HL.out W' hW; go_simp <;> with_reducible rfl
  simp only [Act.put, List.setIfInBounds_toArray, List.set_cons_zero, List.set_cons_succ]
  refine takeH (i := 23) (v := ?_) rfl (by kernel_rfl) (by kernel_rfl) (by kernel_rfl) (fun _ _ _ h => by first | exact h | exact h.elim | exact nomatch h.1) (by rfl) ?_ HC.out ?_
  rotate_left
  · intro W' hW; obtain ⟨z0, z1, z2, z3, z4, z5, z6, z7, z8, z9, z10, z11, z12, z13⟩ := HL.out W' hW; go_simp <;> with_reducible rfl
  simp only [Act.put, List.setIfInBounds_toArray, List.set_cons_zero, List.set_cons_succ]
  refine takeH (i := 24) (v := ?_) rfl (by kernel_rfl) (by kernel_rfl) (by kernel_rfl) (fun _ _ _ h => by first | exact h | exact h.elim | exact nomatch h.1) (by rfl) ?_ HC.out ?_
  rotate_left
  · intro W' hW; obtain ⟨z0, z1, z2, z3, z4, z5, z6, z7, z8, z9, z10, z11, z12, z13⟩ := HL.out W' hW; go_simp <;> with_reducible rfl
  simp only [Act.put, List.setIfInBounds_toArray, List.set_cons_zero, List.set_cons_succ]
  refine takeH (i := 25) (v := ?_) rfl (by kernel_rfl) (by kernel_rfl) (by kernel_rfl) (fun _ _ _ h => by first | exact h | exact h.elim | exact nomatch h.1) (by rfl) ?_ HC.out ?_
  rotate_left
  · intro W' hW; obtain ⟨z0, z1, z2, z3, z4, z5, z6, z7, z8, z9, z10, z11, z12, z13⟩ := HL.out W' hW; go_simp <;> with_reducible rfl
  simp only [Act.put, List.setIfInBounds_toArray, List.set_cons_zero, List.set_cons_succ]
  refine takeH (i := 26) (v := ?_) rfl (by kernel_rfl) (by kernel_rfl) (by kernel_rfl) (fun _ _ _ h => by first | exact h | exact h.elim | exact nomatch h.1) (by rfl) ?_ HC.out ?_
  rotate_left
  · intro W' hW; obtain ⟨z0, z1, z2, z3, z4, z5, z6, z7, z8, z9, z10, z11, z12, z13⟩ := HL.out W' hW; go_simp <;> with_reducible rfl
  simp only [Act.put, List.setIfInBounds_toArray, List.set_cons_zero, List.set_cons_succ]
  refine takeH (i := 27) (v := ?_) rfl (by kernel_rfl) (by kernel_rfl) (by kernel_rfl) (fun _ _ _ h => by first | exact h | exact h.elim | exact nomatch h.1) (by rfl) ?_ HC.out ?_
  rotate_left
  · intro W' hW; obtain ⟨z0, z1, z2, z3, z4, z5, z6, z7, z8, z9, z10, z11, z12, z13⟩ := HL.out W' hW; go_simp <;> with_reducible rfl
  simp only [Act.put, List.setIfInBounds_toArray, List.set_cons_zero, List.set_cons_succ]
  refine takeH (i := 28) (v := ?_) rfl (by kernel_rfl) (by kernel_rfl) (by kernel_rfl) (fun _ _ _ h => by first | exact h | exact h.elim | exact nomatch h.1) (by rfl) ?_ HC.out ?_
  rotate_left
  · intro W' hW; obtain ⟨z0, z1, z2, z3, z4, z5, z6, z7, z8, z9, z10, z11, z12, z13⟩ := HL.out W' hW; go_simp <;> with_reducible rfl
  simp only [Act.put, List.setIfInBounds_toArray, List.set_cons_zero, List.set_cons_succ]
  refine takeH (i := 29) (v := ?_) rfl (by kernel_rfl) (by kernel_rfl) (by kernel_rfl) (fun _ _ _ h => by first | exact h | exact h.elim | exact nomatch h.1) (by rfl) ?_ HC.out ?_
  rotate_left
  · intro W' hW; obtain ⟨z0, z1, z2, z3, z4, z5, z6, z7, z8, z9, z10, z11, z12, z13⟩ := HL.out W' hW; go_simp <;> with_reducible rfl
  simp only [Act.put, List.setIfInBounds_toArray, List.set_cons_zero, List.set_cons_succ]
  refine takeH (i := 30) (v := ?_) rfl (by kernel_rfl) (by kernel_rfl) (by kernel_rfl) (fun _ _ _ h => by first | exact h | exact h.elim | exact nomatch h.1) (by rfl) ?_ HC.out ?_
  rotate_left
  · intro W' hW; obtain ⟨z0, z1, z2, z3, z4, z5, z6, z7, z8, z9, z10, z11, z12, z13⟩ := HL.out W' hW; go_simp <;> with_reducible rfl
  simp only [Act.put, List.setIfInBounds_toArray, List.set_cons_zero, List.set_cons_succ]
  refine takeH (i := 31) (v := ?_) rfl (by kernel_rfl) (by kernel_rfl) (by kernel_rfl) (fun _ _ _ h => by first | exact h | exact h.elim | exact nomatch h.1) (by rfl) ?_ HC.out ?_
  rotate_left
  · intro W' hW; obtain ⟨z0, z1, z2, z3, z4, z5, z6, z7, z8, z9, z10, z11, z12, z13⟩ := HL.out W' hW; go_simp <;> with_reducible rfl
  simp only [Act.put, List.setIfInBounds_toArray, List.set_cons_zero, List.set_cons_succ]
  refine takeH (i := 32) (v := ?_) rfl (by kernel_rfl) (by kernel_rfl) (by kernel_rfl) (fun _ _ _ h => by first | exact h | exact h.elim | exact nomatch h.1) (by rfl) ?_ HC.out ?_
  rotate_left
  · intro W' hW; obtain ⟨z0, z1, z2, z3, z4, z5, z6, z7, z8, z9, z10, z11, z12, z13⟩ := HL.out W' hW; go_simp <;> with_reducible rfl
  simp only [Act.put, List.setIfInBounds_toArray, List.set_cons_zero, List.set_cons_succ]
  refine takeH (i := 33) (v := ?_) rfl (by kernel_rfl) (by kernel_rfl) (by kernel_rfl) (fun _ _ _ h => by first | exact h | exact h.elim | exact nomatch h.1) (by rfl) ?_ HC.out ?_
  rotate_left
  · intro W' hW; obtain ⟨z0, z1, z2, z3, z4, z5, z6, z7, z8, z9, z10, z11, z12, z13⟩ := HL.out W' hW; go_simp <;> with_reducible rfl
  simp only [Act.put, List.setIfInBounds_toArray, List.set_cons_zero, List.set_cons_succ]
  refine takeH (i := 34) (v := ?_) rfl (by kernel_rfl) (by kernel_rfl) (by kernel_rfl) (fun _ _ _ h => by first | exact h | exact h.elim | exact nomatch h.1) (by rfl) ?_ HC.out ?_
  rotate_left
  · intro W' hW; obtain ⟨z0, z1, z2, z3, z4, z5, z6, z7, z8, z9, z10, z11, z12, z13⟩ := HL.out W' hW; go_simp <;> with_reducible rfl
  simp only [Act.put, List.setIfInBounds_toArray, List.set_cons_zero, List.set_cons_succ]
  refine takeH (i := 35) (v := ?_) rfl (by kernel_rfl) (by kernel_rfl) (by kernel_rfl) (fun _ _ _ h => by first | exact h | exact h.elim | exact nomatch h.1) (by rfl) ?_ HC.out ?_
  rotate_left
  · intro W' hW; obtain ⟨z0, z1, z2, z3, z4, z5, z6, z7, z8, z9, z10, z11, z12, z13⟩ := HL.out W' hW; go_simp <;> with_reducible rfl
  simp only [Act.put, List.setIfInBounds_toArray, List.set_cons_zero, List.set_cons_succ]
  refine takeH (i := 36) (v := ?_) rfl (by kernel_rfl) (by kernel_rfl) (by kernel_rfl) (fun _ _ _ h => by first | exact h | exact h.elim | exact nomatch h.1) (by rfl) ?_ HC.out ?_
  rotate_left
  · intro W' hW; obtain ⟨z0, z1, z2, z3, z4, z5, z6, z7, z8, z9, z10, z11, z12, z13⟩ := HL.out W' hW; go_simp <;> with_reducible rfl
  simp only [Act.put, List.setIfInBounds_toArray, List.set_cons_zero, List.set_cons_succ]
  refine takeH (i := 37) (v := ?_) rfl (by kernel_rfl) (by kernel_rfl) (by kernel_rfl) (fun _ _ _ h => by first | exact h | exact h.elim | exact nomatch h.1) (by rfl) ?_ HC.out ?_
  rotate_left
  · intro W' hW; obtain ⟨z0, z1, z2, z3, z4, z5, z6, z7, z8, z9, z10, z11, z12, z13⟩ := HL.out W' hW; go_simp <;> with_reducible rfl
  simp only [Act.put, List.setIfInBounds_toArray, List.set_cons_zero, List.set_cons_succ]
  refine takeH (i := 38) (v := ?_) rfl (by kernel_rfl) (by kernel_rfl) (by kernel_rfl) (fun _ _ _ h => by first | exact h | exact h.elim | exact nomatch h.1) (by rfl) ?_ HC.out ?_
  rotate_left
  · intro W' hW; obtain ⟨z0, z1, z2, z3, z4, z5, z6, z7, z8, z9, z10, z11, z12, z13⟩ := HL.out W' hW; go_simp <;> with_reducible rfl
  simp only [Act.put, List.setIfInBounds_toArray, List.set_cons_zero, List.set_cons_succ]
  refine takeH (i := 39) (v := ?_) rfl (by kernel_rfl) (by kernel_rfl) (by kernel_rfl) (fun _ _ _ h => by first | exact h | exact h.elim | exact nomatch h.1) (by rfl) ?_ HC.out ?_
  rotate_left
  · intro W' hW; obtain ⟨z0, z1, z2, z3, z4, z5, z6, z7, z8, z9, z10, z11, z12, z13⟩ := HL.out W' hW; go_simp <;> with_reducible rfl
  simp only [Act.put, List.setIfInBounds_toArray, List.set_cons_zero, List.set_cons_succ]
  refine takeH (i := 40) (v := ?_) rfl (by kernel_rfl) (by kernel_rfl) (by kernel_rfl) (fun _ _ _ h => by first | exact h | exact h.elim | exact nomatch h.1) (by rfl) ?_ HC.out ?_
  rotate_left
  · intro W' hW; obtain ⟨z0, z1, z2, z3, z4, z5, z6, z7, z8, z9, z10, z11, z12, z13⟩ := HL.out W' hW; go_simp <;> with_reducible rfl
  simp only [Act.put, List.setIfInBounds_toArray, List.set_cons_zero, List.set_cons_succ]
  refine takeH (i := 41) (v := ?_) rfl (by kernel_rfl) (by kernel_rfl) (by kernel_rfl) (fun _ _ _ h => by first | exact h | exact h.elim | exact nomatch h.1) (by rfl) ?_ HC.out ?_
  rotate_left
  · intro W' hW; obtain ⟨z0, z1, z2, z3, z4, z5, z6, z7, z8, z9, z10, z11, z12, z13⟩ := HL.out W' hW; go_simp <;> with_reducible rfl
  simp only [Act.put, List.setIfInBounds_toArray, List.set_cons_zero, List.set_cons_succ]
  refine takeH (i := 42) (v := ?_) rfl (by kernel_rfl) (by kernel_rfl) (by kernel_rfl) (fun _ _ _ h => by first | exact h | exact h.elim | exact nomatch h.1) (by rfl) ?_ HC.out ?_
  rotate_left
  · intro W' hW; obtain ⟨z0, z1, z2, z3, z4, z5, z6, z7, z8, z9, z10, z11, z12, z13⟩ := HL.out W' hW; go_simp <;> with_reducible rfl
  simp only [Act.put, List.setIfInBounds_toArray, List.set_cons_zero, List.set_cons_succ]
  refine takeH (i := 43) (v := ?_) rfl (by kernel_rfl) (by kernel_rfl) (by kernel_rfl) (fun _ _ _ h => by first | exact h | exact h.elim | exact nomatch h.1) (by rfl) ?_ HC.out ?_
  rotate_left
  · intro W' hW; obtain ⟨z0, z1, z2, z3, z4, z5, z6, z7, z8, z9, z10, z11, z12, z13⟩ := HL.out W' hW; go_simp <;> with_reducible rfl
  simp only [Act.put, List.setIfInBounds_toArray, List.set_cons_zero, List.set_cons_succ]
  refine oneH (i := 44) rfl (by kernel_rfl) (by rfl) (fun K hK => ?_)
  go_simp
  refine hK.out _ _ (hK0.out _) (fun _ => ?_)
  clear hK K
  obtain ⟨y0, hy0e⟩ : ∃ y0 : Cf, { y with A := none, n := 0, c := 0, ms := [] } = y0 := ⟨_, rfl⟩
  have hys2 : Hid (y0.cells.all (·.oneCell') = true) := Lib.hid (by simp [Value.oneCell'])
  refine oneH (i := 45) rfl (by kernel_rfl) (by rfl) (fun K hK => ?_)
  refine wp_store_row 24 _ _ rfl (w.heap.size + 1) y0.cells (by rfl) (by rw [← hy0e]; rfl) 24 #[.int .i64 0, .int .i64 0, .int .i64 0, .int .i64 0, .int .i64 0, .int .i64 0, .int .i64 0, .int .i64 0, .int .i64 0, .int .i64 0, .int .i64 0, .int .i64 0, .int .i64 0, .bool false, .slice none 0 0] (by rw [← hs0]; exact heap_alloc_new W0.drew (.cells #[.int .i64 0, .int .i64 0, .int .i64 0, .int .i64 0, .int .i64 0, .int .i64 0, .int .i64 0, .int .i64 0, .int .i64 0, .int .i64 0, .int .i64 0, .int .i64 0, .int .i64 0, .bool false, .slice none 0 0] 24)) (by kernel_rfl) rfl hys2.out ?_
  have HS2 : Hid (∀ o cs, ZS b off y.f0 y.f1 y.f2 y.f3 y.f4 y.f5 y.f6 y.f7 y.f8 y.f9 y.f10 y.f11 y.f12 z ((W0.drew.alloc o).setRow (w.heap.size + 1) cs)) := Lib.hid (fun o cs => HC.out.under (below_rowset ((Below.refl W0.drew.heap.size W0.drew).alloc (Nat.le_refl _) o) (by rw [← hs0]; exact Nat.le_refl _) cs) hb0)
  refine hK.out _ _ (HS2.out _ _) (fun _ => ?_)
  clear hK K
  refine wpAnyH_done (by kernel_rfl) ?_ _
  obtain ⟨W1, hW1⟩ : ∃ W1, (W0.alloc (.cells #[.int .i64 0, .int .i64 0, .int .i64 0, .int .i64 0, .int .i64 0, .int .i64 0, .int .i64 0, .int .i64 0, .int .i64 0, .int .i64 0, .int .i64 0, .int .i64 0, .int .i64 0, .bool false, .slice none 0 0] 24)).drew.setRow (w.heap.size + 1) y0.cells = W1 := ⟨_, rfl⟩
  have HW1 : Hid (Whole W1 (w.heap.size + 1) 24 y0.cells) := Lib.hid (by
    rw [← hW1, ← hs0]
    exact setRow_heap (W0.drew.alloc (.cells #[.int .i64 0, .int .i64 0, .int .i64 0, .int .i64 0, .int .i64 0, .int .i64 0, .int .i64 0, .int .i64 0, .int .i64 0, .int .i64 0, .int .i64 0, .int .i64 0, .int .i64 0, .bool false, .slice none 0 0] 24)) W0.drew.heap.size _ y0.cells 24 (0, 0) (heap_alloc_new W0.drew _))
  have hbA : Below w.heap.size w (W0.drew.alloc (.cells #[.int .i64 0, .int .i64 0, .int .i64 0, .int .i64 0, .int .i64 0, .int .i64 0, .int .i64 0, .int .i64 0, .int .i64 0, .int .i64 0, .int .i64 0, .int .i64 0, .int .i64 0, .bool false, .slice none 0 0] 24)) := HB0.out.drew.alloc HB0.out.size _
  have HR1 : Hid (Whole W1 w.heap.size 24 cf0.cells) := Lib.hid (by
    rw [← hW1]
    exact Whole.rowset_far (w := W0.drew.alloc (.cells #[.int .i64 0, .int .i64 0, .int .i64 0, .int .i64 0, .int .i64 0, .int .i64 0, .int .i64 0, .int .i64 0, .int .i64 0, .int .i64 0, .int .i64 0, .int .i64 0, .int .i64 0, .bool false, .slice none 0 0] 24)) (Whole.alloc (w := W0.drew) HW0.out _) (by omega) _)
  have HB1 : Hid (Below w.heap.size w W1) := Lib.hid (by rw [← hW1]; exact below_rowset hbA (by omega) _)
  rw [hW1]
  clear hW1 hbA HS2 HC HL hK0 hys2 i0 i1 i2 i3 i4 i5 i6 i7 i8 i9 i10 i11 i12 i0'
  obtain ⟨A2, hA1, hA2⟩ := run_restI (some ⟨b, off, none⟩) n c 14 hn14
  have hA3 : ∀ W : World, (Instr.slice 22 (.slice (some ⟨b, off, none⟩) n c) (some (.int .i64 14)) none none).run Tryd.prog W = .ok (.slice A2 (n - 14) (c - 14)) W := hA1
  have hR2 : Rd w w.heap.size A2 (n - 14) (iv (l.drop 14)) := by
    have := HR.out.cut hn14 A2 (fun h => hA2 ⟨h, hc⟩)
    rwa [iv, ← List.map_drop] at this
  obtain ⟨v3, W2, hrun, o3, g3⟩ := run_appI W1.drew w.heap.size (.slice none 0 0) 0 [] (World.ownsRow_nil _ _ _ _) w.heap.size A2 (n - 14) (c - 14) (l.drop 14) (hR2.below HB1.out.drew) (by omega) HB1.out.drew.size
  obtain ⟨A3, c3, rfl⟩ := own_form o3
  rw [Nat.zero_add, List.nil_append] at o3
  rw [Nat.zero_add] at hrun
  have hnb : ∀ k : Nat, some k ≠ (Value.slice none 0 0).ownBlock := fun k => by simp [Value.ownBlock]
  have hw2 : Whole W2 (w.heap.size + 1) 24 y0.cells := Whole.grown (w := W1.drew) HW1.out g3 (hnb _)
  have hr2 : Whole W2 w.heap.size 24 cf0.cells := Whole.grown (w := W1.drew) HR1.out g3 (hnb _)
  have hb2 : Below w.heap.size w W2 := HB1.out.drew.grown g3 HB1.out.drew.size (fun k e => absurd e.symm (hnb k))
  obtain ⟨y1, hy1⟩ : ∃ y1 : Cf, { y with A := A3, n := n - 14, c := c3 } = y1 := ⟨_, rfl⟩
  have hw3 : Whole (W2.setCell ⟨w.heap.size + 1, 14, none⟩ (.slice A3 (n - 14) c3)) (w.heap.size + 1) 24 y1.cells := by
    rw [← hy1]
    have := hw2.set 14 (.slice A3 (n - 14) c3)
    rw [← hy0e] at this
    exact this
  have hr3 : Whole (W2.setCell ⟨w.heap.size + 1, 14, none⟩ (.slice A3 (n - 14) c3)) w.heap.size 24 cf0.cells := hr2.far (p := ⟨w.heap.size + 1, 14, none⟩) (by simp) _
  have hb3 : Below w.heap.size w (W2.setCell ⟨w.heap.size + 1, 14, none⟩ (.slice A3 (n - 14) c3)) := hb2.setCell (p := ⟨w.heap.size + 1, 14, none⟩) (by simp) _
  have ho3 := ownsRow_setCell_other (a := ⟨w.heap.size + 1, 14, none⟩) o3 (own_apart_of (by decide) o3 hw2) (.slice A3 (n - 14) c3)
  have hcap := own_cap o3
  have hmax := own_maxC o3
  have y14 : W1.drew.cell? ⟨w.heap.size + 1, 14, none⟩ = some (.slice none 0 0) := by
    have := HW1.out.cell 14
    rw [← hy0e] at this
    exact this
  have x14 : W2.cell? ⟨w.heap.size + 1, 14, none⟩ = some (.slice none 0 0) := by
    have := hw2.cell 14
    rw [← hy0e] at this
    exact this
  have f14 := hw2.frozen 14
  have HW3 := Lib.hid hw3
  have HR3 := Lib.hid hr3
  have HB3 := Lib.hid hb3
  have HO3 := Lib.hid ho3
  have HRun := Lib.hid hrun
  have HYY := Lib.hid hy1
  have H14 := Lib.hid y14
  have HX14 := Lib.hid x14
  have HF14 := Lib.hid f14
  have HCap := Lib.hid hcap
  have HMax := Lib.hid hmax
  clear hw3 hr3 hb3 ho3 hrun hy1 y14 x14 f14 hcap hmax hw2 hr2 hb2 o3 g3 hnb hR2 hA1 hA2 hy0e HW1 HR1
  go_wp2_with fail
  have HC : Hid True := Lib.hid trivial
  have HL := Lib.hid (fun (W' : World) (h : True) => h)
  refine wp_region_held_drew (S := fun _ => True) (by kernel_rfl) HC.out (fun _ => ?_)
  refine takeH (i := 0) (v := ?_) rfl (by kernel_rfl) (by kernel_rfl) (by kernel_rfl) (fun _ _ _ h => by first | exact h | exact h.elim | exact nomatch h.1) (by rfl) ?_ HC.out ?_
  rotate_left
  · intro W' hW; go_simp <;> with_reducible rfl
  simp only [Act.put, List.setIfInBounds_toArray, List.set_cons_zero, List.set_cons_succ]
  refine takeH (i := 2) (v := ?_) rfl (by kernel_rfl) (by kernel_rfl) (by kernel_rfl) (fun _ _ _ h => by first | exact h | exact h.elim | exact nomatch h.1) (by rfl) ?_ HC.out ?_
  rotate_left
  · intro W' hW; go_simp <;> with_reducible rfl
  simp only [Act.put, List.setIfInBounds_toArray, List.set_cons_zero, List.set_cons_succ]
  refine takeH (i := 3) (v := ?_) rfl (by kernel_rfl) (by kernel_rfl) (by kernel_rfl) (fun _ _ _ h => by first | exact h | exact h.elim | exact nomatch h.1) (by rfl) ?_ HC.out ?_
  rotate_left
  · intro W' hW; go_simp <;> with_reducible rfl
  simp only [Act.put, List.setIfInBounds_toArray, List.set_cons_zero, List.set_cons_succ]
  refine oneH (i := 1) rfl (by kernel_rfl) (by rfl) (fun K hK => ?_)
  have y14 := H14.out
  go_simp
  refine hK.out _ _ HC.out (fun _ => ?_)
  clear hK K y14
  refine oneH (i := 4) rfl (by kernel_rfl) (by rfl) (fun K hK => ?_)
  refine wp_appendH (by rfl) (by rfl) HRun.out ?_
  refine hK.out _ _ HC.out (fun _ => ?_)
  clear hK K
  simp only [Act.put, List.setIfInBounds_toArray, List.set_cons_zero, List.set_cons_succ]
  refine takeH (i := 5) (v := ?_) rfl (by kernel_rfl) (by kernel_rfl) (by kernel_rfl) (fun _ _ _ h => by first | exact h | exact h.elim | exact nomatch h.1) (by rfl) ?_ HC.out ?_
  rotate_left
  · intro W' hW; go_simp <;> with_reducible rfl
  simp only [Act.put, List.setIfInBounds_toArray, List.set_cons_zero, List.set_cons_succ]
  refine oneH (i := 6) rfl (by kernel_rfl) (by rfl) (fun K hK => ?_)
  have x14 := HX14.out
  have f14 := HF14.out
  go_simp
  refine hK.out _ _ HC.out (fun _ => ?_)
  clear hK K x14 f14 HX14 HF14 H14 HRun
  refine wpAnyH_done (by kernel_rfl) ?_ _
  generalize hW3 : W2.setCell ⟨w.heap.size + 1, 14, none⟩ (.slice A3 (n - 14) c3) = W3 at HW3 HR3 HB3 HO3 ⊢
  clear hW3
  have hms : y1.ms = l.drop 14 := by rw [← HYY.out]; exact HYM.out
  have hLy : Lies y1 W3 W3.heap.size := by
    rw [← HYY.out]
    refine ⟨?_, HCap.out, HMax.out⟩
    have := Rd.of_own HO3.out
    rw [← HYM.out] at this
    exact this
  have hmy : isRow l = may y1 := by rw [HMay.out, ← HYY.out]; rfl
  have hn1 : y1.n ≤ 1000 := by rw [← HYY.out]; show n - 14 ≤ 1000; omega
  have HCk := Lib.hid (refCheck_any y1 W3.heap.size W3 hLy (Nat.le_refl _) hn1)
  have HOk : Hid (y1 = ofRow l y1.A y1.n y1.c ∧ W3.ownsRow w.heap.size 3 1 (.slice y1.A y1.n y1.c) y1.n (iv y1.ms)) := Lib.hid (by
    constructor
    · rw [← HYY.out]; exact HYC.out A3 (n - 14) c3
    · rw [← HYY.out]
      show W3.ownsRow w.heap.size 3 1 (.slice A3 (n - 14) c3) (n - 14) (iv y.ms)
      rw [HYM.out]; exact HO3.out)
  have HA1 : Hid (cf0.cells.all (·.oneCell') = true) := Lib.hid (by simp [cf0, Value.oneCell'])
  have HA2 : Hid (y1.cells.all (·.oneCell') = true) := Lib.hid (by simp [Value.oneCell'])
  obtain ⟨d0, d1, d2, d3, d4, d5, d6, d7, d8, d9, d10, d11, d12, d13, d14⟩ := HW3.out.conf
  clear hLy hms hn1
  by_cases hm : may y1 = true
  · rw [hm] at HCk
    have HMy := Lib.hid (hmy.trans hm)
    have he : er true = 0 := rfl
    rw [he] at HCk
    clear hm hmy he
    go_wp2_with fail
    refine (HCk.out).mono ?_
    rintro e w4 ⟨rfl, b4⟩
    have HW4 := Lib.hid (HW3.out.under b4)
    have HR4 := Lib.hid (HR3.out.under b4)
    have HB4 := Lib.hid (HB3.out.trans (b4.mono HB3.out.size))
    have HO4 := Lib.hid (own_under HOk.out.2 b4)
    clear b4 HCk d0 d1 d2 d3 d4 d5 d6 d7 d8 d9 d10 d11 d12 d13 d14
    obtain ⟨e0, e1, e2, e3, e4, e5, e6, e7, e8, e9, e10, e11, e12, e13, e14⟩ := HW4.out.conf
    go_wp2_with (refine wpList_store_row rfl 24 _ _ rfl w.heap.size y1.cells (by rfl) (by rfl) 24 _ HR4.out (by kernel_rfl) rfl HA2.out ?_)
    exact refOf_some (by rfl) (by rfl) (setRow_heap _ _ _ _ _ _ HR4.out) HMy.out (below_rowset HB4.out (Nat.le_refl _) _) ⟨HOk.out.1, own_rowset HO4.out (own_apart_of (by decide) HO4.out HR4.out) _⟩
  · have hm' : may y1 = false := by simpa using hm
    rw [hm'] at HCk
    have HMy := Lib.hid (hmy.trans hm')
    have he : er false = 70 := rfl
    rw [he] at HCk
    clear hm hm' hmy he
    go_wp2_with fail
    refine (HCk.out).mono ?_
    rintro e w4 ⟨rfl, b4⟩
    have HR4 := Lib.hid (HR3.out.under b4)
    have HB4 := Lib.hid (HB3.out.trans (b4.mono HB3.out.size))
    clear b4 HCk d0 d1 d2 d3 d4 d5 d6 d7 d8 d9 d10 d11 d12 d13 d14
    go_wp2_with (refine wpList_store_row rfl 24 _ _ rfl w.heap.size cf0.cells (by rfl) (by rfl) 24 _ HR4.out (by kernel_rfl) rfl HA1.out ?_)
    exact refOf_end (by rfl) (by rfl) (setRow_heap _ _ _ _ _ _ HR4.out) HMy.out (below_rowset HB4.out (Nat.le_refl _) _)

set_option maxRecDepth 100000 in
theorem refOf_any (A : Option Addr) (n c : Nat) (l : List Int) (B : Nat) (w : World) (hr : Rd w B A n (iv l)) (hB : B ≤ w.heap.size) (hc : n ≤ c) (hm : c ≤ maxLen) (hn : n ≤ 1000) : Calls Tryd.prog 40 #[.slice A n c] w (OfIs l w) := by
  cases hs : shapeB l with
  | false => exact refOf_shape A n c l B w hr hs
  | true =>
    have hl : l.length = n := by have := hr.1; rwa [iv_length] at this
    have h14 : 14 ≤ n := by
      have hs2 := hs
      unfold shapeB at hs2
      simp only [Bool.and_eq_true, decide_eq_true_eq] at hs2
      omega
    obtain ⟨b, off, rfl, hbl, _⟩ := hr.2 (by omega)
    exact refOf_on b off n c l w (hr.more hB) (by omega) hc hm hn hs

end Go.Proofs.YtplejbgecihnpaaDoor
