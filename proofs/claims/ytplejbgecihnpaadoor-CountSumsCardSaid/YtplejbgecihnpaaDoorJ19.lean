/-
  Texts that the walks of the statements over logs lean on, joined (CtWakes, CtLawTells, BrWakes). Conditions: those that each theorem names.
-/
import Derived.Test.YtplejbgecihnpaaDoorJ7
import Derived.Test.YtplejbgecihnpaaDoorJ12
import Derived.Test.YtplejbgecihnpaaDoorJ17
import Derived.Test.YtplejbgecihnpaaDoorJ18

/-
  What each statement over counts says at its end, over what package count's functions tell. Conditions: those that the theorem names.
-/
namespace Go.Proofs.YtplejbgecihnpaaDoor
open Go.RowKit Go.Shelf

def cfW5 : Cf := ⟨2, 50, 1, 0, 0, 0, 0, 0, 1, 1, 1, 0, 4, false, none, 0, 0, []⟩
def kpW1 : Kp := ⟨1, 0, 4, 0, 4, 0, false, false⟩
def kpW2 : Kp := ⟨2, 0, 3, 2, 2, 0, false, false⟩
def bW0 : Br := ⟨0, 0, true, cfW5, [], [], ⟨0, 0, 0, 0, false, 0, 0⟩⟩
def bW1 : Br := ⟨0, 0, true, cfW5, [], [kpW1, kpW2], ⟨0, 0, 0, 0, false, 0, 0⟩⟩
def bW2 : Br := ⟨0, 0, true, cfW5, [], [kpW1, kpW2], ⟨1, 4, 5, 0, false, 0, 0⟩⟩
def adW (b : Nat) : Ad := ⟨none, 0, none, 0, some ⟨b, 0, none⟩, 2⟩
def cnW : Cn := ⟨5, 2, 2, 0, 2, 1, 3, 1, 3⟩
theorem cnt_W : countB bW2 = cnW := by kernel_rfl
theorem cnt_0 : countB br0 = cn0 := by kernel_rfl
theorem val_0 : (countB br0).v = .agg #[.int .i64 0, .int .i64 0, .int .i64 0, .int .i64 0, .int .i64 0, .int .i64 0, .int .i64 0, .int .i64 0, .int .i64 0] := by kernel_rfl
theorem zon_W : zonesB bW2 = [0, 2] := by kernel_rfl
theorem ful_W : fullB bW2 = false := by kernel_rfl
theorem ful_0 : fullB br0 = true := by kernel_rfl
theorem old_W : oldK bW2 kpW1 = true := by kernel_rfl
theorem mea_W : oldI bW2 ⟨0, 5, 0, false⟩ = false := by kernel_rfl
theorem now0 (w : World) (hT : Tab w) : BrNow br0 ad0 w := ⟨⟨Rd.nil_ _ _ _, RdF.nil_ _ _ _, RdF.nil_ _ _ _, Nat.le_refl _, Nat.zero_le _, Nat.le_refl _, Nat.le_refl _⟩, hT, by decide, by decide, by decide⟩

theorem kps_W {W : World} {b : Nat} (h : Whole W b 32 #[.int .i64 1, .int .i64 0, .int .i64 4, .int .i64 0, .int .u8 4, .int .i64 0, .bool false, .bool false, .int .i64 2, .int .i64 0, .int .i64 3, .int .i64 2, .int .u8 2, .int .i64 0, .bool false, .bool false]) : RdK W (b + 1) (some ⟨b, 0, none⟩) 2 [kpW1, kpW2] := by
  refine ⟨rfl, fun _ => ⟨b, 0, rfl, by omega, ?_⟩⟩
  intro j x hx i hi
  have hj : j = 0 ∨ j = 1 := by
    have := (List.getElem?_eq_some_iff.1 hx).1
    simp at this
    omega
  rcases hj with rfl | rfl
  · simp only [List.getElem?_cons_zero, Option.some.injEq] at hx
    subst hx
    rcases (by omega : i = 0 ∨ i = 1 ∨ i = 2 ∨ i = 3 ∨ i = 4 ∨ i = 5 ∨ i = 6 ∨ i = 7) with rfl | rfl | rfl | rfl | rfl | rfl | rfl | rfl
    all_goals exact h.cell _
  · simp only [List.getElem?_cons_succ, List.getElem?_cons_zero, Option.some.injEq] at hx
    subst hx
    rcases (by omega : i = 0 ∨ i = 1 ∨ i = 2 ∨ i = 3 ∨ i = 4 ∨ i = 5 ∨ i = 6 ∨ i = 7) with rfl | rfl | rfl | rfl | rfl | rfl | rfl | rfl
    all_goals exact h.cell _
theorem now_W {W : World} {b : Nat} (h : Whole W b 32 #[.int .i64 1, .int .i64 0, .int .i64 4, .int .i64 0, .int .u8 4, .int .i64 0, .bool false, .bool false, .int .i64 2, .int .i64 0, .int .i64 3, .int .i64 2, .int .u8 2, .int .i64 0, .bool false, .bool false]) (hT : Tab W) : BrNow bW2 (adW b) W :=
  ⟨⟨Rd.nil_ _ _ _, RdF.nil_ _ _ _, (kps_W h).more h.lt, Nat.le_refl _, Nat.zero_le _, Nat.le_refl _, Nat.le_refl _⟩, hT, by decide, by decide, by decide⟩

set_option maxRecDepth 100000 in
set_option maxHeartbeats 8000000 in
theorem wakes15_any (C : CountOk) (w : World) (hT : Tab w) : Calls Tryd.prog 9 #[] w (BoolPost true w) := by
  have HW : Hid (Whole (w.alloc (.cells (brC br0 ad0) 30)) w.heap.size 30 (brC br0 ad0)) := Lib.hid (Whole.new _ _ _)
  have HB0 : Hid (Below w.heap.size w (w.alloc (.cells (brC br0 ad0) 30))) := Lib.hid ((Below.refl _ _).alloc (Nat.le_refl _) _)
  have HT := Lib.hid hT
  have HC := Lib.hid C
  clear hT C
  go_enter Tryd.func9, Tryd.ntmps9
  go_upto_region 2 with (refine wpList_storeB rfl _ _ rfl w.heap.size bW0 ad0 _ rfl (by rfl) (by rfl) HW.out ?_; intro W1 hW1)
  have X1 := Lib.hid (show Whole W1 w.heap.size 30 (brC bW0 ad0) by rw [hW1]; exact setRow_heap _ _ _ _ _ _ HW.out)
  have HB1 := Lib.hid (show Below w.heap.size w W1 by rw [hW1]; exact below_rowsetB HB0.out (Nat.le_refl _) _)
  have hs1 : W1.heap.size = w.heap.size + 1 := by rw [hW1, setRow_size, World.size_alloc]
  clear hW1 HW HB0
  obtain ⟨V, hV⟩ : ∃ V, W1.alloc (.cells #[.int .i64 1, .int .i64 0, .int .i64 4, .int .i64 0, .int .u8 4, .int .i64 0, .bool false, .bool false, .int .i64 2, .int .i64 0, .int .i64 3, .int .i64 2, .int .u8 2, .int .i64 0, .bool false, .bool false] 32) = V := ⟨_, rfl⟩
  have hbv : Below W1.heap.size W1 V := by rw [← hV]; exact (Below.refl _ _).alloc (Nat.le_refl _) _
  have hkv : Whole V (w.heap.size + 1) 32 #[.int .i64 1, .int .i64 0, .int .i64 4, .int .i64 0, .int .u8 4, .int .i64 0, .bool false, .bool false, .int .i64 2, .int .i64 0, .int .i64 3, .int .i64 2, .int .u8 2, .int .i64 0, .bool false, .bool false] := by rw [← hV, ← hs1]; exact Whole.new _ _ _
  have XV := Lib.hid (X1.out.under hbv)
  have HBV := Lib.hid (HB1.out.trans (hbv.mono HB1.out.size))
  have KV := Lib.hid hkv
  have c19 : V.cell? ⟨w.heap.size, 19, none⟩ = some (.slice none 0 0) := XV.out.cell 19
  have f19 : V.frozen? ⟨w.heap.size, 19, none⟩ = false := XV.out.frozen 19
  clear hbv hkv
  go_upto_region 3 with fail
  refine wpV (fun W2 hW2 => ?_)
  have k2 := Only.set V w.heap.size 19 (.slice (some ⟨w.heap.size + 1, 0, none⟩) 2 2)
  have x2 := XV.out.set 19 (.slice (some ⟨w.heap.size + 1, 0, none⟩) 2 2)
  simp only [List.setIfInBounds_toArray, List.set_cons_zero, List.set_cons_succ] at x2
  rw [hW2] at k2 x2
  have X2 := Lib.hid (show Whole W2 w.heap.size 30 (brC bW1 (adW (w.heap.size + 1))) from x2)
  have K2 := Lib.hid (k2.far KV.out (by omega))
  have HB2 := Lib.hid (k2.bel HBV.out (Nat.le_refl _))
  clear k2 x2 hW2 c19 f19 hV hs1 XV KV HBV X1 HB1
  go_upto_region 4 with (refine wpList_store_at rfl 28 _ _ rfl w.heap.size 20 (Rf.cells ⟨1, 4, 5, 0, false, 0, 0⟩) (by rfl) (by rfl) 30 _ X2.out (by kernel_rfl) (Nat.le_refl 27) (by simp [Value.oneCell']) ?_)
  refine wpV (fun W3 hW3 => ?_)
  have X3 := Lib.hid (show Whole W3 w.heap.size 30 (brC bW2 (adW (w.heap.size + 1))) by rw [← hW3]; exact setRow_heap _ _ _ _ _ _ X2.out)
  have K3 := Lib.hid (show Whole W3 (w.heap.size + 1) 32 #[.int .i64 1, .int .i64 0, .int .i64 4, .int .i64 0, .int .u8 4, .int .i64 0, .bool false, .bool false, .int .i64 2, .int .i64 0, .int .i64 3, .int .i64 2, .int .u8 2, .int .i64 0, .bool false, .bool false] by rw [← hW3]; exact (Only.row X2.out _).far K2.out (by omega))
  have HB3 := Lib.hid (show Below w.heap.size w W3 by rw [← hW3]; exact below_rowsetB HB2.out (Nat.le_refl _) _)
  clear hW3 X2 K2 HB2
  have N3 := Lib.hid (now_W K3.out (HT.out.under HB3.out))
  go_wp2_with (refine wpList_loadB (by rfl) _ rfl w.heap.size bW2 (adW (w.heap.size + 1)) (by rfl) X3.out ?_)
  refine (HC.out.of bW2 (adW (w.heap.size + 1)) W3 N3.out).mono ?_
  rintro e W4 ⟨rfl, hb4⟩
  rw [cnt_W]
  have X4 := Lib.hid (X3.out.under hb4)
  have K4 := Lib.hid (K3.out.under hb4)
  have HB4 := Lib.hid (HB3.out.trans (hb4.mono HB3.out.size))
  clear hb4 X3 K3 HB3 N3
  go_upto_region 5 with fail
  refine wpV (fun W5 hW5 => ?_)
  have hb5 : Below W4.heap.size W4 W5 := by rw [← hW5]; exact (Below.refl _ _).alloc (Nat.le_refl _) _
  have C5 := Lib.hid (show Whole W5 W4.heap.size 38 cnW.cells by rw [← hW5]; exact Whole.new _ _ _)
  have X5 := Lib.hid (X4.out.under hb5)
  have K5 := Lib.hid (K4.out.under hb5)
  have HB5 := Lib.hid (HB4.out.trans (hb5.mono HB4.out.size))
  clear hb5 hW5 X4 K4 HB4
  have N5 := Lib.hid (now_W K5.out (HT.out.under HB5.out))
  go_wp2_with (refine wpList_loadB (by rfl) _ rfl w.heap.size bW2 (adW (w.heap.size + 1)) (by rfl) X5.out ?_)
  refine (HC.out.zones bW2 (adW (w.heap.size + 1)) W5 N5.out).mono ?_
  rw [zon_W]
  rintro e W6 ⟨Az, cz, rfl, hz, hb6⟩
  obtain ⟨bz, oz, rfl, hlz, hcz⟩ := hz.2 (by decide)
  have z1 : W6.cell? ⟨bz, oz + 1, none⟩ = some (.int .i64 2) := hcz 1 (by decide)
  have X6 := Lib.hid (X5.out.under hb6)
  have K6 := Lib.hid (K5.out.under hb6)
  have C6 := Lib.hid (C5.out.under hb6)
  have HB6 := Lib.hid (HB5.out.trans (hb6.mono HB5.out.size))
  have Z6 := Lib.hid z1
  have LZ := Lib.hid hlz
  clear hb6 X5 K5 C5 HB5 N5 z1 hlz hcz hz
  have N6 := Lib.hid (now_W K6.out (HT.out.under HB6.out))
  go_upto_region 6 with fail
  have HL : Hid (∀ V', Below W6.heap.size W6 V' → Whole V' w.heap.size 30 (brC bW2 (adW (w.heap.size + 1))) ∧ V'.cell? ⟨w.heap.size, 19, none⟩ = some (.slice (some ⟨w.heap.size + 1, 0, none⟩) 2 2) ∧ V'.cell? ⟨bz, oz + 1, none⟩ = some (.int .i64 2) ∧ V'.cell? ⟨w.heap.size + 1, 0, none⟩ = some (.int .i64 1) ∧ V'.cell? ⟨w.heap.size + 1, 1, none⟩ = some (.int .i64 0) ∧ V'.cell? ⟨w.heap.size + 1, 2, none⟩ = some (.int .i64 4) ∧ V'.cell? ⟨w.heap.size + 1, 3, none⟩ = some (.int .i64 0) ∧ V'.cell? ⟨w.heap.size + 1, 4, none⟩ = some (.int .u8 4) ∧ V'.cell? ⟨w.heap.size + 1, 5, none⟩ = some (.int .i64 0) ∧ V'.cell? ⟨w.heap.size + 1, 6, none⟩ = some (.bool false) ∧ V'.cell? ⟨w.heap.size + 1, 7, none⟩ = some (.bool false) ∧ V'.cell? ⟨W4.heap.size, 0, none⟩ = some (.int .i64 5) ∧ V'.cell? ⟨W4.heap.size, 1, none⟩ = some (.int .i64 2) ∧ V'.cell? ⟨W4.heap.size, 2, none⟩ = some (.int .i64 2) ∧ V'.cell? ⟨W4.heap.size, 3, none⟩ = some (.int .i64 0) ∧ V'.cell? ⟨W4.heap.size, 4, none⟩ = some (.int .i64 2) ∧ V'.cell? ⟨W4.heap.size, 5, none⟩ = some (.int .i64 1) ∧ V'.cell? ⟨W4.heap.size, 6, none⟩ = some (.int .i64 3) ∧ V'.cell? ⟨W4.heap.size, 7, none⟩ = some (.int .i64 1) ∧ V'.cell? ⟨W4.heap.size, 8, none⟩ = some (.int .i64 3)) := Lib.hid (fun V' hV => ⟨X6.out.under hV, (X6.out.under hV).cell 19, (hV.cell (p := ⟨bz, oz + 1, none⟩) LZ.out).trans Z6.out, (K6.out.under hV).cell 0, (K6.out.under hV).cell 1, (K6.out.under hV).cell 2, (K6.out.under hV).cell 3, (K6.out.under hV).cell 4, (K6.out.under hV).cell 5, (K6.out.under hV).cell 6, (K6.out.under hV).cell 7, (C6.out.under hV).cell 0, (C6.out.under hV).cell 1, (C6.out.under hV).cell 2, (C6.out.under hV).cell 3, (C6.out.under hV).cell 4, (C6.out.under hV).cell 5, (C6.out.under hV).cell 6, (C6.out.under hV).cell 7, (C6.out.under hV).cell 8⟩)
  have HBd := Lib.hid (show Below W6.heap.size W6 W6.drew from below_drewB (Below.refl _ _) 1)
  refine wp_region_T (ls := []) (T := (fun V' => Below W6.heap.size W6 V')) (by kernel_rfl) ?_
  refine takeP (i := 0) (v := ?_) rfl (by kernel_rfl) (by kernel_rfl) (by kernel_rfl) (by kernel_rfl) (fun _ _ _ h => h) (by rfl) ?_ (fun _ => HBd.out) ?_
  rotate_left
  · intro V'; go_simp <;> with_reducible rfl
  simp only [Act.put, List.setIfInBounds_toArray, List.set_cons_zero, List.set_cons_succ]
  refine takeP (i := 2) (v := ?_) rfl (by kernel_rfl) (by kernel_rfl) (by kernel_rfl) (by kernel_rfl) (fun _ _ _ h => h) (by rfl) ?_ (fun _ => HBd.out) ?_
  rotate_left
  · intro V'; go_simp <;> with_reducible rfl
  simp only [Act.put, List.setIfInBounds_toArray, List.set_cons_zero, List.set_cons_succ]
  refine oneT (i := 1) rfl (by kernel_rfl) (by rfl) (fun K hK => ?_)
  go_simp
  refine (HC.out.of br0 ad0 W6.drew (now0 _ (HT.out.under (HB6.out.trans (HBd.out.mono HB6.out.size))))).mono ?_
  rintro e W6_1 ⟨rfl, hb_⟩
  have HB_1 := Lib.hid (show Below W6.heap.size W6 W6_1 from HBd.out.trans (hb_.mono HBd.out.size))
  clear hb_ HBd
  rw [val_0]
  refine hK.out _ _ (fun _ => HB_1.out) ?_
  clear hK K
  refine takeP (i := 3) (v := ?_) rfl (by kernel_rfl) (by kernel_rfl) (by kernel_rfl) (by kernel_rfl) (fun _ _ _ h => h) (by rfl) ?_ (fun _ => HB_1.out) ?_
  rotate_left
  · intro V'; go_simp <;> with_reducible rfl
  simp only [Act.put, List.setIfInBounds_toArray, List.set_cons_zero, List.set_cons_succ]
  refine takeP (i := 4) (v := ?_) rfl (by kernel_rfl) (by kernel_rfl) (by kernel_rfl) (by kernel_rfl) (fun _ _ _ h => h) (by rfl) ?_ (fun _ => HB_1.out) ?_
  rotate_left
  · intro V'; go_simp <;> with_reducible rfl
  simp only [Act.put, List.setIfInBounds_toArray, List.set_cons_zero, List.set_cons_succ]
  refine takeT (i := 5) (v := ?_) rfl (by kernel_rfl) (by kernel_rfl) (by kernel_rfl) (by kernel_rfl) (fun _ _ _ h => h) (by rfl) ?_ HB_1.out ?_
  rotate_left
  · intro V' hV; obtain ⟨y0, y1, y2, y3, y4, y5, y6, y7, y8, y9, y10, y11, y12, y13, y14, y15, y16, y17, y18, y19⟩ := HL.out V' hV; go_simp <;> with_reducible rfl
  simp only [Act.put, List.setIfInBounds_toArray, List.set_cons_zero, List.set_cons_succ]
  refine takeP (i := 6) (v := ?_) rfl (by kernel_rfl) (by kernel_rfl) (by kernel_rfl) (by kernel_rfl) (fun _ _ _ h => h) (by rfl) ?_ (fun _ => HB_1.out) ?_
  rotate_left
  · intro V'; go_simp <;> with_reducible rfl
  simp only [Act.put, List.setIfInBounds_toArray, List.set_cons_zero, List.set_cons_succ]
  refine takeP (i := 7) (v := ?_) rfl (by kernel_rfl) (by kernel_rfl) (by kernel_rfl) (by kernel_rfl) (fun _ _ _ h => h) (by rfl) ?_ (fun _ => HB_1.out) ?_
  rotate_left
  · intro V'; go_simp <;> with_reducible rfl
  simp only [Act.put, List.setIfInBounds_toArray, List.set_cons_zero, List.set_cons_succ]
  refine takeP (i := 8) (v := ?_) rfl (by kernel_rfl) (by kernel_rfl) (by kernel_rfl) (by kernel_rfl) (fun _ _ _ h => h) (by rfl) ?_ (fun _ => HB_1.out) ?_
  rotate_left
  · intro V'; go_simp <;> with_reducible rfl
  simp only [Act.put, List.setIfInBounds_toArray, List.set_cons_zero, List.set_cons_succ]
  refine takeP (i := 9) (v := ?_) rfl (by kernel_rfl) (by kernel_rfl) (by kernel_rfl) (by kernel_rfl) (fun _ _ _ h => h) (by rfl) ?_ (fun _ => HB_1.out) ?_
  rotate_left
  · intro V'; go_simp <;> with_reducible rfl
  simp only [Act.put, List.setIfInBounds_toArray, List.set_cons_zero, List.set_cons_succ]
  refine takeP (i := 10) (v := ?_) rfl (by kernel_rfl) (by kernel_rfl) (by kernel_rfl) (by kernel_rfl) (fun _ _ _ h => h) (by rfl) ?_ (fun _ => HB_1.out) ?_
  rotate_left
  · intro V'; go_simp <;> with_reducible rfl
  simp only [Act.put, List.setIfInBounds_toArray, List.set_cons_zero, List.set_cons_succ]
  refine takeP (i := 11) (v := ?_) rfl (by kernel_rfl) (by kernel_rfl) (by kernel_rfl) (by kernel_rfl) (fun _ _ _ h => h) (by rfl) ?_ (fun _ => HB_1.out) ?_
  rotate_left
  · intro V'; go_simp <;> with_reducible rfl
  simp only [Act.put, List.setIfInBounds_toArray, List.set_cons_zero, List.set_cons_succ]
  refine takeP (i := 12) (v := ?_) rfl (by kernel_rfl) (by kernel_rfl) (by kernel_rfl) (by kernel_rfl) (fun _ _ _ h => h) (by rfl) ?_ (fun _ => HB_1.out) ?_
  rotate_left
  · intro V'; go_simp <;> with_reducible rfl
  simp only [Act.put, List.setIfInBounds_toArray, List.set_cons_zero, List.set_cons_succ]
  refine takeP (i := 13) (v := ?_) rfl (by kernel_rfl) (by kernel_rfl) (by kernel_rfl) (by kernel_rfl) (fun _ _ _ h => h) (by rfl) ?_ (fun _ => HB_1.out) ?_
  rotate_left
  · intro V'; go_simp <;> with_reducible rfl
  simp only [Act.put, List.setIfInBounds_toArray, List.set_cons_zero, List.set_cons_succ]
  refine takeP (i := 14) (v := ?_) rfl (by kernel_rfl) (by kernel_rfl) (by kernel_rfl) (by kernel_rfl) (fun _ _ _ h => h) (by rfl) ?_ (fun _ => HB_1.out) ?_
  rotate_left
  · intro V'; go_simp <;> with_reducible rfl
  simp only [Act.put, List.setIfInBounds_toArray, List.set_cons_zero, List.set_cons_succ]
  refine takeP (i := 15) (v := ?_) rfl (by kernel_rfl) (by kernel_rfl) (by kernel_rfl) (by kernel_rfl) (fun _ _ _ h => h) (by rfl) ?_ (fun _ => HB_1.out) ?_
  rotate_left
  · intro V'; go_simp <;> with_reducible rfl
  simp only [Act.put, List.setIfInBounds_toArray, List.set_cons_zero, List.set_cons_succ]
  refine takeP (i := 16) (v := ?_) rfl (by kernel_rfl) (by kernel_rfl) (by kernel_rfl) (by kernel_rfl) (fun _ _ _ h => h) (by rfl) ?_ (fun _ => HB_1.out) ?_
  rotate_left
  · intro V'; go_simp <;> with_reducible rfl
  simp only [Act.put, List.setIfInBounds_toArray, List.set_cons_zero, List.set_cons_succ]
  refine takeT (i := 17) (v := ?_) rfl (by kernel_rfl) (by kernel_rfl) (by kernel_rfl) (by kernel_rfl) (fun _ _ _ h => h) (by rfl) ?_ HB_1.out ?_
  rotate_left
  · intro V' hV; obtain ⟨y0, y1, y2, y3, y4, y5, y6, y7, y8, y9, y10, y11, y12, y13, y14, y15, y16, y17, y18, y19⟩ := HL.out V' hV; go_simp <;> with_reducible rfl
  simp only [Act.put, List.setIfInBounds_toArray, List.set_cons_zero, List.set_cons_succ]
  refine takeP (i := 18) (v := ?_) rfl (by kernel_rfl) (by kernel_rfl) (by kernel_rfl) (by kernel_rfl) (fun _ _ _ h => h) (by rfl) ?_ (fun _ => HB_1.out) ?_
  rotate_left
  · intro V'; go_simp <;> with_reducible rfl
  simp only [Act.put, List.setIfInBounds_toArray, List.set_cons_zero, List.set_cons_succ]
  refine takeP (i := 19) (v := ?_) rfl (by kernel_rfl) (by kernel_rfl) (by kernel_rfl) (by kernel_rfl) (fun _ _ _ h => h) (by rfl) ?_ (fun _ => HB_1.out) ?_
  rotate_left
  · intro V'; go_simp <;> with_reducible rfl
  simp only [Act.put, List.setIfInBounds_toArray, List.set_cons_zero, List.set_cons_succ]
  refine takeP (i := 20) (v := ?_) rfl (by kernel_rfl) (by kernel_rfl) (by kernel_rfl) (by kernel_rfl) (fun _ _ _ h => h) (by rfl) ?_ (fun _ => HB_1.out) ?_
  rotate_left
  · intro V'; go_simp <;> with_reducible rfl
  simp only [Act.put, List.setIfInBounds_toArray, List.set_cons_zero, List.set_cons_succ]
  refine takeT (i := 21) (v := brV bW2 (adW (w.heap.size + 1))) rfl (by kernel_rfl) (by kernel_rfl) (by kernel_rfl) (by kernel_rfl) (fun _ _ _ h => h) (by rfl) ?_ HB_1.out ?_
  · intro V' hV; obtain ⟨y0, y1, y2, y3, y4, y5, y6, y7, y8, y9, y10, y11, y12, y13, y14, y15, y16, y17, y18, y19⟩ := HL.out V' hV; exact exec_load_brain rfl y0
  simp only [Act.put, List.setIfInBounds_toArray, List.set_cons_zero, List.set_cons_succ]
  refine oneT (i := 22) rfl (by kernel_rfl) (by rfl) (fun K hK => ?_)
  go_simp
  refine (HC.out.full bW2 (adW (w.heap.size + 1)) W6_1 (N6.out.under HB_1.out)).mono ?_
  rintro e W6_2 ⟨rfl, hb_⟩
  have HB_2 := Lib.hid (show Below W6.heap.size W6 W6_2 from HB_1.out.trans (hb_.mono HB_1.out.size))
  clear hb_ HB_1
  rw [ful_W]
  refine hK.out _ _ (fun _ => HB_2.out) ?_
  clear hK K
  refine takeP (i := 23) (v := ?_) rfl (by kernel_rfl) (by kernel_rfl) (by kernel_rfl) (by kernel_rfl) (fun _ _ _ h => h) (by rfl) ?_ (fun _ => HB_2.out) ?_
  rotate_left
  · intro V'; go_simp <;> with_reducible rfl
  simp only [Act.put, List.setIfInBounds_toArray, List.set_cons_zero, List.set_cons_succ]
  refine takeP (i := 24) (v := ?_) rfl (by kernel_rfl) (by kernel_rfl) (by kernel_rfl) (by kernel_rfl) (fun _ _ _ h => h) (by rfl) ?_ (fun _ => HB_2.out) ?_
  rotate_left
  · intro V'; go_simp <;> with_reducible rfl
  simp only [Act.put, List.setIfInBounds_toArray, List.set_cons_zero, List.set_cons_succ]
  refine takeP (i := 25) (v := ?_) rfl (by kernel_rfl) (by kernel_rfl) (by kernel_rfl) (by kernel_rfl) (fun _ _ _ h => h) (by rfl) ?_ (fun _ => HB_2.out) ?_
  rotate_left
  · intro V'; go_simp <;> with_reducible rfl
  simp only [Act.put, List.setIfInBounds_toArray, List.set_cons_zero, List.set_cons_succ]
  refine takeP (i := 26) (v := ?_) rfl (by kernel_rfl) (by kernel_rfl) (by kernel_rfl) (by kernel_rfl) (fun _ _ _ h => h) (by rfl) ?_ (fun _ => HB_2.out) ?_
  rotate_left
  · intro V'; go_simp <;> with_reducible rfl
  simp only [Act.put, List.setIfInBounds_toArray, List.set_cons_zero, List.set_cons_succ]
  refine oneT (i := 27) rfl (by kernel_rfl) (by rfl) (fun K hK => ?_)
  go_simp
  refine (HC.out.full br0 ad0 W6_2 (now0 _ (HT.out.under (HB6.out.trans (HB_2.out.mono HB6.out.size))))).mono ?_
  rintro e W6_3 ⟨rfl, hb_⟩
  have HB_3 := Lib.hid (show Below W6.heap.size W6 W6_3 from HB_2.out.trans (hb_.mono HB_2.out.size))
  clear hb_ HB_2
  rw [ful_0]
  refine hK.out _ _ (fun _ => HB_3.out) ?_
  clear hK K
  refine takeP (i := 28) (v := ?_) rfl (by kernel_rfl) (by kernel_rfl) (by kernel_rfl) (by kernel_rfl) (fun _ _ _ h => h) (by rfl) ?_ (fun _ => HB_3.out) ?_
  rotate_left
  · intro V'; go_simp <;> with_reducible rfl
  simp only [Act.put, List.setIfInBounds_toArray, List.set_cons_zero, List.set_cons_succ]
  refine takeP (i := 29) (v := ?_) rfl (by kernel_rfl) (by kernel_rfl) (by kernel_rfl) (by kernel_rfl) (fun _ _ _ h => h) (by rfl) ?_ (fun _ => HB_3.out) ?_
  rotate_left
  · intro V'; go_simp <;> with_reducible rfl
  simp only [Act.put, List.setIfInBounds_toArray, List.set_cons_zero, List.set_cons_succ]
  refine takeT (i := 30) (v := brV bW2 (adW (w.heap.size + 1))) rfl (by kernel_rfl) (by kernel_rfl) (by kernel_rfl) (by kernel_rfl) (fun _ _ _ h => h) (by rfl) ?_ HB_3.out ?_
  · intro V' hV; obtain ⟨y0, y1, y2, y3, y4, y5, y6, y7, y8, y9, y10, y11, y12, y13, y14, y15, y16, y17, y18, y19⟩ := HL.out V' hV; exact exec_load_brain rfl y0
  simp only [Act.put, List.setIfInBounds_toArray, List.set_cons_zero, List.set_cons_succ]
  refine takeP (i := 31) (v := ?_) rfl (by kernel_rfl) (by kernel_rfl) (by kernel_rfl) (by kernel_rfl) (fun _ _ _ h => h) (by rfl) ?_ (fun _ => HB_3.out) ?_
  rotate_left
  · intro V'; go_simp <;> with_reducible rfl
  simp only [Act.put, List.setIfInBounds_toArray, List.set_cons_zero, List.set_cons_succ]
  refine takeT (i := 32) (v := ?_) rfl (by kernel_rfl) (by kernel_rfl) (by kernel_rfl) (by kernel_rfl) (fun _ _ _ h => h) (by rfl) ?_ HB_3.out ?_
  rotate_left
  · intro V' hV; obtain ⟨y0, y1, y2, y3, y4, y5, y6, y7, y8, y9, y10, y11, y12, y13, y14, y15, y16, y17, y18, y19⟩ := HL.out V' hV; go_simp <;> with_reducible rfl
  simp only [Act.put, List.setIfInBounds_toArray, List.set_cons_zero, List.set_cons_succ]
  refine takeP (i := 33) (v := ?_) rfl (by kernel_rfl) (by kernel_rfl) (by kernel_rfl) (by kernel_rfl) (fun _ _ _ h => h) (by rfl) ?_ (fun _ => HB_3.out) ?_
  rotate_left
  · intro V'; go_simp <;> with_reducible rfl
  simp only [Act.put, List.setIfInBounds_toArray, List.set_cons_zero, List.set_cons_succ]
  refine takeT (i := 34) (v := ?_) rfl (by kernel_rfl) (by kernel_rfl) (by kernel_rfl) (by kernel_rfl) (fun _ _ _ h => h) (by rfl) ?_ HB_3.out ?_
  rotate_left
  · intro V' hV; obtain ⟨y0, y1, y2, y3, y4, y5, y6, y7, y8, y9, y10, y11, y12, y13, y14, y15, y16, y17, y18, y19⟩ := HL.out V' hV; go_simp <;> with_reducible rfl
  simp only [Act.put, List.setIfInBounds_toArray, List.set_cons_zero, List.set_cons_succ]
  refine oneT (i := 35) rfl (by kernel_rfl) (by rfl) (fun K hK => ?_)
  go_simp
  refine (HC.out.isOld bW2 (adW (w.heap.size + 1)) kpW1 W6_3 (N6.out.under HB_3.out)).mono ?_
  rintro e W6_4 ⟨rfl, hb_⟩
  have HB_4 := Lib.hid (show Below W6.heap.size W6 W6_4 from HB_3.out.trans (hb_.mono HB_3.out.size))
  clear hb_ HB_3
  rw [old_W]
  refine hK.out _ _ (fun _ => HB_4.out) ?_
  clear hK K
  refine takeP (i := 36) (v := ?_) rfl (by kernel_rfl) (by kernel_rfl) (by kernel_rfl) (by kernel_rfl) (fun _ _ _ h => h) (by rfl) ?_ (fun _ => HB_4.out) ?_
  rotate_left
  · intro V'; go_simp <;> with_reducible rfl
  simp only [Act.put, List.setIfInBounds_toArray, List.set_cons_zero, List.set_cons_succ]
  refine takeP (i := 37) (v := ?_) rfl (by kernel_rfl) (by kernel_rfl) (by kernel_rfl) (by kernel_rfl) (fun _ _ _ h => h) (by rfl) ?_ (fun _ => HB_4.out) ?_
  rotate_left
  · intro V'; go_simp <;> with_reducible rfl
  simp only [Act.put, List.setIfInBounds_toArray, List.set_cons_zero, List.set_cons_succ]
  refine takeT (i := 38) (v := brV bW2 (adW (w.heap.size + 1))) rfl (by kernel_rfl) (by kernel_rfl) (by kernel_rfl) (by kernel_rfl) (fun _ _ _ h => h) (by rfl) ?_ HB_4.out ?_
  · intro V' hV; obtain ⟨y0, y1, y2, y3, y4, y5, y6, y7, y8, y9, y10, y11, y12, y13, y14, y15, y16, y17, y18, y19⟩ := HL.out V' hV; exact exec_load_brain rfl y0
  simp only [Act.put, List.setIfInBounds_toArray, List.set_cons_zero, List.set_cons_succ]
  refine takeP (i := 39) (v := ?_) rfl (by kernel_rfl) (by kernel_rfl) (by kernel_rfl) (by kernel_rfl) (fun _ _ _ h => h) (by rfl) ?_ (fun _ => HB_4.out) ?_
  rotate_left
  · intro V'; go_simp <;> with_reducible rfl
  simp only [Act.put, List.setIfInBounds_toArray, List.set_cons_zero, List.set_cons_succ]
  refine oneT (i := 40) rfl (by kernel_rfl) (by rfl) (fun K hK => ?_)
  go_simp
  refine (HC.out.meant bW2 (adW (w.heap.size + 1)) ⟨0, 5, 0, false⟩ W6_4 (N6.out.under HB_4.out)).mono ?_
  rintro e W6_5 ⟨rfl, hb_⟩
  have HB_5 := Lib.hid (show Below W6.heap.size W6 W6_5 from HB_4.out.trans (hb_.mono HB_4.out.size))
  clear hb_ HB_4
  rw [mea_W]
  refine hK.out _ _ (fun _ => HB_5.out) ?_
  clear hK K
  refine takeP (i := 41) (v := ?_) rfl (by kernel_rfl) (by kernel_rfl) (by kernel_rfl) (by kernel_rfl) (fun _ _ _ h => h) (by rfl) ?_ (fun _ => HB_5.out) ?_
  rotate_left
  · intro V'; go_simp <;> with_reducible rfl
  simp only [Act.put, List.setIfInBounds_toArray, List.set_cons_zero, List.set_cons_succ]
  refine oneT (i := 42) rfl (by kernel_rfl) (by rfl) (fun K hK => ?_)
  go_simp
  refine hK.out _ _ (fun _ => HB_5.out) ?_
  clear hK K
  refine doneT (by kernel_rfl) ?_ _
  have HBx := Lib.hid (HB6.out.trans (HB_5.out.mono HB6.out.size))
  go_wp2_with fail
  go_ret
  exact ⟨rfl, HBx.out⟩

end Go.Proofs.YtplejbgecihnpaaDoor

/-
  The walk of the statement CountTells, over what package count's functions tell. Conditions: those that the theorem names.
-/
namespace Go.Proofs.YtplejbgecihnpaaDoor
open Go.RowKit Go.Shelf

theorem ctNow {p : Br} {a : Ad} {w : World} (hb : BrAny w p a) (hT : Tab w) (hg : gB p = false) : BrNow p a w := by
  obtain ⟨h1, h2, h3⟩ := gB_no hg
  exact ⟨hb.rd, hT, by omega, by omega, by omega⟩

set_option maxRecDepth 100000 in
set_option maxHeartbeats 8000000 in
theorem countTells_any (C : CountOk) (p : Br) (a : Ad) (x : Kp) (y : It) (w : World) (hb0 : BrAny w p a) (hT : Tab w) :
    Calls Tryd.prog 3 #[brV p a, x.v, .agg #[.int .i64 y.tok, .int .i64 y.ver, .int .i64 y.zone, .bool y.warm]] w (TruePost w) := by
  obtain ⟨hb, w0, w1, w2⟩ := three_new w 30 32 34 (brC p a) x.cells #[.int .i64 y.tok, .int .i64 y.ver, .int .i64 y.zone, .bool y.warm]
  obtain ⟨V, hV⟩ : ∃ V, (((w.alloc (.cells (brC p a) 30)).alloc (.cells x.cells 32)).alloc (.cells #[.int .i64 y.tok, .int .i64 y.ver, .int .i64 y.zone, .bool y.warm] 34)) = V := ⟨_, rfl⟩
  rw [hV] at hb w0 w1 w2
  have HB := Lib.hid hb
  have HV := Lib.hid hV
  have W0 := Lib.hid w0
  have W1 := Lib.hid w1
  have W2 := Lib.hid w2
  have HT := Lib.hid (hT.under hb)
  have HC := Lib.hid C
  have HA := Lib.hid hb0
  have HT0 := Lib.hid hT
  clear hb w0 w1 w2 hV hT C hb0
  obtain ⟨bg, hbg⟩ : ∃ b, gB p = b := ⟨_, rfl⟩
  have HG := Lib.hid hbg
  clear hbg
  go_enter Tryd.func3, Tryd.ntmps3
  go_upto_region 1 with fail
  refine wpV (fun V2 hV2 => ?_)
  obtain rfl : V = V2 := HV.out.symm.trans hV2
  clear HV hV2
  go_wp2_with (refine wpList_loadB (by rfl) _ rfl w.heap.size p a (by rfl) W0.out ?_)
  refine (greatB_any p a V).mono ?_
  rintro e U ⟨rfl, hb1⟩
  rw [HG.out]
  have HBU := Lib.hid (HB.out.trans (hb1.mono HB.out.size))
  have T1 := Lib.hid (HT.out.under hb1)
  have X0 := Lib.hid (W0.out.under hb1)
  have X1 := Lib.hid (W1.out.under hb1)
  have X2 := Lib.hid (W2.out.under hb1)
  clear hb1 W0 W1 W2 HT HB
  cases bg with
  | true =>
    go_wp2_with fail
    refine (wakes15_any HC.out U T1.out).mono ?_
    rintro e w7 ⟨rfl, hb7⟩
    have HB7 := Lib.hid (HBU.out.trans (hb7.mono HBU.out.size))
    clear hb7
    go_wp2_with fail
    go_ret
    exact ⟨rfl, HB7.out⟩
  | false =>
    have N0 := Lib.hid (ctNow HA.out HT0.out HG.out)
    have NU := Lib.hid (N0.out.under HBU.out)
    go_upto_region 3 with fail
    have HL : Hid (∀ V', Below U.heap.size U V' → Whole V' w.heap.size 30 (brC p a) ∧ V'.cell? ⟨w.heap.size + 1, 0, none⟩ = some (.int .i64 x.id) ∧ V'.cell? ⟨w.heap.size + 1, 1, none⟩ = some (.int .i64 x.tok) ∧ V'.cell? ⟨w.heap.size + 1, 2, none⟩ = some (.int .i64 x.ver) ∧ V'.cell? ⟨w.heap.size + 1, 3, none⟩ = some (.int .i64 x.zone) ∧ V'.cell? ⟨w.heap.size + 1, 4, none⟩ = some (.int .u8 x.phase) ∧ V'.cell? ⟨w.heap.size + 1, 5, none⟩ = some (.int .i64 x.since) ∧ V'.cell? ⟨w.heap.size + 1, 6, none⟩ = some (.bool x.guard) ∧ V'.cell? ⟨w.heap.size + 1, 7, none⟩ = some (.bool x.done) ∧ V'.cell? ⟨w.heap.size + 1 + 1, 0, none⟩ = some (.int .i64 y.tok) ∧ V'.cell? ⟨w.heap.size + 1 + 1, 1, none⟩ = some (.int .i64 y.ver) ∧ V'.cell? ⟨w.heap.size + 1 + 1, 2, none⟩ = some (.int .i64 y.zone) ∧ V'.cell? ⟨w.heap.size + 1 + 1, 3, none⟩ = some (.bool y.warm)) := Lib.hid (fun V' hV => ⟨X0.out.under hV, (X1.out.under hV).cell 0, (X1.out.under hV).cell 1, (X1.out.under hV).cell 2, (X1.out.under hV).cell 3, (X1.out.under hV).cell 4, (X1.out.under hV).cell 5, (X1.out.under hV).cell 6, (X1.out.under hV).cell 7, (X2.out.under hV).cell 0, (X2.out.under hV).cell 1, (X2.out.under hV).cell 2, (X2.out.under hV).cell 3⟩)
    have HBd := Lib.hid (show Below U.heap.size U U.drew from below_drewB (Below.refl _ _) 1)
    refine wp_region_T (ls := []) (T := (fun V' => Below U.heap.size U V')) (by kernel_rfl) ?_
    refine takeT (i := 0) (v := brV p a) rfl (by kernel_rfl) (by kernel_rfl) (by kernel_rfl) (by kernel_rfl) (fun _ _ _ h => h) (by rfl) ?_ HBd.out ?_
    · intro V' hV; obtain ⟨y0, y1, y2, y3, y4, y5, y6, y7, y8, y9, y10, y11, y12⟩ := HL.out V' hV; exact exec_load_brain rfl y0
    simp only [Act.put, List.setIfInBounds_toArray, List.set_cons_zero, List.set_cons_succ]
    refine takeT (i := 2) (v := brV p a) rfl (by kernel_rfl) (by kernel_rfl) (by kernel_rfl) (by kernel_rfl) (fun _ _ _ h => h) (by rfl) ?_ HBd.out ?_
    · intro V' hV; obtain ⟨y0, y1, y2, y3, y4, y5, y6, y7, y8, y9, y10, y11, y12⟩ := HL.out V' hV; exact exec_load_brain rfl y0
    simp only [Act.put, List.setIfInBounds_toArray, List.set_cons_zero, List.set_cons_succ]
    refine oneT (i := 1) rfl (by kernel_rfl) (by rfl) (fun K hK => ?_)
    go_simp
    refine (HC.out.of p a U.drew (NU.out.under HBd.out)).mono ?_
    rintro e U_1 ⟨rfl, hb_⟩
    obtain ⟨Cn_, hCn⟩ : ∃ c, countB p = c := ⟨_, rfl⟩
    rw [hCn]
    have HCn := Lib.hid hCn
    clear hCn
    have HB_1 := Lib.hid (show Below U.heap.size U U_1 from HBd.out.trans (hb_.mono HBd.out.size))
    clear hb_ HBd
    refine hK.out _ _ (fun _ => HB_1.out) ?_
    clear hK K
    refine oneT (i := 3) rfl (by kernel_rfl) (by rfl) (fun K hK => ?_)
    go_simp
    refine (refOf_count_any p a _ U_1 (NU.out.under HB_1.out).rd (Nat.le_refl _) (NU.out.under HB_1.out).its (NU.out.under HB_1.out).kps (NU.out.under HB_1.out).ms).mono ?_
    rintro e U_2 ⟨rfl, hb_⟩
    have HB_2 := Lib.hid (show Below U.heap.size U U_2 from HB_1.out.trans (hb_.mono HB_1.out.size))
    clear hb_ HB_1
    rw [HCn.out]
    refine hK.out _ _ (fun _ => HB_2.out) ?_
    clear hK K
    refine takeT (i := 4) (v := .bool true) rfl (by kernel_rfl) (by kernel_rfl) (by kernel_rfl) (by kernel_rfl) (fun _ _ _ h => h) (by rfl) ?_ HB_2.out ?_
    · intro V' hV; obtain ⟨y0, y1, y2, y3, y4, y5, y6, y7, y8, y9, y10, y11, y12⟩ := HL.out V' hV; go_simp
    simp only [Act.put, List.setIfInBounds_toArray, List.set_cons_zero, List.set_cons_succ]
    refine takeP (i := 5) (v := ?_) rfl (by kernel_rfl) (by kernel_rfl) (by kernel_rfl) (by kernel_rfl) (fun _ _ _ h => h) (by rfl) ?_ (fun _ => HB_2.out) ?_
    rotate_left
    · intro V'; go_simp <;> with_reducible rfl
    simp only [Act.put, List.setIfInBounds_toArray, List.set_cons_zero, List.set_cons_succ]
    refine takeT (i := 6) (v := brV p a) rfl (by kernel_rfl) (by kernel_rfl) (by kernel_rfl) (by kernel_rfl) (fun _ _ _ h => h) (by rfl) ?_ HB_2.out ?_
    · intro V' hV; obtain ⟨y0, y1, y2, y3, y4, y5, y6, y7, y8, y9, y10, y11, y12⟩ := HL.out V' hV; exact exec_load_brain rfl y0
    simp only [Act.put, List.setIfInBounds_toArray, List.set_cons_zero, List.set_cons_succ]
    refine takeT (i := 8) (v := brV p a) rfl (by kernel_rfl) (by kernel_rfl) (by kernel_rfl) (by kernel_rfl) (fun _ _ _ h => h) (by rfl) ?_ HB_2.out ?_
    · intro V' hV; obtain ⟨y0, y1, y2, y3, y4, y5, y6, y7, y8, y9, y10, y11, y12⟩ := HL.out V' hV; exact exec_load_brain rfl y0
    simp only [Act.put, List.setIfInBounds_toArray, List.set_cons_zero, List.set_cons_succ]
    refine oneT (i := 7) rfl (by kernel_rfl) (by rfl) (fun K hK => ?_)
    go_simp
    refine (HC.out.ver p a U_2 (NU.out.under HB_2.out)).mono ?_
    rintro e U_3 ⟨rfl, hb_⟩
    have HB_3 := Lib.hid (show Below U.heap.size U U_3 from HB_2.out.trans (hb_.mono HB_2.out.size))
    clear hb_ HB_2
    refine hK.out _ _ (fun _ => HB_3.out) ?_
    clear hK K
    refine oneT (i := 9) rfl (by kernel_rfl) (by rfl) (fun K hK => ?_)
    go_simp
    refine (refVer_any p a U_3).mono ?_
    rintro e U_4 ⟨rfl, hb_⟩
    have HB_4 := Lib.hid (show Below U.heap.size U U_4 from HB_3.out.trans (hb_.mono HB_3.out.size))
    clear hb_ HB_3
    refine hK.out _ _ (fun _ => HB_4.out) ?_
    clear hK K
    refine takeT (i := 10) (v := .bool true) rfl (by kernel_rfl) (by kernel_rfl) (by kernel_rfl) (by kernel_rfl) (fun _ _ _ h => h) (by rfl) ?_ HB_4.out ?_
    · intro V' hV; obtain ⟨y0, y1, y2, y3, y4, y5, y6, y7, y8, y9, y10, y11, y12⟩ := HL.out V' hV; go_simp
    simp only [Act.put, List.setIfInBounds_toArray, List.set_cons_zero, List.set_cons_succ]
    refine takeP (i := 11) (v := ?_) rfl (by kernel_rfl) (by kernel_rfl) (by kernel_rfl) (by kernel_rfl) (fun _ _ _ h => h) (by rfl) ?_ (fun _ => HB_4.out) ?_
    rotate_left
    · intro V'; go_simp <;> with_reducible rfl
    simp only [Act.put, List.setIfInBounds_toArray, List.set_cons_zero, List.set_cons_succ]
    refine takeP (i := 12) (v := ?_) rfl (by kernel_rfl) (by kernel_rfl) (by kernel_rfl) (by kernel_rfl) (fun _ _ _ h => h) (by rfl) ?_ (fun _ => HB_4.out) ?_
    rotate_left
    · intro V'; go_simp <;> with_reducible rfl
    simp only [Act.put, List.setIfInBounds_toArray, List.set_cons_zero, List.set_cons_succ]
    refine takeT (i := 13) (v := brV p a) rfl (by kernel_rfl) (by kernel_rfl) (by kernel_rfl) (by kernel_rfl) (fun _ _ _ h => h) (by rfl) ?_ HB_4.out ?_
    · intro V' hV; obtain ⟨y0, y1, y2, y3, y4, y5, y6, y7, y8, y9, y10, y11, y12⟩ := HL.out V' hV; exact exec_load_brain rfl y0
    simp only [Act.put, List.setIfInBounds_toArray, List.set_cons_zero, List.set_cons_succ]
    refine takeT (i := 14) (v := ?_) rfl (by kernel_rfl) (by kernel_rfl) (by kernel_rfl) (by kernel_rfl) (fun _ _ _ h => h) (by rfl) ?_ HB_4.out ?_
    rotate_left
    · intro V' hV; obtain ⟨y0, y1, y2, y3, y4, y5, y6, y7, y8, y9, y10, y11, y12⟩ := HL.out V' hV; go_simp <;> with_reducible rfl
    simp only [Act.put, List.setIfInBounds_toArray, List.set_cons_zero, List.set_cons_succ]
    refine takeT (i := 16) (v := brV p a) rfl (by kernel_rfl) (by kernel_rfl) (by kernel_rfl) (by kernel_rfl) (fun _ _ _ h => h) (by rfl) ?_ HB_4.out ?_
    · intro V' hV; obtain ⟨y0, y1, y2, y3, y4, y5, y6, y7, y8, y9, y10, y11, y12⟩ := HL.out V' hV; exact exec_load_brain rfl y0
    simp only [Act.put, List.setIfInBounds_toArray, List.set_cons_zero, List.set_cons_succ]
    refine takeT (i := 17) (v := ?_) rfl (by kernel_rfl) (by kernel_rfl) (by kernel_rfl) (by kernel_rfl) (fun _ _ _ h => h) (by rfl) ?_ HB_4.out ?_
    rotate_left
    · intro V' hV; obtain ⟨y0, y1, y2, y3, y4, y5, y6, y7, y8, y9, y10, y11, y12⟩ := HL.out V' hV; go_simp <;> with_reducible rfl
    simp only [Act.put, List.setIfInBounds_toArray, List.set_cons_zero, List.set_cons_succ]
    refine oneT (i := 15) rfl (by kernel_rfl) (by rfl) (fun K hK => ?_)
    go_simp
    refine (HC.out.isOld p a x U_4 (NU.out.under HB_4.out)).mono ?_
    rintro e U_5 ⟨rfl, hb_⟩
    have HB_5 := Lib.hid (show Below U.heap.size U U_5 from HB_4.out.trans (hb_.mono HB_4.out.size))
    clear hb_ HB_4
    refine hK.out _ _ (fun _ => HB_5.out) ?_
    clear hK K
    refine oneT (i := 18) rfl (by kernel_rfl) (by rfl) (fun K hK => ?_)
    go_simp
    refine (refIsOld_any p a x U_5).mono ?_
    rintro e U_6 ⟨rfl, hb_⟩
    have HB_6 := Lib.hid (show Below U.heap.size U U_6 from HB_5.out.trans (hb_.mono HB_5.out.size))
    clear hb_ HB_5
    refine hK.out _ _ (fun _ => HB_6.out) ?_
    clear hK K
    refine takeT (i := 19) (v := .bool true) rfl (by kernel_rfl) (by kernel_rfl) (by kernel_rfl) (by kernel_rfl) (fun _ _ _ h => h) (by rfl) ?_ HB_6.out ?_
    · intro V' hV; obtain ⟨y0, y1, y2, y3, y4, y5, y6, y7, y8, y9, y10, y11, y12⟩ := HL.out V' hV; go_simp
    simp only [Act.put, List.setIfInBounds_toArray, List.set_cons_zero, List.set_cons_succ]
    refine takeP (i := 20) (v := ?_) rfl (by kernel_rfl) (by kernel_rfl) (by kernel_rfl) (by kernel_rfl) (fun _ _ _ h => h) (by rfl) ?_ (fun _ => HB_6.out) ?_
    rotate_left
    · intro V'; go_simp <;> with_reducible rfl
    simp only [Act.put, List.setIfInBounds_toArray, List.set_cons_zero, List.set_cons_succ]
    refine takeP (i := 21) (v := ?_) rfl (by kernel_rfl) (by kernel_rfl) (by kernel_rfl) (by kernel_rfl) (fun _ _ _ h => h) (by rfl) ?_ (fun _ => HB_6.out) ?_
    rotate_left
    · intro V'; go_simp <;> with_reducible rfl
    simp only [Act.put, List.setIfInBounds_toArray, List.set_cons_zero, List.set_cons_succ]
    refine takeT (i := 22) (v := brV p a) rfl (by kernel_rfl) (by kernel_rfl) (by kernel_rfl) (by kernel_rfl) (fun _ _ _ h => h) (by rfl) ?_ HB_6.out ?_
    · intro V' hV; obtain ⟨y0, y1, y2, y3, y4, y5, y6, y7, y8, y9, y10, y11, y12⟩ := HL.out V' hV; exact exec_load_brain rfl y0
    simp only [Act.put, List.setIfInBounds_toArray, List.set_cons_zero, List.set_cons_succ]
    refine takeT (i := 23) (v := ?_) rfl (by kernel_rfl) (by kernel_rfl) (by kernel_rfl) (by kernel_rfl) (fun _ _ _ h => h) (by rfl) ?_ HB_6.out ?_
    rotate_left
    · intro V' hV; obtain ⟨y0, y1, y2, y3, y4, y5, y6, y7, y8, y9, y10, y11, y12⟩ := HL.out V' hV; go_simp <;> with_reducible rfl
    simp only [Act.put, List.setIfInBounds_toArray, List.set_cons_zero, List.set_cons_succ]
    refine takeT (i := 25) (v := brV p a) rfl (by kernel_rfl) (by kernel_rfl) (by kernel_rfl) (by kernel_rfl) (fun _ _ _ h => h) (by rfl) ?_ HB_6.out ?_
    · intro V' hV; obtain ⟨y0, y1, y2, y3, y4, y5, y6, y7, y8, y9, y10, y11, y12⟩ := HL.out V' hV; exact exec_load_brain rfl y0
    simp only [Act.put, List.setIfInBounds_toArray, List.set_cons_zero, List.set_cons_succ]
    refine takeT (i := 26) (v := ?_) rfl (by kernel_rfl) (by kernel_rfl) (by kernel_rfl) (by kernel_rfl) (fun _ _ _ h => h) (by rfl) ?_ HB_6.out ?_
    rotate_left
    · intro V' hV; obtain ⟨y0, y1, y2, y3, y4, y5, y6, y7, y8, y9, y10, y11, y12⟩ := HL.out V' hV; go_simp <;> with_reducible rfl
    simp only [Act.put, List.setIfInBounds_toArray, List.set_cons_zero, List.set_cons_succ]
    refine oneT (i := 24) rfl (by kernel_rfl) (by rfl) (fun K hK => ?_)
    go_simp
    refine (HC.out.meant p a y U_6 (NU.out.under HB_6.out)).mono ?_
    rintro e U_7 ⟨rfl, hb_⟩
    have HB_7 := Lib.hid (show Below U.heap.size U U_7 from HB_6.out.trans (hb_.mono HB_6.out.size))
    clear hb_ HB_6
    refine hK.out _ _ (fun _ => HB_7.out) ?_
    clear hK K
    refine oneT (i := 27) rfl (by kernel_rfl) (by rfl) (fun K hK => ?_)
    go_simp
    refine (refMeant_any p a y U_7).mono ?_
    rintro e U_8 ⟨rfl, hb_⟩
    have HB_8 := Lib.hid (show Below U.heap.size U U_8 from HB_7.out.trans (hb_.mono HB_7.out.size))
    clear hb_ HB_7
    refine hK.out _ _ (fun _ => HB_8.out) ?_
    clear hK K
    refine takeT (i := 28) (v := .bool true) rfl (by kernel_rfl) (by kernel_rfl) (by kernel_rfl) (by kernel_rfl) (fun _ _ _ h => h) (by rfl) ?_ HB_8.out ?_
    · intro V' hV; obtain ⟨y0, y1, y2, y3, y4, y5, y6, y7, y8, y9, y10, y11, y12⟩ := HL.out V' hV; go_simp
    simp only [Act.put, List.setIfInBounds_toArray, List.set_cons_zero, List.set_cons_succ]
    refine takeP (i := 29) (v := ?_) rfl (by kernel_rfl) (by kernel_rfl) (by kernel_rfl) (by kernel_rfl) (fun _ _ _ h => h) (by rfl) ?_ (fun _ => HB_8.out) ?_
    rotate_left
    · intro V'; go_simp <;> with_reducible rfl
    simp only [Act.put, List.setIfInBounds_toArray, List.set_cons_zero, List.set_cons_succ]
    refine takeP (i := 30) (v := ?_) rfl (by kernel_rfl) (by kernel_rfl) (by kernel_rfl) (by kernel_rfl) (fun _ _ _ h => h) (by rfl) ?_ (fun _ => HB_8.out) ?_
    rotate_left
    · intro V'; go_simp <;> with_reducible rfl
    simp only [Act.put, List.setIfInBounds_toArray, List.set_cons_zero, List.set_cons_succ]
    refine takeT (i := 31) (v := brV p a) rfl (by kernel_rfl) (by kernel_rfl) (by kernel_rfl) (by kernel_rfl) (fun _ _ _ h => h) (by rfl) ?_ HB_8.out ?_
    · intro V' hV; obtain ⟨y0, y1, y2, y3, y4, y5, y6, y7, y8, y9, y10, y11, y12⟩ := HL.out V' hV; exact exec_load_brain rfl y0
    simp only [Act.put, List.setIfInBounds_toArray, List.set_cons_zero, List.set_cons_succ]
    refine takeT (i := 33) (v := brV p a) rfl (by kernel_rfl) (by kernel_rfl) (by kernel_rfl) (by kernel_rfl) (fun _ _ _ h => h) (by rfl) ?_ HB_8.out ?_
    · intro V' hV; obtain ⟨y0, y1, y2, y3, y4, y5, y6, y7, y8, y9, y10, y11, y12⟩ := HL.out V' hV; exact exec_load_brain rfl y0
    simp only [Act.put, List.setIfInBounds_toArray, List.set_cons_zero, List.set_cons_succ]
    refine oneT (i := 32) rfl (by kernel_rfl) (by rfl) (fun K hK => ?_)
    go_simp
    refine (HC.out.zones p a U_8 (NU.out.under HB_8.out)).mono ?_
    rintro e U_9 ⟨A1, c1, rfl, hz1, hb_⟩
    have HZ1 := Lib.hid hz1
    clear hz1
    have HB_9 := Lib.hid (show Below U.heap.size U U_9 from HB_8.out.trans (hb_.mono HB_8.out.size))
    clear hb_ HB_8
    refine hK.out _ _ (fun _ => HB_9.out) ?_
    clear hK K
    refine oneT (i := 34) rfl (by kernel_rfl) (by rfl) (fun K hK => ?_)
    go_simp
    refine (refZones_any p a _ U_9 (NU.out.under HB_9.out).rd (Nat.le_refl _) (NU.out.under HB_9.out).its (NU.out.under HB_9.out).kps).mono ?_
    rintro e U_10 ⟨A2, c2, rfl, hz2, hb_⟩
    have HZ2 := Lib.hid hz2
    have HZ3 := Lib.hid ((HZ1.out.below hb_).more hb_.size)
    clear hz2 HZ1
    have HB_10 := Lib.hid (show Below U.heap.size U U_10 from HB_9.out.trans (hb_.mono HB_9.out.size))
    clear hb_ HB_9
    refine hK.out _ _ (fun _ => HB_10.out) ?_
    clear hK K
    refine oneT (i := 35) rfl (by kernel_rfl) (by rfl) (fun K hK => ?_)
    go_simp
    refine (ints15_any A1 A2 c1 c2 (zonesB p) U_10 HZ3.out HZ2.out (by have := zK_len p p.kps.length; rw [zK_end] at this; have h1 := NU.out.its; have h2 := NU.out.kps; omega)).mono ?_
    rintro e U_11 ⟨rfl, hb_⟩
    have HB_11 := Lib.hid (show Below U.heap.size U U_11 from HB_10.out.trans (hb_.mono HB_10.out.size))
    clear hb_ HB_10
    refine hK.out _ _ (fun _ => HB_11.out) ?_
    clear hK K
    refine takeP (i := 36) (v := ?_) rfl (by kernel_rfl) (by kernel_rfl) (by kernel_rfl) (by kernel_rfl) (fun _ _ _ h => h) (by rfl) ?_ (fun _ => HB_11.out) ?_
    rotate_left
    · intro V'; go_simp <;> with_reducible rfl
    simp only [Act.put, List.setIfInBounds_toArray, List.set_cons_zero, List.set_cons_succ]
    refine takeP (i := 37) (v := ?_) rfl (by kernel_rfl) (by kernel_rfl) (by kernel_rfl) (by kernel_rfl) (fun _ _ _ h => h) (by rfl) ?_ (fun _ => HB_11.out) ?_
    rotate_left
    · intro V'; go_simp <;> with_reducible rfl
    simp only [Act.put, List.setIfInBounds_toArray, List.set_cons_zero, List.set_cons_succ]
    refine takeT (i := 38) (v := brV p a) rfl (by kernel_rfl) (by kernel_rfl) (by kernel_rfl) (by kernel_rfl) (fun _ _ _ h => h) (by rfl) ?_ HB_11.out ?_
    · intro V' hV; obtain ⟨y0, y1, y2, y3, y4, y5, y6, y7, y8, y9, y10, y11, y12⟩ := HL.out V' hV; exact exec_load_brain rfl y0
    simp only [Act.put, List.setIfInBounds_toArray, List.set_cons_zero, List.set_cons_succ]
    refine takeT (i := 40) (v := brV p a) rfl (by kernel_rfl) (by kernel_rfl) (by kernel_rfl) (by kernel_rfl) (fun _ _ _ h => h) (by rfl) ?_ HB_11.out ?_
    · intro V' hV; obtain ⟨y0, y1, y2, y3, y4, y5, y6, y7, y8, y9, y10, y11, y12⟩ := HL.out V' hV; exact exec_load_brain rfl y0
    simp only [Act.put, List.setIfInBounds_toArray, List.set_cons_zero, List.set_cons_succ]
    refine oneT (i := 39) rfl (by kernel_rfl) (by rfl) (fun K hK => ?_)
    go_simp
    refine (HC.out.full p a U_11 (NU.out.under HB_11.out)).mono ?_
    rintro e U_12 ⟨rfl, hb_⟩
    have HB_12 := Lib.hid (show Below U.heap.size U U_12 from HB_11.out.trans (hb_.mono HB_11.out.size))
    clear hb_ HB_11
    refine hK.out _ _ (fun _ => HB_12.out) ?_
    clear hK K
    refine oneT (i := 41) rfl (by kernel_rfl) (by rfl) (fun K hK => ?_)
    go_simp
    refine (refFull_any p a _ U_12 (NU.out.under HB_12.out).rd (Nat.le_refl _) (NU.out.under HB_12.out).its (NU.out.under HB_12.out).kps (NU.out.under HB_12.out).ms).mono ?_
    rintro e U_13 ⟨rfl, hb_⟩
    have HB_13 := Lib.hid (show Below U.heap.size U U_13 from HB_12.out.trans (hb_.mono HB_12.out.size))
    clear hb_ HB_12
    refine hK.out _ _ (fun _ => HB_13.out) ?_
    clear hK K
    refine takeT (i := 42) (v := .bool true) rfl (by kernel_rfl) (by kernel_rfl) (by kernel_rfl) (by kernel_rfl) (fun _ _ _ h => h) (by rfl) ?_ HB_13.out ?_
    · intro V' hV; obtain ⟨y0, y1, y2, y3, y4, y5, y6, y7, y8, y9, y10, y11, y12⟩ := HL.out V' hV; go_simp
    simp only [Act.put, List.setIfInBounds_toArray, List.set_cons_zero, List.set_cons_succ]
    refine takeP (i := 43) (v := ?_) rfl (by kernel_rfl) (by kernel_rfl) (by kernel_rfl) (by kernel_rfl) (fun _ _ _ h => h) (by rfl) ?_ (fun _ => HB_13.out) ?_
    rotate_left
    · intro V'; go_simp <;> with_reducible rfl
    simp only [Act.put, List.setIfInBounds_toArray, List.set_cons_zero, List.set_cons_succ]
    refine takeP (i := 44) (v := ?_) rfl (by kernel_rfl) (by kernel_rfl) (by kernel_rfl) (by kernel_rfl) (fun _ _ _ h => h) (by rfl) ?_ (fun _ => HB_13.out) ?_
    rotate_left
    · intro V'; go_simp <;> with_reducible rfl
    simp only [Act.put, List.setIfInBounds_toArray, List.set_cons_zero, List.set_cons_succ]
    refine oneT (i := 45) rfl (by kernel_rfl) (by rfl) (fun K hK => ?_)
    go_simp
    refine (wakes15_any HC.out U_13 (T1.out.under HB_13.out)).mono ?_
    rintro e U_14 ⟨rfl, hb_⟩
    have HB_14 := Lib.hid (show Below U.heap.size U U_14 from HB_13.out.trans (hb_.mono HB_13.out.size))
    clear hb_ HB_13
    refine hK.out _ _ (fun _ => HB_14.out) ?_
    clear hK K
    refine takeP (i := 46) (v := ?_) rfl (by kernel_rfl) (by kernel_rfl) (by kernel_rfl) (by kernel_rfl) (fun _ _ _ h => h) (by rfl) ?_ (fun _ => HB_14.out) ?_
    rotate_left
    · intro V'; go_simp <;> with_reducible rfl
    simp only [Act.put, List.setIfInBounds_toArray, List.set_cons_zero, List.set_cons_succ]
    refine oneT (i := 47) rfl (by kernel_rfl) (by rfl) (fun K hK => ?_)
    go_simp
    refine hK.out _ _ (fun _ => HB_14.out) ?_
    clear hK K
    refine doneT (by kernel_rfl) ?_ _
    have HBx := Lib.hid (HBU.out.trans (HB_14.out.mono HBU.out.size))
    go_wp2_with fail
    go_ret
    exact ⟨rfl, HBx.out⟩

end Go.Proofs.YtplejbgecihnpaaDoor

/-
  What each statement over brains says at its end. Conditions: those that each theorem names.
-/
namespace Go.Proofs.YtplejbgecihnpaaDoor
open Go.RowKit Go.Shelf

set_option maxRecDepth 100000 in
theorem wp_storeB {K : Act → World → Prop} {o : Oper} {a : Act} {w : World} {Q : Exit → Act → World → Prop} (x y : Operand) (ho : o.op = .store 30 x y) (g : Nat) (p : Br) (ad : Ad) (old : Array Value) (hs : old.size = 27)
    (hx : a.eval x = .pointer (some ⟨g, 0, none⟩)) (hy : a.eval y = brV p ad) (hW : Whole w g 30 old) (h : ∀ W2, W2 = w.setRow g (brC p ad) → K (a.put o.dst undef) W2) : o.wp Tryd.prog a w K Q := by
  refine wp_store_at 30 x y ho g 0 (brC p ad) hx hy 30 old hW (by kernel_rfl) (by rw [hs]; exact Nat.le_refl _) (by simp [Value.oneCell']) (h _ ?_)
  have e : old.toList.drop (0 + (brC p ad).size) = [] := List.drop_of_length_le (by rw [Array.length_toList, hs]; exact Nat.le_refl _)
  rw [e]
  simp
def q2 : Br := allB br0 [((1 : Nat), []), ((1 : Nat), [])]
def q3 : Br := applyB br0 (3 : Nat) [1, 0, 0]
def d4 : Br := allB br0 [((2 : Nat), gZ), ((3 : Nat), [4, 1, 0]), ((4 : Nat), [1, 7, 30]), ((6 : Nat), [7, 2, 31]), ((6 : Nat), [7, 4, 32]), ((8 : Nat), [3, 0, 9, 0, 33])]
def k0_ : Kp := ⟨3, 0, 9, 0, 8, 33, false, false⟩
def k1_ : Kp := ⟨7, 1, 4, 1, 2, 31, false, false⟩
set_option maxRecDepth 100000 in
theorem d4_kps : d4.kps = [k0_, k1_] := by kernel_rfl
set_option maxRecDepth 100000 in
theorem d4_its : d4.its = [] := by kernel_rfl
set_option maxRecDepth 100000 in
theorem d4_sq : d4.sq = 1 := by kernel_rfl
set_option maxRecDepth 100000 in
theorem d4_set : d4.set = true := by kernel_rfl
set_option maxRecDepth 100000 in
theorem d4_ms : d4.cf.ms = [] := by kernel_rfl
set_option maxRecDepth 100000 in
theorem q2_ep : q2.ep = 2 := by kernel_rfl
set_option maxRecDepth 100000 in
theorem q3_its : q3.its = [] := by kernel_rfl
set_option maxRecDepth 100000 in
theorem good0 : Good 400 br0 := ⟨by decide, by decide, by decide, by simp [br0]⟩
set_option maxRecDepth 100000 in
theorem slNil (a : Act) (w : World) : SlIs [] (a.eval (.const (.slice none 0 0))) w := ⟨none, 0, rfl, Rd.nil_ _ _ _, Nat.le_refl _, Nat.zero_le _⟩
set_option maxRecDepth 100000 in
theorem own0 (w : World) : OwB 0 w br0 ad0 := ⟨World.ownsRow_nil _ _ _ _, ItsAt.nil_ _ _, KpsAt.nil_ _ _⟩

end Go.Proofs.YtplejbgecihnpaaDoor
