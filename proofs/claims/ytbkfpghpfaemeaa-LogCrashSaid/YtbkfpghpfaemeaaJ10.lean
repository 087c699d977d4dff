/-
  Texts that the walks of the statements over logs lean on, joined (LogWakes, LogUse, RowsOpen, DiskOpen). Conditions: those that each theorem names.
-/
import Derived.Test.YtbkfpghpfaemeaaJ2
import Derived.Test.YtbkfpghpfaemeaaJ3
import Derived.Test.YtbkfpghpfaemeaaJ9
import Derived.Deep.Matrix

/-
  The walk of 'wakes', what the statements over logs always try: it answers true, and nothing that was there turns. Conditions: none.
-/
namespace Go.Proofs.Ytbkfpghpfaemeaa
open Go.RowKit Go.Shelf

abbrev recO (k : Nat) : Obj := .cells #[.int .u8 (k : Int), .slice none 0 0] 43

/-- What the statements' own records and the disk's box hold. -/
structure WkAt (w : World) (b : Nat) (A : Option Addr) (n c : Nat) (bs : List Nat) (s : Nat) (W : World) : Prop where
  below : Below w.heap.size w W
  le : w.heap.size ≤ b
  lt : b + 3 ≤ W.heap.size
  disk : Whole W b 24 #[.slice A n c, .int .i64 s, .int .i64 (200 : Nat)]
  boot : Whole W (b + 1) 43 #[.int .u8 (1 : Nat), .slice none 0 0]
  done : Whole W (b + 1 + 1) 43 #[.int .u8 (16 : Nat), .slice none 0 0]
  rd : Rd W W.heap.size A n (bv bs)
  cap : n ≤ c
theorem WkAt.under {w : World} {b : Nat} {A : Option Addr} {n c : Nat} {bs : List Nat} {s : Nat} {W W' : World} (h : WkAt w b A n c bs s W) (hb : Below W.heap.size W W') : WkAt w b A n c bs s W' :=
  ⟨h.below.trans (hb.mono h.below.size), h.le, Nat.le_trans h.lt hb.size, h.disk.under hb, h.boot.under hb, h.done.under hb, (h.rd.below hb).more hb.size, h.cap⟩
theorem WkAt.store {w : World} {b : Nat} {A : Option Addr} {n c : Nat} {bs : List Nat} {s : Nat} {W W' : World} (h : WkAt w b A n c bs s W) (hb : Below W.heap.size W W') {A' : Option Addr} {n' c' : Nat} {bs' : List Nat} (s' : Nat) (ho : W'.ownsRow W.heap.size 5 1 (.slice A' n' c') n' (bv bs')) :
    WkAt w b A' n' c' bs' s' (setDisk W' b (.slice A' n' c') (.int .i64 s') (.int .i64 (200 : Nat))) := by
  have h1 := h.under hb
  have hlt := h.lt
  refine ⟨below_setDisk h1.below h.le _ _ _, h.le, by have := h1.lt; simpa [setDisk, World.setCell] using this, h1.disk.disk _ _ _, h1.boot.farDisk (by omega) _ _ _, h1.done.farDisk (by omega) _ _ _, ?_, own_cap ho⟩
  have h2 := Rd.of_own (own_setDisk ho (b := b) (by omega) (.slice A' n' c') (.int .i64 s') (.int .i64 (200 : Nat)))
  exact h2

set_option maxRecDepth 100000 in
set_option maxHeartbeats 8000000 in
theorem wakesL_any (w : World) : Calls Try.prog 9 #[] w (WakePost w) := by
  go_enter Try.func9, Try.ntmps9
  go_wp2_with fail
  refine wl_scan.mono ?_
  rintro e w1 ⟨⟨A0, c0, rfl⟩, b1⟩
  go_wp2_with fail
  refine wl_new.mono ?_
  rintro e w2 ⟨A1, c1, rfl, o1, b2⟩
  have hb2 : Below w.heap.size w w2 := b1.trans (b2.mono b1.size)
  have HW2 : Hid (WkAt w w2.heap.size A1 0 c1 [] 0 (((w2.alloc (diskB A1 0 c1 (0 : Nat) (200 : Nat))).alloc (recO 1)).alloc (recO 16))) := by
    have e1 := (Whole.new w2 24 #[.slice A1 0 c1, .int .i64 (0 : Nat), .int .i64 (200 : Nat)])
    have e2 := (Whole.new (w2.alloc (diskB A1 0 c1 (0 : Nat) (200 : Nat))) 43 #[.int .u8 (1 : Nat), .slice none 0 0])
    have e3 := (Whole.new ((w2.alloc (diskB A1 0 c1 (0 : Nat) (200 : Nat))).alloc (recO 1)) 43 #[.int .u8 (16 : Nat), .slice none 0 0])
    simp only [World.size_alloc] at e1 e2 e3
    exact ⟨((hb2.alloc hb2.size _).alloc (by have := hb2.size; simp; omega) _).alloc (by have := hb2.size; simp; omega) _, hb2.size, by simp, (e1.alloc _).alloc _, e2.alloc _, e3, rd_nil _ _ _, Nat.zero_le _⟩
  have HA1 := Lib.hid (rdR_one (((w2.alloc (diskB A1 0 c1 (0 : Nat) (200 : Nat))).alloc (recO 1)).alloc (recO 16)) ⟨1, none, 0, 0, []⟩ 0 (Nat.zero_le _) (by show 1 < 256; omega) ⟨rfl, fun h => absurd h (by simp)⟩ (w2.heap.size + 1 + 1 + 1) (by simp))
  clear b1 b2 o1 hb2
  go_wp2_with fail
  refine (wl_add1 (rd_nil _ _ _) (HA1.out.more (by simp))).mono ?_
  rintro e w3 ⟨A3, c3, rfl, o3, d3⟩
  clear HA1
  have hd3 := ((Below.refl _ (((w2.alloc (diskB A1 0 c1 (0 : Nat) (200 : Nat))).alloc (recO 1)).alloc (recO 16))).alloc (Nat.le_refl _) (recO 1)).trans (d3.mono (by simp))
  have hx3 := HW2.out.under hd3
  obtain ⟨x0, x1, x2⟩ := hx3.disk.cells3
  have f0 := hx3.disk.frozen 0
  have f1 := hx3.disk.frozen 1
  have f2 := hx3.disk.frozen 2
  have HW3 := Lib.hid (HW2.out.store hd3 0 (own_weaker o3 (by simp)))
  clear hx3 hd3 d3 o3 HW2
  go_wp2_with fail
  obtain ⟨W3, hW3⟩ : ∃ W, setDisk w3 w2.heap.size (.slice A3 7 c3) (.int .i64 (0 : Nat)) (.int .i64 (200 : Nat)) = W := ⟨_, rfl⟩
  rw [hW3] at HW3
  have HS3 : Hid (W3.heap.size = w3.heap.size) := by rw [← hW3]; exact Lib.hid (by simp [setDisk, World.setCell])
  have hW3' : ((w3.setCell ⟨w2.heap.size, 0, none⟩ (.slice A3 7 c3)).setCell ⟨w2.heap.size, 1, none⟩ (.int .i64 0)).setCell ⟨w2.heap.size, 2, none⟩ (.int .i64 200) = W3 := hW3
  rw [hW3']
  clear hW3 hW3' x0 x1 x2 f0 f1 f2
  refine (wl_sync HW3.out.rd HW3.out.cap).mono ?_
  rintro e w4 ⟨A4, c4, rfl, o4, d4⟩
  have hx4 := HW3.out.under d4
  obtain ⟨x0, x1, x2⟩ := hx4.disk.cells3
  have f0 := hx4.disk.frozen 0
  have f1 := hx4.disk.frozen 1
  have f2 := hx4.disk.frozen 2
  have y0 : w4.cell? ⟨w2.heap.size + 1 + 1, 0, none⟩ = some (.int .u8 16) := hx4.done.cell 0
  have y1 : w4.cell? ⟨w2.heap.size + 1 + 1, 1, none⟩ = some (.slice none 0 0) := hx4.done.cell 1
  have HW4 := Lib.hid (HW3.out.store d4 7 o4)
  clear hx4 d4 o4 HW3
  go_wp2_with fail
  obtain ⟨W4, hW4⟩ : ∃ W, setDisk w4 w2.heap.size (.slice A4 7 c4) (.int .i64 (7 : Nat)) (.int .i64 (200 : Nat)) = W := ⟨_, rfl⟩
  rw [hW4] at HW4
  have HS4 : Hid (W4.heap.size = w4.heap.size) := by rw [← hW4]; exact Lib.hid (by simp [setDisk, World.setCell])
  have hW4' : ((w4.setCell ⟨w2.heap.size, 0, none⟩ (.slice A4 7 c4)).setCell ⟨w2.heap.size, 1, none⟩ (.int .i64 7)).setCell ⟨w2.heap.size, 2, none⟩ (.int .i64 200) = W4 := hW4
  rw [hW4']
  clear y0 y1 hW4 hW4' x0 x1 x2 f0 f1 f2
  have hA4 := (Below.refl W4.heap.size W4).alloc (Nat.le_refl _) (.cells #[.int .u8 (16 : Nat), .slice none 0 0, .int .u8 (16 : Nat), .slice none 0 0] 43)
  have hR4 := rdR_two W4 ⟨16, none, 0, 0, []⟩ ⟨16, none, 0, 0, []⟩ 0 (Nat.zero_le _) (by show 16 < 256; omega) ⟨rfl, fun h => absurd h (by simp)⟩ (by show 16 < 256; omega) ⟨rfl, fun h => absurd h (by simp)⟩ w4.heap.size HS4.out
  refine (wl_add2 (HW4.out.under hA4).rd HW4.out.cap (hR4.more (by rw [← HS4.out]; simp))).mono ?_
  rintro e w5 ⟨A5, c5, rfl, o5, d5⟩
  have hd5 := hA4.trans (d5.mono (by simp))
  have hx5 := HW4.out.under hd5
  obtain ⟨x0, x1, x2⟩ := hx5.disk.cells3
  have f0 := hx5.disk.frozen 0
  have f1 := hx5.disk.frozen 1
  have f2 := hx5.disk.frozen 2
  have HW5 := Lib.hid (HW4.out.store hd5 7 (own_weaker o5 (by simp)))
  clear hx5 hd5 d5 o5 HW4 hA4 hR4
  go_wp2_with fail
  obtain ⟨W5, hW5⟩ : ∃ W, setDisk w5 w2.heap.size (.slice A5 21 c5) (.int .i64 (7 : Nat)) (.int .i64 (200 : Nat)) = W := ⟨_, rfl⟩
  rw [hW5] at HW5
  have HS5 : Hid (W5.heap.size = w5.heap.size) := by rw [← hW5]; exact Lib.hid (by simp [setDisk, World.setCell])
  have hW5' : ((w5.setCell ⟨w2.heap.size, 0, none⟩ (.slice A5 21 c5)).setCell ⟨w2.heap.size, 1, none⟩ (.int .i64 7)).setCell ⟨w2.heap.size, 2, none⟩ (.int .i64 200) = W5 := hW5
  rw [hW5']
  clear hW5 hW5' x0 x1 x2 f0 f1 f2
  refine (wl_crash HW5.out.rd HW5.out.cap).mono ?_
  rintro e w6 ⟨A6, c6, rfl, o6, d6⟩
  have HW6 := Lib.hid (HW5.out.under d6)
  have hR6 := Rd.of_own o6
  have hC6 := own_cap o6
  clear d6 o6 HW5
  go_wp2_with fail
  refine (wl_open8 hR6 hC6).mono ?_
  rintro e w7 ⟨⟨A7, c7, Al7, cl7, rfl⟩, d7⟩
  have hA7 := d7.alloc d7.size (diskB A7 7 c7 (7 : Nat) (200 : Nat))
  have HW7 := Lib.hid (HW6.out.under hA7)
  have HX7 := Lib.hid (Whole.new w7 24 #[.slice A7 7 c7, .int .i64 (7 : Nat), .int .i64 (200 : Nat)])
  have x0 : (w7.alloc (.cells #[.slice A7 7 c7, .int .i64 7, .int .i64 200] 24)).cell? ⟨w2.heap.size, 0, none⟩ = some (.slice A5 21 c5) := HW7.out.disk.cell 0
  have x1 : (w7.alloc (.cells #[.slice A7 7 c7, .int .i64 7, .int .i64 200] 24)).cell? ⟨w2.heap.size, 1, none⟩ = some (.int .i64 7) := HW7.out.disk.cell 1
  have x2 : (w7.alloc (.cells #[.slice A7 7 c7, .int .i64 7, .int .i64 200] 24)).cell? ⟨w2.heap.size, 2, none⟩ = some (.int .i64 200) := HW7.out.disk.cell 2
  clear d7 hA7 hR6 hC6 HW6
  go_wp2_with fail
  refine (wl_open HW7.out.rd HW7.out.cap).mono ?_
  rintro e w8 ⟨⟨A8, c8, Al8, cl8, rfl⟩, d8⟩
  have hA8 := d8.alloc d8.size (diskB A8 21 c8 (21 : Nat) (200 : Nat))
  have HW8 := Lib.hid (HW7.out.under hA8)
  have HX8 := Lib.hid (HX7.out.under hA8)
  clear x0 x1 x2
  have x0 : (w8.alloc (.cells #[.slice A8 21 c8, .int .i64 21, .int .i64 200] 24)).cell? ⟨w2.heap.size, 0, none⟩ = some (.slice A5 21 c5) := HW8.out.disk.cell 0
  have x1 : (w8.alloc (.cells #[.slice A8 21 c8, .int .i64 21, .int .i64 200] 24)).cell? ⟨w2.heap.size, 1, none⟩ = some (.int .i64 7) := HW8.out.disk.cell 1
  have x2 : (w8.alloc (.cells #[.slice A8 21 c8, .int .i64 21, .int .i64 200] 24)).cell? ⟨w2.heap.size, 2, none⟩ = some (.int .i64 200) := HW8.out.disk.cell 2
  clear d8 hA8 HW7 HX7
  have hA9 := (Below.refl _ (w8.alloc (diskB A8 21 c8 (21 : Nat) (200 : Nat)))).alloc (Nat.le_refl _) (recO 0)
  have hR9 := rdR_one (w8.alloc (diskB A8 21 c8 (21 : Nat) (200 : Nat))) ⟨0, none, 0, 0, []⟩ 0 (Nat.zero_le _) (by show 0 < 256; omega) ⟨rfl, fun h => absurd h (by simp)⟩ (w8.heap.size + 1) (by simp)
  have HR9 := Lib.hid hR9
  have HA9 := Lib.hid hA9
  clear hA9 hR9
  go_wp2_with fail
  refine (wl_addz (HW8.out.under HA9.out).rd HW8.out.cap (HR9.out.more (by simp))).mono ?_
  rintro e w9 ⟨⟨A9, c9, rfl⟩, d9⟩
  have hd9 := HA9.out.trans (d9.mono (by simp))
  have hE9 := hd9.alloc hd9.size (diskB A9 21 c9 (7 : Nat) (200 : Nat))
  have HW9 := Lib.hid (HW8.out.under hE9)
  have HX9 := Lib.hid (HX8.out.under hE9)
  clear x0 x1 x2 d9 hd9 hE9 HW8 HX8 HR9 HA9
  have e0 : (0 == (0 : Int)) = true := by decide
  go_wp2_with fail
  obtain ⟨W0, hW0⟩ : ∃ W, w9.alloc (.cells #[.slice A9 21 c9, .int .i64 7, .int .i64 200] 24) = W := ⟨_, rfl⟩
  have HW0 : Hid (WkAt w w2.heap.size A5 21 c5 (lbytes L3) 7 W0) := by rw [← hW0]; exact HW9
  have HX0 : Hid (Whole W0 w7.heap.size 24 #[.slice A7 7 c7, .int .i64 (7 : Nat), .int .i64 (200 : Nat)]) := by rw [← hW0]; exact HX9
  rw [hW0]
  clear hW0 HW9 HX9
  have HL : Hid (∀ W, Below W0.heap.size W0 W → W.cell? ⟨w2.heap.size, 0, none⟩ = some (.slice A5 21 c5) ∧ W.cell? ⟨w2.heap.size, 1, none⟩ = some (.int .i64 7) ∧ W.cell? ⟨w2.heap.size, 2, none⟩ = some (.int .i64 200) ∧
      W.cell? ⟨w7.heap.size, 0, none⟩ = some (.slice A7 7 c7) ∧ W.cell? ⟨w7.heap.size, 1, none⟩ = some (.int .i64 7) ∧ W.cell? ⟨w7.heap.size, 2, none⟩ = some (.int .i64 200) ∧
      W.cell? ⟨w2.heap.size + 1, 0, none⟩ = some (.int .u8 1) ∧ W.cell? ⟨w2.heap.size + 1, 1, none⟩ = some (.slice none 0 0) ∧ Rd W W.heap.size A5 21 (bv (lbytes L3)) ∧ Below w.heap.size w W) := fun W hW => by
    have g := HW0.out.under hW
    have g3 := (HX0.out.under hW)
    exact ⟨g.disk.cell 0, g.disk.cell 1, g.disk.cell 2, g3.cell 0, g3.cell 1, g3.cell 2, g.boot.cell 0, g.boot.cell 1, g.rd, g.below⟩
  have HCap := Lib.hid HW0.out.cap
  have HC := Lib.hid ((Below.refl W0.heap.size W0).drew)
  clear HW0 HX0
  refine wp_region_held_drew (S := fun W => Below W0.heap.size W0 W) (by kernel_rfl) HC.out (fun _ => ?_)
  refine takeH (i := 0) (v := ?_) rfl (by kernel_rfl) (by kernel_rfl) (by kernel_rfl) (fun _ _ _ h => h) (by rfl) ?_ HC.out ?_
  rotate_left
  · intro W hW; obtain ⟨L0, L1, L2, M0, M1, M2, N0, N1, RA, BA⟩ := HL.out W hW; go_simp <;> with_reducible rfl
  simp only [Act.put, List.setIfInBounds_toArray, List.set_cons_zero, List.set_cons_succ]
  refine takeH (i := 1) (v := ?_) rfl (by kernel_rfl) (by kernel_rfl) (by kernel_rfl) (fun _ _ _ h => h) (by rfl) ?_ HC.out ?_
  rotate_left
  · intro W hW; obtain ⟨L0, L1, L2, M0, M1, M2, N0, N1, RA, BA⟩ := HL.out W hW; go_simp <;> with_reducible rfl
  simp only [Act.put, List.setIfInBounds_toArray, List.set_cons_zero, List.set_cons_succ]
  refine takeH (i := 2) (v := ?_) rfl (by kernel_rfl) (by kernel_rfl) (by kernel_rfl) (fun _ _ _ h => h) (by rfl) ?_ HC.out ?_
  rotate_left
  · intro W hW; obtain ⟨L0, L1, L2, M0, M1, M2, N0, N1, RA, BA⟩ := HL.out W hW; go_simp <;> with_reducible rfl
  simp only [Act.put, List.setIfInBounds_toArray, List.set_cons_zero, List.set_cons_succ]
  refine takeH (i := 3) (v := ?_) rfl (by kernel_rfl) (by kernel_rfl) (by kernel_rfl) (fun _ _ _ h => h) (by rfl) ?_ HC.out ?_
  rotate_left
  · intro W hW; obtain ⟨L0, L1, L2, M0, M1, M2, N0, N1, RA, BA⟩ := HL.out W hW; go_simp <;> with_reducible rfl
  simp only [Act.put, List.setIfInBounds_toArray, List.set_cons_zero, List.set_cons_succ]
  refine takeH (i := 4) (v := ?_) rfl (by kernel_rfl) (by kernel_rfl) (by kernel_rfl) (fun _ _ _ h => h) (by rfl) ?_ HC.out ?_
  rotate_left
  · intro W hW; obtain ⟨L0, L1, L2, M0, M1, M2, N0, N1, RA, BA⟩ := HL.out W hW; go_simp <;> with_reducible rfl
  simp only [Act.put, List.setIfInBounds_toArray, List.set_cons_zero, List.set_cons_succ]
  refine takeH (i := 5) (v := ?_) rfl (by kernel_rfl) (by kernel_rfl) (by kernel_rfl) (fun _ _ _ h => h) (by rfl) ?_ HC.out ?_
  rotate_left
  · intro W hW; obtain ⟨L0, L1, L2, M0, M1, M2, N0, N1, RA, BA⟩ := HL.out W hW; go_simp <;> with_reducible rfl
  simp only [Act.put, List.setIfInBounds_toArray, List.set_cons_zero, List.set_cons_succ]
  refine takeH (i := 6) (v := ?_) rfl (by kernel_rfl) (by kernel_rfl) (by kernel_rfl) (fun _ _ _ h => h) (by rfl) ?_ HC.out ?_
  rotate_left
  · intro W hW; obtain ⟨L0, L1, L2, M0, M1, M2, N0, N1, RA, BA⟩ := HL.out W hW; go_simp <;> with_reducible rfl
  simp only [Act.put, List.setIfInBounds_toArray, List.set_cons_zero, List.set_cons_succ]
  refine takeH (i := 7) (v := ?_) rfl (by kernel_rfl) (by kernel_rfl) (by kernel_rfl) (fun _ _ _ h => h) (by rfl) ?_ HC.out ?_
  rotate_left
  · intro W hW; obtain ⟨L0, L1, L2, M0, M1, M2, N0, N1, RA, BA⟩ := HL.out W hW; go_simp <;> with_reducible rfl
  simp only [Act.put, List.setIfInBounds_toArray, List.set_cons_zero, List.set_cons_succ]
  refine takeH (i := 8) (v := ?_) rfl (by kernel_rfl) (by kernel_rfl) (by kernel_rfl) (fun _ _ _ h => h) (by rfl) ?_ HC.out ?_
  rotate_left
  · intro W hW; obtain ⟨L0, L1, L2, M0, M1, M2, N0, N1, RA, BA⟩ := HL.out W hW; go_simp <;> with_reducible rfl
  simp only [Act.put, List.setIfInBounds_toArray, List.set_cons_zero, List.set_cons_succ]
  refine takeH (i := 9) (v := ?_) rfl (by kernel_rfl) (by kernel_rfl) (by kernel_rfl) (fun _ _ _ h => h) (by rfl) ?_ HC.out ?_
  rotate_left
  · intro W hW; obtain ⟨L0, L1, L2, M0, M1, M2, N0, N1, RA, BA⟩ := HL.out W hW; go_simp <;> with_reducible rfl
  simp only [Act.put, List.setIfInBounds_toArray, List.set_cons_zero, List.set_cons_succ]
  refine takeH (i := 10) (v := ?_) rfl (by kernel_rfl) (by kernel_rfl) (by kernel_rfl) (fun _ _ _ h => h) (by rfl) ?_ HC.out ?_
  rotate_left
  · intro W hW; obtain ⟨L0, L1, L2, M0, M1, M2, N0, N1, RA, BA⟩ := HL.out W hW; go_simp <;> with_reducible rfl
  simp only [Act.put, List.setIfInBounds_toArray, List.set_cons_zero, List.set_cons_succ]
  refine takeH (i := 11) (v := ?_) rfl (by kernel_rfl) (by kernel_rfl) (by kernel_rfl) (fun _ _ _ h => h) (by rfl) ?_ HC.out ?_
  rotate_left
  · intro W hW; obtain ⟨L0, L1, L2, M0, M1, M2, N0, N1, RA, BA⟩ := HL.out W hW; go_simp <;> with_reducible rfl
  simp only [Act.put, List.setIfInBounds_toArray, List.set_cons_zero, List.set_cons_succ]
  refine takeH (i := 12) (v := ?_) rfl (by kernel_rfl) (by kernel_rfl) (by kernel_rfl) (fun _ _ _ h => h) (by rfl) ?_ HC.out ?_
  rotate_left
  · intro W hW; obtain ⟨L0, L1, L2, M0, M1, M2, N0, N1, RA, BA⟩ := HL.out W hW; go_simp <;> with_reducible rfl
  simp only [Act.put, List.setIfInBounds_toArray, List.set_cons_zero, List.set_cons_succ]
  refine takeH (i := 13) (v := ?_) rfl (by kernel_rfl) (by kernel_rfl) (by kernel_rfl) (fun _ _ _ h => h) (by rfl) ?_ HC.out ?_
  rotate_left
  · intro W hW; obtain ⟨L0, L1, L2, M0, M1, M2, N0, N1, RA, BA⟩ := HL.out W hW; go_simp <;> with_reducible rfl
  simp only [Act.put, List.setIfInBounds_toArray, List.set_cons_zero, List.set_cons_succ]
  refine takeH (i := 14) (v := ?_) rfl (by kernel_rfl) (by kernel_rfl) (by kernel_rfl) (fun _ _ _ h => h) (by rfl) ?_ HC.out ?_
  rotate_left
  · intro W hW; obtain ⟨L0, L1, L2, M0, M1, M2, N0, N1, RA, BA⟩ := HL.out W hW; go_simp <;> with_reducible rfl
  simp only [Act.put, List.setIfInBounds_toArray, List.set_cons_zero, List.set_cons_succ]
  refine takeH (i := 15) (v := ?_) rfl (by kernel_rfl) (by kernel_rfl) (by kernel_rfl) (fun _ _ _ h => h) (by rfl) ?_ HC.out ?_
  rotate_left
  · intro W hW; obtain ⟨L0, L1, L2, M0, M1, M2, N0, N1, RA, BA⟩ := HL.out W hW; go_simp <;> with_reducible rfl
  simp only [Act.put, List.setIfInBounds_toArray, List.set_cons_zero, List.set_cons_succ]
  refine takeH (i := 16) (v := ?_) rfl (by kernel_rfl) (by kernel_rfl) (by kernel_rfl) (fun _ _ _ h => h) (by rfl) ?_ HC.out ?_
  rotate_left
  · intro W hW; obtain ⟨L0, L1, L2, M0, M1, M2, N0, N1, RA, BA⟩ := HL.out W hW; go_simp <;> with_reducible rfl
  simp only [Act.put, List.setIfInBounds_toArray, List.set_cons_zero, List.set_cons_succ]
  refine takeH (i := 17) (v := ?_) rfl (by kernel_rfl) (by kernel_rfl) (by kernel_rfl) (fun _ _ _ h => h) (by rfl) ?_ HC.out ?_
  rotate_left
  · intro W hW; obtain ⟨L0, L1, L2, M0, M1, M2, N0, N1, RA, BA⟩ := HL.out W hW; go_simp <;> with_reducible rfl
  simp only [Act.put, List.setIfInBounds_toArray, List.set_cons_zero, List.set_cons_succ]
  refine takeH (i := 18) (v := ?_) rfl (by kernel_rfl) (by kernel_rfl) (by kernel_rfl) (fun _ _ _ h => h) (by rfl) ?_ HC.out ?_
  rotate_left
  · intro W hW; obtain ⟨L0, L1, L2, M0, M1, M2, N0, N1, RA, BA⟩ := HL.out W hW; go_simp <;> with_reducible rfl
  simp only [Act.put, List.setIfInBounds_toArray, List.set_cons_zero, List.set_cons_succ]
  refine takeH (i := 19) (v := ?_) rfl (by kernel_rfl) (by kernel_rfl) (by kernel_rfl) (fun _ _ _ h => h) (by rfl) ?_ HC.out ?_
  rotate_left
  · intro W hW; obtain ⟨L0, L1, L2, M0, M1, M2, N0, N1, RA, BA⟩ := HL.out W hW; go_simp <;> with_reducible rfl
  simp only [Act.put, List.setIfInBounds_toArray, List.set_cons_zero, List.set_cons_succ]
  refine takeH (i := 20) (v := ?_) rfl (by kernel_rfl) (by kernel_rfl) (by kernel_rfl) (fun _ _ _ h => h) (by rfl) ?_ HC.out ?_
  rotate_left
  · intro W hW; obtain ⟨L0, L1, L2, M0, M1, M2, N0, N1, RA, BA⟩ := HL.out W hW; go_simp <;> with_reducible rfl
  simp only [Act.put, List.setIfInBounds_toArray, List.set_cons_zero, List.set_cons_succ]
  refine takeH (i := 21) (v := ?_) rfl (by kernel_rfl) (by kernel_rfl) (by kernel_rfl) (fun _ _ _ h => h) (by rfl) ?_ HC.out ?_
  rotate_left
  · intro W hW; obtain ⟨L0, L1, L2, M0, M1, M2, N0, N1, RA, BA⟩ := HL.out W hW; go_simp <;> with_reducible rfl
  simp only [Act.put, List.setIfInBounds_toArray, List.set_cons_zero, List.set_cons_succ]
  refine takeH (i := 22) (v := ?_) rfl (by kernel_rfl) (by kernel_rfl) (by kernel_rfl) (fun _ _ _ h => h) (by rfl) ?_ HC.out ?_
  rotate_left
  · intro W hW; obtain ⟨L0, L1, L2, M0, M1, M2, N0, N1, RA, BA⟩ := HL.out W hW; go_simp <;> with_reducible rfl
  simp only [Act.put, List.setIfInBounds_toArray, List.set_cons_zero, List.set_cons_succ]
  refine takeH (i := 23) (v := ?_) rfl (by kernel_rfl) (by kernel_rfl) (by kernel_rfl) (fun _ _ _ h => h) (by rfl) ?_ HC.out ?_
  rotate_left
  · intro W hW; obtain ⟨L0, L1, L2, M0, M1, M2, N0, N1, RA, BA⟩ := HL.out W hW; go_simp <;> with_reducible rfl
  simp only [Act.put, List.setIfInBounds_toArray, List.set_cons_zero, List.set_cons_succ]
  refine takeH (i := 24) (v := ?_) rfl (by kernel_rfl) (by kernel_rfl) (by kernel_rfl) (fun _ _ _ h => h) (by rfl) ?_ HC.out ?_
  rotate_left
  · intro W hW; obtain ⟨L0, L1, L2, M0, M1, M2, N0, N1, RA, BA⟩ := HL.out W hW; go_simp <;> with_reducible rfl
  simp only [Act.put, List.setIfInBounds_toArray, List.set_cons_zero, List.set_cons_succ]
  refine takeH (i := 25) (v := ?_) rfl (by kernel_rfl) (by kernel_rfl) (by kernel_rfl) (fun _ _ _ h => h) (by rfl) ?_ HC.out ?_
  rotate_left
  · intro W hW; obtain ⟨L0, L1, L2, M0, M1, M2, N0, N1, RA, BA⟩ := HL.out W hW; go_simp <;> with_reducible rfl
  simp only [Act.put, List.setIfInBounds_toArray, List.set_cons_zero, List.set_cons_succ]
  refine takeH (i := 26) (v := ?_) rfl (by kernel_rfl) (by kernel_rfl) (by kernel_rfl) (fun _ _ _ h => h) (by rfl) ?_ HC.out ?_
  rotate_left
  · intro W hW; obtain ⟨L0, L1, L2, M0, M1, M2, N0, N1, RA, BA⟩ := HL.out W hW; go_simp <;> with_reducible rfl
  simp only [Act.put, List.setIfInBounds_toArray, List.set_cons_zero, List.set_cons_succ]
  refine oneH (i := 27) rfl (by kernel_rfl) (by rfl) (fun K hK => ?_)
  go_simp
  obtain ⟨L0, L1, L2, M0, M1, M2, N0, N1, RA, BA⟩ := HL.out _ HC.out
  refine (wl_safe RA HCap.out).mono ?_
  rintro e w10 ⟨⟨A10, c10, rfl⟩, d10⟩
  have HC2 := Lib.hid (HC.out.trans (d10.mono HC.out.size))
  clear HC d10 L0 L1 L2 M0 M1 M2 N0 N1 RA BA
  have HC := HC2
  clear HC2
  refine hK.out _ _ HC.out (fun _ => ?_)
  clear hK K
  refine takeH (i := 28) (v := ?_) rfl (by kernel_rfl) (by kernel_rfl) (by kernel_rfl) (fun _ _ _ h => h) (by rfl) ?_ HC.out ?_
  rotate_left
  · intro W hW; obtain ⟨L0, L1, L2, M0, M1, M2, N0, N1, RA, BA⟩ := HL.out W hW; go_simp <;> with_reducible rfl
  simp only [Act.put, List.setIfInBounds_toArray, List.set_cons_zero, List.set_cons_succ]
  refine takeH (i := 29) (v := ?_) rfl (by kernel_rfl) (by kernel_rfl) (by kernel_rfl) (fun _ _ _ h => h) (by rfl) ?_ HC.out ?_
  rotate_left
  · intro W hW; obtain ⟨L0, L1, L2, M0, M1, M2, N0, N1, RA, BA⟩ := HL.out W hW; go_simp <;> with_reducible rfl
  simp only [Act.put, List.setIfInBounds_toArray, List.set_cons_zero, List.set_cons_succ]
  refine takeH (i := 30) (v := ?_) rfl (by kernel_rfl) (by kernel_rfl) (by kernel_rfl) (fun _ _ _ h => h) (by rfl) ?_ HC.out ?_
  rotate_left
  · intro W hW; obtain ⟨L0, L1, L2, M0, M1, M2, N0, N1, RA, BA⟩ := HL.out W hW; go_simp <;> with_reducible rfl
  simp only [Act.put, List.setIfInBounds_toArray, List.set_cons_zero, List.set_cons_succ]
  refine takeH (i := 31) (v := ?_) rfl (by kernel_rfl) (by kernel_rfl) (by kernel_rfl) (fun _ _ _ h => h) (by rfl) ?_ HC.out ?_
  rotate_left
  · intro W hW; obtain ⟨L0, L1, L2, M0, M1, M2, N0, N1, RA, BA⟩ := HL.out W hW; go_simp <;> with_reducible rfl
  simp only [Act.put, List.setIfInBounds_toArray, List.set_cons_zero, List.set_cons_succ]
  refine takeH (i := 32) (v := ?_) rfl (by kernel_rfl) (by kernel_rfl) (by kernel_rfl) (fun _ _ _ h => h) (by rfl) ?_ HC.out ?_
  rotate_left
  · intro W hW; obtain ⟨L0, L1, L2, M0, M1, M2, N0, N1, RA, BA⟩ := HL.out W hW; go_simp <;> with_reducible rfl
  simp only [Act.put, List.setIfInBounds_toArray, List.set_cons_zero, List.set_cons_succ]
  refine takeH (i := 33) (v := ?_) rfl (by kernel_rfl) (by kernel_rfl) (by kernel_rfl) (fun _ _ _ h => h) (by rfl) ?_ HC.out ?_
  rotate_left
  · intro W hW; obtain ⟨L0, L1, L2, M0, M1, M2, N0, N1, RA, BA⟩ := HL.out W hW; go_simp <;> with_reducible rfl
  simp only [Act.put, List.setIfInBounds_toArray, List.set_cons_zero, List.set_cons_succ]
  refine takeH (i := 34) (v := ?_) rfl (by kernel_rfl) (by kernel_rfl) (by kernel_rfl) (fun _ _ _ h => h) (by rfl) ?_ HC.out ?_
  rotate_left
  · intro W hW; obtain ⟨L0, L1, L2, M0, M1, M2, N0, N1, RA, BA⟩ := HL.out W hW; go_simp <;> with_reducible rfl
  simp only [Act.put, List.setIfInBounds_toArray, List.set_cons_zero, List.set_cons_succ]
  refine takeH (i := 35) (v := ?_) rfl (by kernel_rfl) (by kernel_rfl) (by kernel_rfl) (fun _ _ _ h => h) (by rfl) ?_ HC.out ?_
  rotate_left
  · intro W hW; obtain ⟨L0, L1, L2, M0, M1, M2, N0, N1, RA, BA⟩ := HL.out W hW; go_simp <;> with_reducible rfl
  simp only [Act.put, List.setIfInBounds_toArray, List.set_cons_zero, List.set_cons_succ]
  refine takeH (i := 36) (v := ?_) rfl (by kernel_rfl) (by kernel_rfl) (by kernel_rfl) (fun _ _ _ h => h) (by rfl) ?_ HC.out ?_
  rotate_left
  · intro W hW; obtain ⟨L0, L1, L2, M0, M1, M2, N0, N1, RA, BA⟩ := HL.out W hW; go_simp <;> with_reducible rfl
  simp only [Act.put, List.setIfInBounds_toArray, List.set_cons_zero, List.set_cons_succ]
  refine takeH (i := 37) (v := ?_) rfl (by kernel_rfl) (by kernel_rfl) (by kernel_rfl) (fun _ _ _ h => h) (by rfl) ?_ HC.out ?_
  rotate_left
  · intro W hW; obtain ⟨L0, L1, L2, M0, M1, M2, N0, N1, RA, BA⟩ := HL.out W hW; go_simp <;> with_reducible rfl
  simp only [Act.put, List.setIfInBounds_toArray, List.set_cons_zero, List.set_cons_succ]
  refine takeH (i := 38) (v := ?_) rfl (by kernel_rfl) (by kernel_rfl) (by kernel_rfl) (fun _ _ _ h => h) (by rfl) ?_ HC.out ?_
  rotate_left
  · intro W hW; obtain ⟨L0, L1, L2, M0, M1, M2, N0, N1, RA, BA⟩ := HL.out W hW; go_simp <;> with_reducible rfl
  simp only [Act.put, List.setIfInBounds_toArray, List.set_cons_zero, List.set_cons_succ]
  refine takeH (i := 39) (v := ?_) rfl (by kernel_rfl) (by kernel_rfl) (by kernel_rfl) (fun _ _ _ h => h) (by rfl) ?_ HC.out ?_
  rotate_left
  · intro W hW; obtain ⟨L0, L1, L2, M0, M1, M2, N0, N1, RA, BA⟩ := HL.out W hW; go_simp <;> with_reducible rfl
  simp only [Act.put, List.setIfInBounds_toArray, List.set_cons_zero, List.set_cons_succ]
  refine takeH (i := 40) (v := ?_) rfl (by kernel_rfl) (by kernel_rfl) (by kernel_rfl) (fun _ _ _ h => h) (by rfl) ?_ HC.out ?_
  rotate_left
  · intro W hW; obtain ⟨L0, L1, L2, M0, M1, M2, N0, N1, RA, BA⟩ := HL.out W hW; go_simp <;> with_reducible rfl
  simp only [Act.put, List.setIfInBounds_toArray, List.set_cons_zero, List.set_cons_succ]
  refine takeH (i := 41) (v := ?_) rfl (by kernel_rfl) (by kernel_rfl) (by kernel_rfl) (fun _ _ _ h => h) (by rfl) ?_ HC.out ?_
  rotate_left
  · intro W hW; obtain ⟨L0, L1, L2, M0, M1, M2, N0, N1, RA, BA⟩ := HL.out W hW; go_simp <;> with_reducible rfl
  simp only [Act.put, List.setIfInBounds_toArray, List.set_cons_zero, List.set_cons_succ]
  refine takeH (i := 42) (v := ?_) rfl (by kernel_rfl) (by kernel_rfl) (by kernel_rfl) (fun _ _ _ h => h) (by rfl) ?_ HC.out ?_
  rotate_left
  · intro W hW; obtain ⟨L0, L1, L2, M0, M1, M2, N0, N1, RA, BA⟩ := HL.out W hW; go_simp <;> with_reducible rfl
  simp only [Act.put, List.setIfInBounds_toArray, List.set_cons_zero, List.set_cons_succ]
  refine oneH (i := 43) rfl (by kernel_rfl) (by rfl) (fun K hK => ?_)
  go_simp
  have HC2 := Lib.hid (HC.out.alloc HC.out.size (recO 1))
  have HLit := Lib.hid (rdR_one w10 ⟨1, none, 0, 0, []⟩ 0 (Nat.zero_le _) (by show 1 < 256; omega) ⟨rfl, fun h => absurd h (by simp)⟩ w10.heap.size rfl)
  clear HC
  have HC := HC2
  clear HC2
  refine hK.out _ _ HC.out (fun _ => ?_)
  clear hK K
  refine oneH (i := 44) rfl (by kernel_rfl) (by rfl) (fun K hK => ?_)
  go_simp
  obtain ⟨L0, L1, L2, M0, M1, M2, N0, N1, RA, BA⟩ := HL.out _ HC.out
  refine (wl_long1 (HLit.out.more (by simp))).mono ?_
  rintro e w11 ⟨rfl, d11⟩
  have HC2 := Lib.hid (HC.out.trans (d11.mono HC.out.size))
  clear HC d11 L0 L1 L2 M0 M1 M2 N0 N1 RA BA HLit
  have HC := HC2
  clear HC2
  refine hK.out _ _ HC.out (fun _ => ?_)
  clear hK K
  refine takeH (i := 45) (v := ?_) rfl (by kernel_rfl) (by kernel_rfl) (by kernel_rfl) (fun _ _ _ h => h) (by rfl) ?_ HC.out ?_
  rotate_left
  · intro W hW; obtain ⟨L0, L1, L2, M0, M1, M2, N0, N1, RA, BA⟩ := HL.out W hW; go_simp <;> with_reducible rfl
  simp only [Act.put, List.setIfInBounds_toArray, List.set_cons_zero, List.set_cons_succ]
  refine takeH (i := 46) (v := ?_) rfl (by kernel_rfl) (by kernel_rfl) (by kernel_rfl) (fun _ _ _ h => h) (by rfl) ?_ HC.out ?_
  rotate_left
  · intro W hW; obtain ⟨L0, L1, L2, M0, M1, M2, N0, N1, RA, BA⟩ := HL.out W hW; go_simp <;> with_reducible rfl
  simp only [Act.put, List.setIfInBounds_toArray, List.set_cons_zero, List.set_cons_succ]
  refine takeH (i := 47) (v := ?_) rfl (by kernel_rfl) (by kernel_rfl) (by kernel_rfl) (fun _ _ _ h => h) (by rfl) ?_ HC.out ?_
  rotate_left
  · intro W hW; obtain ⟨L0, L1, L2, M0, M1, M2, N0, N1, RA, BA⟩ := HL.out W hW; go_simp <;> with_reducible rfl
  simp only [Act.put, List.setIfInBounds_toArray, List.set_cons_zero, List.set_cons_succ]
  refine takeH (i := 48) (v := ?_) rfl (by kernel_rfl) (by kernel_rfl) (by kernel_rfl) (fun _ _ _ h => h) (by rfl) ?_ HC.out ?_
  rotate_left
  · intro W hW; obtain ⟨L0, L1, L2, M0, M1, M2, N0, N1, RA, BA⟩ := HL.out W hW; go_simp <;> with_reducible rfl
  simp only [Act.put, List.setIfInBounds_toArray, List.set_cons_zero, List.set_cons_succ]
  refine takeH (i := 49) (v := ?_) rfl (by kernel_rfl) (by kernel_rfl) (by kernel_rfl) (fun _ _ _ h => h) (by rfl) ?_ HC.out ?_
  rotate_left
  · intro W hW; obtain ⟨L0, L1, L2, M0, M1, M2, N0, N1, RA, BA⟩ := HL.out W hW; go_simp <;> with_reducible rfl
  simp only [Act.put, List.setIfInBounds_toArray, List.set_cons_zero, List.set_cons_succ]
  refine takeH (i := 50) (v := ?_) rfl (by kernel_rfl) (by kernel_rfl) (by kernel_rfl) (fun _ _ _ h => h) (by rfl) ?_ HC.out ?_
  rotate_left
  · intro W hW; obtain ⟨L0, L1, L2, M0, M1, M2, N0, N1, RA, BA⟩ := HL.out W hW; go_simp <;> with_reducible rfl
  simp only [Act.put, List.setIfInBounds_toArray, List.set_cons_zero, List.set_cons_succ]
  refine takeH (i := 51) (v := ?_) rfl (by kernel_rfl) (by kernel_rfl) (by kernel_rfl) (fun _ _ _ h => h) (by rfl) ?_ HC.out ?_
  rotate_left
  · intro W hW; obtain ⟨L0, L1, L2, M0, M1, M2, N0, N1, RA, BA⟩ := HL.out W hW; go_simp <;> with_reducible rfl
  simp only [Act.put, List.setIfInBounds_toArray, List.set_cons_zero, List.set_cons_succ]
  refine takeH (i := 52) (v := ?_) rfl (by kernel_rfl) (by kernel_rfl) (by kernel_rfl) (fun _ _ _ h => h) (by rfl) ?_ HC.out ?_
  rotate_left
  · intro W hW; obtain ⟨L0, L1, L2, M0, M1, M2, N0, N1, RA, BA⟩ := HL.out W hW; go_simp <;> with_reducible rfl
  simp only [Act.put, List.setIfInBounds_toArray, List.set_cons_zero, List.set_cons_succ]
  refine oneH (i := 53) rfl (by kernel_rfl) (by rfl) (fun K hK => ?_)
  go_simp
  have HC2 := Lib.hid (HC.out.alloc HC.out.size (recO 0))
  have HLit := Lib.hid (rdR_one w11 ⟨0, none, 0, 0, []⟩ 0 (Nat.zero_le _) (by show 0 < 256; omega) ⟨rfl, fun h => absurd h (by simp)⟩ w11.heap.size rfl)
  clear HC
  have HC := HC2
  clear HC2
  refine hK.out _ _ HC.out (fun _ => ?_)
  clear hK K
  refine oneH (i := 54) rfl (by kernel_rfl) (by rfl) (fun K hK => ?_)
  go_simp
  obtain ⟨L0, L1, L2, M0, M1, M2, N0, N1, RA, BA⟩ := HL.out _ HC.out
  refine (wl_longz (HLit.out.more (by simp))).mono ?_
  rintro e w12 ⟨rfl, d12⟩
  have HC2 := Lib.hid (HC.out.trans (d12.mono HC.out.size))
  clear HC d12 L0 L1 L2 M0 M1 M2 N0 N1 RA BA HLit
  have HC := HC2
  clear HC2
  refine hK.out _ _ HC.out (fun _ => ?_)
  clear hK K
  refine takeH (i := 55) (v := ?_) rfl (by kernel_rfl) (by kernel_rfl) (by kernel_rfl) (fun _ _ _ h => h) (by rfl) ?_ HC.out ?_
  rotate_left
  · intro W hW; obtain ⟨L0, L1, L2, M0, M1, M2, N0, N1, RA, BA⟩ := HL.out W hW; go_simp <;> with_reducible rfl
  simp only [Act.put, List.setIfInBounds_toArray, List.set_cons_zero, List.set_cons_succ]
  refine takeH (i := 56) (v := ?_) rfl (by kernel_rfl) (by kernel_rfl) (by kernel_rfl) (fun _ _ _ h => h) (by rfl) ?_ HC.out ?_
  rotate_left
  · intro W hW; obtain ⟨L0, L1, L2, M0, M1, M2, N0, N1, RA, BA⟩ := HL.out W hW; go_simp <;> with_reducible rfl
  simp only [Act.put, List.setIfInBounds_toArray, List.set_cons_zero, List.set_cons_succ]
  refine takeH (i := 57) (v := ?_) rfl (by kernel_rfl) (by kernel_rfl) (by kernel_rfl) (fun _ _ _ h => h) (by rfl) ?_ HC.out ?_
  rotate_left
  · intro W hW; obtain ⟨L0, L1, L2, M0, M1, M2, N0, N1, RA, BA⟩ := HL.out W hW; go_simp <;> with_reducible rfl
  simp only [Act.put, List.setIfInBounds_toArray, List.set_cons_zero]
  refine wpAnyH_done (by kernel_rfl) ?_ _
  have BF := Lib.hid (HL.out _ HC.out).2.2.2.2.2.2.2.2.2
  go_wp2_with fail
  go_ret
  exact ⟨rfl, BF.out⟩

end Go.Proofs.Ytbkfpghpfaemeaa

/-
  What the statements over logs ask, told call by call: the same logs, a log cut, a disk that came in. Conditions: those that each theorem names.
-/
namespace Go.Proofs.Ytbkfpghpfaemeaa
open Go.RowKit Go.Shelf

theorem allOk_log {bs : List Nat} {L : List PR} {u : Nat} (h : LogIs bs L u) : allOk L := h.ok
theorem okR_len {r : PR} (h : okR r) : r.2.length ≤ 18 := by have h1 := (mayB_yes h).2.1; have h2 := (hi_le r.1).1; omega
theorem res_small {W : World} {B n : Nat} {A : Option Addr} {es : List RE} {L : List PR} (he : recsOf es = L) (h : RdR W B A n es) (hL : allOk L) : ∀ x ∈ es, x.n ≤ 1000000 := fun x hx => by
  have h1 := (h.2.2 x hx).2.1
  rw [iv_length] at h1
  have h2 : (x.k, x.zs) ∈ L := by rw [← he]; exact List.mem_map_of_mem hx
  have h3 := okR_len (hL _ h2)
  simp only at h3
  omega
theorem sameR_self (L : List PR) : sameR L L = true := by simp [sameR]
theorem RdR.take {w : World} {B n k : Nat} {A : Option Addr} {l : List RE} (h : RdR w B A n l) (hk : k ≤ n) : RdR w B A k (l.take k) := by
  refine ⟨by rw [List.length_take, h.1]; omega, fun hp => ?_, fun x hx => h.2.2 x (List.mem_of_mem_take hx)⟩
  obtain ⟨b, off, e, hb, hc⟩ := h.2.1 (by omega)
  refine ⟨b, off, e, hb, fun j x hx => hc j x ?_⟩
  rw [List.getElem?_take] at hx
  split at hx
  · exact hx
  · cases hx
theorem RecsAt.cap {base : Nat} {w : World} {A : Option Addr} {n c : Nat} {L : List PR} (h : RecsAt base w (.slice A n c) L) : n ≤ c := by
  obtain ⟨es, h1, _⟩ := h
  have h2 := h1
  rcases h1.2 with ⟨h3, h4⟩ | ⟨g, cap, cur, h3, _, _, h4, _⟩
  · injection h3 with _ h5 h6; omega
  · injection h3 with _ h5 h6; omega

section
variable {W : World} {base base' : Nat} {A A' : Option Addr} {c c' : Nat} {L M : List PR}
/-- Logs compared. -/
theorem same_logs (h : RecsAt base W (.slice A L.length c) L) (h' : RecsAt base' W (.slice A' M.length c') M) (hL : allOk L) (hn : L.length ≤ 1000000) :
    Calls Try.prog 16 #[.slice A L.length c, .slice A' M.length c'] W (BoolPost (sameR L M) W) := by
  obtain ⟨es, he, hr⟩ := h.read
  obtain ⟨es', he', hr'⟩ := h'.read
  have h1 := refRecsSame_any A L.length c es A' M.length c' es' _ _ W hr hr' (Nat.le_refl _) (Nat.le_refl _) hn (res_small he hr hL)
  rwa [he, he'] at h1
/-- A log compared with the beginning of another one. -/
theorem same_cut (h : RecsAt base W (.slice A L.length c) L) (h' : RecsAt base' W (.slice A' M.length c') M) (hL : allOk L) (hn : L.length ≤ 1000000) (hp : L <+: M) :
    Calls Try.prog 16 #[.slice A L.length c, .slice A' L.length c'] W (BoolPost true W) := by
  obtain ⟨es, he, hr⟩ := h.read
  obtain ⟨es', he', hr'⟩ := h'.read
  have h1 := refRecsSame_any A L.length c es A' L.length c' (es'.take L.length) _ _ W hr (hr'.take hp.length_le) (Nat.le_refl _) (Nat.le_refl _) hn (res_small he hr hL)
  have e : recsOf (es'.take L.length) = L := by
    have h2 : recsOf (es'.take L.length) = M.take L.length := by rw [← he', recsOf, recsOf, List.map_take]
    rw [h2]; exact (List.prefix_iff_eq_take.1 hp).symm
  rw [he, e, sameR_self] at h1
  exact h1
end

set_option maxRecDepth 100000 in
/-- 'x[:k]' of records, as the model cuts it. -/
theorem run_headRec (A : Option Addr) (n c k : Nat) (hk : k ≤ c) (w : World) : (Instr.slice 25 (.slice A n c) none (some (.int .i64 (k : Int))) none).run Try.prog w = .ok (.slice A k c) w := by
  obtain ⟨i0, hi, hz0, hz1, hz2⟩ := info_parts info_rec
  have hz : (sizeOf (Try.prog.elem 25)).run Try.prog w = .ok 2 w := by
    have he : Try.prog.elem 25 = 43 := by kernel_rfl
    simp [he, Go.sizeOf, typeInfo, hi, hz1]
  have h63 : (k : Int).toNat = k := by omega
  rw [run_slice_h (P := Try.prog) w 25 A n c Try.underlying25 .i64 (k : Int) (by omega) (by omega), hz, h63]
  have e : ∀ o : Option Addr, o.map (fun a => a.add (0 * 2)) = o := fun o => by cases o <;> simp [Addr.add]
  simp only [Result.andThen_ok, sliced, e, Nat.sub_zero, ite_self]

/-- A disk that came in, in its box. -/
structure DAt (w : World) (A : Option Addr) (n c : Nat) (s r : Int) (bs : List Nat) (W : World) : Prop where
  below : Below w.heap.size w W
  box : Whole W w.heap.size 24 #[.slice A n c, .int .i64 s, .int .i64 r]
  rd : Rd W W.heap.size A n (bv bs)
theorem DAt.under {w : World} {A : Option Addr} {n c : Nat} {s r : Int} {bs : List Nat} {W W' : World} (h : DAt w A n c s r bs W) (hb : Below W.heap.size W W') : DAt w A n c s r bs W' :=
  ⟨h.below.trans (hb.mono h.below.size), h.box.under hb, (h.rd.below hb).more hb.size⟩
theorem DAt.start {w : World} {A : Option Addr} {n c : Nat} {s r : Int} {bs : List Nat} (hr : Rd w w.heap.size A n (bv bs)) : DAt w A n c s r bs (w.alloc (diskB A n c s r)) := by
  have hb : Below w.heap.size w (w.alloc (diskB A n c s r)) := (Below.refl _ w).alloc (Nat.le_refl _) _
  exact ⟨hb, Whole.new w _ _, (hr.below hb).more hb.size⟩

/-- Too great: only what is always tried. -/
theorem rdR_nil (w : World) (B : Nat) : RdR w B none 0 [] := ⟨rfl, fun h => absurd h (by omega), by simp⟩
theorem great_none (A : Option Addr) (n c : Nat) (s r : Int) (w : World) : Calls Try.prog 8 #[diskV A n c s r, .slice none 0 0] w (BoolPost (decide (1500 < n)) w) := by
  have h := greatL_any A n c s r none 0 0 [] 0 w (rdR_nil _ _) (Nat.zero_le _)
  have e : greatL n [] = decide (1500 < n) := by simp [greatL]
  rwa [e] at h

end Go.Proofs.Ytbkfpghpfaemeaa

/-
  Rows of bytes, as statements are handed them, opened to lists. Conditions: those that each theorem names.
-/
namespace Go.Proofs.Ytbkfpghpfaemeaa
open Go.RowKit Go.Shelf Go.ChangeShapes Go.WideShapes Go.Deep Go.Joins

section
variable {H : Type} {enc : TypeId × Value → H} {W : World} {base : Nat} {held : Bool} {d : DataW H} {p : List MemPlace} {v : Value}

set_option maxRecDepth 100000 in
theorem open_bytesC {n : Nat} {y : DataW H × List MemPlace} (hf : DataW.trod enc Try.prog W 0 (fun _ => true) held n 22 [v] = some y) : ∃ A m c bs, v = .slice A m c ∧ Rd W W.heap.size A m (bv bs) ∧ (∀ x ∈ bs, x < 256) ∧ m ≤ c ∧ c ≤ maxLen := by
  rcases open_ints Try.underlying22 Try.underlying5 (by kernel_rfl) hf with ⟨hcs, _⟩ | ⟨x, l, c', zs, hcs, _, hl, hm, hz, _, hcell, hwz⟩
  · simp only [List.cons.injEq, and_true] at hcs
    subst hcs
    exact ⟨none, 0, 0, [], rfl, Rd.nil_ _ _ _, by simp, Nat.le_refl _, by omega⟩
  · simp only [List.cons.injEq, and_true] at hcs
    subst hcs
    obtain ⟨bs, h1, h2, h3, h4⟩ := rd_of_bytes (w := W) (a := some x) (len := l) (cap := c') (zs := zs) (.inr ⟨x, rfl, hl, hm, by simpa using hz, hcell, hwz⟩)
    exact ⟨_, _, _, bs, rfl, h1, h2, h3, h4⟩

set_option maxRecDepth 100000 in
theorem open_intC {n : Nat} {y : DataW H × List MemPlace} (h : DataW.trod enc Try.prog W 0 (fun _ => true) held n 3 [v] = some y) : ∃ z : Int, v = .int .i64 z ∧ (Lit.int .i64 z).wf = true := by
  obtain ⟨z, hz, _, hw⟩ := DataW.trod_int Try.underlying3 h
  simp only [List.cons.injEq, and_true] at hz
  exact ⟨z, hz, hw⟩

set_option maxRecDepth 100000 in
/-- Rows of bytes, as they are handed over. -/
theorem open_rowsV (hv : Value.okWide Try.prog W .any base 71 v) (h : DataW.Trod enc Try.prog W 0 (fun _ => true) held 71 v d p) :
    ∃ A n c l, v = .slice A n c ∧ RdB W W.heap.size A n l ∧ n ≤ c ∧ c ≤ maxLen := by
  obtain ⟨A, n, c, rfl⟩ := okWide_slice Try.underlying71 hv
  obtain ⟨fuel, hf⟩ := h
  rcases open_int_rows Try.underlying71 Try.underlying22 Try.underlying5 (by kernel_rfl) (by kernel_rfl) hf with ⟨hcs, _⟩ | ⟨a, len, cap, A', L, C, Z, hcs, _, hl, hm, _, hx⟩
  · simp [Value.cells] at hcs
    obtain ⟨rfl, rfl, rfl⟩ := hcs
    exact ⟨none, 0, 0, [], rfl, ⟨rfl, fun h => absurd h (by omega), by simp⟩, by omega, by omega⟩
  · simp [Value.cells] at hcs
    obtain ⟨rfl, rfl, rfl⟩ := hcs
    have each : ∀ i, i < n → ∃ x : BE, W.cell? (a.add i) = some (.slice x.A x.n x.c) ∧ Rd W W.heap.size x.A x.n (bv x.bs) ∧ (∀ y ∈ x.bs, y < 256) ∧ x.n ≤ x.c ∧ x.c ≤ maxLen := by
      intro i hi
      obtain ⟨h1, h2, h3, h4, h5, h6, h7⟩ := hx i (by omega)
      have hrow : (A' i = none ∧ L i = 0 ∧ C i = 0 ∧ Z i = []) ∨ ∃ x, A' i = some x ∧ L i ≤ C i ∧ C i ≤ maxLen ∧ (Z i).length = C i ∧ (∀ j, j < (Z i).length → W.cell? (x.add j) = some (.int .u8 ((Z i).getD j 0))) ∧ ∀ z ∈ Z i, (Lit.int .u8 z).wf = true := by
        cases hA : A' i with
        | none =>
          have h8 := h6 hA
          exact .inl ⟨rfl, by omega, h8, List.eq_nil_of_length_eq_zero (by omega)⟩
        | some a' => exact .inr ⟨a', rfl, h2, h3, h4, fun j hj => (h7 a' hA).2 j (by omega), h5⟩
      obtain ⟨bs, g1, g2, g3, g4⟩ := rd_of_bytes (w := W) hrow
      exact ⟨⟨A' i, L i, C i, bs⟩, h1, g1, g2, g3, g4⟩
    have build : ∀ j, j ≤ n → ∃ l : List BE, l.length = j ∧ (∀ i x, l[i]? = some x → W.cell? (a.add i) = some (.slice x.A x.n x.c)) ∧ ∀ x ∈ l, Rd W W.heap.size x.A x.n (bv x.bs) ∧ (∀ y ∈ x.bs, y < 256) ∧ x.n ≤ x.c ∧ x.c ≤ maxLen := by
      intro j
      induction j with
      | zero => intro _; exact ⟨[], rfl, by simp, by simp⟩
      | succ j ih =>
        intro hj
        obtain ⟨l, hl1, hl2, hl3⟩ := ih (by omega)
        obtain ⟨x, x1, x2⟩ := each j (by omega)
        refine ⟨l ++ [x], by simp [hl1], ?_, ?_⟩
        · intro i y hy
          rcases Nat.lt_or_ge i l.length with h | h
          · rw [List.getElem?_append_left h] at hy
            exact hl2 i y hy
          · rw [List.getElem?_append_right h] at hy
            have h0 : i - l.length = 0 := by
              rcases Nat.eq_zero_or_pos (i - l.length) with h1 | h1
              · exact h1
              · rw [List.getElem?_eq_none (by simp; omega)] at hy; cases hy
            rw [h0] at hy
            simp only [List.getElem?_cons_zero, Option.some.injEq] at hy
            subst hy
            obtain rfl : i = j := by omega
            exact x1
        · intro y hy
          simp only [List.mem_append, List.mem_singleton] at hy
          rcases hy with hy | rfl
          · exact hl3 y hy
          · exact x2
    obtain ⟨l, hl1, hl2, hl3⟩ := build n (Nat.le_refl _)
    refine ⟨_, _, _, l, rfl, ⟨hl1, fun hn => ?_, hl3⟩, hl, hm⟩
    obtain ⟨x, hx0⟩ : ∃ x, l[0]? = some x := ⟨_, List.getElem?_eq_getElem (by omega)⟩
    obtain ⟨b, off, spot⟩ := a
    have hspot : spot = none := by simpa [Addr.add] using World.cell?_spot (hl2 0 x hx0)
    subst hspot
    refine ⟨b, off, rfl, World.block_lt_of_cell? W _ (hl2 0 x hx0), fun j y hy => ?_⟩
    have h1 := hl2 j y hy
    rw [Go.WideShapes.add_plain] at h1
    exact h1
end

end Go.Proofs.Ytbkfpghpfaemeaa

/-
  What statements over disks are handed: disks, opened to lists. Conditions: those that each theorem names.
-/
namespace Go.Proofs.Ytbkfpghpfaemeaa
open Go.RowKit Go.Shelf Go.ChangeShapes Go.WideShapes Go.Deep Go.Joins

section
variable {H : Type} {enc : TypeId × Value → H} {W : World} {base : Nat} {held : Bool} {d : DataW H} {p : List MemPlace} {v : Value}

set_option maxRecDepth 100000 in
/-- A disk, as it is handed over. -/
theorem open_diskV (hv : Value.okWide Try.prog W .any base 24 v) (h : DataW.Trod enc Try.prog W 0 (fun _ => true) held 24 v d p) :
    ∃ A n c s r bs, v = diskV A n c s r ∧ Rd W W.heap.size A n (bv bs) ∧ (∀ x ∈ bs, x < 256) ∧ n ≤ c ∧ c ≤ maxLen := by
  obtain ⟨v0, v1, v2, y0, y1, y2, m, rfl, _, _, h0, h1, h2⟩ := open_agg3 Try.underlying24 (by kernel_rfl) (by kernel_rfl) hv h
  obtain ⟨A, n, c, bs, rfl, hr, hb, hc, hm⟩ := open_bytesC h0
  obtain ⟨s, rfl, _⟩ := open_intC h1
  obtain ⟨r, rfl, _⟩ := open_intC h2
  exact ⟨A, n, c, s, r, bs, rfl, hr, hb, hc, hm⟩

end

end Go.Proofs.Ytbkfpghpfaemeaa
