/-
  The walk of the statements' 'wakes' of disks: it answers true, and nothing that was there turns. Conditions: none.
-/
import Derived.Test.YtekffkoggnbgeaaDiskSync
import Derived.Test.YtekffkoggnbgeaaDiskSwap
import Derived.Test.YtekffkoggnbgeaaDiskSame
import Derived.Deep.DeepCutAuto
namespace Go.Proofs.Ytekffkoggnbgeaa
open Go.RowKit Go.Shelf

/-- A disk that is answered, its numbers written out. -/
def DiskN (n : Nat) (bs : List Nat) (s r : Int) (w : World) (e : Ending) (w' : World) : Prop :=
  ∃ A c, e = .returned (diskV A n c s r) ∧ w'.ownsRow w.heap.size 5 1 (.slice A n c) n (bv bs) ∧ Below w.heap.size w w'
def DiskNE (n : Nat) (bs : List Nat) (s r E : Int) (w : World) (e : Ending) (w' : World) : Prop :=
  ∃ A c, e = .returned (.tuple #[diskV A n c s r, .int .i64 E]) ∧ w'.ownsRow w.heap.size 5 1 (.slice A n c) n (bv bs) ∧ Below w.heap.size w w'

theorem wk_new (w : World) : Calls Try.prog 15 #[.int .i64 9] w (DiskN 0 [] 0 9 w) := by
  have h := new_any 9 w
  rw [show cnt [] 0 9 = ⟨[], 0, 9⟩ by decide] at h
  exact h
theorem wk_one (A Ab : Option Addr) (c : Nat) (w : World) (hr : Rd w w.heap.size A 0 (bv [])) (hrb : Rd w w.heap.size Ab 3 (bv [1, 2, 3])) : Calls Try.prog 10 #[diskV A 0 c 0 9, .slice Ab 3 3] w (DiskNE 3 [1, 2, 3] 0 9 0 w) := by
  have h := append_any A 0 c 0 9 [] Ab 3 3 [1, 2, 3] w hr (Nat.zero_le _) (by decide) hrb (Nat.le_refl _) (by decide) (by decide) (by decide) (D := ⟨[], 0, 9⟩) (by decide)
  rw [show (writeD [1, 2, 3] ⟨[], 0, 9⟩).getD ⟨[], 0, 9⟩ = ⟨[1, 2, 3], 0, 9⟩ by decide, show errE (writeD [1, 2, 3] ⟨[], 0, 9⟩) = 0 by decide] at h
  exact h
theorem wk_sync (A : Option Addr) (c : Nat) (w : World) (hr : Rd w w.heap.size A 3 (bv [1, 2, 3])) (hc : 3 ≤ c) : Calls Try.prog 16 #[diskV A 3 c 0 9] w (DiskN 3 [1, 2, 3] 3 9 w) := by
  have h := sync_any A 3 c 0 9 [1, 2, 3] w hr hc (by decide) (D := ⟨[1, 2, 3], 0, 9⟩) (by decide)
  exact h
theorem wk_two (A Ab : Option Addr) (c : Nat) (w : World) (hr : Rd w w.heap.size A 3 (bv [1, 2, 3])) (hc : 3 ≤ c) (hrb : Rd w w.heap.size Ab 2 (bv [4, 5])) : Calls Try.prog 10 #[diskV A 3 c 3 9, .slice Ab 2 2] w (DiskNE 5 [1, 2, 3, 4, 5] 3 9 0 w) := by
  have h := append_any A 3 c 3 9 [1, 2, 3] Ab 2 2 [4, 5] w hr hc (by decide) hrb (Nat.le_refl _) (by decide) (by decide) (by decide) (D := ⟨[1, 2, 3], 3, 9⟩) (by decide)
  rw [show (writeD [4, 5] ⟨[1, 2, 3], 3, 9⟩).getD ⟨[1, 2, 3], 3, 9⟩ = ⟨[1, 2, 3, 4, 5], 3, 9⟩ by decide, show errE (writeD [4, 5] ⟨[1, 2, 3], 3, 9⟩) = 0 by decide] at h
  exact h
theorem wk_crash (A : Option Addr) (c : Nat) (w : World) (hr : Rd w w.heap.size A 5 (bv [1, 2, 3, 4, 5])) (hc : 5 ≤ c) : Calls Try.prog 17 #[diskV A 5 c 3 9, .int .i64 1] w (DiskN 4 [1, 2, 3, 4] 4 9 w) := by
  have h := crash_any A 5 c 3 9 1 [1, 2, 3, 4, 5] w hr hc (by decide) (D := ⟨[1, 2, 3, 4, 5], 3, 9⟩) (by decide)
  rw [show crashD 1 ⟨[1, 2, 3, 4, 5], 3, 9⟩ = ⟨[1, 2, 3, 4], 4, 9⟩ by decide] at h
  exact h
theorem wk_lost (A : Option Addr) (c : Nat) (w : World) (hr : Rd w w.heap.size A 5 (bv [1, 2, 3, 4, 5])) (hc : 5 ≤ c) : Calls Try.prog 17 #[diskV A 5 c 3 9, .int .i64 (-1)] w (DiskN 3 [1, 2, 3] 3 9 w) := by
  have h := crash_any A 5 c 3 9 (-1) [1, 2, 3, 4, 5] w hr hc (by decide) (D := ⟨[1, 2, 3, 4, 5], 3, 9⟩) (by decide)
  rw [show crashD (-1) ⟨[1, 2, 3, 4, 5], 3, 9⟩ = ⟨[1, 2, 3], 3, 9⟩ by decide] at h
  exact h
theorem wk_full (A Ab : Option Addr) (c : Nat) (w : World) (hr : Rd w w.heap.size A 4 (bv [1, 2, 3, 4])) (hc : 4 ≤ c) (hrb : Rd w w.heap.size Ab 6 (bv [0, 0, 0, 0, 0, 0])) : Calls Try.prog 10 #[diskV A 4 c 4 9, .slice Ab 6 6] w (DiskNE 4 [1, 2, 3, 4] 4 9 30 w) := by
  have h := append_any A 4 c 4 9 [1, 2, 3, 4] Ab 6 6 [0, 0, 0, 0, 0, 0] w hr hc (by decide) hrb (Nat.le_refl _) (by decide) (by decide) (by decide) (D := ⟨[1, 2, 3, 4], 4, 9⟩) (by decide)
  rw [show (writeD [0, 0, 0, 0, 0, 0] ⟨[1, 2, 3, 4], 4, 9⟩).getD ⟨[1, 2, 3, 4], 4, 9⟩ = ⟨[1, 2, 3, 4], 4, 9⟩ by decide, show errE (writeD [0, 0, 0, 0, 0, 0] ⟨[1, 2, 3, 4], 4, 9⟩) = 30 by decide] at h
  exact h
theorem wk_free (A : Option Addr) (c : Nat) (w : World) (hr : Rd w w.heap.size A 4 (bv [1, 2, 3, 4])) (hc : 4 ≤ c) : Calls Try.prog 23 #[diskV A 4 c 4 9] w fun e w' => e = .returned (.int .i64 5) ∧ Below w.heap.size w w' := by
  have h := free_any A 4 c 4 9 [1, 2, 3, 4] w.heap.size w hr (Nat.le_refl _) hc (D := ⟨[1, 2, 3, 4], 4, 9⟩) (by decide)
  rw [show freeD ⟨[1, 2, 3, 4], 4, 9⟩ = 5 by decide] at h
  exact h
theorem wk_same (A A' : Option Addr) (c c' : Nat) (B B' : Nat) (w : World) (hr : Rd w B A 4 (bv [1, 2, 3, 4])) (hr' : Rd w B' A' 4 (bv [1, 2, 3, 4])) : Calls Try.prog 22 #[.slice A 4 c, .slice A' 4 c'] w fun e w' => e = .returned (.bool true) ∧ w' = w := by
  have h := same_bytes A A' 4 c 4 c' [1, 2, 3, 4] [1, 2, 3, 4] B B' w hr hr' (by decide) (by decide)
  rw [show decide ([1, 2, 3, 4] = [1, 2, 3, 4]) = true by decide] at h
  exact h

theorem field0_disk (A : Option Addr) (n c : Nat) (s r : Int) (w : World) : (Instr.field 24 (diskV A n c s r) 0).run Try.prog w = .ok (.slice A n c) w := by kernel_rfl
theorem field2_disk (A : Option Addr) (n c : Nat) (s r : Int) (w : World) : (Instr.field 24 (diskV A n c s r) 2).run Try.prog w = .ok (.int .i64 r) w := by kernel_rfl
abbrev sixB : Obj := .cells #[.int .u8 0, .int .u8 0, .int .u8 0, .int .u8 0, .int .u8 0, .int .u8 0] 5
theorem make_six (w : World) : (Instr.makeSlice 22 (.int .i64 6) (.int .i64 6)).run Try.prog w = .ok (.slice (some ⟨w.heap.size, 0, none⟩) 6 6) (w.alloc sixB) := by kernel_rfl

/-- An append that finds no room, six noughts being at block b. -/
theorem wk_six (A : Option Addr) (c b : Nat) (w0 w : World) (hr : Rd w0 w0.heap.size A 4 (bv [1, 2, 3, 4])) (hc : 4 ≤ c) (hb : Below w0.heap.size w0 w) (hx : Whole w b 5 #[.int .u8 0, .int .u8 0, .int .u8 0, .int .u8 0, .int .u8 0, .int .u8 0]) :
    Calls Try.prog 10 #[diskV A 4 c 4 9, .slice (some ⟨b, 0, none⟩) 6 6] w fun e w' => ∃ A' c', e = .returned (.tuple #[diskV A' 4 c' 4 9, .int .i64 30]) ∧ Below w.heap.size w w' := by
  refine (wk_full A _ c w ((hr.below hb).more hb.size) hc ⟨rfl, fun _ => ⟨b, 0, rfl, hx.lt, fun j hj => ?_⟩⟩).mono ?_
  · rw [Nat.zero_add, hx.cell]; simp [bv]
  · rintro e w' ⟨A', c', rfl, _, h⟩
    exact ⟨A', c', rfl, h⟩

set_option maxRecDepth 100000 in
set_option maxHeartbeats 2000000 in
theorem wakesD_any (w : World) : Calls Try.prog 9 #[] w (WakePost w) := by
  go_enter Try.func9, Try.ntmps9
  go_wp2_with fail
  refine (wk_new _).mono ?_
  rintro e w1 ⟨A1, c1, rfl, o1, b1⟩
  have R1 := Rd.of_own o1
  clear o1
  go_wp2_with fail
  refine (wk_one _ _ _ _ ((R1.alloc (Nat.le_refl _) _).more (by simp)) ((rd_lit w1 (bv [1, 2, 3]) 5 3 rfl).more (by simp))).mono ?_
  rintro e w2 ⟨A2, c2, rfl, o2, d2⟩
  have R2 := Rd.of_own o2
  have C2 := own_cap o2
  have b2 := b1.trans (((Below.refl _ w1).alloc (Nat.le_refl _) _).trans (d2.mono (by simp)) |>.mono b1.size)
  have HB2 := Lib.hid b2
  clear o2 d2 R1 b1
  go_wp2_with fail
  refine (wk_sync _ _ _ ((R2.alloc (Nat.le_refl _) _).more (by simp)) C2).mono ?_
  rintro e w3 ⟨A3, c3, rfl, o3, d3⟩
  have R3 := Rd.of_own o3
  have C3 := own_cap o3
  have hx3 := (Whole.new w2 24 #[.slice A2 3 c2, .int .i64 0, .int .i64 9]).under d3
  have b3 := b2.trans (((Below.refl _ w2).alloc (Nat.le_refl _) _).trans (d3.mono (by simp)) |>.mono b2.size)
  clear o3 d3 R2 C2 b2
  go_wp2_with fail
  refine (wk_two _ _ _ _ ((R3.alloc (Nat.le_refl _) _).more (by simp)) C3 ((rd_lit w3 (bv [4, 5]) 5 2 rfl).more (by simp))).mono ?_
  rintro e w4 ⟨A4, c4, rfl, o4, d4⟩
  have hx4 := (hx3.alloc (.cells (bv [4, 5]).toArray 5)).under d4
  have b4 := b3.trans (((Below.refl _ w3).alloc (Nat.le_refl _) _).trans (d4.mono (by simp)) |>.mono b3.size)
  obtain ⟨x0, x1, x2⟩ := hx4.cells3
  have f0 := hx4.frozen 0
  have f1 := hx4.frozen 1
  have f2 := hx4.frozen 2
  have HX4 := Lib.hid hx4
  have HLT : Hid (w2.heap.size < w3.heap.size) := Lib.hid hx3.lt
  have HLW : Hid (w.heap.size ≤ w2.heap.size) := Lib.hid HB2.out.size
  have O4 := Lib.hid o4
  have B4 := Lib.hid b4
  clear hx3 hx4 d4 o4 R3 C3 b3 b4
  go_wp2_with fail
  obtain ⟨W5, hW5⟩ : ∃ W, setDisk w4 w2.heap.size (.slice A4 5 c4) (.int .i64 3) (.int .i64 9) = W := ⟨_, rfl⟩
  have hx5 : Whole W5 w2.heap.size 24 #[.slice A4 5 c4, .int .i64 3, .int .i64 9] := by rw [← hW5]; exact HX4.out.disk _ _ _
  have o5 : W5.ownsRow (w3.heap.size + 1) 5 1 (.slice A4 5 c4) 5 (bv [1, 2, 3, 4, 5]) := by
    rw [← hW5]; have h := own_setDisk O4.out (b := w2.heap.size) (by have := HX4.out.lt; simp; have := HLT.out; omega) (.slice A4 5 c4) (.int .i64 3) (.int .i64 9); simpa using h
  have b5 : Below w.heap.size w W5 := by rw [← hW5]; exact below_setDisk B4.out HLW.out _ _ _
  have hW5' : ((w4.setCell ⟨w2.heap.size, 0, none⟩ (.slice A4 5 c4)).setCell ⟨w2.heap.size, 1, none⟩ (.int .i64 3)).setCell ⟨w2.heap.size, 2, none⟩ (.int .i64 9) = W5 := hW5
  rw [hW5']
  clear hW5 hW5' x0 x1 x2 f0 f1 f2
  have R5 := Rd.of_own o5
  have C5 := own_cap o5
  refine (wk_crash _ _ _ R5 C5).mono ?_
  rintro e w6 ⟨A6, c6, rfl, o6, d6⟩
  have R5 := (R5.below d6).more d6.size
  have R6 := Rd.of_own o6
  have C6 := own_cap o6
  have hx6 := hx5.under d6
  have b6 := b5.trans (d6.mono b5.size)
  have HX6 := Lib.hid hx6
  have HR5 := Lib.hid R5
  have HR6 := Lib.hid R6
  have HB6 := Lib.hid b6
  clear hx5 o5 b5 R5 R6 o6 d6 hx6 b6 HX4 O4 B4
  go_wp2_with fail
  have HA := Lib.hid (wk_six A6 c6 (w6.heap.size + 1) w6 ((w6.alloc (diskB A6 4 c6 4 9)).alloc sixB).drew HR6.out C6 (((Below.refl _ w6).alloc (Nat.le_refl _) _).alloc (by simp) _).drew (Whole.drew (by simpa using Whole.new (w6.alloc (diskB A6 4 c6 4 9)) 5 #[.int .u8 0, .int .u8 0, .int .u8 0, .int .u8 0, .int .u8 0, .int .u8 0])))
  have HA2 := Lib.hid (wk_six A6 c6 (w6.heap.size + 1) w6 (((w6.alloc (diskB A6 4 c6 4 9)).alloc sixB).alloc zeroB).drew HR6.out C6 ((((Below.refl _ w6).alloc (Nat.le_refl _) _).alloc (by simp) _).alloc (by simp; omega) _).drew (Whole.drew (by simpa using (Whole.new (w6.alloc (diskB A6 4 c6 4 9)) 5 #[.int .u8 0, .int .u8 0, .int .u8 0, .int .u8 0, .int .u8 0, .int .u8 0]).alloc zeroB)))
  have HA3 := Lib.hid (wk_six A6 c6 (w6.heap.size + 1 + 1) w6 (((w6.alloc (diskB A6 4 c6 4 9)).alloc zeroB).alloc sixB).drew HR6.out C6 ((((Below.refl _ w6).alloc (Nat.le_refl _) _).alloc (by simp) _).alloc (by simp; omega) _).drew (Whole.drew (by simpa using Whole.new ((w6.alloc (diskB A6 4 c6 4 9)).alloc zeroB) 5 #[.int .u8 0, .int .u8 0, .int .u8 0, .int .u8 0, .int .u8 0, .int .u8 0])))
  have hmk := make_six
  go_cut [6] (fun s6 wx => s6 = .int .i64 30 ∧ Below (w6.heap.size + 1) (w6.alloc (diskB A6 4 c6 4 9)) wx)
  case first =>
    have HB := Lib.hid (((Below.refl (w6.heap.size + 1) (w6.alloc (diskB A6 4 c6 4 9))).alloc (by simp) sixB).drew)
    have HB2 := Lib.hid ((((Below.refl (w6.heap.size + 1) (w6.alloc (diskB A6 4 c6 4 9))).alloc (by simp) sixB).alloc (by simp) zeroB).drew)
    have HB3 := Lib.hid ((((Below.refl (w6.heap.size + 1) (w6.alloc (diskB A6 4 c6 4 9))).alloc (by simp) zeroB).alloc (by simp) sixB).drew)
    have hz2 : Whole (((w6.alloc (diskB A6 4 c6 4 9)).alloc sixB).alloc zeroB).drew (w6.heap.size + 1 + 1) 24 #[.slice none 0 0, .int .i64 0, .int .i64 0] := Whole.drew (by simpa using Whole.new ((w6.alloc (diskB A6 4 c6 4 9)).alloc sixB) 24 #[.slice none 0 0, .int .i64 0, .int .i64 0])
    have hz3 : Whole (((w6.alloc (diskB A6 4 c6 4 9)).alloc zeroB).alloc sixB).drew (w6.heap.size + 1) 24 #[.slice none 0 0, .int .i64 0, .int .i64 0] := Whole.drew (by simpa using (Whole.new (w6.alloc (diskB A6 4 c6 4 9)) 24 #[.slice none 0 0, .int .i64 0, .int .i64 0]).alloc sixB)
    have HZ2 := Lib.hid hz2
    have HZ3 := Lib.hid hz3
    clear hz2 hz3
    go_region_with (first | (go_at_call 10; ((with_reducible refine (HA.out).mono ?_); rintro e w7 ⟨A7, c7, rfl, d7⟩); have HB7 := Lib.hid (HB.out.trans (d7.mono (by simp))); clear d7) | (go_at_call 10; ((with_reducible refine (HA2.out).mono ?_); rintro e w7 ⟨A7, c7, rfl, d7⟩); have HB7 := Lib.hid (HB2.out.trans (d7.mono (by simp))); have Z7 := Lib.hid (HZ2.out.under d7); obtain ⟨y0, y1, y2⟩ := Z7.out.cells3; have g0 := Z7.out.frozen 0; have g1 := Z7.out.frozen 1; have g2 := Z7.out.frozen 2; clear d7) | (go_at_call 10; ((with_reducible refine (HA3.out).mono ?_); rintro e w7 ⟨A7, c7, rfl, d7⟩); have HB7 := Lib.hid (HB3.out.trans (d7.mono (by simp))); have Z7 := Lib.hid (HZ3.out.under d7); obtain ⟨y0, y1, y2⟩ := Z7.out.cells3; have g0 := Z7.out.frozen 0; have g1 := Z7.out.frozen 1; have g2 := Z7.out.frozen 2; clear d7) | (go_at_call 10; trace_state; fail))
    all_goals
      go_wp2_with fail
      go_meet
      first
        | exact ⟨rfl, HB7.out.alloc (by have := HB7.out.size; simpa using this) _⟩
        | exact ⟨rfl, below_setDisk HB7.out (b := w6.heap.size + 1) (Nat.le_refl _) _ _ _⟩
        | exact ⟨rfl, below_setDisk HB7.out (b := w6.heap.size + 1 + 1) (Nat.le_succ _) _ _ _⟩
  case rest =>
    obtain ⟨rfl, hb⟩ := hcut
    have hs : w6.heap.size + 1 ≤ wc.heap.size := by have := hb.size; simpa using this
    have hw6 : Below w6.heap.size w6 wc := ((Below.refl _ w6).alloc (Nat.le_refl _) (diskB A6 4 c6 4 9)).trans (hb.mono (Nat.le_succ _))
    have X7 := HX6.out.under hw6
    have Y7 := (Whole.new w6 24 #[.slice A6 4 c6, .int .i64 4, .int .i64 9]).below hb (Nat.lt_succ_self _)
    have HR5' := Lib.hid (HR5.out.below hw6)
    have HR6' := Lib.hid (HR6.out.below hw6)
    clear HR5 HR6
    have HR5 := HR5'
    have HR6 := HR6'
    clear HR5' HR6'
    have HB7 := Lib.hid (HB6.out.trans (hw6.mono HB6.out.size))
    obtain ⟨x0, x1, x2⟩ := X7.cells3
    obtain ⟨y0, y1, y2⟩ := Y7.cells3
    have HX7 := Lib.hid X7
    have HY7 := Lib.hid Y7
    clear hmk X7 Y7 hw6 hb HA HA2 HA3
    go_wp2_with fail
    refine (wk_same _ _ _ _ _ _ _ (HR6.out.below ((Below.refl wc.heap.size wc).alloc (Nat.le_refl _) (.cells (bv [1, 2, 3, 4]).toArray 5) |>.mono (by omega))) (rd_lit wc (bv [1, 2, 3, 4]) 5 4 rfl)).mono ?_
    rintro e w8 ⟨rfl, rfl⟩
    obtain ⟨W8, hW8⟩ : ∃ W, wc.alloc (.cells (bv [1, 2, 3, 4]).toArray 5) = W := ⟨_, rfl⟩
    have hb8 : Below wc.heap.size wc W8 := by rw [← hW8]; exact (Below.refl wc.heap.size wc).alloc (Nat.le_refl _) _
    rw [hW8]
    clear hW8 x0 x1 x2 y0 y1 y2
    obtain ⟨y0, y1, y2⟩ := (HY7.out.under hb8).cells3
    have HB8 := Lib.hid hb8
    clear hb8
    go_wp2_with fail
    refine (wk_free _ _ _ ((HR6.out.below (HB8.out.mono (by omega))).more (by have := HB8.out.size; omega)) C6).mono ?_
    rintro e w9 ⟨rfl, d9⟩
    have b9 := HB8.out.trans (d9.mono HB8.out.size)
    obtain ⟨x0, x1, x2⟩ := (HX7.out.under b9).cells3
    have HB9 := Lib.hid b9
    clear d9 b9
    go_wp2_with fail
    refine (wk_lost _ _ _ ((HR5.out.below (HB9.out.mono (by omega))).more (by have := HB9.out.size; omega)) C5).mono ?_
    rintro e w10 ⟨A10, c10, rfl, o10, d10⟩
    have HB10 := Lib.hid (HB7.out.trans ((HB9.out.trans (d10.mono HB9.out.size)).mono HB7.out.size))
    clear d10 o10
    have hfl := field0_disk
    go_wp2_with fail
    go_ret
    exact ⟨rfl, HB10.out⟩

end Go.Proofs.Ytekffkoggnbgeaa
