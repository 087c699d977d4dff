/-
  The walk of the statement 'RecordNumbers' at a configuration, whose numbers may be more or fewer: it answers true, and nothing that was there turns. Conditions: none.
-/
import Derived.Test.YtcgfakpolfopnaaRecNumbers
import Derived.Test.YtcgfakpolfopnaaRecOpen
namespace Go.Proofs.Ytcgfakpolfopnaa
open Go.RowKit Go.Shelf

set_option maxRecDepth 100000 in
set_option maxHeartbeats 4000000 in
theorem recNum_conf (k : Nat) (hkI : (k : Int) = 2) (A : Option Addr) (n c : Nat) (zs : List Int) (at_ off : Int) (w : World) (hk : k < 256) (hr : Rd w w.heap.size A n (iv zs)) (h1 : greatB [⟨k, A, n, c, zs⟩] = false) (h2 : mayB k zs = true) (ho1 : 1 ≤ off) (ho2 : off ≤ 1000) :
    Calls Try.prog 6 #[.agg #[.int .u8 2, .slice A n c], .int .i64 at_, .int .i64 off] w (TruePost w) := by
  have hb1 : Below w.heap.size w (w.alloc (.cells #[.int .u8 2, .slice A n c] 24)) := (Below.refl _ w).alloc (Nat.le_refl _) _
  have HG := Lib.hid (great_any (some ⟨w.heap.size + 1, 0, none⟩) 1 1 [⟨k, A, n, c, zs⟩] _ _ (rdR_one (w.alloc (.cells #[.int .u8 2, .slice A n c] 24)) ⟨k, A, n, c, zs⟩ w.heap.size hb1.size hk (hr.below hb1) (w.heap.size + 1) (by simp)))
  have hb2 := hb1.alloc hb1.size (.cells #[.int .u8 2, .slice A n c] 24)
  have HB2 := Lib.hid hb2
  have HX := Lib.hid ((Whole.new w 24 #[.int .u8 2, .slice A n c]).alloc (.cells #[.int .u8 2, .slice A n c] 24))
  have HRRt := Lib.hid (fun (W : World) (hW : Below w.heap.size w W) => refRight_any k A n c zs w.heap.size W (hr.below hW) hW.size)
  rw [h2] at HRRt
  rw [h1] at HG
  rw [hkI] at HG HRRt
  have HM := Lib.hid h2
  have HR := Lib.hid hr
  have HkI := Lib.hid hkI
  have d1 : decide (off < 1) = false := by simp; omega
  have d2 : decide (1000 < off) = false := by simp; omega
  have hn : n ≤ 18 := by have h3 := (mayB_yes h2).2.1; have h4 := (hi_le k).1; have h5 := hr.1; rw [iv_length] at h5; omega
  have hln : zs.length = n := by have := hr.1; rwa [iv_length] at this
  have Hln := Lib.hid hln
  clear hr hb1 hb2 h1 h2 hkI hln
  go_enter Try.func6, Try.ntmps6
  go_wp2_with fail
  refine (HG.out).mono ?_
  rintro e w1 ⟨rfl, rfl⟩
  go_wp2_with fail
  refine (HRRt.out _ HB2.out).mono ?_
  rintro e w2 ⟨rfl, b2⟩
  have B2 := Lib.hid (HB2.out.trans (b2.mono HB2.out.size))
  have X2 := Lib.hid (HX.out.under b2)
  have q0 := X2.out.cell 0
  have q1 := X2.out.cell 1
  simp only [List.getElem?_toArray, List.getElem?_cons_zero, List.getElem?_cons_succ] at q0 q1
  clear b2 HX HB2 HG HRRt
  go_wp2_with fail
  refine (right_at 2 k HkI.out hk true A n c zs HM.out w.heap.size w2 (HR.out.below B2.out) B2.out.size).mono ?_
  rintro e w3 ⟨rfl, b3⟩
  have B3 := Lib.hid (B2.out.trans (b3.mono B2.out.size))
  have X3 := Lib.hid (X2.out.under b3)
  have R3 := Lib.hid ((HR.out.below B3.out).more B3.out.size)
  clear b3 q0 q1 X2 B2
  go_wp2_with fail
  refine more_region rfl (by kernel_rfl) ⟨_, rfl, rfl, rfl, rfl, rfl, by kernel_rfl⟩ ⟨_, rfl, rfl, rfl, rfl, rfl, by kernel_rfl⟩ ⟨_, rfl, rfl, rfl, rfl, rfl, by kernel_rfl⟩ ⟨_, rfl, rfl, rfl, rfl, rfl, by kernel_rfl⟩ ⟨_, rfl, rfl, rfl, rfl, rfl, by kernel_rfl⟩ ⟨_, rfl, rfl, rfl, rfl, rfl, by kernel_rfl⟩ ⟨_, rfl, rfl, rfl, rfl, rfl, by kernel_rfl⟩ ⟨_, rfl, rfl, rfl, rfl, rfl, by kernel_rfl⟩ ⟨_, rfl, rfl, rfl, rfl, rfl, by kernel_rfl⟩ ⟨_, rfl, rfl, rfl, rfl, rfl, by kernel_rfl⟩ ⟨_, rfl, rfl, rfl, rfl, rfl, by kernel_rfl⟩ _ ?_ w.heap.size w3 k A n c zs rfl (by rw [HkI.out]; exact X3.out) R3.out (by omega) ?_
  · intro d hd
    simp only [List.mem_cons, List.not_mem_nil, or_false] at hd
    rcases hd with rfl | rfl | rfl | rfl | rfl | rfl | rfl | rfl | rfl | rfl <;> simp
  rintro σ w5 b5 A5 c5 σ7 b5' X5 R5
  rw [HkI.out] at X5
  simp only [lay, List.foldl_cons, List.foldl_nil, Act.put, List.setIfInBounds_toArray, List.set_cons_zero, List.set_cons_succ, σ7]
  have B5 := Lib.hid (B3.out.trans (b5'.mono B3.out.size))
  have X5' := Lib.hid (X3.out.under b5')
  have S5 := Lib.hid R5
  have y0 := X5.cell 0
  have y1 := X5.cell 1
  have q0 := X5'.out.cell 0
  have q1 := X5'.out.cell 1
  simp only [List.getElem?_toArray, List.getElem?_cons_zero, List.getElem?_cons_succ] at y0 y1 q0 q1
  clear b5' X5 R5 X3 R3 B3 σ7
  have B6 := B5
  have X6 := X5'
  clear B5 X5' S5 y0 y1
  go_wp2_with fail
  refine (of_at 0 0 rfl A n c zs w.heap.size w5 (HR.out.below B6.out) B6.out.size (by omega)).mono ?_
  rintro e w7 ⟨A7, c7, rfl, o7, b7⟩
  clear q0 q1
  have B7 := Lib.hid (B6.out.trans (b7.mono B6.out.size))
  have X7 := Lib.hid (X6.out.under b7)
  have q0 := X7.out.cell 0
  have q1 := X7.out.cell 1
  simp only [List.getElem?_toArray, List.getElem?_cons_zero, List.getElem?_cons_succ] at q0 q1
  have S7 := Lib.hid (Rd.of_own o7)
  clear b7 o7 B6 X6
  go_wp2_with fail
  refine (right_at 0 0 rfl (by omega) false A7 n c7 zs (mayB_kindless (.inl rfl) zs) w7.heap.size w7 S7.out (Nat.le_refl _)).mono ?_
  rintro e w8 ⟨rfl, b8⟩
  clear q0 q1
  have B8 := Lib.hid (B7.out.trans (b8.mono B7.out.size))
  have X8 := Lib.hid (X7.out.under b8)
  have q0 := X8.out.cell 0
  have q1 := X8.out.cell 1
  simp only [List.getElem?_toArray, List.getElem?_cons_zero, List.getElem?_cons_succ] at q0 q1
  clear b8 B7 X7 S7
  go_wp2_with fail
  refine (of_at 17 17 rfl A n c zs w.heap.size w8 (HR.out.below B8.out) B8.out.size (by omega)).mono ?_
  rintro e w9 ⟨A9, c9, rfl, o9, b9⟩
  clear q0 q1
  have B9 := Lib.hid (B8.out.trans (b9.mono B8.out.size))
  have X9 := Lib.hid (X8.out.under b9)
  have q0 := X9.out.cell 0
  have q1 := X9.out.cell 1
  simp only [List.getElem?_toArray, List.getElem?_cons_zero, List.getElem?_cons_succ] at q0 q1
  have S9 := Lib.hid (Rd.of_own o9)
  clear b9 o9 B8 X8
  go_wp2_with fail
  refine (right_at 17 17 rfl (by omega) false A9 n c9 zs (mayB_kindless (.inr (by omega)) zs) w9.heap.size w9 S9.out (Nat.le_refl _)).mono ?_
  rintro e w10 ⟨rfl, b10⟩
  clear q0 q1
  have B10 := Lib.hid (B9.out.trans (b10.mono B9.out.size))
  have X10 := Lib.hid (X9.out.under b10)
  have q0 := X10.out.cell 0
  have q1 := X10.out.cell 1
  simp only [List.getElem?_toArray, List.getElem?_cons_zero, List.getElem?_cons_succ] at q0 q1
  clear b10 B9 X9 S9
  go_wp2_with fail
  · refine (wakes_any _).mono ?_
    rintro e w11 ⟨rfl, b11⟩
    have B11 := Lib.hid (B10.out.trans (b11.mono B10.out.size))
    clear b11
    go_wp2_with fail
    go_ret
    exact ⟨rfl, B11.out⟩
  have hn0 : ((n : Int) == 0) = false := by assumption
  have hp : 0 < n := by
    rw [beq_eq_false_iff_ne] at hn0
    omega
  go_quiet (fail)
  have hb12 : Below w10.heap.size w10 (w10.drewN nq) := below_drewN (Below.refl _ _) nq
  obtain ⟨w12, hw12⟩ : ∃ w12, w10.drewN nq = w12 := ⟨_, rfl⟩
  rw [hw12] at hb12
  have L1 := (X10.out.under hb12).cell 0
  have L2 := (X10.out.under hb12).cell 1
  simp only [List.getElem?_toArray, List.getElem?_cons_zero, List.getElem?_cons_succ] at L1 L2
  have HC := Lib.hid hb12
  rw [hw12]
  clear q0 q1 hw12 hb12
  go_wp2_with fail
  have hmw := mod_wrap at_ n hp hn
  obtain ⟨j, hj, hjn⟩ := mod_at at_ n hp
  go_quiet (fail)
  rename_i nq
  have b13 : Below w10.heap.size w10 (w12.drewN nq) := below_drewN HC.out nq
  have B13 := Lib.hid (B10.out.trans (b13.mono B10.out.size))
  have X13 := Lib.hid (X10.out.under b13)
  have R13 := Lib.hid ((HR.out.below B13.out).more B13.out.size)
  obtain ⟨w13, hw13⟩ : ∃ w13, w12.drewN nq = w13 := ⟨_, rfl⟩
  rw [hw13] at B13 X13 R13
  have hx13 : w.heap.size < w13.heap.size := X13.out.lt
  clear L1 L2 HC B10 X10 b13 hmw
  rw [hw13]
  clear hw13
  go_wp2_with fail
  refine pair_region rfl (by kernel_rfl) ⟨_, rfl, rfl, rfl, rfl, rfl, by kernel_rfl⟩ ⟨_, rfl, rfl, rfl, rfl, rfl, by kernel_rfl⟩ ⟨_, rfl, rfl, rfl, rfl, rfl, by kernel_rfl⟩ ⟨_, rfl, rfl, rfl, rfl, rfl, by kernel_rfl⟩ ⟨_, rfl, rfl, rfl, rfl, rfl, by kernel_rfl⟩ ⟨_, rfl, rfl, rfl, rfl, rfl, by kernel_rfl⟩ ⟨_, rfl, rfl, rfl, rfl, rfl, by kernel_rfl⟩ ⟨_, rfl, rfl, rfl, rfl, rfl, by kernel_rfl⟩ ⟨_, rfl, rfl, rfl, rfl, rfl, by kernel_rfl⟩ ⟨_, rfl, rfl, rfl, rfl, rfl, by kernel_rfl⟩ ⟨_, rfl, rfl, rfl, rfl, rfl, by kernel_rfl⟩ ⟨_, rfl, rfl, rfl, rfl, rfl, by kernel_rfl⟩ ⟨_, rfl, rfl, rfl, rfl, rfl, by kernel_rfl⟩ ⟨_, rfl, rfl, rfl, rfl, rfl, by kernel_rfl⟩ _ ?_ w.heap.size w13 k A n c zs rfl (by rw [HkI.out]; exact X13.out) R13.out (by omega) ?_
  · intro d hd
    simp only [List.mem_cons, List.not_mem_nil, or_false] at hd
    rcases hd with rfl | rfl | rfl | rfl | rfl | rfl | rfl | rfl | rfl | rfl | rfl | rfl <;> simp
  rintro σ' w14 b8 b9 A4 c4 A9 c9 σ8 σ9 b14 g8 g9 X8 X9 o4 o9 hsep hne
  rw [HkI.out] at X8 X9
  simp only [lay, List.foldl_cons, List.foldl_nil, Act.put, List.setIfInBounds_toArray, List.set_cons_zero, List.set_cons_succ, σ8, σ9]
  have B14 := Lib.hid (B13.out.trans (b14.mono B13.out.size))
  have X14 := Lib.hid (X13.out.under b14)
  obtain ⟨G4, rfl, hG4⟩ := own_full hp o4
  obtain ⟨G9, rfl, hG9⟩ := own_full hp o9
  have y0 := X8.cell 0
  have y1 := X8.cell 1
  have z0 := X9.cell 0
  have z1 := X9.cell 1
  have q0 := X14.out.cell 0
  have q1 := X14.out.cell 1
  simp only [List.getElem?_toArray, List.getElem?_cons_zero, List.getElem?_cons_succ] at y0 y1 z0 z1 q0 q1
  have XX8 := Lib.hid X8
  have XX9 := Lib.hid X9
  have O4 := Lib.hid o4
  have O9 := Lib.hid o9
  have n49 : G4 ≠ G9 := fun e => hsep G4 rfl (by rw [e]; rfl)
  have n48 : G4 ≠ b8 := fun e => own_apart o4 X8 (by rw [e]; rfl)
  have n49' : G4 ≠ b9 := fun e => own_apart o4 X9 (by rw [e]; rfl)
  have n98 : G9 ≠ b8 := fun e => own_apart o9 X8 (by rw [e]; rfl)
  have n99 : G9 ≠ b9 := fun e => own_apart o9 X9 (by rw [e]; rfl)
  clear b14 X8 X9 o4 o9 X13 R13 σ8 σ9 hsep
  go_wp2_with fail
  have hwl : IntKind.i64.wrap (-off) = -off := wrap_in _ (by omega) (by omega)
  have hwh : IntKind.i64.wrap (1099511627776 + off) = 1099511627776 + off := wrap_in _ (by omega) (by omega)
  have i0 : (0 : Int) ≤ (j : Int) := by omega
  have i1 : (j : Int) < (n : Int) := by omega
  obtain ⟨⟨u4, p4⟩, f4⟩ := own_cell O4.out hjn
  obtain ⟨⟨u9, p9⟩, f9⟩ := own_cell O9.out hjn
  obtain ⟨w16, hw16⟩ : ∃ w16, ((w14.setCell ⟨G4, j, none⟩ (.int .i64 (-off))).setCell ⟨G9, j, none⟩ (.int .i64 (1099511627776 + off))).drew = w16 := ⟨_, rfl⟩
  have B16 : Below w.heap.size w w16 := by rw [← hw16]; exact ((B14.out.setCell (p := ⟨G4, j, none⟩) (by have := hG4.1; simp only []; omega) _).setCell (p := ⟨G9, j, none⟩) (by have := hG9.1; simp only []; omega) _).drew
  have X16 : Whole w16 w.heap.size 24 #[.int .u8 2, .slice A n c] := by rw [← hw16]; exact (Whole.far X14.out (p := ⟨G4, j, none⟩) (by have := hG4.1; simp only []; omega) _).far (p := ⟨G9, j, none⟩) (by have := hG9.1; simp only []; omega) _
  have Y16 : Whole w16 b8 24 #[.int .u8 2, .slice (some ⟨G4, 0, none⟩) n c4] := by rw [← hw16]; exact (Whole.far XX8.out (p := ⟨G4, j, none⟩) (Ne.symm n48) _).far (p := ⟨G9, j, none⟩) (Ne.symm n98) _
  have Z16 : Whole w16 b9 24 #[.int .u8 2, .slice (some ⟨G9, 0, none⟩) n c9] := by rw [← hw16]; exact (Whole.far XX9.out (p := ⟨G4, j, none⟩) (Ne.symm n49') _).far (p := ⟨G9, j, none⟩) (Ne.symm n99) _
  have R4 : Rd w16 w16.heap.size (some ⟨G4, 0, none⟩) n (iv (zs.set j (-off))) := by
    rw [← hw16]
    exact Rd.of_own (ownsRow_setCell_other (a := ⟨G9, j, none⟩) (own_set (j := j) O4.out (-off)) (fun e => n49 (by injection e)) _)
  have R9 : Rd w16 w16.heap.size (some ⟨G9, 0, none⟩) n (iv (zs.set j (1099511627776 + off))) := by
    rw [← hw16]
    exact Rd.of_own (own_set (j := j) (ownsRow_setCell_other (a := ⟨G4, j, none⟩) O9.out (fun e => n49 (by injection e with e; exact e.symm)) _) (1099511627776 + off))
  have hjl : j < zs.length := by rw [Hln.out]; exact hjn
  have ML := Lib.hid (mayB_bad (k := k) (List.mem_set hjl (-off)) (by simp [isNum]; omega))
  have MH := Lib.hid (mayB_bad (k := k) (List.mem_set hjl (1099511627776 + off)) (by simp [isNum]; omega))
  have HB := Lib.hid B16
  have HX := Lib.hid X16
  have HY := Lib.hid Y16
  have HZ := Lib.hid Z16
  have HR4 := Lib.hid R4
  have HR9 := Lib.hid R9
  have HW := Lib.hid hw16
  clear hw16 B16 X16 Y16 Z16 R4 R9 O4 O9 XX8 XX9 X14 B14 hG4 hG9 g8 g9 B13 y0 z0 q0 q1 hj
  go_region_held3 (fun W => W.cell? ⟨b8, 1, none⟩ = some (.slice (some ⟨G4, 0, none⟩) n c4) ∧ W.cell? ⟨b9, 1, none⟩ = some (.slice (some ⟨G9, 0, none⟩) n c9)) (go_keep) (fail)
  rename_i hHeld
  clear hHeld
  rw [HW.out]
  have y0 := HY.out.cell 0
  have y1' := HY.out.cell 1
  simp only [List.getElem?_toArray, List.getElem?_cons_zero, List.getElem?_cons_succ] at y0 y1'
  clear HW y1 z1 f4 f9 p4 p9 hwl hwh hjl
  go_wp2_with fail
  refine (right_at 2 k HkI.out hk false (some ⟨G4, 0, none⟩) n c4 (zs.set j (-off)) ML.out w16.heap.size w16 HR4.out (Nat.le_refl _)).mono ?_
  rintro e w17 ⟨rfl, b17⟩
  have HB7 := Lib.hid (HB.out.trans (b17.mono HB.out.size))
  have HX7 := Lib.hid (HX.out.under b17)
  have HY7 := Lib.hid (HY.out.under b17)
  have HZ7 := Lib.hid (HZ.out.under b17)
  have HR47 := Lib.hid ((HR4.out.below b17).more b17.size)
  have HR97 := Lib.hid ((HR9.out.below b17).more b17.size)
  clear y0 y1' b17 HB HX HY HZ HR4 HR9
  have z0 := HZ7.out.cell 0
  have z1 := HZ7.out.cell 1
  simp only [List.getElem?_toArray, List.getElem?_cons_zero, List.getElem?_cons_succ] at z0 z1
  go_wp2_with fail
  refine (right_at 2 k HkI.out hk false (some ⟨G9, 0, none⟩) n c9 (zs.set j (1099511627776 + off)) MH.out w17.heap.size w17 HR97.out (Nat.le_refl _)).mono ?_
  rintro e w18 ⟨rfl, b18⟩
  have HB8 := Lib.hid (HB7.out.trans (b18.mono HB7.out.size))
  have HX8 := Lib.hid (HX7.out.under b18)
  have HY8 := Lib.hid (HY7.out.under b18)
  have HR48 := Lib.hid ((HR47.out.below b18).more b18.size)
  clear z0 z1 b18 HB7 HX7 HY7 HZ7 HR47 HR97
  have q0 := HX8.out.cell 0
  have q1 := HX8.out.cell 1
  have y0 := HY8.out.cell 0
  have y1 := HY8.out.cell 1
  simp only [List.getElem?_toArray, List.getElem?_cons_zero, List.getElem?_cons_succ] at q0 q1 y0 y1
  have HA := Lib.hid (all_two 2 k HkI.out hk A (some ⟨G4, 0, none⟩) n c n c4 zs (zs.set j (-off)) false (by simp [allB, ML.out]) w18 ((HR.out.below HB8.out).more HB8.out.size) HR48.out)
  go_wp2_with fail
  refine (HA.out).mono ?_
  rintro e w19 ⟨rfl, b19⟩
  have b19' : Below w18.heap.size w18 w19 := ((Below.refl _ w18).alloc (Nat.le_refl _) _).trans (b19.mono (by simp))
  have HB9 := Lib.hid (HB8.out.trans (b19'.mono HB8.out.size))
  have HX9 := Lib.hid (HX8.out.under b19')
  clear q0 q1 y0 y1 b19 b19' HB8 HX8 HY8 HR48 HA
  have q0 := HX9.out.cell 0
  have q1 := HX9.out.cell 1
  simp only [List.getElem?_toArray, List.getElem?_cons_zero, List.getElem?_cons_succ] at q0 q1
  have R9 := (HR.out.below HB9.out).more HB9.out.size
  have HA := Lib.hid (all_two 2 k HkI.out hk A A n c n c zs zs true (by simp [allB, HM.out]) w19 R9 R9)
  clear R9
  go_wp2_with fail
  refine (HA.out).mono ?_
  rintro e w20 ⟨rfl, b20⟩
  have b20' : Below w19.heap.size w19 w20 := ((Below.refl _ w19).alloc (Nat.le_refl _) _).trans (b20.mono (by simp))
  have HB10 := Lib.hid (HB9.out.trans (b20'.mono HB9.out.size))
  clear q0 q1 b20 b20' HB9 HX9 HA
  go_wp2_with fail
  refine (wakes_any _).mono ?_
  rintro e w21 ⟨rfl, b21⟩
  have HB11 := Lib.hid (HB10.out.trans (b21.mono HB10.out.size))
  clear b21
  go_wp2_with fail
  go_ret
  exact ⟨rfl, HB11.out⟩

/-- 'RecordNumbers' answers true, and nothing that was there turns. -/
theorem recNum_walk (k : Nat) (A : Option Addr) (n c : Nat) (zs : List Int) (at_ off : Int) (w : World) (hk : k < 256) (hr : Rd w w.heap.size A n (iv zs)) (hc : n ≤ c) :
    Calls Try.prog 6 #[.agg #[.int .u8 (k : Int), .slice A n c], .int .i64 at_, .int .i64 off] w (TruePost w) := by
  cases h1 : greatB [⟨k, A, n, c, zs⟩]
  · cases h2 : mayB k zs
    · exact recNum_out k A n c zs at_ off w hk hr (.inr (.inl ⟨h1, h2⟩))
    · by_cases h3 : off < 1
      · exact recNum_out k A n c zs at_ off w hk hr (.inr (.inr (.inl ⟨h1, h2, h3⟩)))
      · by_cases h4 : 1000 < off
        · exact recNum_out k A n c zs at_ off w hk hr (.inr (.inr (.inr ⟨h1, h2, by omega, h4⟩)))
        · by_cases h5 : (k : Int) = 2
          · have := recNum_conf k h5 A n c zs at_ off w hk hr h1 h2 (by omega) (by omega)
            rwa [← h5] at this
          · exact recNum_in k k rfl h5 A n c hc zs at_ off w hk hr h1 h2 (by omega) (by omega)
  · exact recNum_out k A n c zs at_ off w hk hr (.inl h1)

section
open Go.ChangeShapes Go.WideShapes Go.Deep Go.Joins
variable {H : Type} {enc : TypeId × Value → H} {W : World} {base : Nat} {held : Bool} {d : DataW H} {p : List MemPlace} {v : Value}
/-- A record that comes in, its capacity told. -/
theorem open_recC (hv : Value.okWide Try.prog W .any base 24 v) (h : DataW.Trod enc Try.prog W 0 (fun _ => true) held 24 v d p) :
    ∃ k A n c zs, v = .agg #[.int .u8 ((k : Nat) : Int), .slice A n c] ∧ k < 256 ∧ Rd W W.heap.size A n (iv zs) ∧ n ≤ c := by
  obtain ⟨v0, v1, y0, y1, m, rfl, _, _, h0, h1⟩ := open_agg2 Try.underlying24 (by kernel_rfl) (by kernel_rfl) hv h
  obtain ⟨k, rfl, hk⟩ := open_kindC h0
  obtain ⟨A, n, c, zs, rfl, hr, h2, h3⟩ := open_intsC h1
  exact ⟨k, A, n, c, zs, rfl, hk, hr, h2⟩
end

end Go.Proofs.Ytcgfakpolfopnaa
