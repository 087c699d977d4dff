/-
  The walk of the statement BrainRight. Conditions: those that the theorem names.
-/
import Derived.Test.YtdaimejlcfhfiaaGreatDoorJ14


namespace Go.Proofs.YtdaimejlcfhfiaaGreatDoor
open Go.RowKit Go.Shelf

/-- What holds ahead of each record. -/
structure LwAt (w : World) (n : Nat) (q : Br) (j : Nat) (W : World) : Prop where
  box : ∃ a, Whole W w.heap.size 30 (brC q a) ∧ Hs w q a W
  below : Below w.heap.size w W
  right : RightB q
  good : Good (80 + j) q
  ms : q.cf.ms.length ≤ 1000
  le : j ≤ n
/-- What the count tells. -/
theorem more_cases {q : Br} {k : Nat} {zs : List Int} : ((applyB q k zs).its.length + (applyB q k zs).kps.length = q.its.length + q.kps.length) ∨
    ((applyB q k zs).its.length + (applyB q k zs).kps.length = q.its.length + q.kps.length + 1 ∧ k = 3) ∨ ((applyB q k zs).its.length + (applyB q k zs).kps.length = q.its.length + q.kps.length + 1 ∧ k = 8) ∨
    ((applyB q k zs).its.length + (applyB q k zs).kps.length + 1 = q.its.length + q.kps.length ∧ k = 7) := by
  rcases (step_apply q k zs).cnt with h | ⟨h, h2 | h2⟩ | ⟨h, h2⟩
  · exact .inl h
  · exact .inr (.inl ⟨h, by omega⟩)
  · exact .inr (.inr (.inl ⟨h, by omega⟩))
  · exact .inr (.inr (.inr ⟨h, by omega⟩))

set_option maxRecDepth 100000 in
set_option maxHeartbeats 8000000 in
theorem brainRight_any (p : Br) (a : Ad) (A : Option Addr) (n c : Nat) (xs : List RE) (w : World) (hp : BrAny w p a) (hx : RdR w w.heap.size A n xs) (hcap : ∀ x ∈ xs, x.n ≤ x.c ∧ x.c ≤ maxLen) (hT : Tab w) (hH : TabH w) :
    Calls Tryz.prog 4 #[brV p a, .slice A n c] w (TruePostB w) := by
  obtain ⟨V, hV⟩ : ∃ V, w.alloc (.cells (brC p a) 30) = V := ⟨_, rfl⟩
  have hw : Whole V w.heap.size 30 (brC p a) := by rw [← hV]; exact Whole.new _ _ _
  have hb : Below w.heap.size w V := by rw [← hV]; exact (Below.refl _ _).alloc (Nat.le_refl _) _
  obtain ⟨V1, hV1⟩ : ∃ V1, V.alloc (.cells (brC p a) 30) = V1 := ⟨_, rfl⟩
  have hw1 : Whole V1 V.heap.size 30 (brC p a) := by rw [← hV1]; exact Whole.new _ _ _
  have hb1 : Below V.heap.size V V1 := by rw [← hV1]; exact (Below.refl _ _).alloc (Nat.le_refl _) _
  have hsV : V.heap.size = w.heap.size + 1 := by rw [← hV]; simp
  have hlen : xs.length = n := hx.1
  have HV := Lib.hid hV
  have HV1 := Lib.hid hV1
  have X0 := Lib.hid hw
  have HB := Lib.hid (hb.trans (hb1.mono hb.size))
  have HP := Lib.hid hp
  have HX := Lib.hid hx
  have HCap := Lib.hid hcap
  have HT := Lib.hid hT
  have HH := Lib.hid hH
  have HL := Lib.hid hlen
  have HW := fun W (h : Below w.heap.size w W) => Lib.hid (wakes_any W (hT.below (Nat.le_refl _) h) (hH.under h))
  have HG := Lib.hid (great1_any A n c xs w.heap.size p a V.heap.size V1 (hx.below (hb.trans (hb1.mono hb.size))) (hb.trans (hb1.mono hb.size)).size hw1)
  have X1 := Lib.hid (hw.under hb1)
  rw [hsV] at HG
  clear hV hV1 hw hw1 hb hb1 hp hx hcap hT hH hlen
  cases hgr : (gB p || gR xs) with
  | true =>
    rw [hgr] at HG
    clear hgr
    go_enter Tryz.func4, Tryz.ntmps4
    go_upto_region 1 with fail
    refine wpV (fun V2 hV2 => ?_)
    obtain rfl : V = V2 := HV.out.symm.trans hV2
    clear HV hV2
    go_wp2_with (refine wpList_loadB (by rfl) _ rfl w.heap.size p a (by rfl) X0.out ?_)
    refine ((by rw [HV1.out]; exact HG.out) : Calls Tryz.prog 9 #[.slice A n c, .slice (some ⟨w.heap.size + 1, 0, none⟩) 1 1] (V.alloc (.cells (brC p a) 30)) (BoolPost true V1)).mono ?_
    rintro e V3 ⟨rfl, b3⟩
    have HB3 := Lib.hid (HB.out.trans (b3.mono HB.out.size))
    have HWk := HW V3 HB3.out
    clear b3 HB HG X0 X1
    go_wp2_with fail
    refine HWk.out.mono ?_
    rintro e V4 ⟨rfl, b4⟩
    have HB4 := Lib.hid (HB3.out.trans (b4.mono HB3.out.size))
    clear b4 HB3 HWk HW
    go_wp2_with fail
    go_ret
    exact ⟨rfl, HB4.out⟩
  | false =>
    rw [hgr] at HG
    simp only [Bool.or_eq_false_iff] at hgr
    have HGB := Lib.hid hgr.1
    have HGR := Lib.hid (gR_no hgr.2)
    clear hgr
    go_enter Tryz.func4, Tryz.ntmps4
    go_upto_region 1 with fail
    refine wpV (fun V2 hV2 => ?_)
    obtain rfl : V = V2 := HV.out.symm.trans hV2
    clear HV hV2
    go_wp2_with (refine wpList_loadB (by rfl) _ rfl w.heap.size p a (by rfl) X0.out ?_)
    refine ((by rw [HV1.out]; exact HG.out) : Calls Tryz.prog 9 #[.slice A n c, .slice (some ⟨w.heap.size + 1, 0, none⟩) 1 1] (V.alloc (.cells (brC p a) 30)) (BoolPost false V1)).mono ?_
    rintro e V3 ⟨rfl, b3⟩
    have HB3 := Lib.hid (HB.out.trans (b3.mono HB.out.size))
    have X3 := Lib.hid (X1.out.under b3)
    obtain ⟨hgood, hms⟩ := HP.out.good HGB.out
    have HGood := Lib.hid hgood
    have HMs := Lib.hid hms
    have HRr := Lib.hid (rrightB_any p a V3.heap.size V3 (HP.out.rd.up HB3.out) (Nat.le_refl _) hms (by have := hgood.len; omega) (by have := hgood.len; omega))
    clear b3 HB HG X0 X1 hgood hms
    go_wp2_with (refine wpList_loadB (by rfl) _ rfl w.heap.size p a (by rfl) X3.out ?_)
    refine HRr.out.mono ?_
    rintro e V4 ⟨rfl, b4⟩
    have HB4 := Lib.hid (HB3.out.trans (b4.mono HB3.out.size))
    have X4 := Lib.hid (X3.out.under b4)
    clear b4 HB3 X3 HRr
    cases hrt : rightBb p with
    | false =>
      have HWk := HW V4 HB4.out
      clear hrt
      go_wp2_with fail
      refine HWk.out.mono ?_
      rintro e V5 ⟨rfl, b5⟩
      have HB5 := Lib.hid (HB4.out.trans (b5.mono HB4.out.size))
      clear b5 HB4 HWk HW X4
      go_wp2_with fail
      go_ret
      exact ⟨rfl, HB5.out⟩
    | true =>
      have HRb := Lib.hid (rightBb_iff.1 hrt)
      clear hrt
      go_wp2_with fail
      go_loopw [5] (fun i wr => ∃ (j : Nat) (q : Br), i = .int .i64 (j : Int) ∧ LwAt w n q j wr) (fun i _ => n - (intOf i).toNat)
      case atStart =>
        exact ⟨0, p, rfl, ⟨⟨a, X4.out, .inl (HP.out.rd.below HB4.out)⟩, HB4.out, HRb.out, HGood.out, HMs.out, Nat.zero_le _⟩⟩
      case round =>
        obtain ⟨j, q, rfl, hI⟩ := hrel
        have HI := Lib.hid hI
        clear hI HB4 X4 HRb
        by_cases hlt : j < n
        rotate_left
        · have hge : decide (j < n) = false := by simp; omega
          have HWk := HW wr HI.out.below
          have HB5 := Lib.hid HI.out.below
          clear hlt HI HW
          go_wp2_with fail
          refine HWk.out.mono ?_
          rintro e V5 ⟨rfl, b5⟩
          have HB6 := Lib.hid (HB5.out.trans (b5.mono HB5.out.size))
          clear b5 HB5 HWk
          go_wp2_with fail
          go_ret
          exact ⟨rfl, HB6.out⟩
        · have HLt := Lib.hid hlt
          have hd1 : decide (j < n) = true := by simp; omega
          obtain ⟨aq, hbx, hs⟩ := HI.out.box
          have HBx := Lib.hid hbx
          have HS := Lib.hid hs
          obtain ⟨x, hx⟩ : ∃ x, xs[j]? = some x := ⟨_, List.getElem?_eq_getElem (by have := HL.out; omega)⟩
          obtain ⟨b, off, rfl, hb, hc⟩ := HX.out.2.1 (by omega)
          have hmx := List.mem_of_getElem? hx
          have HC := Lib.hid (show wr.cell? ⟨b, off + j * 2, none⟩ = some (.int .u8 (x.k : Int)) ∧ wr.cell? ⟨b, off + j * 2 + 1, none⟩ = some (.slice x.A x.n x.c) from ⟨(HI.out.below.cell (p := ⟨b, off + j * 2, none⟩) hb).trans (hc j x hx).1, (HI.out.below.cell (p := ⟨b, off + j * 2 + 1, none⟩) hb).trans (hc j x hx).2⟩)
          have HBl := Lib.hid (show b < wr.heap.size from Nat.lt_of_lt_of_le hb HI.out.below.size)
          have HRd := Lib.hid (show Rd wr wr.heap.size x.A x.n (iv x.zs) from ((HX.out.2.2 x hmx).2.below HI.out.below).more HI.out.below.size)
          have HK := Lib.hid (HX.out.2.2 x hmx).1
          have HCp := Lib.hid (HCap.out x hmx)
          have HGd := Lib.hid (good_mono HI.out.good (show 80 + j ≤ 400 by have := HGR.out.1; have := HL.out; omega))
          have HTw := Lib.hid (show Tab wr from HT.out.under HI.out.below)
          have HHw := Lib.hid (show TabH wr from HH.out.under HI.out.below)
          clear hlt hbx hs hx hb hc hmx
          go_upto_region 6 with fail
          refine region_grow (by kernel_rfl) (by kernel_rfl) 7 [24, 25, 26, 27, 28, 29, 6] (by kernel_rfl) (by simp)
            (fun i v w => match i with | 0 => BrR q v w | 1 => v = .slice (some ⟨b, off, none⟩) n c | 2 => v = .int .i64 (j : Int) | 3 => v = .pointer (some ⟨b, off + j * 2, none⟩) | 4 => v = .agg #[.int .u8 (x.k : Int), .slice x.A x.n x.c] | 5 => BrIs (applyB q (x.k : Int) x.zs) v w | 6 => BoxIs wr.heap.size v w | _ => True) ?_ ?_ ?_
          · intro i v w w' hb h
            match i, h with
            | 0, h => exact BrR.under hb h
            | 1, h => exact h
            | 2, h => exact h
            | 3, h => exact h
            | 4, h => exact h
            | 5, h => exact BrIs.under hb h
            | 6, h => exact BoxIs.under hb h
            | n + 7, h => trivial
          · intro i o d a w_ hi ho hd hag hbel hgot K hK
            rcases (by omega : i = 0 ∨ i = 1 ∨ i = 2 ∨ i = 3 ∨ i = 4 ∨ i = 5 ∨ i = 6) with rfl | rfl | rfl | rfl | rfl | rfl | rfl
            all_goals
              simp only [List.getElem?_toArray, List.getElem?_cons_zero, List.getElem?_cons_succ, Option.some.injEq] at ho
              subst ho
              injection hd with hd
              subst hd
            · exact opB_load (hag.eval (t := 2) (by decide)) (HBx.out.under hbel) (hK _ _ (Below.refl _ _) ⟨aq, rfl, (HS.out.under HI.out.below.size hbel).reads (Nat.le_trans HI.out.below.size hbel.size)⟩)
            · exact opB_move (hag.eval (t := 1) (by decide)) (hK _ _ (Below.refl _ _) rfl)
            · exact opB_move (hag.eval (t := 5) (by decide)) (hK _ _ (Below.refl _ _) rfl)
            · exact opB_recAt (hgot 1 25 (by kernel_rfl) rfl) (hgot 2 26 (by kernel_rfl) rfl) HLt.out (hK _ _ (Below.refl _ _) rfl)
            · exact opB_loadRec (hgot 3 27 (by kernel_rfl) rfl) ((hbel.cell (p := ⟨b, off + j * 2, none⟩) HBl.out).trans HC.out.1) ((hbel.cell (p := ⟨b, off + j * 2 + 1, none⟩) HBl.out).trans HC.out.2) (hK _ _ (Below.refl _ _) rfl)
            · exact opB_applyR (z := x) (hgot 0 24 (by kernel_rfl) rfl) (hgot 4 28 (by kernel_rfl) rfl) HK.out ((HRd.out.below hbel).more hbel.size) HCp.out HI.out.ms HGd.out (HTw.out.under hbel) (HHw.out.under hbel) hK
            · exact opB_alloc hbel.size hK
          intro o a_ w1_ ho hag hbel hgot K hK
          simp only [List.getElem?_toArray, List.getElem?_cons_zero, List.getElem?_cons_succ, Option.some.injEq] at ho
          subst ho
          obtain ⟨b6, e6, hlo6, hw6⟩ := hgot 6 6 (by decide) rfl
          obtain ⟨a6, f6, ho6⟩ := hgot 5 29 (by decide) rfl
          refine wp_storeB _ _ rfl b6 (applyB q (x.k : Int) x.zs) a6 _ (by rfl) e6 f6 hw6 (fun W6 hW_ => hK _ _ ?_)
          have X6 := Lib.hid (show Whole W6 b6 30 (brC (applyB q (x.k : Int) x.zs) a6) by rw [hW_]; exact setRow_heap _ _ _ _ _ _ hw6)
          have O6 := Lib.hid (show OwB 0 W6 (applyB q (x.k : Int) x.zs) a6 by rw [hW_]; exact ho6.rowset hw6 (by decide) (by decide) (by decide) _)
          have HBe := Lib.hid (show Below wr.heap.size wr W6 by rw [hW_]; exact below_rowsetB hbel hlo6 _)
          have HLo := Lib.hid hlo6
          have Y6 := Lib.hid (HBx.out.under HBe.out)
          have HBw := Lib.hid (HI.out.below.trans (HBe.out.mono HI.out.below.size))
          have C6 := Lib.hid ((HBe.out.cell (p := ⟨b, off + j * 2, none⟩) HBl.out).trans HC.out.1)
          have HBl6 := Lib.hid (Nat.lt_of_lt_of_le HBl.out HBe.out.size)
          have HT6 := Lib.hid (HTw.out.under HBe.out)
          obtain ⟨σ, hσ⟩ : ∃ σ : Nat → Value, (fun d => a_.eval (.tmp d)) = σ := ⟨_, rfl⟩
          have ha := hag.lay (by simp)
          rw [hσ] at ha
          have s_ : σ 6 = .pointer (some ⟨b6, 0, none⟩) := by rw [← hσ]; exact e6
          clear hσ hag hgot hK hbel hW_ e6 f6 ho6 hw6 hlo6 HBe
          subst ha
          simp only [lay, List.foldl_cons, List.foldl_nil, Act.put, List.setIfInBounds_toArray, List.set_cons_zero, List.set_cons_succ, s_]
          obtain ⟨u24, hu24⟩ : ∃ u, σ 24 = u := ⟨_, rfl⟩
          rw [hu24]
          obtain ⟨u25, hu25⟩ : ∃ u, σ 25 = u := ⟨_, rfl⟩
          rw [hu25]
          obtain ⟨u26, hu26⟩ : ∃ u, σ 26 = u := ⟨_, rfl⟩
          rw [hu26]
          obtain ⟨u27, hu27⟩ : ∃ u, σ 27 = u := ⟨_, rfl⟩
          rw [hu27]
          obtain ⟨u28, hu28⟩ : ∃ u, σ 28 = u := ⟨_, rfl⟩
          rw [hu28]
          obtain ⟨u29, hu29⟩ : ∃ u, σ 29 = u := ⟨_, rfl⟩
          rw [hu29]
          clear hu24 hu25 hu26 hu27 hu28 hu29 s_
          clear HBx HS HC HBl HRd HTw HHw
          obtain ⟨q', hq'⟩ : ∃ q', applyB q (x.k : Int) x.zs = q' := ⟨_, rfl⟩
          have HQ := Lib.hid hq'
          rw [hq'] at X6 O6
          have HR' := Lib.hid (show RightB q' by rw [← hq']; exact right_apply HI.out.right)
          have HSt := Lib.hid (show StepB (x.k : Int) q q' by rw [← hq']; exact step_apply q (x.k : Int) x.zs)
          have HGo := Lib.hid (show Good (80 + j + 1) q' by rw [← hq']; exact good_apply HI.out.good _ _)
          have HMo := Lib.hid (show q'.cf.ms.length ≤ 1000 by rw [← hq']; exact ms_apply HI.out.ms)
          have hmore := more_cases (q := q) (k := x.k) (zs := x.zs)
          rw [hq'] at hmore
          have HMore := Lib.hid hmore
          have hLe : 80 + j + 1 ≤ 400 := by have := HGR.out.1; have := HL.out; have := HLt.out; omega
          have HRr := Lib.hid (rrightB_any q' a6 W6.heap.size W6 O6.out.reads (Nat.le_refl _) HMo.out (by have := HGo.out.len; omega) (by have := HGo.out.len; omega))
          rw [rightBb_iff.2 HR'.out] at HRr
          clear hq' hmore
          go_wp2_with (refine wpList_loadB (by rfl) _ rfl b6 q' a6 (by rfl) X6.out ?_)
          refine HRr.out.mono ?_
          rintro e W7 ⟨rfl, b7⟩
          have X7 := Lib.hid (X6.out.under b7)
          have O7 := Lib.hid (O6.out.under b7)
          have B7 := Lib.hid (HBw.out.trans (b7.mono HBw.out.size))
          have Y7 := Lib.hid (Y6.out.under b7)
          have C7 := Lib.hid (show W7.cell? ⟨b, off + j * 2, none⟩ = some (.int .u8 (x.k : Int)) from (b7.cell (p := ⟨b, off + j * 2, none⟩) HBl6.out).trans C6.out)
          have T7 := Lib.hid (HT6.out.under b7)
          have HRq := Lib.hid (bright_any q' a6 W7.heap.size W7 O7.out.reads (Nat.le_refl _) (by have := HGo.out.len; omega) (by have := HGo.out.len; omega) T7.out)
          rw [rightBb_iff.2 HR'.out] at HRq
          have HBl7 := Lib.hid (Nat.lt_of_lt_of_le HBl6.out b7.size)
          clear b7 X6 O6 HBw Y6 C6 HT6 HRr HBl6
          go_wp2_with (refine wpList_loadB (by rfl) _ rfl b6 q' a6 (by rfl) X7.out ?_)
          refine HRq.out.mono ?_
          rintro e W8 ⟨rfl, b8⟩
          have X8 := Lib.hid (X7.out.under b8)
          have O8 := Lib.hid (O7.out.under b8)
          have B8 := Lib.hid (B7.out.trans (b8.mono B7.out.size))
          have Y8 := Lib.hid (Y7.out.under b8)
          have C8 := (b8.cell (p := ⟨b, off + j * 2, none⟩) HBl7.out).trans C7.out
          clear b8 X7 O7 B7 Y7 C7 T7 HRq HBl7
          have hst := HSt.out
          have hgl := HGo.out.len
          have hil := HI.out.good.len
          obtain ⟨i1, hi1⟩ : ∃ i1, q'.its.length = i1 := ⟨_, rfl⟩
          obtain ⟨k1, hk1⟩ : ∃ k1, q'.kps.length = k1 := ⟨_, rfl⟩
          obtain ⟨i0, hi0⟩ : ∃ i0, q.its.length = i0 := ⟨_, rfl⟩
          obtain ⟨k0, hk0⟩ : ∃ k0, q.kps.length = k0 := ⟨_, rfl⟩
          have m18 : W8.cell? ⟨b6, 18, none⟩ = some (.slice a6.A i1 a6.c) := by rw [← hi1]; exact X8.out.cell 18
          have m19 : W8.cell? ⟨b6, 19, none⟩ = some (.slice a6.B k1 a6.d) := by rw [← hk1]; exact X8.out.cell 19
          have m0 : W8.cell? ⟨b6, 0, none⟩ = some (.int .i64 q'.ep) := X8.out.cell 0
          have m1 : W8.cell? ⟨b6, 1, none⟩ = some (.int .i64 q'.sq) := X8.out.cell 1
          have m2 : W8.cell? ⟨b6, 2, none⟩ = some (.bool q'.set) := X8.out.cell 2
          have n18 : W8.cell? ⟨w.heap.size, 18, none⟩ = some (.slice aq.A i0 aq.c) := by rw [← hi0]; exact Y8.out.cell 18
          have n19 : W8.cell? ⟨w.heap.size, 19, none⟩ = some (.slice aq.B k0 aq.d) := by rw [← hk0]; exact Y8.out.cell 19
          have n0 : W8.cell? ⟨w.heap.size, 0, none⟩ = some (.int .i64 q.ep) := Y8.out.cell 0
          have n1 : W8.cell? ⟨w.heap.size, 1, none⟩ = some (.int .i64 q.sq) := Y8.out.cell 1
          have n2 : W8.cell? ⟨w.heap.size, 2, none⟩ = some (.bool q.set) := Y8.out.cell 2
          have dS : decide (q'.sq < q.sq) = false := by have := hst.sq; simp; omega
          have dE : decide (q'.ep < q.ep) = false := by have := hst.ep; simp; omega
          have hset := hst.set
          have hw1 : IntKind.i64.wrap ((i1 : Int) + (k1 : Int)) = (i1 : Int) + (k1 : Int) := by rw [IntKind.wrap_i64]; omega
          have hw2 : IntKind.i64.wrap ((i1 : Int) + (k1 : Int) - (i0 : Int)) = (i1 : Int) + (k1 : Int) - (i0 : Int) := by rw [IntKind.wrap_i64]; omega
          rw [hi1, hk1, hi0, hk0] at HMore
          clear hst hgl hil hi1 hk1 hi0 hk0
          rcases HMore.out with hm | ⟨hm, hk⟩ | ⟨hm, hk⟩ | ⟨hm, hk⟩
          · have hw3 : IntKind.i64.wrap ((i1 : Int) + (k1 : Int) - (i0 : Int) - (k0 : Int)) = 0 := by rw [IntKind.wrap_i64]; omega
            clear hm 
            cases hs0 : q.set with
            | true =>
              have hs1 : q'.set = true := by rw [hset, hs0]; rfl
              rw [hs0] at n2
              rw [hs1] at m2
              clear hs0 hs1 hset
              go_wp2_with (first | (refine wpList_loadB (by rfl) _ rfl b6 q' a6 (by rfl) X8.out ?_) | (refine wpList_storeB rfl _ _ rfl w.heap.size q' a6 _ (by rfl) (by rfl) (by rfl) Y8.out ?_; intro W9 hW9))
              go_roundw
              case rel =>
                refine ⟨j + 1, q', by simp, ⟨⟨a6, ?_, ?_⟩, ?_, HR'.out, HGo.out, HMo.out, HLt.out⟩⟩
                · exact setRow_heap _ _ _ _ _ _ Y8.out
                · exact .inr (O8.out.rowset Y8.out (by decide) (by decide) (by decide) _)
                · exact below_rowsetB B8.out (Nat.le_refl _) _
              case measure => have := HLt.out; simp [intOf]; omega
            | false =>
              cases hs1 : q'.set with
              | true =>
                rw [hs0] at n2
                rw [hs1] at m2
                clear hs0 hs1 hset
                go_wp2_with (first | (refine wpList_loadB (by rfl) _ rfl b6 q' a6 (by rfl) X8.out ?_) | (refine wpList_storeB rfl _ _ rfl w.heap.size q' a6 _ (by rfl) (by rfl) (by rfl) Y8.out ?_; intro W9 hW9))
                go_roundw
                case rel =>
                  refine ⟨j + 1, q', by simp, ⟨⟨a6, ?_, ?_⟩, ?_, HR'.out, HGo.out, HMo.out, HLt.out⟩⟩
                  · exact setRow_heap _ _ _ _ _ _ Y8.out
                  · exact .inr (O8.out.rowset Y8.out (by decide) (by decide) (by decide) _)
                  · exact below_rowsetB B8.out (Nat.le_refl _) _
                case measure => have := HLt.out; simp [intOf]; omega
              | false =>
                rw [hs0] at n2
                rw [hs1] at m2
                clear hs0 hs1 hset
                go_wp2_with (first | (refine wpList_loadB (by rfl) _ rfl b6 q' a6 (by rfl) X8.out ?_) | (refine wpList_storeB rfl _ _ rfl w.heap.size q' a6 _ (by rfl) (by rfl) (by rfl) Y8.out ?_; intro W9 hW9))
                go_roundw
                case rel =>
                  refine ⟨j + 1, q', by simp, ⟨⟨a6, ?_, ?_⟩, ?_, HR'.out, HGo.out, HMo.out, HLt.out⟩⟩
                  · exact setRow_heap _ _ _ _ _ _ Y8.out
                  · exact .inr (O8.out.rowset Y8.out (by decide) (by decide) (by decide) _)
                  · exact below_rowsetB B8.out (Nat.le_refl _) _
                case measure => have := HLt.out; simp [intOf]; omega
          · have hw3 : IntKind.i64.wrap ((i1 : Int) + (k1 : Int) - (i0 : Int) - (k0 : Int)) = 1 := by rw [IntKind.wrap_i64]; omega
            have hk' : (x.k : Int) = 3 := by omega
            rw [hk'] at C8
            clear hk'
            clear hm hk 
            cases hs0 : q.set with
            | true =>
              have hs1 : q'.set = true := by rw [hset, hs0]; rfl
              rw [hs0] at n2
              rw [hs1] at m2
              clear hs0 hs1 hset
              go_wp2_with (first | (refine wpList_loadB (by rfl) _ rfl b6 q' a6 (by rfl) X8.out ?_) | (refine wpList_storeB rfl _ _ rfl w.heap.size q' a6 _ (by rfl) (by rfl) (by rfl) Y8.out ?_; intro W9 hW9))
              go_roundw
              case rel =>
                refine ⟨j + 1, q', by simp, ⟨⟨a6, ?_, ?_⟩, ?_, HR'.out, HGo.out, HMo.out, HLt.out⟩⟩
                · exact setRow_heap _ _ _ _ _ _ Y8.out
                · exact .inr (O8.out.rowset Y8.out (by decide) (by decide) (by decide) _)
                · exact below_rowsetB B8.out (Nat.le_refl _) _
              case measure => have := HLt.out; simp [intOf]; omega
            | false =>
              cases hs1 : q'.set with
              | true =>
                rw [hs0] at n2
                rw [hs1] at m2
                clear hs0 hs1 hset
                go_wp2_with (first | (refine wpList_loadB (by rfl) _ rfl b6 q' a6 (by rfl) X8.out ?_) | (refine wpList_storeB rfl _ _ rfl w.heap.size q' a6 _ (by rfl) (by rfl) (by rfl) Y8.out ?_; intro W9 hW9))
                go_roundw
                case rel =>
                  refine ⟨j + 1, q', by simp, ⟨⟨a6, ?_, ?_⟩, ?_, HR'.out, HGo.out, HMo.out, HLt.out⟩⟩
                  · exact setRow_heap _ _ _ _ _ _ Y8.out
                  · exact .inr (O8.out.rowset Y8.out (by decide) (by decide) (by decide) _)
                  · exact below_rowsetB B8.out (Nat.le_refl _) _
                case measure => have := HLt.out; simp [intOf]; omega
              | false =>
                rw [hs0] at n2
                rw [hs1] at m2
                clear hs0 hs1 hset
                go_wp2_with (first | (refine wpList_loadB (by rfl) _ rfl b6 q' a6 (by rfl) X8.out ?_) | (refine wpList_storeB rfl _ _ rfl w.heap.size q' a6 _ (by rfl) (by rfl) (by rfl) Y8.out ?_; intro W9 hW9))
                go_roundw
                case rel =>
                  refine ⟨j + 1, q', by simp, ⟨⟨a6, ?_, ?_⟩, ?_, HR'.out, HGo.out, HMo.out, HLt.out⟩⟩
                  · exact setRow_heap _ _ _ _ _ _ Y8.out
                  · exact .inr (O8.out.rowset Y8.out (by decide) (by decide) (by decide) _)
                  · exact below_rowsetB B8.out (Nat.le_refl _) _
                case measure => have := HLt.out; simp [intOf]; omega
          · have hw3 : IntKind.i64.wrap ((i1 : Int) + (k1 : Int) - (i0 : Int) - (k0 : Int)) = 1 := by rw [IntKind.wrap_i64]; omega
            have hk' : (x.k : Int) = 8 := by omega
            rw [hk'] at C8
            clear hk'
            clear hm hk 
            cases hs0 : q.set with
            | true =>
              have hs1 : q'.set = true := by rw [hset, hs0]; rfl
              rw [hs0] at n2
              rw [hs1] at m2
              clear hs0 hs1 hset
              go_wp2_with (first | (refine wpList_loadB (by rfl) _ rfl b6 q' a6 (by rfl) X8.out ?_) | (refine wpList_storeB rfl _ _ rfl w.heap.size q' a6 _ (by rfl) (by rfl) (by rfl) Y8.out ?_; intro W9 hW9))
              go_roundw
              case rel =>
                refine ⟨j + 1, q', by simp, ⟨⟨a6, ?_, ?_⟩, ?_, HR'.out, HGo.out, HMo.out, HLt.out⟩⟩
                · exact setRow_heap _ _ _ _ _ _ Y8.out
                · exact .inr (O8.out.rowset Y8.out (by decide) (by decide) (by decide) _)
                · exact below_rowsetB B8.out (Nat.le_refl _) _
              case measure => have := HLt.out; simp [intOf]; omega
            | false =>
              cases hs1 : q'.set with
              | true =>
                rw [hs0] at n2
                rw [hs1] at m2
                clear hs0 hs1 hset
                go_wp2_with (first | (refine wpList_loadB (by rfl) _ rfl b6 q' a6 (by rfl) X8.out ?_) | (refine wpList_storeB rfl _ _ rfl w.heap.size q' a6 _ (by rfl) (by rfl) (by rfl) Y8.out ?_; intro W9 hW9))
                go_roundw
                case rel =>
                  refine ⟨j + 1, q', by simp, ⟨⟨a6, ?_, ?_⟩, ?_, HR'.out, HGo.out, HMo.out, HLt.out⟩⟩
                  · exact setRow_heap _ _ _ _ _ _ Y8.out
                  · exact .inr (O8.out.rowset Y8.out (by decide) (by decide) (by decide) _)
                  · exact below_rowsetB B8.out (Nat.le_refl _) _
                case measure => have := HLt.out; simp [intOf]; omega
              | false =>
                rw [hs0] at n2
                rw [hs1] at m2
                clear hs0 hs1 hset
                go_wp2_with (first | (refine wpList_loadB (by rfl) _ rfl b6 q' a6 (by rfl) X8.out ?_) | (refine wpList_storeB rfl _ _ rfl w.heap.size q' a6 _ (by rfl) (by rfl) (by rfl) Y8.out ?_; intro W9 hW9))
                go_roundw
                case rel =>
                  refine ⟨j + 1, q', by simp, ⟨⟨a6, ?_, ?_⟩, ?_, HR'.out, HGo.out, HMo.out, HLt.out⟩⟩
                  · exact setRow_heap _ _ _ _ _ _ Y8.out
                  · exact .inr (O8.out.rowset Y8.out (by decide) (by decide) (by decide) _)
                  · exact below_rowsetB B8.out (Nat.le_refl _) _
                case measure => have := HLt.out; simp [intOf]; omega
          · have hw3 : IntKind.i64.wrap ((i1 : Int) + (k1 : Int) - (i0 : Int) - (k0 : Int)) = -1 := by rw [IntKind.wrap_i64]; omega
            have hk' : (x.k : Int) = 7 := by omega
            rw [hk'] at C8
            clear hk'
            clear hm hk 
            cases hs0 : q.set with
            | true =>
              have hs1 : q'.set = true := by rw [hset, hs0]; rfl
              rw [hs0] at n2
              rw [hs1] at m2
              clear hs0 hs1 hset
              go_wp2_with (first | (refine wpList_loadB (by rfl) _ rfl b6 q' a6 (by rfl) X8.out ?_) | (refine wpList_storeB rfl _ _ rfl w.heap.size q' a6 _ (by rfl) (by rfl) (by rfl) Y8.out ?_; intro W9 hW9))
              go_roundw
              case rel =>
                refine ⟨j + 1, q', by simp, ⟨⟨a6, ?_, ?_⟩, ?_, HR'.out, HGo.out, HMo.out, HLt.out⟩⟩
                · exact setRow_heap _ _ _ _ _ _ Y8.out
                · exact .inr (O8.out.rowset Y8.out (by decide) (by decide) (by decide) _)
                · exact below_rowsetB B8.out (Nat.le_refl _) _
              case measure => have := HLt.out; simp [intOf]; omega
            | false =>
              cases hs1 : q'.set with
              | true =>
                rw [hs0] at n2
                rw [hs1] at m2
                clear hs0 hs1 hset
                go_wp2_with (first | (refine wpList_loadB (by rfl) _ rfl b6 q' a6 (by rfl) X8.out ?_) | (refine wpList_storeB rfl _ _ rfl w.heap.size q' a6 _ (by rfl) (by rfl) (by rfl) Y8.out ?_; intro W9 hW9))
                go_roundw
                case rel =>
                  refine ⟨j + 1, q', by simp, ⟨⟨a6, ?_, ?_⟩, ?_, HR'.out, HGo.out, HMo.out, HLt.out⟩⟩
                  · exact setRow_heap _ _ _ _ _ _ Y8.out
                  · exact .inr (O8.out.rowset Y8.out (by decide) (by decide) (by decide) _)
                  · exact below_rowsetB B8.out (Nat.le_refl _) _
                case measure => have := HLt.out; simp [intOf]; omega
              | false =>
                rw [hs0] at n2
                rw [hs1] at m2
                clear hs0 hs1 hset
                go_wp2_with (first | (refine wpList_loadB (by rfl) _ rfl b6 q' a6 (by rfl) X8.out ?_) | (refine wpList_storeB rfl _ _ rfl w.heap.size q' a6 _ (by rfl) (by rfl) (by rfl) Y8.out ?_; intro W9 hW9))
                go_roundw
                case rel =>
                  refine ⟨j + 1, q', by simp, ⟨⟨a6, ?_, ?_⟩, ?_, HR'.out, HGo.out, HMo.out, HLt.out⟩⟩
                  · exact setRow_heap _ _ _ _ _ _ Y8.out
                  · exact .inr (O8.out.rowset Y8.out (by decide) (by decide) (by decide) _)
                  · exact below_rowsetB B8.out (Nat.le_refl _) _
                case measure => have := HLt.out; simp [intOf]; omega

end Go.Proofs.YtdaimejlcfhfiaaGreatDoor
