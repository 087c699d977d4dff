/-
  The walk of the statement BrainTokens. Conditions: those that the theorem names.
-/
import Derived.Test.YtdaimejlcfhfiaaGreatDoorBrLawMore
namespace Go.Proofs.YtdaimejlcfhfiaaGreatDoor
open Go.RowKit Go.Shelf

/-- What holds ahead of each record. -/
structure TkAt (V : World) (n : Nat) (q : Br) (j : Nat) (W : World) : Prop where
  box : ∃ a, Whole W V.heap.size 30 (brC q a) ∧ OwB 0 W q a
  below : Below V.heap.size V W
  tk : TkB q
  good : Good (80 + j) q
  ms : q.cf.ms.length ≤ 1000
  le : j ≤ n

set_option maxRecDepth 100000 in
set_option maxHeartbeats 8000000 in
theorem brainTokens_any (A : Option Addr) (n c : Nat) (xs : List RE) (w : World) (hx : RdR w w.heap.size A n xs) (hcap : ∀ x ∈ xs, x.n ≤ x.c ∧ x.c ≤ maxLen) (hT : Tab w) (hH : TabH w) :
    Calls Tryz.prog 5 #[.slice A n c] w (TruePostB w) := by
  have hlen : xs.length = n := hx.1
  have HX := Lib.hid hx
  have HCap := Lib.hid hcap
  have HT := Lib.hid hT
  have HH := Lib.hid hH
  have HL := Lib.hid hlen
  have HW := fun W (h : Below w.heap.size w W) => Lib.hid (wakes_any W (hT.below (Nat.le_refl _) h) (hH.under h))
  have HG := Lib.hid (great0_any A n c xs w.heap.size w hx)
  clear hx hcap hT hH hlen
  cases hgr : gR xs with
  | true =>
    rw [hgr] at HG
    clear hgr
    go_enter Tryz.func5, Tryz.ntmps5
    go_wp2_with fail
    refine HG.out.mono ?_
    rintro e V ⟨rfl, b3⟩
    have HB := Lib.hid b3
    clear b3 HG
    have HWk := HW V HB.out
    go_wp2_with fail
    refine HWk.out.mono ?_
    rintro e Vl ⟨rfl, bl⟩
    have HBl_ := Lib.hid (HB.out.trans (bl.mono HB.out.size))
    clear bl HWk HW
    go_wp2_with fail
    go_ret
    exact ⟨rfl, HBl_.out⟩
  | false =>
    rw [hgr] at HG
    have HGR := Lib.hid (gR_no hgr)
    clear hgr
    go_enter Tryz.func5, Tryz.ntmps5
    go_wp2_with fail
    refine HG.out.mono ?_
    rintro e V ⟨rfl, b3⟩
    have HB := Lib.hid b3
    clear b3 HG
    go_upto_region 4 with fail
    refine wpV (fun V1 hV1 => ?_)
    have HX0 := Lib.hid (show Whole V1 V.heap.size 30 (brC br0 ad0) by rw [← hV1]; exact Whole.new _ _ _)
    have HB1 := Lib.hid (show Below V.heap.size V V1 by rw [← hV1]; exact (Below.refl _ _).alloc (Nat.le_refl _) _)
    clear hV1
    go_wp2_with fail
    go_loopw [4, 5] (fun m i wr => ∃ (j : Nat) (q : Br), m = .int .i64 q.sq ∧ i = .int .i64 (j : Int) ∧ TkAt V n q j wr) (fun _ i _ => n - (intOf i).toNat)
    case atStart =>
      exact ⟨0, br0, rfl, rfl, ⟨⟨ad0, HX0.out, own0 _⟩, HB1.out, tk_br0, ⟨by decide, by decide, by decide, by simp [br0]⟩, by decide, Nat.zero_le _⟩⟩
    case round =>
      obtain ⟨j, q, rfl, rfl, hI⟩ := hrel
      have HI := Lib.hid hI
      have HBw := Lib.hid (show Below w.heap.size w wr from HB.out.trans (hI.below.mono HB.out.size))
      clear hI HB1 HX0
      by_cases hlt : j < n
      rotate_left
      · have hge : decide (j < n) = false := by simp; omega
        clear hlt HI
        have HWk := HW wr HBw.out
        go_wp2_with fail
        refine HWk.out.mono ?_
        rintro e Vl ⟨rfl, bl⟩
        have HBl_ := Lib.hid (HBw.out.trans (bl.mono HBw.out.size))
        clear bl HWk HW
        go_wp2_with fail
        go_ret
        exact ⟨rfl, HBl_.out⟩
      · have HLt := Lib.hid hlt
        have hd1 : decide (j < n) = true := by simp; omega
        obtain ⟨aq, hbx, hs⟩ := HI.out.box
        have HBx := Lib.hid hbx
        have HS := Lib.hid hs
        obtain ⟨x, hx⟩ : ∃ x, xs[j]? = some x := ⟨_, List.getElem?_eq_getElem (by have := HL.out; omega)⟩
        obtain ⟨b, off, rfl, hb, hc⟩ := HX.out.2.1 (by omega)
        have hmx := List.mem_of_getElem? hx
        have HC := Lib.hid (show wr.cell? ⟨b, off + j * 2, none⟩ = some (.int .u8 (x.k : Int)) ∧ wr.cell? ⟨b, off + j * 2 + 1, none⟩ = some (.slice x.A x.n x.c) from ⟨(HBw.out.cell (p := ⟨b, off + j * 2, none⟩) hb).trans (hc j x hx).1, (HBw.out.cell (p := ⟨b, off + j * 2 + 1, none⟩) hb).trans (hc j x hx).2⟩)
        have c0 := HC.out.1
        have HBl := Lib.hid (show b < wr.heap.size from Nat.lt_of_lt_of_le hb HBw.out.size)
        have HRd := Lib.hid (show Rd wr wr.heap.size x.A x.n (iv x.zs) from ((HX.out.2.2 x hmx).2.below HBw.out).more HBw.out.size)
        have HK := Lib.hid (HX.out.2.2 x hmx).1
        have HCp := Lib.hid (HCap.out x hmx)
        have HGd := Lib.hid (good_mono HI.out.good (show 80 + j ≤ 400 by have := HGR.out.1; have := HL.out; omega))
        have HTw := Lib.hid (show Tab wr from HT.out.under HBw.out)
        have HHw := Lib.hid (show TabH wr from HH.out.under HBw.out)
        clear hlt hbx hs hx hb hc hmx
        by_cases h8 : x.k = 8
        · have d8 : ((x.k : Int) == 8) = true := by simp; omega
          clear h8
          go_wp2_with fail
          go_roundw
          case rel => exact ⟨j + 1, q, rfl, by rw [wr1 (by have := HLt.out; have := HGR.out.1; have := HL.out; omega)], ⟨HI.out.box, HI.out.below, HI.out.tk, good_mono HI.out.good (by omega), HI.out.ms, HLt.out⟩⟩
          case measure => have := HLt.out; rw [wr1 (by have := HGR.out.1; have := HL.out; omega)]; simp [intOf]; omega
        · have d8 : ((x.k : Int) == 8) = false := by simp; omega
          have H8 := Lib.hid (show (x.k : Int) ≠ 8 by omega)
          clear h8
          go_upto_region 9 with fail
          refine region_grow (by kernel_rfl) (by kernel_rfl) 7 [25, 26, 27, 28, 29, 30, 6] (by kernel_rfl) (by simp)
            (fun i v w => match i with | 0 => BrR q v w | 1 => v = .slice (some ⟨b, off, none⟩) n c | 2 => v = .int .i64 (j : Int) | 3 => v = .pointer (some ⟨b, off + j * 2, none⟩) | 4 => v = .agg #[.int .u8 (x.k : Int), .slice x.A x.n x.c] | 5 => BrIs (applyB q (x.k : Int) x.zs) v w | 6 => BoxIs wr.heap.size v w | _ => True) ?_ ?_ ?_
          · intro i v w w' hb h
            match i, h with
            | 0, h => exact BrR.under hb h
            | 1, h => exact h
            | 2, h => exact h
            | 3, h => exact h
            | 4, h => exact h
            | 5, h => exact BrIs.under hb h
            | 6, h => exact BoxIs.under hb h
            | n + 7, h => trivial
          · intro i o d a w_ hi ho hd hag hbel hgot K hK
            rcases (by omega : i = 0 ∨ i = 1 ∨ i = 2 ∨ i = 3 ∨ i = 4 ∨ i = 5 ∨ i = 6) with rfl | rfl | rfl | rfl | rfl | rfl | rfl
            all_goals
              simp only [List.getElem?_toArray, List.getElem?_cons_zero, List.getElem?_cons_succ, Option.some.injEq] at ho
              subst ho
              injection hd with hd
              subst hd
            · exact opB_load (hag.eval (t := 3) (by decide)) (HBx.out.under hbel) (hK _ _ (Below.refl _ _) ⟨aq, rfl, (HS.out.under hbel).reads⟩)
            · exact opB_move (hag.eval (t := 0) (by decide)) (hK _ _ (Below.refl _ _) rfl)
            · exact opB_move (hag.eval (t := 5) (by decide)) (hK _ _ (Below.refl _ _) rfl)
            · exact opB_recAt (hgot 1 26 (by kernel_rfl) rfl) (hgot 2 27 (by kernel_rfl) rfl) HLt.out (hK _ _ (Below.refl _ _) rfl)
            · exact opB_loadRec (hgot 3 28 (by kernel_rfl) rfl) ((hbel.cell (p := ⟨b, off + j * 2, none⟩) HBl.out).trans HC.out.1) ((hbel.cell (p := ⟨b, off + j * 2 + 1, none⟩) HBl.out).trans HC.out.2) (hK _ _ (Below.refl _ _) rfl)
            · exact opB_applyR (z := x) (hgot 0 25 (by kernel_rfl) rfl) (hgot 4 29 (by kernel_rfl) rfl) HK.out ((HRd.out.below hbel).more hbel.size) HCp.out HI.out.ms HGd.out (HTw.out.under hbel) (HHw.out.under hbel) hK
            · exact opB_alloc hbel.size hK
          intro o a_ w1_ ho hag hbel hgot K hK
          simp only [List.getElem?_toArray, List.getElem?_cons_zero, List.getElem?_cons_succ, Option.some.injEq] at ho
          subst ho
          obtain ⟨b6, e6, hlo6, hw6⟩ := hgot 6 6 (by decide) rfl
          obtain ⟨a6, f6, ho6⟩ := hgot 5 30 (by decide) rfl
          refine wp_storeB _ _ rfl b6 (applyB q (x.k : Int) x.zs) a6 _ (by rfl) e6 f6 hw6 (fun W6 hW_ => hK _ _ ?_)
          have X6 := Lib.hid (show Whole W6 b6 30 (brC (applyB q (x.k : Int) x.zs) a6) by rw [hW_]; exact setRow_heap _ _ _ _ _ _ hw6)
          have O6 := Lib.hid (show OwB 0 W6 (applyB q (x.k : Int) x.zs) a6 by rw [hW_]; exact ho6.rowset hw6 (by decide) (by decide) (by decide) _)
          have HBe := Lib.hid (show Below wr.heap.size wr W6 by rw [hW_]; exact below_rowsetB hbel hlo6 _)
          have Y6 := Lib.hid (HBx.out.under HBe.out)
          have OQ6 := Lib.hid (HS.out.under HBe.out)
          have HBw6 := Lib.hid (show Below V.heap.size V W6 from HI.out.below.trans (HBe.out.mono HI.out.below.size))
          have HL6 := Lib.hid (show b6 < W6.heap.size from X6.out.lt)
          obtain ⟨σ, hσ⟩ : ∃ σ : Nat → Value, (fun d => a_.eval (.tmp d)) = σ := ⟨_, rfl⟩
          have ha := hag.lay (by simp)
          rw [hσ] at ha
          have s_ : σ 6 = .pointer (some ⟨b6, 0, none⟩) := by rw [← hσ]; exact e6
          clear hσ hag hgot hK hbel hW_ e6 f6 ho6 hw6 hlo6 HBe
          subst ha
          simp only [lay, List.foldl_cons, List.foldl_nil, Act.put, List.setIfInBounds_toArray, List.set_cons_zero, List.set_cons_succ, s_]
          obtain ⟨u25, hu25⟩ : ∃ u, σ 25 = u := ⟨_, rfl⟩
          rw [hu25]
          obtain ⟨u26, hu26⟩ : ∃ u, σ 26 = u := ⟨_, rfl⟩
          rw [hu26]
          obtain ⟨u27, hu27⟩ : ∃ u, σ 27 = u := ⟨_, rfl⟩
          rw [hu27]
          obtain ⟨u28, hu28⟩ : ∃ u, σ 28 = u := ⟨_, rfl⟩
          rw [hu28]
          obtain ⟨u29, hu29⟩ : ∃ u, σ 29 = u := ⟨_, rfl⟩
          rw [hu29]
          obtain ⟨u30, hu30⟩ : ∃ u, σ 30 = u := ⟨_, rfl⟩
          rw [hu30]
          clear hu25 hu26 hu27 hu28 hu29 hu30 s_
          clear HBx HS HC HBl HRd HTw HHw
          clear HBw c0
          obtain ⟨q', hq'⟩ : ∃ q', applyB q (x.k : Int) x.zs = q' := ⟨_, rfl⟩
          rw [hq'] at X6 O6
          have HTk := Lib.hid (show TkB q' by rw [← hq']; exact tk_apply HI.out.tk H8.out)
          have HNew := Lib.hid (show ∀ y ∈ q'.its, y ∈ q.its ∨ q.sq < y.tok by rw [← hq']; exact new_tok q _ _)
          have HSq := Lib.hid (show q.sq ≤ q'.sq by rw [← hq']; exact (step_apply q _ _).sq)
          have HGo := Lib.hid (show Good (80 + (j + 1)) q' by rw [← hq']; exact good_apply HI.out.good _ _)
          have HMo := Lib.hid (show q'.cf.ms.length ≤ 1000 by rw [← hq']; exact ms_apply HI.out.ms)
          have HQi := Lib.hid (show q.its.length ≤ 1000 by have := HI.out.good.len; have := HGR.out.1; have := HL.out; have := HLt.out; omega)
          have HQi' := Lib.hid (show q'.its.length ≤ 1000 by have := HGo.out.len; have := HGR.out.1; have := HL.out; have := HLt.out; omega)
          have HQk' := Lib.hid (show q'.kps.length ≤ 1000 by have := HGo.out.len; have := HGR.out.1; have := HL.out; have := HLt.out; omega)
          obtain ⟨n1, hn1⟩ : ∃ n1, q'.its.length = n1 := ⟨_, rfl⟩
          obtain ⟨n2, hn2⟩ : ∃ n2, q'.kps.length = n2 := ⟨_, rfl⟩
          have HN1 := Lib.hid hn1
          have HN2 := Lib.hid hn2
          have c18 : W6.cell? ⟨b6, 18, none⟩ = some (.slice a6.A n1 a6.c) := by rw [← hn1]; exact X6.out.cell 18
          have c19 : W6.cell? ⟨b6, 19, none⟩ = some (.slice a6.B n2 a6.d) := by rw [← hn2]; exact X6.out.cell 19
          have C18 := Lib.hid c18
          have C19 := Lib.hid c19
          clear hq' hn1 hn2 c18 c19 HI H8 HK HCp HGd
          go_wp2_with fail
          go_loopw [7] (fun v wr => ∃ k : Nat, v = .int .i64 (k : Int) ∧ Below W6.heap.size W6 wr) (fun v _ => n1 - (intOf v).toNat)
          case atStart => exact ⟨0, rfl, Below.refl _ _⟩
          case round =>
            obtain ⟨k, rfl, hbk⟩ := hrel
            have HBk := Lib.hid hbk
            clear hbk
            by_cases hk : k < n1
            · obtain ⟨y, hy⟩ : ∃ y, q'.its[k]? = some y := ⟨_, List.getElem?_eq_getElem (by have := HN1.out; omega)⟩
              obtain ⟨bi, oi, hA, hbi, hci⟩ := RdI.at_ O6.out.its.read (by have := HN1.out; omega)
              have Yk := Lib.hid (Y6.out.under HBk.out)
              have Ok := Lib.hid (OQ6.out.under HBk.out)
              have c18 : wr.cell? ⟨b6, 18, none⟩ = some (.slice (some ⟨bi, oi, none⟩) n1 a6.c) := by rw [← hA]; exact (HBk.out.cell (p := ⟨b6, 18, none⟩) HL6.out).trans C18.out
              have CT := Lib.hid (show wr.cell? ⟨bi, oi + k * 4, none⟩ = some (.int .i64 y.tok) from (HBk.out.cell (p := ⟨bi, oi + k * 4, none⟩) hbi).trans (hci k y hy).c0)
              have C18k := Lib.hid c18
              have HLi := Lib.hid (show bi < wr.heap.size from Nat.lt_of_lt_of_le hbi HBk.out.size)
              have HL6k := Lib.hid (show b6 < wr.heap.size from Nat.lt_of_lt_of_le HL6.out HBk.out.size)
              have hI : (k : Int) < (n1 : Int) := by omega
              obtain ⟨tv, htv⟩ : ∃ tv, tokenB q y.tok = tv := ⟨_, rfl⟩
              have HTv := Lib.hid htv
              have HY := Lib.hid (List.mem_of_getElem? hy)
              clear hA hbi hci hy htv
              by_cases h0 : tv < 0
              · have dt : decide (tv < 0) = true := by simp; omega
                have dl : decide (y.tok ≤ q.sq) = false := by
                  have := HTv.out
                  rcases HNew.out y HY.out with h | h
                  · have := tok_yes h; omega
                  · simp; omega
                clear h0
                go_upto_region 13 with fail
                have HL_ : Hid (∀ V', Below wr.heap.size wr V' → Whole V' V.heap.size 30 (brC q aq) ∧ V'.cell? ⟨b6, 18, none⟩ = some (.slice (some ⟨bi, oi, none⟩) n1 a6.c) ∧ V'.cell? ⟨bi, oi + k * 4, none⟩ = some (.int .i64 y.tok)) := Lib.hid (fun V' hV => ⟨Yk.out.under hV, (hV.cell (p := ⟨b6, 18, none⟩) HL6k.out).trans C18k.out, (hV.cell (p := ⟨bi, oi + k * 4, none⟩) HLi.out).trans CT.out⟩)
                have HBd := Lib.hid (show Below wr.heap.size wr wr.drew from below_drewB (Below.refl _ _) 1)
                refine wp_region_T (ls := []) (T := (fun V' => Below wr.heap.size wr V')) (by kernel_rfl) ?_
                refine takeT (i := 0) (v := brV q aq) rfl (by kernel_rfl) (by kernel_rfl) (by kernel_rfl) (by kernel_rfl) (fun _ _ _ h => h) (by rfl) ?_ HBd.out ?_
                · intro V' hV; obtain ⟨y0, y1, y2⟩ := HL_.out V' hV; exact exec_load_brain rfl y0
                simp only [Act.put, List.setIfInBounds_toArray, List.set_cons_zero, List.set_cons_succ]
                refine takeP (i := 1) (v := ?_) rfl (by kernel_rfl) (by kernel_rfl) (by kernel_rfl) (by kernel_rfl) (fun _ _ _ h => h) (by rfl) ?_ (fun _ => HBd.out) ?_
                rotate_left
                · intro V'; go_simp <;> with_reducible rfl
                simp only [Act.put, List.setIfInBounds_toArray, List.set_cons_zero, List.set_cons_succ]
                refine takeT (i := 2) (v := ?_) rfl (by kernel_rfl) (by kernel_rfl) (by kernel_rfl) (by kernel_rfl) (fun _ _ _ h => h) (by rfl) ?_ HBd.out ?_
                rotate_left
                · intro V' hV; obtain ⟨y0, y1, y2⟩ := HL_.out V' hV; go_simp <;> with_reducible rfl
                simp only [Act.put, List.setIfInBounds_toArray, List.set_cons_zero, List.set_cons_succ]
                refine takeP (i := 3) (v := ?_) rfl (by kernel_rfl) (by kernel_rfl) (by kernel_rfl) (by kernel_rfl) (fun _ _ _ h => h) (by rfl) ?_ (fun _ => HBd.out) ?_
                rotate_left
                · intro V'; go_simp <;> with_reducible rfl
                simp only [Act.put, List.setIfInBounds_toArray, List.set_cons_zero, List.set_cons_succ]
                refine takeP (i := 4) (v := ?_) rfl (by kernel_rfl) (by kernel_rfl) (by kernel_rfl) (by kernel_rfl) (fun _ _ _ h => h) (by rfl) ?_ (fun _ => HBd.out) ?_
                rotate_left
                · intro V'; go_simp <;> with_reducible rfl
                simp only [Act.put, List.setIfInBounds_toArray, List.set_cons_zero, List.set_cons_succ]
                refine takeP (i := 5) (v := ?_) rfl (by kernel_rfl) (by kernel_rfl) (by kernel_rfl) (by kernel_rfl) (fun _ _ _ h => h) (by rfl) ?_ (fun _ => HBd.out) ?_
                rotate_left
                · intro V'; go_simp <;> with_reducible rfl
                simp only [Act.put, List.setIfInBounds_toArray, List.set_cons_zero, List.set_cons_succ]
                refine takeT (i := 6) (v := ?_) rfl (by kernel_rfl) (by kernel_rfl) (by kernel_rfl) (by kernel_rfl) (fun _ _ _ h => h) (by rfl) ?_ HBd.out ?_
                rotate_left
                · intro V' hV; obtain ⟨y0, y1, y2⟩ := HL_.out V' hV; go_simp <;> with_reducible rfl
                simp only [Act.put, List.setIfInBounds_toArray, List.set_cons_zero, List.set_cons_succ]
                refine oneT (i := 7) rfl (by kernel_rfl) (by rfl) (fun K hK => ?_)
                go_simp
                refine (tokO (Ok.out.under HBd.out) HQi.out HTv.out).mono ?_
                rintro e wr_1 ⟨rfl, hb_⟩
                have HB_1 := Lib.hid (show Below wr.heap.size wr wr_1 from HBd.out.trans (hb_.mono HBd.out.size))
                clear hb_ HBd
                refine hK.out _ _ (fun _ => HB_1.out) ?_
                clear hK K
                refine takeP (i := 8) (v := ?_) rfl (by kernel_rfl) (by kernel_rfl) (by kernel_rfl) (by kernel_rfl) (fun _ _ _ h => h) (by rfl) ?_ (fun _ => HB_1.out) ?_
                rotate_left
                · intro V'; go_simp <;> with_reducible rfl
                simp only [Act.put, List.setIfInBounds_toArray, List.set_cons_zero, List.set_cons_succ]
                refine takeP (i := 9) (v := ?_) rfl (by kernel_rfl) (by kernel_rfl) (by kernel_rfl) (by kernel_rfl) (fun _ _ _ h => h) (by rfl) ?_ (fun _ => HB_1.out) ?_
                rotate_left
                · intro V'; go_simp <;> with_reducible rfl
                simp only [Act.put, List.setIfInBounds_toArray, List.set_cons_zero, List.set_cons_succ]
                refine takeP (i := 10) (v := ?_) rfl (by kernel_rfl) (by kernel_rfl) (by kernel_rfl) (by kernel_rfl) (fun _ _ _ h => h) (by rfl) ?_ (fun _ => HB_1.out) ?_
                rotate_left
                · intro V'; go_simp <;> with_reducible rfl
                simp only [Act.put, List.setIfInBounds_toArray, List.set_cons_zero, List.set_cons_succ]
                refine takeT (i := 11) (v := ?_) rfl (by kernel_rfl) (by kernel_rfl) (by kernel_rfl) (by kernel_rfl) (fun _ _ _ h => h) (by rfl) ?_ HB_1.out ?_
                rotate_left
                · intro V' hV; obtain ⟨y0, y1, y2⟩ := HL_.out V' hV; go_simp <;> with_reducible rfl
                simp only [Act.put, List.setIfInBounds_toArray, List.set_cons_zero, List.set_cons_succ]
                refine takeP (i := 12) (v := ?_) rfl (by kernel_rfl) (by kernel_rfl) (by kernel_rfl) (by kernel_rfl) (fun _ _ _ h => h) (by rfl) ?_ (fun _ => HB_1.out) ?_
                rotate_left
                · intro V'; go_simp <;> with_reducible rfl
                simp only [Act.put, List.setIfInBounds_toArray, List.set_cons_zero, List.set_cons_succ]
                refine takeP (i := 13) (v := ?_) rfl (by kernel_rfl) (by kernel_rfl) (by kernel_rfl) (by kernel_rfl) (fun _ _ _ h => h) (by rfl) ?_ (fun _ => HB_1.out) ?_
                rotate_left
                · intro V'; go_simp <;> with_reducible rfl
                simp only [Act.put, List.setIfInBounds_toArray, List.set_cons_zero, List.set_cons_succ]
                refine takeP (i := 14) (v := ?_) rfl (by kernel_rfl) (by kernel_rfl) (by kernel_rfl) (by kernel_rfl) (fun _ _ _ h => h) (by rfl) ?_ (fun _ => HB_1.out) ?_
                rotate_left
                · intro V'; go_simp <;> with_reducible rfl
                simp only [Act.put, List.setIfInBounds_toArray, List.set_cons_zero, List.set_cons_succ]
                refine takeT (i := 15) (v := ?_) rfl (by kernel_rfl) (by kernel_rfl) (by kernel_rfl) (by kernel_rfl) (fun _ _ _ h => h) (by rfl) ?_ HB_1.out ?_
                rotate_left
                · intro V' hV; obtain ⟨y0, y1, y2⟩ := HL_.out V' hV; go_simp <;> with_reducible rfl
                simp only [Act.put, List.setIfInBounds_toArray, List.set_cons_zero, List.set_cons_succ]
                refine takeP (i := 16) (v := ?_) rfl (by kernel_rfl) (by kernel_rfl) (by kernel_rfl) (by kernel_rfl) (fun _ _ _ h => h) (by rfl) ?_ (fun _ => HB_1.out) ?_
                rotate_left
                · intro V'; go_simp <;> with_reducible rfl
                simp only [Act.put, List.setIfInBounds_toArray, List.set_cons_zero, List.set_cons_succ]
                refine takeP (i := 17) (v := ?_) rfl (by kernel_rfl) (by kernel_rfl) (by kernel_rfl) (by kernel_rfl) (fun _ _ _ h => h) (by rfl) ?_ (fun _ => HB_1.out) ?_
                rotate_left
                · intro V'; go_simp <;> with_reducible rfl
                simp only [Act.put, List.setIfInBounds_toArray, List.set_cons_zero, List.set_cons_succ]
                refine takeP (i := 18) (v := ?_) rfl (by kernel_rfl) (by kernel_rfl) (by kernel_rfl) (by kernel_rfl) (fun _ _ _ h => h) (by rfl) ?_ (fun _ => HB_1.out) ?_
                rotate_left
                · intro V'; go_simp <;> with_reducible rfl
                simp only [Act.put, List.setIfInBounds_toArray, List.set_cons_zero, List.set_cons_succ]
                refine doneT (by kernel_rfl) ?_ _
                have HBk1 := Lib.hid (HBk.out.trans (HB_1.out.mono HBk.out.size))
                clear HL_ HB_1 HBk Yk Ok CT C18k HLi HL6k HTv HY c18 hI
                go_wp2_with fail
                go_roundw
                case rel => exact ⟨k + 1, by rw [wr1 (by have := HQi'.out; have := HN1.out; omega)], HBk1.out⟩
                case measure => rw [wr1 (by have := HQi'.out; have := HN1.out; omega)]; simp [intOf]; omega
              · have dt : decide (tv < 0) = false := by simp; omega
                clear h0
                go_upto_region 13 with fail
                have HL_ : Hid (∀ V', Below wr.heap.size wr V' → Whole V' V.heap.size 30 (brC q aq) ∧ V'.cell? ⟨b6, 18, none⟩ = some (.slice (some ⟨bi, oi, none⟩) n1 a6.c) ∧ V'.cell? ⟨bi, oi + k * 4, none⟩ = some (.int .i64 y.tok)) := Lib.hid (fun V' hV => ⟨Yk.out.under hV, (hV.cell (p := ⟨b6, 18, none⟩) HL6k.out).trans C18k.out, (hV.cell (p := ⟨bi, oi + k * 4, none⟩) HLi.out).trans CT.out⟩)
                have HBd := Lib.hid (show Below wr.heap.size wr wr.drew from below_drewB (Below.refl _ _) 1)
                refine wp_region_T (ls := []) (T := (fun V' => Below wr.heap.size wr V')) (by kernel_rfl) ?_
                refine takeT (i := 0) (v := brV q aq) rfl (by kernel_rfl) (by kernel_rfl) (by kernel_rfl) (by kernel_rfl) (fun _ _ _ h => h) (by rfl) ?_ HBd.out ?_
                · intro V' hV; obtain ⟨y0, y1, y2⟩ := HL_.out V' hV; exact exec_load_brain rfl y0
                simp only [Act.put, List.setIfInBounds_toArray, List.set_cons_zero, List.set_cons_succ]
                refine takeP (i := 1) (v := ?_) rfl (by kernel_rfl) (by kernel_rfl) (by kernel_rfl) (by kernel_rfl) (fun _ _ _ h => h) (by rfl) ?_ (fun _ => HBd.out) ?_
                rotate_left
                · intro V'; go_simp <;> with_reducible rfl
                simp only [Act.put, List.setIfInBounds_toArray, List.set_cons_zero, List.set_cons_succ]
                refine takeT (i := 2) (v := ?_) rfl (by kernel_rfl) (by kernel_rfl) (by kernel_rfl) (by kernel_rfl) (fun _ _ _ h => h) (by rfl) ?_ HBd.out ?_
                rotate_left
                · intro V' hV; obtain ⟨y0, y1, y2⟩ := HL_.out V' hV; go_simp <;> with_reducible rfl
                simp only [Act.put, List.setIfInBounds_toArray, List.set_cons_zero, List.set_cons_succ]
                refine takeP (i := 3) (v := ?_) rfl (by kernel_rfl) (by kernel_rfl) (by kernel_rfl) (by kernel_rfl) (fun _ _ _ h => h) (by rfl) ?_ (fun _ => HBd.out) ?_
                rotate_left
                · intro V'; go_simp <;> with_reducible rfl
                simp only [Act.put, List.setIfInBounds_toArray, List.set_cons_zero, List.set_cons_succ]
                refine takeP (i := 4) (v := ?_) rfl (by kernel_rfl) (by kernel_rfl) (by kernel_rfl) (by kernel_rfl) (fun _ _ _ h => h) (by rfl) ?_ (fun _ => HBd.out) ?_
                rotate_left
                · intro V'; go_simp <;> with_reducible rfl
                simp only [Act.put, List.setIfInBounds_toArray, List.set_cons_zero, List.set_cons_succ]
                refine takeP (i := 5) (v := ?_) rfl (by kernel_rfl) (by kernel_rfl) (by kernel_rfl) (by kernel_rfl) (fun _ _ _ h => h) (by rfl) ?_ (fun _ => HBd.out) ?_
                rotate_left
                · intro V'; go_simp <;> with_reducible rfl
                simp only [Act.put, List.setIfInBounds_toArray, List.set_cons_zero, List.set_cons_succ]
                refine takeT (i := 6) (v := ?_) rfl (by kernel_rfl) (by kernel_rfl) (by kernel_rfl) (by kernel_rfl) (fun _ _ _ h => h) (by rfl) ?_ HBd.out ?_
                rotate_left
                · intro V' hV; obtain ⟨y0, y1, y2⟩ := HL_.out V' hV; go_simp <;> with_reducible rfl
                simp only [Act.put, List.setIfInBounds_toArray, List.set_cons_zero, List.set_cons_succ]
                refine oneT (i := 7) rfl (by kernel_rfl) (by rfl) (fun K hK => ?_)
                go_simp
                refine (tokO (Ok.out.under HBd.out) HQi.out HTv.out).mono ?_
                rintro e wr_1 ⟨rfl, hb_⟩
                have HB_1 := Lib.hid (show Below wr.heap.size wr wr_1 from HBd.out.trans (hb_.mono HBd.out.size))
                clear hb_ HBd
                refine hK.out _ _ (fun _ => HB_1.out) ?_
                clear hK K
                refine takeP (i := 8) (v := ?_) rfl (by kernel_rfl) (by kernel_rfl) (by kernel_rfl) (by kernel_rfl) (fun _ _ _ h => h) (by rfl) ?_ (fun _ => HB_1.out) ?_
                rotate_left
                · intro V'; go_simp <;> with_reducible rfl
                simp only [Act.put, List.setIfInBounds_toArray, List.set_cons_zero, List.set_cons_succ]
                refine takeP (i := 9) (v := ?_) rfl (by kernel_rfl) (by kernel_rfl) (by kernel_rfl) (by kernel_rfl) (fun _ _ _ h => h) (by rfl) ?_ (fun _ => HB_1.out) ?_
                rotate_left
                · intro V'; go_simp <;> with_reducible rfl
                simp only [Act.put, List.setIfInBounds_toArray, List.set_cons_zero, List.set_cons_succ]
                refine skipT (i := 10) rfl (by kernel_rfl) (by kernel_rfl) (by kernel_rfl) (by kernel_rfl) (fun _ _ _ h => h) (by rfl) (fun _ => HB_1.out) ?_
                simp only [Act.put, List.setIfInBounds_toArray, List.set_cons_zero, List.set_cons_succ]
                refine skipT (i := 11) rfl (by kernel_rfl) (by kernel_rfl) (by kernel_rfl) (by kernel_rfl) (fun _ _ _ h => h) (by rfl) (fun _ => HB_1.out) ?_
                simp only [Act.put, List.setIfInBounds_toArray, List.set_cons_zero, List.set_cons_succ]
                refine skipT (i := 12) rfl (by kernel_rfl) (by kernel_rfl) (by kernel_rfl) (by kernel_rfl) (fun _ _ _ h => h) (by rfl) (fun _ => HB_1.out) ?_
                simp only [Act.put, List.setIfInBounds_toArray, List.set_cons_zero, List.set_cons_succ]
                refine skipT (i := 13) rfl (by kernel_rfl) (by kernel_rfl) (by kernel_rfl) (by kernel_rfl) (fun _ _ _ h => h) (by rfl) (fun _ => HB_1.out) ?_
                simp only [Act.put, List.setIfInBounds_toArray, List.set_cons_zero, List.set_cons_succ]
                refine skipT (i := 14) rfl (by kernel_rfl) (by kernel_rfl) (by kernel_rfl) (by kernel_rfl) (fun _ _ _ h => h) (by rfl) (fun _ => HB_1.out) ?_
                simp only [Act.put, List.setIfInBounds_toArray, List.set_cons_zero, List.set_cons_succ]
                refine skipT (i := 15) rfl (by kernel_rfl) (by kernel_rfl) (by kernel_rfl) (by kernel_rfl) (fun _ _ _ h => h) (by rfl) (fun _ => HB_1.out) ?_
                simp only [Act.put, List.setIfInBounds_toArray, List.set_cons_zero, List.set_cons_succ]
                refine skipT (i := 16) rfl (by kernel_rfl) (by kernel_rfl) (by kernel_rfl) (by kernel_rfl) (fun _ _ _ h => h) (by rfl) (fun _ => HB_1.out) ?_
                simp only [Act.put, List.setIfInBounds_toArray, List.set_cons_zero, List.set_cons_succ]
                refine skipT (i := 17) rfl (by kernel_rfl) (by kernel_rfl) (by kernel_rfl) (by kernel_rfl) (fun _ _ _ h => h) (by rfl) (fun _ => HB_1.out) ?_
                simp only [Act.put, List.setIfInBounds_toArray, List.set_cons_zero, List.set_cons_succ]
                refine takeP (i := 18) (v := ?_) rfl (by kernel_rfl) (by kernel_rfl) (by kernel_rfl) (by kernel_rfl) (fun _ _ _ h => h) (by rfl) ?_ (fun _ => HB_1.out) ?_
                rotate_left
                · intro V'; go_simp <;> with_reducible rfl
                simp only [Act.put, List.setIfInBounds_toArray, List.set_cons_zero, List.set_cons_succ]
                refine doneT (by kernel_rfl) ?_ _
                have HBk1 := Lib.hid (HBk.out.trans (HB_1.out.mono HBk.out.size))
                clear HL_ HB_1 HBk Yk Ok CT C18k HLi HL6k HTv HY c18 hI
                go_wp2_with fail
                go_roundw
                case rel => exact ⟨k + 1, by rw [wr1 (by have := HQi'.out; have := HN1.out; omega)], HBk1.out⟩
                case measure => rw [wr1 (by have := HQi'.out; have := HN1.out; omega)]; simp [intOf]; omega
            · have dk : decide (k < n1) = false := by simp; omega
              have c18 := (HBk.out.cell (p := ⟨b6, 18, none⟩) HL6.out).trans C18.out
              go_wp2_with fail
              clear c18
              go_loopw [8] (fun v wr => ∃ k : Nat, v = .int .i64 (k : Int) ∧ Below W6.heap.size W6 wr) (fun v _ => n2 - (intOf v).toNat)
              case atStart => exact ⟨0, rfl, HBk.out⟩
              case round =>
                clear HBk dk hk
                obtain ⟨k, rfl, hbk⟩ := hrel
                have HBk := Lib.hid hbk
                clear hbk
                by_cases hk : k < n2
                · obtain ⟨y, hy⟩ : ∃ y, q'.kps[k]? = some y := ⟨_, List.getElem?_eq_getElem (by have := HN2.out; omega)⟩
                  obtain ⟨bi, oi, hA, hbi, hci⟩ := RdK.at_ O6.out.kps.read (by have := HN2.out; omega)
                  have C19a := Lib.hid (show W6.cell? ⟨b6, 19, none⟩ = some (.slice (some ⟨bi, oi, none⟩) n2 a6.d) by rw [← hA]; exact C19.out)
                  have c19 := (HBk.out.cell (p := ⟨b6, 19, none⟩) HL6.out).trans C19a.out
                  have hI : (k : Int) < (n2 : Int) := by omega
                  have HLi := Lib.hid hbi
                  have HCi := Lib.hid hci
                  have HY := Lib.hid hy
                  have HKn := Lib.hid hk
                  clear hA hbi hci hy
                  go_wp2_with fail
                  clear c19
                  go_loopw [9] (fun v wr => ∃ i : Nat, v = .int .i64 (i : Int) ∧ i ≤ k ∧ Below W6.heap.size W6 wr) (fun v _ => k - (intOf v).toNat)
                  case atStart => exact ⟨0, rfl, Nat.zero_le _, HBk.out⟩
                  case round =>
                    clear HBk
                    obtain ⟨i, rfl, hik, hbk⟩ := hrel
                    have HBk := Lib.hid hbk
                    have C19k := Lib.hid (show wr.cell? ⟨b6, 19, none⟩ = some (.slice (some ⟨bi, oi, none⟩) n2 a6.d) from (hbk.cell (p := ⟨b6, 19, none⟩) HL6.out).trans C19a.out)
                    have KY0 := Lib.hid (show wr.cell? ⟨bi, oi + k * 8, none⟩ = some (.int .i64 y.id) from (hbk.cell (p := ⟨bi, oi + k * 8, none⟩) HLi.out).trans (HCi.out k y HY.out).c0)
                    have KY1 := Lib.hid (show wr.cell? ⟨bi, oi + k * 8 + 1, none⟩ = some (.int .i64 y.tok) from (hbk.cell (p := ⟨bi, oi + k * 8 + 1, none⟩) HLi.out).trans (HCi.out k y HY.out).c1)
                    have HLk := Lib.hid (show bi < wr.heap.size from Nat.lt_of_lt_of_le HLi.out hbk.size)
                    have HL6k := Lib.hid (show b6 < wr.heap.size from Nat.lt_of_lt_of_le HL6.out hbk.size)
                    clear hbk
                    by_cases h3 : i < k
                    · obtain ⟨u, hu⟩ : ∃ u, q'.kps[i]? = some u := ⟨_, List.getElem?_eq_getElem (by have := HN2.out; omega)⟩
                      have KU0 := Lib.hid (show wr.cell? ⟨bi, oi + i * 8, none⟩ = some (.int .i64 u.id) from (HBk.out.cell (p := ⟨bi, oi + i * 8, none⟩) HLi.out).trans (HCi.out i u hu).c0)
                      have KU1 := Lib.hid (show wr.cell? ⟨bi, oi + i * 8 + 1, none⟩ = some (.int .i64 u.tok) from (HBk.out.cell (p := ⟨bi, oi + i * 8 + 1, none⟩) HLi.out).trans (HCi.out i u hu).c1)
                      have q1 : (u.tok == y.tok) = false := by have := pw_at HTk.out.pw h3 hu HY.out; simpa using this
                      have q0 : (u.id == y.id) = false := by have := pw_at HTk.out.right.kpp h3 hu HY.out; simp; omega
                      have hI3 : (i : Int) < (k : Int) := by omega
                      have hI4 : (i : Int) < (n2 : Int) := by omega
                      clear hu
                      go_upto_region 21 with fail
                      have HL_ : Hid (∀ V', Below wr.heap.size wr V' → V'.cell? ⟨b6, 19, none⟩ = some (.slice (some ⟨bi, oi, none⟩) n2 a6.d) ∧ V'.cell? ⟨bi, oi + k * 8, none⟩ = some (.int .i64 y.id) ∧ V'.cell? ⟨bi, oi + k * 8 + 1, none⟩ = some (.int .i64 y.tok) ∧ V'.cell? ⟨bi, oi + i * 8, none⟩ = some (.int .i64 u.id) ∧ V'.cell? ⟨bi, oi + i * 8 + 1, none⟩ = some (.int .i64 u.tok)) := Lib.hid (fun V' hV => ⟨(hV.cell (p := ⟨b6, 19, none⟩) HL6k.out).trans C19k.out, (hV.cell (p := ⟨bi, oi + k * 8, none⟩) HLk.out).trans KY0.out, (hV.cell (p := ⟨bi, oi + k * 8 + 1, none⟩) HLk.out).trans KY1.out, (hV.cell (p := ⟨bi, oi + i * 8, none⟩) HLk.out).trans KU0.out, (hV.cell (p := ⟨bi, oi + i * 8 + 1, none⟩) HLk.out).trans KU1.out⟩)
                      have HBd := Lib.hid (show Below wr.heap.size wr wr.drew from below_drewB (Below.refl _ _) 1)
                      refine wp_region_T (ls := []) (T := (fun V' => Below wr.heap.size wr V')) (by kernel_rfl) ?_
                      refine takeP (i := 0) (v := ?_) rfl (by kernel_rfl) (by kernel_rfl) (by kernel_rfl) (by kernel_rfl) (fun _ _ _ h => h) (by rfl) ?_ (fun _ => HBd.out) ?_
                      rotate_left
                      · intro V'; go_simp <;> with_reducible rfl
                      simp only [Act.put, List.setIfInBounds_toArray, List.set_cons_zero, List.set_cons_succ]
                      refine takeT (i := 1) (v := ?_) rfl (by kernel_rfl) (by kernel_rfl) (by kernel_rfl) (by kernel_rfl) (fun _ _ _ h => h) (by rfl) ?_ HBd.out ?_
                      rotate_left
                      · intro V' hV; obtain ⟨y0, y1, y2, y3, y4⟩ := HL_.out V' hV; go_simp <;> with_reducible rfl
                      simp only [Act.put, List.setIfInBounds_toArray, List.set_cons_zero, List.set_cons_succ]
                      refine takeP (i := 2) (v := ?_) rfl (by kernel_rfl) (by kernel_rfl) (by kernel_rfl) (by kernel_rfl) (fun _ _ _ h => h) (by rfl) ?_ (fun _ => HBd.out) ?_
                      rotate_left
                      · intro V'; go_simp <;> with_reducible rfl
                      simp only [Act.put, List.setIfInBounds_toArray, List.set_cons_zero, List.set_cons_succ]
                      refine takeP (i := 3) (v := ?_) rfl (by kernel_rfl) (by kernel_rfl) (by kernel_rfl) (by kernel_rfl) (fun _ _ _ h => h) (by rfl) ?_ (fun _ => HBd.out) ?_
                      rotate_left
                      · intro V'; go_simp <;> with_reducible rfl
                      simp only [Act.put, List.setIfInBounds_toArray, List.set_cons_zero, List.set_cons_succ]
                      refine takeP (i := 4) (v := ?_) rfl (by kernel_rfl) (by kernel_rfl) (by kernel_rfl) (by kernel_rfl) (fun _ _ _ h => h) (by rfl) ?_ (fun _ => HBd.out) ?_
                      rotate_left
                      · intro V'; go_simp <;> with_reducible rfl
                      simp only [Act.put, List.setIfInBounds_toArray, List.set_cons_zero, List.set_cons_succ]
                      refine takeT (i := 5) (v := ?_) rfl (by kernel_rfl) (by kernel_rfl) (by kernel_rfl) (by kernel_rfl) (fun _ _ _ h => h) (by rfl) ?_ HBd.out ?_
                      rotate_left
                      · intro V' hV; obtain ⟨y0, y1, y2, y3, y4⟩ := HL_.out V' hV; go_simp <;> with_reducible rfl
                      simp only [Act.put, List.setIfInBounds_toArray, List.set_cons_zero, List.set_cons_succ]
                      refine takeP (i := 6) (v := ?_) rfl (by kernel_rfl) (by kernel_rfl) (by kernel_rfl) (by kernel_rfl) (fun _ _ _ h => h) (by rfl) ?_ (fun _ => HBd.out) ?_
                      rotate_left
                      · intro V'; go_simp <;> with_reducible rfl
                      simp only [Act.put, List.setIfInBounds_toArray, List.set_cons_zero, List.set_cons_succ]
                      refine takeT (i := 7) (v := ?_) rfl (by kernel_rfl) (by kernel_rfl) (by kernel_rfl) (by kernel_rfl) (fun _ _ _ h => h) (by rfl) ?_ HBd.out ?_
                      rotate_left
                      · intro V' hV; obtain ⟨y0, y1, y2, y3, y4⟩ := HL_.out V' hV; go_simp <;> with_reducible rfl
                      simp only [Act.put, List.setIfInBounds_toArray, List.set_cons_zero, List.set_cons_succ]
                      refine takeP (i := 8) (v := ?_) rfl (by kernel_rfl) (by kernel_rfl) (by kernel_rfl) (by kernel_rfl) (fun _ _ _ h => h) (by rfl) ?_ (fun _ => HBd.out) ?_
                      rotate_left
                      · intro V'; go_simp <;> with_reducible rfl
                      simp only [Act.put, List.setIfInBounds_toArray, List.set_cons_zero, List.set_cons_succ]
                      refine takeP (i := 9) (v := ?_) rfl (by kernel_rfl) (by kernel_rfl) (by kernel_rfl) (by kernel_rfl) (fun _ _ _ h => h) (by rfl) ?_ (fun _ => HBd.out) ?_
                      rotate_left
                      · intro V'; go_simp <;> with_reducible rfl
                      simp only [Act.put, List.setIfInBounds_toArray, List.set_cons_zero, List.set_cons_succ]
                      refine takeP (i := 10) (v := ?_) rfl (by kernel_rfl) (by kernel_rfl) (by kernel_rfl) (by kernel_rfl) (fun _ _ _ h => h) (by rfl) ?_ (fun _ => HBd.out) ?_
                      rotate_left
                      · intro V'; go_simp <;> with_reducible rfl
                      simp only [Act.put, List.setIfInBounds_toArray, List.set_cons_zero, List.set_cons_succ]
                      refine takeT (i := 11) (v := ?_) rfl (by kernel_rfl) (by kernel_rfl) (by kernel_rfl) (by kernel_rfl) (fun _ _ _ h => h) (by rfl) ?_ HBd.out ?_
                      rotate_left
                      · intro V' hV; obtain ⟨y0, y1, y2, y3, y4⟩ := HL_.out V' hV; go_simp <;> with_reducible rfl
                      simp only [Act.put, List.setIfInBounds_toArray, List.set_cons_zero, List.set_cons_succ]
                      refine takeP (i := 12) (v := ?_) rfl (by kernel_rfl) (by kernel_rfl) (by kernel_rfl) (by kernel_rfl) (fun _ _ _ h => h) (by rfl) ?_ (fun _ => HBd.out) ?_
                      rotate_left
                      · intro V'; go_simp <;> with_reducible rfl
                      simp only [Act.put, List.setIfInBounds_toArray, List.set_cons_zero, List.set_cons_succ]
                      refine takeP (i := 13) (v := ?_) rfl (by kernel_rfl) (by kernel_rfl) (by kernel_rfl) (by kernel_rfl) (fun _ _ _ h => h) (by rfl) ?_ (fun _ => HBd.out) ?_
                      rotate_left
                      · intro V'; go_simp <;> with_reducible rfl
                      simp only [Act.put, List.setIfInBounds_toArray, List.set_cons_zero, List.set_cons_succ]
                      refine takeP (i := 14) (v := ?_) rfl (by kernel_rfl) (by kernel_rfl) (by kernel_rfl) (by kernel_rfl) (fun _ _ _ h => h) (by rfl) ?_ (fun _ => HBd.out) ?_
                      rotate_left
                      · intro V'; go_simp <;> with_reducible rfl
                      simp only [Act.put, List.setIfInBounds_toArray, List.set_cons_zero, List.set_cons_succ]
                      refine takeT (i := 15) (v := ?_) rfl (by kernel_rfl) (by kernel_rfl) (by kernel_rfl) (by kernel_rfl) (fun _ _ _ h => h) (by rfl) ?_ HBd.out ?_
                      rotate_left
                      · intro V' hV; obtain ⟨y0, y1, y2, y3, y4⟩ := HL_.out V' hV; go_simp <;> with_reducible rfl
                      simp only [Act.put, List.setIfInBounds_toArray, List.set_cons_zero, List.set_cons_succ]
                      refine takeP (i := 16) (v := ?_) rfl (by kernel_rfl) (by kernel_rfl) (by kernel_rfl) (by kernel_rfl) (fun _ _ _ h => h) (by rfl) ?_ (fun _ => HBd.out) ?_
                      rotate_left
                      · intro V'; go_simp <;> with_reducible rfl
                      simp only [Act.put, List.setIfInBounds_toArray, List.set_cons_zero, List.set_cons_succ]
                      refine takeP (i := 17) (v := ?_) rfl (by kernel_rfl) (by kernel_rfl) (by kernel_rfl) (by kernel_rfl) (fun _ _ _ h => h) (by rfl) ?_ (fun _ => HBd.out) ?_
                      rotate_left
                      · intro V'; go_simp <;> with_reducible rfl
                      simp only [Act.put, List.setIfInBounds_toArray, List.set_cons_zero, List.set_cons_succ]
                      refine takeP (i := 18) (v := ?_) rfl (by kernel_rfl) (by kernel_rfl) (by kernel_rfl) (by kernel_rfl) (fun _ _ _ h => h) (by rfl) ?_ (fun _ => HBd.out) ?_
                      rotate_left
                      · intro V'; go_simp <;> with_reducible rfl
                      simp only [Act.put, List.setIfInBounds_toArray, List.set_cons_zero, List.set_cons_succ]
                      refine takeT (i := 19) (v := ?_) rfl (by kernel_rfl) (by kernel_rfl) (by kernel_rfl) (by kernel_rfl) (fun _ _ _ h => h) (by rfl) ?_ HBd.out ?_
                      rotate_left
                      · intro V' hV; obtain ⟨y0, y1, y2, y3, y4⟩ := HL_.out V' hV; go_simp <;> with_reducible rfl
                      simp only [Act.put, List.setIfInBounds_toArray, List.set_cons_zero, List.set_cons_succ]
                      refine takeP (i := 20) (v := ?_) rfl (by kernel_rfl) (by kernel_rfl) (by kernel_rfl) (by kernel_rfl) (fun _ _ _ h => h) (by rfl) ?_ (fun _ => HBd.out) ?_
                      rotate_left
                      · intro V'; go_simp <;> with_reducible rfl
                      simp only [Act.put, List.setIfInBounds_toArray, List.set_cons_zero, List.set_cons_succ]
                      refine takeT (i := 21) (v := ?_) rfl (by kernel_rfl) (by kernel_rfl) (by kernel_rfl) (by kernel_rfl) (fun _ _ _ h => h) (by rfl) ?_ HBd.out ?_
                      rotate_left
                      · intro V' hV; obtain ⟨y0, y1, y2, y3, y4⟩ := HL_.out V' hV; go_simp <;> with_reducible rfl
                      simp only [Act.put, List.setIfInBounds_toArray, List.set_cons_zero, List.set_cons_succ]
                      refine takeP (i := 22) (v := ?_) rfl (by kernel_rfl) (by kernel_rfl) (by kernel_rfl) (by kernel_rfl) (fun _ _ _ h => h) (by rfl) ?_ (fun _ => HBd.out) ?_
                      rotate_left
                      · intro V'; go_simp <;> with_reducible rfl
                      simp only [Act.put, List.setIfInBounds_toArray, List.set_cons_zero, List.set_cons_succ]
                      refine takeP (i := 23) (v := ?_) rfl (by kernel_rfl) (by kernel_rfl) (by kernel_rfl) (by kernel_rfl) (fun _ _ _ h => h) (by rfl) ?_ (fun _ => HBd.out) ?_
                      rotate_left
                      · intro V'; go_simp <;> with_reducible rfl
                      simp only [Act.put, List.setIfInBounds_toArray, List.set_cons_zero, List.set_cons_succ]
                      refine takeP (i := 24) (v := ?_) rfl (by kernel_rfl) (by kernel_rfl) (by kernel_rfl) (by kernel_rfl) (fun _ _ _ h => h) (by rfl) ?_ (fun _ => HBd.out) ?_
                      rotate_left
                      · intro V'; go_simp <;> with_reducible rfl
                      simp only [Act.put, List.setIfInBounds_toArray, List.set_cons_zero, List.set_cons_succ]
                      refine takeT (i := 25) (v := ?_) rfl (by kernel_rfl) (by kernel_rfl) (by kernel_rfl) (by kernel_rfl) (fun _ _ _ h => h) (by rfl) ?_ HBd.out ?_
                      rotate_left
                      · intro V' hV; obtain ⟨y0, y1, y2, y3, y4⟩ := HL_.out V' hV; go_simp <;> with_reducible rfl
                      simp only [Act.put, List.setIfInBounds_toArray, List.set_cons_zero, List.set_cons_succ]
                      refine takeP (i := 26) (v := ?_) rfl (by kernel_rfl) (by kernel_rfl) (by kernel_rfl) (by kernel_rfl) (fun _ _ _ h => h) (by rfl) ?_ (fun _ => HBd.out) ?_
                      rotate_left
                      · intro V'; go_simp <;> with_reducible rfl
                      simp only [Act.put, List.setIfInBounds_toArray, List.set_cons_zero, List.set_cons_succ]
                      refine takeP (i := 27) (v := ?_) rfl (by kernel_rfl) (by kernel_rfl) (by kernel_rfl) (by kernel_rfl) (fun _ _ _ h => h) (by rfl) ?_ (fun _ => HBd.out) ?_
                      rotate_left
                      · intro V'; go_simp <;> with_reducible rfl
                      simp only [Act.put, List.setIfInBounds_toArray, List.set_cons_zero, List.set_cons_succ]
                      refine doneT (by kernel_rfl) ?_ _
                      have HBk1 := Lib.hid (HBk.out.trans (HBd.out.mono HBk.out.size))
                      clear HL_ HBd HBk C19k KY0 KY1 KU0 KU1 HLk HL6k q0 q1
                      go_wp2_with fail
                      go_roundw
                      case rel => exact ⟨i + 1, by first | simp; done | rw [wr1 (by have := HQk'.out; have := HN2.out; omega)], h3, HBk1.out⟩
                      case measure => first | (rw [wr1 (by have := HQk'.out; have := HN2.out; omega)]; simp [intOf]; omega) | (simp [intOf]; omega)
                    · have d3 : decide (i < k) = false := by simp; omega
                      have HTn := Lib.hid (show tokenB q' y.tok = -1 from tok_no (HTk.out.ap y (List.mem_of_getElem? HY.out)))
                      have d1 : decide (y.tok < 1) = false := by have := (HTk.out.one y (List.mem_of_getElem? HY.out)).1; simp; omega
                      have Xk := Lib.hid (X6.out.under HBk.out)
                      have Ok := Lib.hid (O6.out.under HBk.out)
                      have hi3 : ¬ (i : Int) < (k : Int) := by omega
                      go_upto_region 23 with fail
                      have HL_ : Hid (∀ V', Below wr.heap.size wr V' → Whole V' b6 30 (brC q' a6) ∧ V'.cell? ⟨b6, 19, none⟩ = some (.slice (some ⟨bi, oi, none⟩) n2 a6.d) ∧ V'.cell? ⟨bi, oi + k * 8 + 1, none⟩ = some (.int .i64 y.tok)) := Lib.hid (fun V' hV => ⟨Xk.out.under hV, (hV.cell (p := ⟨b6, 19, none⟩) HL6k.out).trans C19k.out, (hV.cell (p := ⟨bi, oi + k * 8 + 1, none⟩) HLk.out).trans KY1.out⟩)
                      have HBd := Lib.hid (show Below wr.heap.size wr wr.drew from below_drewB (Below.refl _ _) 1)
                      refine wp_region_T (ls := []) (T := (fun V' => Below wr.heap.size wr V')) (by kernel_rfl) ?_
                      refine takeT (i := 0) (v := brV q' a6) rfl (by kernel_rfl) (by kernel_rfl) (by kernel_rfl) (by kernel_rfl) (fun _ _ _ h => h) (by rfl) ?_ HBd.out ?_
                      · intro V' hV; obtain ⟨y0, y1, y2⟩ := HL_.out V' hV; exact exec_load_brain rfl y0
                      simp only [Act.put, List.setIfInBounds_toArray, List.set_cons_zero, List.set_cons_succ]
                      refine takeP (i := 1) (v := ?_) rfl (by kernel_rfl) (by kernel_rfl) (by kernel_rfl) (by kernel_rfl) (fun _ _ _ h => h) (by rfl) ?_ (fun _ => HBd.out) ?_
                      rotate_left
                      · intro V'; go_simp <;> with_reducible rfl
                      simp only [Act.put, List.setIfInBounds_toArray, List.set_cons_zero, List.set_cons_succ]
                      refine takeT (i := 2) (v := ?_) rfl (by kernel_rfl) (by kernel_rfl) (by kernel_rfl) (by kernel_rfl) (fun _ _ _ h => h) (by rfl) ?_ HBd.out ?_
                      rotate_left
                      · intro V' hV; obtain ⟨y0, y1, y2⟩ := HL_.out V' hV; go_simp <;> with_reducible rfl
                      simp only [Act.put, List.setIfInBounds_toArray, List.set_cons_zero, List.set_cons_succ]
                      refine takeP (i := 3) (v := ?_) rfl (by kernel_rfl) (by kernel_rfl) (by kernel_rfl) (by kernel_rfl) (fun _ _ _ h => h) (by rfl) ?_ (fun _ => HBd.out) ?_
                      rotate_left
                      · intro V'; go_simp <;> with_reducible rfl
                      simp only [Act.put, List.setIfInBounds_toArray, List.set_cons_zero, List.set_cons_succ]
                      refine takeP (i := 4) (v := ?_) rfl (by kernel_rfl) (by kernel_rfl) (by kernel_rfl) (by kernel_rfl) (fun _ _ _ h => h) (by rfl) ?_ (fun _ => HBd.out) ?_
                      rotate_left
                      · intro V'; go_simp <;> with_reducible rfl
                      simp only [Act.put, List.setIfInBounds_toArray, List.set_cons_zero, List.set_cons_succ]
                      refine takeP (i := 5) (v := ?_) rfl (by kernel_rfl) (by kernel_rfl) (by kernel_rfl) (by kernel_rfl) (fun _ _ _ h => h) (by rfl) ?_ (fun _ => HBd.out) ?_
                      rotate_left
                      · intro V'; go_simp <;> with_reducible rfl
                      simp only [Act.put, List.setIfInBounds_toArray, List.set_cons_zero, List.set_cons_succ]
                      refine takeT (i := 6) (v := ?_) rfl (by kernel_rfl) (by kernel_rfl) (by kernel_rfl) (by kernel_rfl) (fun _ _ _ h => h) (by rfl) ?_ HBd.out ?_
                      rotate_left
                      · intro V' hV; obtain ⟨y0, y1, y2⟩ := HL_.out V' hV; go_simp <;> with_reducible rfl
                      simp only [Act.put, List.setIfInBounds_toArray, List.set_cons_zero, List.set_cons_succ]
                      refine oneT (i := 7) rfl (by kernel_rfl) (by rfl) (fun K hK => ?_)
                      go_simp
                      refine (tokO (Ok.out.under HBd.out) HQi'.out HTn.out).mono ?_
                      rintro e wr_1 ⟨rfl, hb_⟩
                      have HB_1 := Lib.hid (show Below wr.heap.size wr wr_1 from HBd.out.trans (hb_.mono HBd.out.size))
                      clear hb_ HBd
                      refine hK.out _ _ (fun _ => HB_1.out) ?_
                      clear hK K
                      refine takeP (i := 8) (v := ?_) rfl (by kernel_rfl) (by kernel_rfl) (by kernel_rfl) (by kernel_rfl) (fun _ _ _ h => h) (by rfl) ?_ (fun _ => HB_1.out) ?_
                      rotate_left
                      · intro V'; go_simp <;> with_reducible rfl
                      simp only [Act.put, List.setIfInBounds_toArray, List.set_cons_zero, List.set_cons_succ]
                      refine takeP (i := 9) (v := ?_) rfl (by kernel_rfl) (by kernel_rfl) (by kernel_rfl) (by kernel_rfl) (fun _ _ _ h => h) (by rfl) ?_ (fun _ => HB_1.out) ?_
                      rotate_left
                      · intro V'; go_simp <;> with_reducible rfl
                      simp only [Act.put, List.setIfInBounds_toArray, List.set_cons_zero, List.set_cons_succ]
                      refine takeP (i := 10) (v := ?_) rfl (by kernel_rfl) (by kernel_rfl) (by kernel_rfl) (by kernel_rfl) (fun _ _ _ h => h) (by rfl) ?_ (fun _ => HB_1.out) ?_
                      rotate_left
                      · intro V'; go_simp <;> with_reducible rfl
                      simp only [Act.put, List.setIfInBounds_toArray, List.set_cons_zero, List.set_cons_succ]
                      refine takeT (i := 11) (v := ?_) rfl (by kernel_rfl) (by kernel_rfl) (by kernel_rfl) (by kernel_rfl) (fun _ _ _ h => h) (by rfl) ?_ HB_1.out ?_
                      rotate_left
                      · intro V' hV; obtain ⟨y0, y1, y2⟩ := HL_.out V' hV; go_simp <;> with_reducible rfl
                      simp only [Act.put, List.setIfInBounds_toArray, List.set_cons_zero, List.set_cons_succ]
                      refine takeP (i := 12) (v := ?_) rfl (by kernel_rfl) (by kernel_rfl) (by kernel_rfl) (by kernel_rfl) (fun _ _ _ h => h) (by rfl) ?_ (fun _ => HB_1.out) ?_
                      rotate_left
                      · intro V'; go_simp <;> with_reducible rfl
                      simp only [Act.put, List.setIfInBounds_toArray, List.set_cons_zero, List.set_cons_succ]
                      refine takeP (i := 13) (v := ?_) rfl (by kernel_rfl) (by kernel_rfl) (by kernel_rfl) (by kernel_rfl) (fun _ _ _ h => h) (by rfl) ?_ (fun _ => HB_1.out) ?_
                      rotate_left
                      · intro V'; go_simp <;> with_reducible rfl
                      simp only [Act.put, List.setIfInBounds_toArray, List.set_cons_zero, List.set_cons_succ]
                      refine takeP (i := 14) (v := ?_) rfl (by kernel_rfl) (by kernel_rfl) (by kernel_rfl) (by kernel_rfl) (fun _ _ _ h => h) (by rfl) ?_ (fun _ => HB_1.out) ?_
                      rotate_left
                      · intro V'; go_simp <;> with_reducible rfl
                      simp only [Act.put, List.setIfInBounds_toArray, List.set_cons_zero, List.set_cons_succ]
                      refine takeT (i := 15) (v := ?_) rfl (by kernel_rfl) (by kernel_rfl) (by kernel_rfl) (by kernel_rfl) (fun _ _ _ h => h) (by rfl) ?_ HB_1.out ?_
                      rotate_left
                      · intro V' hV; obtain ⟨y0, y1, y2⟩ := HL_.out V' hV; go_simp <;> with_reducible rfl
                      simp only [Act.put, List.setIfInBounds_toArray, List.set_cons_zero, List.set_cons_succ]
                      refine takeP (i := 16) (v := ?_) rfl (by kernel_rfl) (by kernel_rfl) (by kernel_rfl) (by kernel_rfl) (fun _ _ _ h => h) (by rfl) ?_ (fun _ => HB_1.out) ?_
                      rotate_left
                      · intro V'; go_simp <;> with_reducible rfl
                      simp only [Act.put, List.setIfInBounds_toArray, List.set_cons_zero, List.set_cons_succ]
                      refine takeP (i := 17) (v := ?_) rfl (by kernel_rfl) (by kernel_rfl) (by kernel_rfl) (by kernel_rfl) (fun _ _ _ h => h) (by rfl) ?_ (fun _ => HB_1.out) ?_
                      rotate_left
                      · intro V'; go_simp <;> with_reducible rfl
                      simp only [Act.put, List.setIfInBounds_toArray, List.set_cons_zero, List.set_cons_succ]
                      refine doneT (by kernel_rfl) ?_ _
                      have HBk1 := Lib.hid (HBk.out.trans (HB_1.out.mono HBk.out.size))
                      clear HL_ HB_1 HBk C19k KY0 KY1 Xk Ok HLk HL6k HTn d1 hi3 d3
                      go_wp2_with fail
                      go_roundw
                      case rel => exact ⟨k + 1, by rw [wr1 (by have := HQk'.out; have := HN2.out; have := HKn.out; omega)], HBk1.out⟩
                      case measure => have := HKn.out; rw [wr1 (by have := HQk'.out; have := HN2.out; omega)]; simp [intOf]; omega
                · have dk : decide (k < n2) = false := by simp; omega
                  have c19 := (HBk.out.cell (p := ⟨b6, 19, none⟩) HL6.out).trans C19.out
                  have Xk := Lib.hid (X6.out.under HBk.out)
                  have Yk := Lib.hid (Y6.out.under HBk.out)
                  have Ok := Lib.hid (O6.out.under HBk.out)
                  have Bk := Lib.hid (HBw6.out.trans (HBk.out.mono HBw6.out.size))
                  have c1 : wr.cell? ⟨b6, 1, none⟩ = some (.int .i64 q'.sq) := Xk.out.cell 1
                  have hsq := HSq.out
                  clear hk
                  go_upto_region 25 with fail
                  go_wp2_with (first | (refine wpList_loadB (by rfl) _ rfl b6 q' a6 (by rfl) Xk.out ?_) | (refine wpList_storeB rfl _ _ rfl V.heap.size q' a6 _ (by rfl) (by rfl) (by rfl) Yk.out ?_; intro W9 hW9))
                  all_goals
                    go_roundw
                    case rel =>
                      refine ⟨j + 1, q', ?_, by rw [wr1 (by have := HLt.out; have := HGR.out.1; have := HL.out; omega)], ⟨⟨a6, ?_, ?_⟩, ?_, HTk.out, HGo.out, HMo.out, HLt.out⟩⟩
                      · first | rfl | (congr 1; omega)
                      · exact setRow_heap _ _ _ _ _ _ Yk.out
                      · exact Ok.out.rowset Yk.out (by decide) (by decide) (by decide) _
                      · exact below_rowsetB Bk.out (Nat.le_refl _) _
                    case measure => have := HLt.out; rw [wr1 (by have := HGR.out.1; have := HL.out; omega)]; simp [intOf]; omega

end Go.Proofs.YtdaimejlcfhfiaaGreatDoor
