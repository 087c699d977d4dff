/-
  Texts that the walk of a statement over brains leans on, joined (BrMade, CfRow, CfOf, BrRegroup). Conditions: those that each theorem names.
-/
import Derived.Test.YtdaimejlcfhfiaaGreatDoorKQ
import Derived.Test.YtdaimejlcfhfiaaGreatDoorK5
import Derived.Test.YtdaimejlcfhfiaaGreatDoorK9
import Derived.Test.YtdaimejlcfhfiaaGreatDoorK10
import Derived.Laws.MakeOwn
set_option maxRecDepth 100000

namespace Go.Proofs.YtdaimejlcfhfiaaGreatDoor
open Go.RowKit Go.Shelf

theorem cells8 {w : World} {g : Nat} {t : TypeId} {v0 v1 v2 v3 v4 v5 v6 v7 : Value} (h : Whole w g t #[v0, v1, v2, v3, v4, v5, v6, v7]) : w.cell? ⟨g, 0, none⟩ = some v0 ∧ w.cell? ⟨g, 1, none⟩ = some v1 ∧ w.cell? ⟨g, 2, none⟩ = some v2 ∧ w.cell? ⟨g, 3, none⟩ = some v3 ∧ w.cell? ⟨g, 4, none⟩ = some v4 ∧ w.cell? ⟨g, 5, none⟩ = some v5 ∧ w.cell? ⟨g, 6, none⟩ = some v6 ∧ w.cell? ⟨g, 7, none⟩ = some v7 := ⟨h.cell 0, h.cell 1, h.cell 2, h.cell 3, h.cell 4, h.cell 5, h.cell 6, h.cell 7⟩
/-- The brain behind what a launch made. -/
def madeP (p : Br) (t id now : Int) (x : It) : Br :=
  { p with its := dropI t p.its, kps := putK p.kps ⟨id, t, x.ver, x.zone, if x.warm then 9 else 1, now, false, false⟩, rf := if p.rf.st = 1 then { p.rf with fails := 0 } else p.rf }

set_option maxHeartbeats 4000000 in
theorem made_any (p : Br) (a : Ad) (t id now : Int) (i base g : Nat) (x : It) (w : World) (h : BrIn base g w p a) (hi : p.its.findIdx? (fun x => decide (x.tok = t)) = some i) (hx : p.its[i]? = some x) (hn : p.its.length ≤ 1000) (hk : p.kps.length ≤ 900) :
    Calls Tryz.prog 84 #[.pointer (some ⟨g, 0, none⟩), .int .i64 t, .int .i64 id, .int .i64 now] w (StPost base g (madeP p t id now x) w) := by
  obtain ⟨hfi, hil⟩ := tokenB_some hi
  have hbase : base ≤ w.heap.size := Nat.le_trans h.ge (Nat.le_of_lt h.lt)
  have H := Lib.hid h
  have HF := Lib.hid hfi
  have HD := Lib.hid (dropI_at hi)
  have HBase := Lib.hid hbase
  have HX := Lib.hid hx
  obtain ⟨tok, ver, zone, warm⟩ := x
  clear h hfi hi hbase hx
  go_enter Tryz.func84, Tryz.ntmps84
  go_wp2_with (refine wpList_load_row (by rfl) 30 _ rfl g (by rfl) 30 _ (0, 0) _ H.out.box Tryz.underlying30 rfl (by kernel_rfl) ?_)
  refine (btoken_any p a t w.heap.size w H.out.own.reads (Nat.le_refl _) hn).mono ?_
  rintro e w1 ⟨rfl, hb1⟩
  rw [HF.out]
  have H1 := Lib.hid (H.out.under hb1)
  have HS1 := Lib.hid (Stp.of_below hb1 HBase.out)
  clear hb1 H
  have HB1 := Lib.hid (Nat.le_trans HBase.out HS1.out.size)
  obtain ⟨b, off, hA, hbl, hc⟩ := RdI.at_ H1.out.own.its.read (by omega)
  obtain ⟨x0, x1, x2, x3⟩ := hc i _ HX.out
  have c18 := (cells27 H1.out.box).2.2.2.2.2.2.2.2.2.2.2.2.2.2.2.2.2.2.1
  rw [hA] at c18
  obtain ⟨hbV, v0, v1⟩ := two_new w1 45 47 (itC ⟨tok, ver, zone, warm⟩) (kpC ⟨id, t, ver, zone, 1, now, false, false⟩)
  have hiI : (i : Int) < (p.its.length : Int) := by omega
  have HA := Lib.hid hA
  clear hc hbl hA
  go_upto_region 3 with fail
  obtain ⟨V, hV⟩ : ∃ V, (w1.alloc (.cells (itC ⟨tok, ver, zone, warm⟩) 45)).alloc (.cells (kpC ⟨id, t, ver, zone, 1, now, false, false⟩) 47) = V := ⟨_, rfl⟩
  rw [hV] at hbV v0 v1
  refine wpV (fun V2 hV2 => ?_)
  obtain rfl : V = V2 := hV.symm.trans hV2
  clear hV hV2 x0 x1 x2 x3 c18
  have HV := Lib.hid (H1.out.under hbV)
  have HSV := Lib.hid (HS1.out.trans (Stp.of_below hbV HB1.out))
  have HK := Lib.hid v1
  have HNm := Lib.hid (show ∀ k, w1.heap.size ≤ k → (Value.slice a.C p.cf.ms.length a.e).ownBlock ≠ some k ∧ (Value.slice a.A p.its.length a.c).ownBlock ≠ some k ∧ (Value.slice a.B p.kps.length a.d).ownBlock ≠ some k from fun k hk => ⟨own_before H1.out.own.ms hk, own_before H1.out.own.its hk, own_before H1.out.own.kps hk⟩)
  have HLt := Lib.hid H1.out.lt
  have e3 := v0.cell 3
  simp only [List.getElem?_toArray, List.getElem?_cons_zero, List.getElem?_cons_succ] at e3
  have hwi : IntKind.i64.wrap ((i : Int) + 1) = (i : Int) + 1 := by rw [IntKind.wrap_i64]; omega
  clear hbV v0 v1
  cases warm with
  | false =>
    obtain ⟨c0, c1, c2, c3, c4, c5, c6, c7, c8, c9, c10, c11, c12, c13, c14, c15, c16, c17, c18, c19, c20, c21, c22, c23, c24, c25, c26⟩ := cells27 HV.out.box
    go_wp2_with fail
    refine (delI_any a.A p.its.length a.c i p.its base V HV.out.own.its rfl hil hn).mono ?_
    rintro e w3 ⟨rfl, ho, hg⟩
    rw [HD.out] at ho
    have hln : (dropI t p.its).length = p.its.length - 1 := by
      rw [← HD.out, List.length_append, List.length_take, List.length_drop]; omega
    have hbx := HV.out.box.grown hg (Ne.symm (own_apart_F (by decide) HV.out.own.its HV.out.box))
    have hkx := HK.out.grown hg (Ne.symm (HNm.out (w1.heap.size + 1) (Nat.le_succ _)).2.1)
    have f18 := hbx.frozen 18
    have z18 := hbx.cell 18
    simp only [List.getElem?_toArray, List.getElem?_cons_zero, List.getElem?_cons_succ] at z18
    have h4 := HV.out.its hg (l := dropI t p.its) (A' := a.A) (c' := a.c) (by rw [hln]; exact ho)
    rw [hln] at h4
    have k4 := (Only.set w3 g 18 (.slice a.A (p.its.length - 1) a.c)).far hkx (by have := HLt.out; omega)
    have s4 := (HSV.out.trans (Stp.own HV.out.own.its (by decide) (Nat.le_trans HBase.out HSV.out.size) hg)).trans (Stp.set hbx (by decide) HV.out.ge 18 (.slice a.A (p.its.length - 1) a.c))
    clear c0 c1 c2 c3 c4 c5 c6 c7 c8 c9 c10 c11 c12 c13 c14 c15 c16 c17 c18 c19 c20 c21 c22 c23 c24 c25 c26 ho hg hln hbx hkx e3
    go_upto_region 6 with fail
    obtain ⟨W4, hW4⟩ : ∃ W4, w3.setCell ⟨g, 18, none⟩ (.slice a.A (p.its.length - 1) a.c) = W4 := ⟨_, rfl⟩
    rw [hW4] at h4 k4 s4
    refine wpV (fun W5 hW5 => ?_)
    obtain rfl : W4 = W5 := hW4.symm.trans hW5
    clear hW4 hW5 f18 z18
    obtain ⟨d0, d1, d2, d3, d4, d5, d6, d7⟩ := cells8 k4
    have H4 := Lib.hid h4
    have HS4 := Lib.hid s4
    clear h4 s4 k4
    go_wp2_with fail
    refine (keepP_any _ _ (⟨id, t, ver, zone, 1, now, false, false⟩ : Kp) base g W4 H4.out hk).mono ?_
    rintro e w6 ⟨rfl, hs6, a6, h6⟩
    have hs := HS4.out.trans hs6
    have HS6 := Lib.hid hs
    have H6 := Lib.hid h6
    obtain ⟨c0, c1, c2, c3, c4, c5, c6, c7, c8, c9, c10, c11, c12, c13, c14, c15, c16, c17, c18, c19, c20, c21, c22, c23, c24, c25, c26⟩ := cells27 h6.box
    clear h6 hs hs6 d0 d1 d2 d3 d4 d5 d6 d7 c0 c1 c2 c3 c4 c5 c6 c7 c8 c9 c10 c11 c12 c13 c14 c15 c16 c17 c18 c19 c21 c22 c23 c24 c25
    by_cases hst : p.rf.st = 1
    · have hst' : (p.rf.st == 1) = true := by simp [hst]
      have f26 := H6.out.box.frozen 26
      have hp := H6.out.set (p' := madeP p t id now ⟨tok, ver, zone, false⟩) 26 (.int .i64 0) (by simp [madeP, hst]) rfl rfl rfl
      have HP := Lib.hid hp
      clear hp hst
      go_wp2_with fail
      go_end0
      exact ⟨rfl, HS6.out.trans (Stp.set H6.out.box (by decide) H6.out.ge _ _), _, HP.out⟩
    · have hst' : (p.rf.st == 1) = false := by simp [hst]
      have HP := Lib.hid (show BrIn base g w6 (madeP p t id now ⟨tok, ver, zone, false⟩) a6 from by
        have := H6.out
        simp only [madeP, hst, if_false]
        exact this)
      clear hst
      go_wp2_with fail
      go_end0
      exact ⟨rfl, HS6.out, _, HP.out⟩
  | true =>
    have f4 := HK.out.frozen 4
    have z4 := HK.out.cell 4
    simp only [List.getElem?_toArray, List.getElem?_cons_zero, List.getElem?_cons_succ] at z4
    have hN := HNm.out (w1.heap.size + 1) (Nat.le_succ _)
    have h2 := HV.out.far (b := w1.heap.size + 1) (by have := HLt.out; omega) hN.1 hN.2.1 hN.2.2 4 (.int .u8 9)
    have k2 : Whole (V.setCell ⟨w1.heap.size + 1, 4, none⟩ (.int .u8 9)) (w1.heap.size + 1) 47 (kpC ⟨id, t, ver, zone, 9, now, false, false⟩) := HK.out.set 4 (.int .u8 9)
    have s2 := HSV.out.trans (Stp.set HK.out (by decide) (Nat.le_succ_of_le HB1.out) 4 (.int .u8 9))
    go_upto_region 5 with fail
    obtain ⟨V2, hV2⟩ : ∃ V2, V.setCell ⟨w1.heap.size + 1, 4, none⟩ (.int .u8 9) = V2 := ⟨_, rfl⟩
    rw [hV2] at h2 k2 s2
    refine wpV (fun V3 hV3 => ?_)
    obtain rfl : V2 = V3 := hV2.symm.trans hV3
    clear hV2 hV3 f4 z4 hN e3
    have HV2 := Lib.hid h2
    have HK2 := Lib.hid k2
    have HSV2 := Lib.hid s2
    clear h2 k2 s2
    obtain ⟨c0, c1, c2, c3, c4, c5, c6, c7, c8, c9, c10, c11, c12, c13, c14, c15, c16, c17, c18, c19, c20, c21, c22, c23, c24, c25, c26⟩ := cells27 HV2.out.box
    go_wp2_with fail
    refine (delI_any a.A p.its.length a.c i p.its base V2 HV2.out.own.its rfl hil hn).mono ?_
    rintro e w3 ⟨rfl, ho, hg⟩
    rw [HD.out] at ho
    have hln : (dropI t p.its).length = p.its.length - 1 := by
      rw [← HD.out, List.length_append, List.length_take, List.length_drop]; omega
    have hbx := HV2.out.box.grown hg (Ne.symm (own_apart_F (by decide) HV2.out.own.its HV2.out.box))
    have hkx := HK2.out.grown hg (Ne.symm (HNm.out (w1.heap.size + 1) (Nat.le_succ _)).2.1)
    have f18 := hbx.frozen 18
    have z18 := hbx.cell 18
    simp only [List.getElem?_toArray, List.getElem?_cons_zero, List.getElem?_cons_succ] at z18
    have h4 := HV2.out.its hg (l := dropI t p.its) (A' := a.A) (c' := a.c) (by rw [hln]; exact ho)
    rw [hln] at h4
    have k4 := (Only.set w3 g 18 (.slice a.A (p.its.length - 1) a.c)).far hkx (by have := HLt.out; omega)
    have s4 := (HSV2.out.trans (Stp.own HV2.out.own.its (by decide) (Nat.le_trans HBase.out HSV2.out.size) hg)).trans (Stp.set hbx (by decide) HV2.out.ge 18 (.slice a.A (p.its.length - 1) a.c))
    clear c0 c1 c2 c3 c4 c5 c6 c7 c8 c9 c10 c11 c12 c13 c14 c15 c16 c17 c18 c19 c20 c21 c22 c23 c24 c25 c26 ho hg hln hbx hkx
    go_upto_region 6 with fail
    obtain ⟨W4, hW4⟩ : ∃ W4, w3.setCell ⟨g, 18, none⟩ (.slice a.A (p.its.length - 1) a.c) = W4 := ⟨_, rfl⟩
    rw [hW4] at h4 k4 s4
    refine wpV (fun W5 hW5 => ?_)
    obtain rfl : W4 = W5 := hW4.symm.trans hW5
    clear hW4 hW5 f18 z18
    obtain ⟨d0, d1, d2, d3, d4, d5, d6, d7⟩ := cells8 k4
    have H4 := Lib.hid h4
    have HS4 := Lib.hid s4
    clear h4 s4 k4
    go_wp2_with fail
    refine (keepP_any _ _ (⟨id, t, ver, zone, 9, now, false, false⟩ : Kp) base g W4 H4.out hk).mono ?_
    rintro e w6 ⟨rfl, hs6, a6, h6⟩
    have hs := HS4.out.trans hs6
    have HS6 := Lib.hid hs
    have H6 := Lib.hid h6
    obtain ⟨c0, c1, c2, c3, c4, c5, c6, c7, c8, c9, c10, c11, c12, c13, c14, c15, c16, c17, c18, c19, c20, c21, c22, c23, c24, c25, c26⟩ := cells27 h6.box
    clear h6 hs hs6 d0 d1 d2 d3 d4 d5 d6 d7 c0 c1 c2 c3 c4 c5 c6 c7 c8 c9 c10 c11 c12 c13 c14 c15 c16 c17 c18 c19 c21 c22 c23 c24 c25
    by_cases hst : p.rf.st = 1
    · have hst' : (p.rf.st == 1) = true := by simp [hst]
      have f26 := H6.out.box.frozen 26
      have hp := H6.out.set (p' := madeP p t id now ⟨tok, ver, zone, true⟩) 26 (.int .i64 0) (by simp [madeP, hst]) rfl rfl rfl
      have HP := Lib.hid hp
      clear hp hst
      go_wp2_with fail
      go_end0
      exact ⟨rfl, HS6.out.trans (Stp.set H6.out.box (by decide) H6.out.ge _ _), _, HP.out⟩
    · have hst' : (p.rf.st == 1) = false := by simp [hst]
      have HP := Lib.hid (show BrIn base g w6 (madeP p t id now ⟨tok, ver, zone, true⟩) a6 from by
        have := H6.out
        simp only [madeP, hst, if_false]
        exact this)
      clear hst
      go_wp2_with fail
      go_end0
      exact ⟨rfl, HS6.out, _, HP.out⟩

end Go.Proofs.YtdaimejlcfhfiaaGreatDoor

namespace Go.Proofs.YtdaimejlcfhfiaaGreatDoor
open Go.RowKit Go.Shelf
attribute [local go_sem] Oper.semAt_some

def RowIs (x : Cf) (w : World) (e : Ending) (w' : World) : Prop :=
  ∃ A n c, e = .returned (.tuple #[.slice A n c, .int .i64 (er (may x))]) ∧ w'.ownsRow w.heap.size 3 1 (.slice A n c) n (iv (if may x = true then rowOf x else [])) ∧ Below w.heap.size w w'

end Go.Proofs.YtdaimejlcfhfiaaGreatDoor

namespace Go.Proofs.YtdaimejlcfhfiaaGreatDoor
open Go.RowKit Go.Shelf
attribute [local go_sem] Oper.semAt_some

theorem at_of {l : List Int} {n k : Nat} {w : World} {B : Nat} {A : Option Addr} (hr : Rd w B A n (iv l)) (hk : k < n) : ∃ b off, A = some ⟨b, off, none⟩ ∧ b < B ∧ w.cell? ⟨b, off + k, none⟩ = some (.int .i64 (l.getD k 0)) := by
  obtain ⟨b, off, e, hb, hc⟩ := hr.2 (by omega)
  have hl : l.length = n := by have := hr.1; rwa [iv_length] at this
  refine ⟨b, off, e, hb, (hc k hk).trans ?_⟩
  rw [iv, List.getElem?_map, List.getD_eq_getElem?_getD, List.getElem?_eq_getElem (by omega)]
  rfl

set_option maxHeartbeats 1000000 in
theorem shaped_any (A : Option Addr) (n c : Nat) (l : List Int) (B : Nat) (w : World) (hr : Rd w B A n (iv l)) : Calls Tryz.prog 125 #[.slice A n c] w fun e w' => e = .returned (.bool (shapeB l)) ∧ w' = w := by
  have hl : l.length = n := by have := hr.1; rwa [iv_length] at this
  by_cases h14 : 14 ≤ n
  · obtain ⟨b, off, rfl, _, hc⟩ := at_of hr (show 13 < n by omega)
    have hI : (14 : Int) ≤ (n : Int) := by omega
    have hI2 : (13 : Int) < (n : Int) := by omega
    have HS : Hid (shapeB l = (decide (l.getD 13 0 = 0) || decide (l.getD 13 0 = 1))) := Lib.hid (by unfold shapeB; rw [decide_eq_true (by rw [hl]; exact h14)]; rfl)
    generalize l.getD 13 0 = z at *
    clear hr hl
    by_cases h0 : z = 0
    · subst h0
      go_enter Tryz.func125, Tryz.ntmps125
      go_wp2_with fail
      go_ret
      exact ⟨by rw [HS.out]; rfl, rfl⟩
    · have hb0 : (z == 0) = false := by rw [beq_eq_false_iff_ne]; exact h0
      have HD := Lib.hid (decide_eq_false h0)
      by_cases h1 : z = 1
      · subst h1
        go_enter Tryz.func125, Tryz.ntmps125
        go_wp2_with fail
        go_ret
        exact ⟨by rw [HS.out]; rfl, rfl⟩
      · have hb1 : (z == 1) = false := by rw [beq_eq_false_iff_ne]; exact h1
        have HD1 := Lib.hid (decide_eq_false h1)
        clear h0 h1
        go_enter Tryz.func125, Tryz.ntmps125
        go_wp2_with fail
        go_ret
        exact ⟨by rw [HS.out, HD.out, HD1.out]; rfl, rfl⟩
  · have hI : ¬ (14 : Int) ≤ (n : Int) := by omega
    have hI2 : decide ((14 : Int) ≤ (n : Int)) = false := decide_eq_false hI
    have HS : Hid (shapeB l = false) := Lib.hid (by unfold shapeB; rw [decide_eq_false (by rw [hl]; exact h14)]; rfl)
    clear hr hl
    go_enter Tryz.func125, Tryz.ntmps125
    go_wp2_with fail
    go_ret
    exact ⟨by rw [HS.out]; rfl, rfl⟩

/-- A group's cells with the first k numbers. -/
def ofTo (l : List Int) (k : Nat) : Array Value := (((l.take k ++ List.replicate (13 - k) 0).map (Value.int .i64)) ++ [.bool false, .slice none 0 0]).toArray
theorem ofTo_step {l : List Int} {k : Nat} (hk : k < 13) (hl : 14 ≤ l.length) : (ofTo l k).setIfInBounds k (.int .i64 (l.getD k 0)) = ofTo l (k + 1) := by
  have h1 : (l.take k).length = k := by rw [List.length_take]; omega
  have h2 : 13 - k = (13 - (k + 1)) + 1 := by omega
  have hkl : k < l.length := by omega
  have h3 : l.take (k + 1) = l.take k ++ [l.getD k 0] := by
    rw [List.take_succ_eq_append_getElem hkl, List.getD_eq_getElem?_getD, List.getElem?_eq_getElem hkl]
    rfl
  unfold ofTo
  rw [h2, List.replicate_succ, h3]
  simp only [List.setIfInBounds_toArray, List.map_append, List.map_cons, List.append_assoc, List.map_nil]
  rw [List.set_append_right _ _ (by rw [List.length_map, h1]; exact Nat.le_refl _), List.length_map, h1, Nat.sub_self, List.cons_append, List.set_cons_zero]
  rfl
theorem ofTo_cell {l : List Int} {k : Nat} (hk : k < 13) (hl : 14 ≤ l.length) : (ofTo l k)[k]? = some (.int .i64 0) := by
  have h1 : (l.take k).length = k := by rw [List.length_take]; omega
  have h2 : 13 - k = (13 - (k + 1)) + 1 := by omega
  unfold ofTo
  rw [h2, List.replicate_succ, List.getElem?_toArray, List.map_append, List.append_assoc, List.getElem?_append_right (by rw [List.length_map]; omega), List.length_map, h1, Nat.sub_self]
  rfl
theorem ofTo_all {l : List Int} (hl : 14 ≤ l.length) (A : Option Addr) (n c : Nat) : ((ofTo l 13).setIfInBounds 13 (.bool (l.getD 13 0 == 1))).setIfInBounds 14 (.slice A n c) = (ofRow l A n c).cells ∧ (ofTo l 13)[13]? = some (.bool false) ∧ (ofTo l 13)[14]? = some (.slice none 0 0) := by
  match l, hl with
  | a0 :: a1 :: a2 :: a3 :: a4 :: a5 :: a6 :: a7 :: a8 :: a9 :: a10 :: a11 :: a12 :: a13 :: r, _ => exact ⟨rfl, rfl, rfl⟩

theorem own_rowset {w : World} {base n g : Nat} {e : TypeId} {size : Nat} {v : Value} {xs : List Value} (ho : w.ownsRow base e size v n xs) (hne : v.ownBlock ≠ some g) (c' : Array Value) : (w.setRow g c').ownsRow base e size v n xs := by
  refine ⟨ho.1, ?_⟩
  rcases ho.2 with h | ⟨k, cap, cur, rfl, h2, h3, h4⟩
  · exact .inl h
  · exact .inr ⟨k, cap, cur, rfl, h2, (setRow_other w g k c' (fun e => hne (by simp [Value.ownBlock, e]))).trans h3, h4⟩
theorem Whole.rowset_far {w : World} {b g : Nat} {t : TypeId} {cs : Array Value} (h : Whole w b t cs) (hne : b ≠ g) (c' : Array Value) : Whole (w.setRow g c') b t cs := (setRow_other w g b c' hne).trans h

/-- A piece of code that ends as it should. -/
theorem wpIn_normal {F : Fence} {n : Nat} {P : Program} {k : Code} {Q : Exit → Act → World → Prop} {a : Act} {w : World} (h : k.wpIn F n P (fun e a w => e = .normal ∧ Q .normal a w) a w) : k.wpIn F n P Q a w :=
  wpIn_mono h (by rintro e a w ⟨rfl, h⟩; exact h)

/-- What comes of telling a group by a row. -/
def OfOk (l : List Int) (y : Cf) (base : Nat) (w : World) : Prop :=
  (isRow l = true → y = ofRow l y.A y.n y.c ∧ w.ownsRow base 3 1 (.slice y.A y.n y.c) y.n (iv y.ms)) ∧ (isRow l = false → y = cf0)
def OfIs (l : List Int) (w : World) (e : Ending) (w' : World) : Prop :=
  ∃ y : Cf, e = .returned (.tuple #[y.v, .int .i64 (er (isRow l))]) ∧ OfOk l y w.heap.size w' ∧ Below w.heap.size w w'

/-- What holds between two rounds. -/
structure OfAt (l : List Int) (A : Option Addr) (n c : Nat) (w : World) (pre : List Nat) (W : World) : Prop where
  lbox : Whole W w.heap.size 22 #[.slice A n c]
  res : Whole W (w.heap.size + 1) 24 cf0.cells
  row : Whole W (w.heap.size + 1 + 1) 24 (ofTo l pre.length)
  below : Below w.heap.size w W
theorem ofAt_own (l : List Int) (A : Option Addr) (n c : Nat) (w : World) (B : Nat) (hB : w.heap.size ≤ B) : OwnFrom B (OfAt l A n c w) := by
  intro pre W1 W2 row h hg hr
  have hr' : ∀ r, row = some r → ∃ o : Obj, W1.heap[r]? = some o ∧ o.isCells = false := fun r e => (hr r e).2
  exact ⟨h.lbox.turn hg hr', h.res.turn hg hr', h.row.turn hg hr', h.below.grown hg h.below.size (fun k e => by have := (hr k e).1; omega)⟩
/-- Where the run stands at the label. -/
def OfTail (l : List Int) (w : World) (a' : Act) (W : World) : Prop :=
  ∃ (u0 u1 u3 u4 u5 u6 u7 u8 u9 u10 u11 u12 u13 u14 u15 u16 u17 u18 u19 u20 u21 u22 u23 u24 u25 u26 u27 u28 u29 u30 u31 u32 u33 u34 : Value), a' = { tmps := #[u0, u1, .pointer (some ⟨w.heap.size + 1, 0, none⟩), u3, u4, u5, u6, u7, u8, u9, u10, u11, u12, u13, u14, u15, u16, u17, u18, u19, u20, u21, u22, u23, u24, u25, u26, u27, u28, u29, u30, u31, u32, u33, u34], defers := [] } ∧ Whole W (w.heap.size + 1) 24 cf0.cells ∧ isRow l = false ∧ Below w.heap.size w W

set_option maxHeartbeats 4000000 in
theorem of_any (A : Option Addr) (n c : Nat) (l : List Int) (B : Nat) (w : World) (hr : Rd w B A n (iv l)) (hB : B ≤ w.heap.size) (hc : n ≤ c) (hm : c ≤ maxLen) (hn : n ≤ 1000) (hT : Tab w) : Calls Tryz.prog 117 #[.slice A n c] w (OfIs l w) := by
  have hl : l.length = n := by have := hr.1; rwa [iv_length] at this
  have HR := Lib.hid (hr.more hB)
  have HT := Lib.hid hT
  have HM := Lib.hid hm
  have HLn := Lib.hid hl
  have HSh := Lib.hid (fun W (h : Below w.heap.size w W) => shaped_any A n c l w.heap.size W ((hr.more hB).below h))
  clear hr hB hT hl hm
  refine (callsIn_wide (n := 6)).1 ?_
  refine callsIn_of_wp_marks Tryz.func117 rfl trivial ?_ rfl
  simp only [Tryz.ntmps117, List.size_toArray, List.length_cons, List.length_nil, Nat.reduceAdd, Nat.reduceSub, Array.replicate_succ, Array.replicate_zero, List.push_toArray, List.append_toArray, List.nil_append, List.cons_append]
  gi_wp2_with fail
  refine wpIn_wide.2 (wp_scope_fwd 0 (OfTail l w) rfl (wpIn_wide (n := 6).1 ?first) (fun a' w' hJ => wpIn_wide (n := 6).1 ?tail))
  case tail =>
    obtain ⟨u0, u1, u3, u4, u5, u6, u7, u8, u9, u10, u11, u12, u13, u14, u15, u16, u17, u18, u19, u20, u21, u22, u23, u24, u25, u26, u27, u28, u29, u30, u31, u32, u33, u34, rfl, hw, hno, hb⟩ := hJ
    have HW := Lib.hid hw
    have HNo := Lib.hid hno
    have HB := Lib.hid hb
    have HA1 : Hid (cf0.cells.all (·.oneCell') = true) := Lib.hid (by simp [cf0, Value.oneCell'])
    clear hw hno hb
    gi_wp2_with (refine wpListIn_store_row rfl 24 _ _ rfl (w.heap.size + 1) cf0.cells (by rfl) (by rfl) 24 _ HW.out (by kernel_rfl) rfl HA1.out ?_)
    have h4 : Whole (w'.setRow (w.heap.size + 1) cf0.cells) (w.heap.size + 1) 24 cf0.cells := setRow_heap w' _ _ _ _ _ HW.out
    have hb4 : Below w.heap.size w (w'.setRow (w.heap.size + 1) cf0.cells) := below_rowset HB.out (Nat.le_succ _) _
    generalize w'.setRow (w.heap.size + 1) cf0.cells = W1 at h4 hb4 ⊢
    obtain ⟨p0, p1, p2, p3, p4, p5, p6, p7, p8, p9, p10, p11, p12, p13, p14⟩ := h4.conf
    simp only [Exit.jump]
    refine ⟨.tuple #[cf0.v, .int .i64 70], by simp [results, Tryz.results117, go_sem, p0, p1, p2, p3, p4, p5, p6, p7, p8, p9, p10, p11, p12, p13, p14, cf0], cf0, by rw [HNo.out]; rfl, ⟨fun h => (by rw [HNo.out] at h; cases h), fun _ => rfl⟩, hb4⟩
  case first =>
    obtain ⟨W1, hW1⟩ : ∃ W1, ((w.alloc (.cells #[.slice A n c] 22)).alloc (.cells #[.int .i64 0, .int .i64 0, .int .i64 0, .int .i64 0, .int .i64 0, .int .i64 0, .int .i64 0, .int .i64 0, .int .i64 0, .int .i64 0, .int .i64 0, .int .i64 0, .int .i64 0, .bool false, .slice none 0 0] 24)).alloc (.cells #[.int .i64 0, .int .i64 0, .int .i64 0, .int .i64 0, .int .i64 0, .int .i64 0, .int .i64 0, .int .i64 0, .int .i64 0, .int .i64 0, .int .i64 0, .int .i64 0, .int .i64 0, .bool false, .slice none 0 0] 24) = W1 := ⟨_, rfl⟩
    have HX : Hid (Whole W1 w.heap.size 22 #[.slice A n c]) := Lib.hid (by rw [← hW1]; exact ((Whole.new w _ _).alloc _).alloc _)
    have HY : Hid (Whole W1 (w.heap.size + 1) 24 cf0.cells) := Lib.hid (by
      rw [← hW1]
      have := (Whole.new (w.alloc (.cells #[.slice A n c] 22)) 24 cf0.cells).alloc (.cells cf0.cells 24)
      rwa [World.size_alloc] at this)
    have HZ : Hid (Whole W1 (w.heap.size + 1 + 1) 24 cf0.cells) := Lib.hid (by
      rw [← hW1]
      have := Whole.new ((w.alloc (.cells #[.slice A n c] 22)).alloc (.cells cf0.cells 24)) 24 cf0.cells
      rwa [World.size_alloc, World.size_alloc] at this)
    have HB0 : Hid (Below w.heap.size w W1) := Lib.hid (by rw [← hW1]; exact (((Below.refl _ w).alloc (Nat.le_refl _) _).alloc (by simp) _).alloc (by simp; omega) _)
    have hsz3 : W1.heap.size = w.heap.size + 1 + 1 + 1 := by rw [← hW1]; simp
    have hSh := HSh.out _ HB0.out
    have lb := HX.out.cell 0
    simp only [List.getElem?_toArray, List.getElem?_cons_zero] at lb
    by_cases hs : shapeB l = true
    · rw [hs] at hSh
      have hs2 := hs
      unfold shapeB at hs2
      simp only [Bool.and_eq_true, decide_eq_true_eq] at hs2
      have hl14 : 14 ≤ l.length := hs2.1
      have hn14 : 14 ≤ n := by rw [← HLn.out]; exact hl14
      have HS := Lib.hid hs
      have HCall := Lib.hid hSh
      clear hs hs2 hSh
      gi_wp2_with fail
      clear hW1
      refine ⟨trivial, (callsIn_wide.2 HCall.out).mono ?_⟩
      rintro e wq ⟨rfl, rfl⟩
      clear HCall
      gi_wp2_with (first | (refine ⟨trivial, ?_⟩; gi_at_call 116; refine (callsIn_wide.2 (fields_any _ _)).mono ?_; rintro e w2 ⟨rfl, rfl⟩))
      obtain ⟨b, off, rfl, hbl, _⟩ := at_of HR.out (show 13 < n by omega)
      obtain ⟨W0, hW0⟩ : ∃ W0, wq.alloc (.cells #[.pointer (some ⟨w.heap.size + 1 + 1, 0, none⟩)] 103) = W0 := ⟨_, rfl⟩
      have hs0 : W0.heap.size = w.heap.size + 1 + 1 + 1 + 1 := by rw [← hW0]; simp [hsz3]
      have hinv : OfAt l (some ⟨b, off, none⟩) n c w [] W0 := by
        refine ⟨?_, ?_, ?_, ?_⟩
        · rw [← hW0]; exact HX.out.alloc _
        · rw [← hW0]; exact HY.out.alloc _
        · rw [← hW0]; exact HZ.out.alloc _
        · rw [← hW0]; exact HB0.out.alloc HB0.out.size _
      have hbn : W0.cell? ⟨w.heap.size + 1 + 1 + 1, 0, none⟩ = some (.pointer (some ⟨w.heap.size + 1 + 1, 0, none⟩)) := by
        rw [← hW0, ← hsz3]
        exact (Whole.new wq 103 #[.pointer (some ⟨w.heap.size + 1 + 1, 0, none⟩)]).cell 0
      rw [hW0]
      clear hW0 lb
      refine wpIn_range_mem (by omega) (gf := 124) (lb := #[.pointer (some ⟨w.heap.size + 1 + 1 + 1, 0, none⟩)]) rfl (enters_of Tryz.func124 (by kernel_rfl) rfl) (encs := fun k : Nat => #[Value.int .i64 (k : Int), Value.pointer (some ⟨w.heap.size + 1 + 1, k, none⟩)])
        (fields_mem 5 (w.heap.size + 1 + 1 + 1) (w.heap.size + 1 + 1) W0 (by omega) hbn)
        (fun h k => kpP_t h k) (fun W l o o' _ h h1 _ => kpP_b W l o o' h h1) (Below.refl _ _) (fun _ => rfl)
        (OfAt l (some ⟨b, off, none⟩) n c w) (fun _ _ => False)
        (ofAt_own _ _ _ _ _ _ (by omega)) (fun c W W' row h hg hr => h) hinv
        (fun pre k a' W => (k = pre.length ∧ k < 13) ∧ a' = { tmps := #[.slice (some ⟨b, off, none⟩) n c, .pointer (some ⟨w.heap.size, 0, none⟩), .pointer (some ⟨w.heap.size + 1, 0, none⟩), .int .i64 0, .pointer (some ⟨w.heap.size + 1 + 1, 0, none⟩), .int .i64 (k : Int), .pointer (some ⟨w.heap.size + 1 + 1, k, none⟩), .slice (some ⟨b, off, none⟩) n c, .bool true, .bool false, .func (.func 124) #[] #[.pointer (some ⟨w.heap.size + 1 + 1 + 1, 0, none⟩)], .int .i64 (k : Int), .pointer (some ⟨w.heap.size + 1 + 1, k, none⟩), undef, undef, undef, undef, undef, undef, undef, undef, undef, undef, undef, undef, undef, undef, undef, undef, undef, undef, undef, undef, undef, undef], defers := [] })
        (fun a' p X Y row hs hg hr => hs) ?assign ?body ?done ?stop
      case assign =>
        intro l' pre k W K hI hOk hK
        have HOk := Lib.hid hOk
        clear hOk
        gi_wp2
        exact hK _ _ (KeepsFrom.refl _ _) kpP_refl hI ⟨HOk.out, rfl⟩
      case body =>
        rintro l' pre k a' W hl' hI ⟨⟨hk, hk13⟩, rfl⟩
        have hrow := hI.row
        rw [← hk] at hrow
        have c1 := (hrow.cell k).trans (ofTo_cell hk13 hl14)
        have f1 := hrow.frozen k
        have lb := hI.lbox.cell 0
        simp only [List.getElem?_toArray, List.getElem?_cons_zero] at lb
        obtain ⟨b', off', hA, _, c0⟩ := at_of (HR.out.below hI.below) (show k < n by omega)
        injection hA with hA
        injection hA with hA1 hA2
        subst hA1
        subst hA2
        have hst := ofTo_step hk13 hl14
        obtain ⟨z, hz⟩ : ∃ z, l.getD k 0 = z := ⟨_, rfl⟩
        rw [hz] at c0 hst
        have hki : (k : Int) < (n : Int) := by omega
        have HI := Lib.hid hI
        have HK := Lib.hid hk
        have HRow := Lib.hid hrow
        have HSt := Lib.hid hst
        clear hI hk hrow hst hz
        gi_wp2_with fail
        have hr2 := HRow.out.set k (.int .i64 z)
        rw [HSt.out] at hr2
        refine ⟨(KeepsOthers.setCell _ _ _).from _, kpP_set HRow.out (by decide) _, HI.out.lbox.far (p := ⟨w.heap.size + 1 + 1, k, none⟩) (by simp only; omega) _, HI.out.res.far (p := ⟨w.heap.size + 1 + 1, k, none⟩) (by simp) _, ?_, HI.out.below.setCell (p := ⟨w.heap.size + 1 + 1, k, none⟩) (by simp only; omega) _⟩
        rw [List.length_append, List.length_singleton, ← HK.out]
        exact hr2
      case done =>
        rintro D ys W hD hys hI hK
        have hDw : w.heap.size ≤ D := by omega
        have hrow := hI.row
        rw [hys] at hrow
        obtain ⟨b', off', hA, _, e0⟩ := at_of (HR.out.below hI.below) (show 13 < n by omega)
        injection hA with hA
        injection hA with hA1 hA2
        subst hA1
        subst hA2
        obtain ⟨A2, hA1, hA2⟩ := run_restI (some ⟨b, off, none⟩) n c 14 hn14
        obtain ⟨ha0, ha1, ha2⟩ := ofTo_all hl14 A2 (n - 14) (c - 14)
        obtain ⟨z, hz⟩ : ∃ z, l.getD 13 0 = z := ⟨_, rfl⟩
        rw [hz] at e0 ha0
        obtain ⟨y, hy⟩ : ∃ y, ofRow l A2 (n - 14) (c - 14) = y := ⟨_, rfl⟩
        rw [hy] at ha0
        have lb := hI.lbox.cell 0
        simp only [List.getElem?_toArray, List.getElem?_cons_zero] at lb
        have c13 := (hrow.cell 13).trans ha1
        have f13 := hrow.frozen 13
        have hw1 := hrow.set 13 (.bool (z == 1))
        have c14 : (W.setCell ⟨w.heap.size + 1 + 1, 13, none⟩ (.bool (z == 1))).cell? ⟨w.heap.size + 1 + 1, 14, none⟩ = some (.slice none 0 0) := by
          rw [World.cell?_setCell_other W ⟨w.heap.size + 1 + 1, 13, none⟩ ⟨w.heap.size + 1 + 1, 14, none⟩ (.bool (z == 1)) (by intro e; injection e with _ e; cases e)]
          exact (hrow.cell 14).trans ha2
        have f14 := hw1.frozen 14
        have hw2 := hw1.set 14 (.slice A2 (n - 14) (c - 14))
        rw [ha0] at hw2
        have hR2 : Rd w w.heap.size A2 (n - 14) (iv (l.drop 14)) := by
          have := HR.out.cut hn14 A2 (fun h => hA2 ⟨h, hc⟩)
          rwa [iv, ← List.map_drop] at this
        have hbW1 : Below w.heap.size w (W.setCell ⟨w.heap.size + 1 + 1, 13, none⟩ (.bool (z == 1))) := hI.below.setCell (p := ⟨w.heap.size + 1 + 1, 13, none⟩) (by simp only; omega) _
        have hbW2 : Below w.heap.size w ((W.setCell ⟨w.heap.size + 1 + 1, 13, none⟩ (.bool (z == 1))).setCell ⟨w.heap.size + 1 + 1, 14, none⟩ (.slice A2 (n - 14) (c - 14))) := hbW1.setCell (p := ⟨w.heap.size + 1 + 1, 14, none⟩) (by simp only; omega) _
        have hres2 : Whole ((W.setCell ⟨w.heap.size + 1 + 1, 13, none⟩ (.bool (z == 1))).setCell ⟨w.heap.size + 1 + 1, 14, none⟩ (.slice A2 (n - 14) (c - 14))) (w.heap.size + 1) 24 cf0.cells := (hI.res.far (p := ⟨w.heap.size + 1 + 1, 13, none⟩) (by simp) _).far (p := ⟨w.heap.size + 1 + 1, 14, none⟩) (by simp) _
        have hK2 : ((W.setCell ⟨w.heap.size + 1 + 1, 13, none⟩ (.bool (z == 1))).setCell ⟨w.heap.size + 1 + 1, 14, none⟩ (.slice A2 (n - 14) (c - 14))).heap[D]? = some (.deferred (some [])) := ((KeepsOthers.setCell W ⟨w.heap.size + 1 + 1, 13, none⟩ (.bool (z == 1))).trans (KeepsOthers.setCell _ ⟨w.heap.size + 1 + 1, 14, none⟩ (.slice A2 (n - 14) (c - 14)))).same D _ hK rfl
        have hLy : Lies y w w.heap.size := by
          rw [← hy]
          exact ⟨hR2, by show n - 14 ≤ c - 14; omega, by show c - 14 ≤ maxLen; have := HM.out; omega⟩
        have hIs : isRow l = may y := by unfold isRow; rw [HS.out, ← hy]; rfl
        have HC : Hid (W.drew.cell? ⟨w.heap.size, 0, none⟩ = some (.slice (some ⟨b, off, none⟩) n c) ∧ W.drew.cell? ⟨b, off + 13, none⟩ = some (.int .i64 z)) := Lib.hid ⟨lb, e0⟩
        have HL := Lib.hid (fun (W' : World) (h : W'.cell? ⟨w.heap.size, 0, none⟩ = some (.slice (some ⟨b, off, none⟩) n c) ∧ W'.cell? ⟨b, off + 13, none⟩ = some (.int .i64 z)) => h)
        have hA3 : ∀ W : World, (Instr.slice 22 (.slice (some ⟨b, off, none⟩) n c) (some (.int .i64 14)) none none).run Tryz.prog W = .ok (.slice A2 (n - 14) (c - 14)) W := hA1
        have h13i : (13 : Int) < (n : Int) := by omega
        have HW2 := Lib.hid hw2
        have HBW2 := Lib.hid hbW2
        have HRes := Lib.hid hres2
        have HK2 := Lib.hid hK2
        have HLy := Lib.hid hLy
        have HIs := Lib.hid hIs
        have HY2 := Lib.hid hy
        have H13 := Lib.hid c13
        have F13 := Lib.hid f13
        have H14 := Lib.hid c14
        have F14 := Lib.hid f14
        have HBl := Lib.hid hbl
        clear hw2 hbW2 hres2 hK2 hLy hIs hy hbW1 hR2 hw1 hrow ha0 ha1 ha2 hz hA1 hA2 lb e0 hI hK hys c13 f13 c14 f14 hbl hs0 hinv hbn hsz3 HX HY HZ HB0
        gi_wp2_with fail
        refine wpIn_normal (wpIn_wide.2 (wp_region_held_drew (S := fun W' : World => W'.cell? ⟨w.heap.size, 0, none⟩ = some (.slice (some ⟨b, off, none⟩) n c) ∧ W'.cell? ⟨b, off + 13, none⟩ = some (.int .i64 z)) (by kernel_rfl) HC.out (fun _ => ?_)))
        refine takeH (i := 0) (v := ?_) rfl (by kernel_rfl) (by kernel_rfl) (by kernel_rfl) (fun _ _ _ h => by first | exact h | exact h.elim | exact nomatch h.1) (by rfl) ?_ HC.out ?_
        rotate_left
        · intro W' hW; obtain ⟨c0, c1⟩ := HL.out W' hW; go_simp <;> with_reducible rfl
        simp only [Act.put, lA, lZ, lS]
        refine takeH (i := 1) (v := ?_) rfl (by kernel_rfl) (by kernel_rfl) (by kernel_rfl) (fun _ _ _ h => by first | exact h | exact h.elim | exact nomatch h.1) (by rfl) ?_ HC.out ?_
        rotate_left
        · intro W' hW; obtain ⟨c0, c1⟩ := HL.out W' hW; go_simp <;> with_reducible rfl
        simp only [Act.put, lA, lZ, lS]
        refine takeH (i := 2) (v := ?_) rfl (by kernel_rfl) (by kernel_rfl) (by kernel_rfl) (fun _ _ _ h => by first | exact h | exact h.elim | exact nomatch h.1) (by rfl) ?_ HC.out ?_
        rotate_left
        · intro W' hW; obtain ⟨c0, c1⟩ := HL.out W' hW; go_simp <;> with_reducible rfl
        simp only [Act.put, lA, lZ, lS]
        refine takeH (i := 3) (v := ?_) rfl (by kernel_rfl) (by kernel_rfl) (by kernel_rfl) (fun _ _ _ h => by first | exact h | exact h.elim | exact nomatch h.1) (by rfl) ?_ HC.out ?_
        rotate_left
        · intro W' hW; obtain ⟨c0, c1⟩ := HL.out W' hW; go_simp <;> with_reducible rfl
        simp only [Act.put, lA, lZ, lS]
        refine takeH (i := 4) (v := ?_) rfl (by kernel_rfl) (by kernel_rfl) (by kernel_rfl) (fun _ _ _ h => by first | exact h | exact h.elim | exact nomatch h.1) (by rfl) ?_ HC.out ?_
        rotate_left
        · intro W' hW; obtain ⟨c0, c1⟩ := HL.out W' hW; go_simp <;> with_reducible rfl
        simp only [Act.put, lA, lZ, lS]
        refine takeH (i := 5) (v := ?_) rfl (by kernel_rfl) (by kernel_rfl) (by kernel_rfl) (fun _ _ _ h => by first | exact h | exact h.elim | exact nomatch h.1) (by rfl) ?_ HC.out ?_
        rotate_left
        · intro W' hW; obtain ⟨c0, c1⟩ := HL.out W' hW; go_simp <;> with_reducible rfl
        simp only [Act.put, lA, lZ, lS]
        refine takeH (i := 6) (v := ?_) rfl (by kernel_rfl) (by kernel_rfl) (by kernel_rfl) (fun _ _ _ h => by first | exact h | exact h.elim | exact nomatch h.1) (by rfl) ?_ HC.out ?_
        rotate_left
        · intro W' hW; obtain ⟨c0, c1⟩ := HL.out W' hW; go_simp <;> with_reducible rfl
        simp only [Act.put, lA, lZ, lS]
        refine oneH (i := 7) rfl (by kernel_rfl) (by rfl) (fun K hK => ?_)
        have c13 : W.drew.cell? ⟨w.heap.size + 1 + 1, 13, none⟩ = some (.bool false) := H13.out
        have f13 : W.drew.frozen? ⟨w.heap.size + 1 + 1, 13, none⟩ = false := F13.out
        go_simp
        have HS1 : Hid ((W.setCell ⟨w.heap.size + 1 + 1, 13, none⟩ (.bool (z == 1))).drew.cell? ⟨w.heap.size, 0, none⟩ = some (.slice (some ⟨b, off, none⟩) n c) ∧ (W.setCell ⟨w.heap.size + 1 + 1, 13, none⟩ (.bool (z == 1))).drew.cell? ⟨b, off + 13, none⟩ = some (.int .i64 z)) :=
          Lib.hid ⟨(World.cell?_setCell_other W.drew ⟨w.heap.size + 1 + 1, 13, none⟩ ⟨w.heap.size, 0, none⟩ _ (by intro e; injection e; omega)).trans HC.out.1, (World.cell?_setCell_other W.drew ⟨w.heap.size + 1 + 1, 13, none⟩ ⟨b, off + 13, none⟩ _ (by have := HBl.out; intro e; injection e; omega)).trans HC.out.2⟩
        refine hK.out _ _ HS1.out (fun _ => ?_)
        clear hK K c13 f13 HC
        have HC := HS1
        refine takeH (i := 8) (v := ?_) rfl (by kernel_rfl) (by kernel_rfl) (by kernel_rfl) (fun _ _ _ h => by first | exact h | exact h.elim | exact nomatch h.1) (by rfl) ?_ HC.out ?_
        rotate_left
        · intro W' hW; obtain ⟨c0, c1⟩ := HL.out W' hW; go_simp <;> with_reducible rfl
        simp only [Act.put, lA, lZ, lS]
        refine oneH (i := 9) rfl (by kernel_rfl) (by rfl) (fun K hK => ?_)
        have c14 : (W.setCell ⟨w.heap.size + 1 + 1, 13, none⟩ (.bool (z == 1))).drew.cell? ⟨w.heap.size + 1 + 1, 14, none⟩ = some (.slice none 0 0) := H14.out
        have f14 : (W.setCell ⟨w.heap.size + 1 + 1, 13, none⟩ (.bool (z == 1))).drew.frozen? ⟨w.heap.size + 1 + 1, 14, none⟩ = false := F14.out
        go_simp
        have HS2 : Hid (((W.setCell ⟨w.heap.size + 1 + 1, 13, none⟩ (.bool (z == 1))).setCell ⟨w.heap.size + 1 + 1, 14, none⟩ (.slice A2 (n - 14) (c - 14))).drew.cell? ⟨w.heap.size, 0, none⟩ = some (.slice (some ⟨b, off, none⟩) n c) ∧ ((W.setCell ⟨w.heap.size + 1 + 1, 13, none⟩ (.bool (z == 1))).setCell ⟨w.heap.size + 1 + 1, 14, none⟩ (.slice A2 (n - 14) (c - 14))).drew.cell? ⟨b, off + 13, none⟩ = some (.int .i64 z)) :=
          Lib.hid ⟨(World.cell?_setCell_other (W.setCell ⟨w.heap.size + 1 + 1, 13, none⟩ (.bool (z == 1))).drew ⟨w.heap.size + 1 + 1, 14, none⟩ ⟨w.heap.size, 0, none⟩ _ (by intro e; injection e; omega)).trans HC.out.1, (World.cell?_setCell_other (W.setCell ⟨w.heap.size + 1 + 1, 13, none⟩ (.bool (z == 1))).drew ⟨w.heap.size + 1 + 1, 14, none⟩ ⟨b, off + 13, none⟩ _ (by have := HBl.out; intro e; injection e; omega)).trans HC.out.2⟩
        refine hK.out _ _ HS2.out (fun _ => ?_)
        clear hK K c14 f14 HC HS1 HS2 HL H13 F13 H14 F14
        refine wpAnyH_done (by kernel_rfl) ?_ _
        refine ⟨rfl, ?_⟩
        obtain ⟨W3, hW3⟩ : ∃ W3, ((W.setCell ⟨w.heap.size + 1 + 1, 13, none⟩ (.bool (z == 1))).setCell ⟨w.heap.size + 1 + 1, 14, none⟩ (.slice A2 (n - 14) (c - 14))).drew = W3 := ⟨_, rfl⟩
        have HW3 : Hid (Whole W3 (w.heap.size + 1 + 1) 24 y.cells) := Lib.hid (by rw [← hW3]; exact HW2.out)
        have HR3 : Hid (Whole W3 (w.heap.size + 1) 24 cf0.cells) := Lib.hid (by rw [← hW3]; exact HRes.out)
        have HB3 : Hid (Below w.heap.size w W3) := Lib.hid (by rw [← hW3]; exact HBW2.out.drew)
        have HK3 : Hid (W3.heap[D]? = some (.deferred (some []))) := Lib.hid (by rw [← hW3]; exact HK2.out)
        rw [hW3]
        clear hW3 HW2 HRes HBW2 HK2 hA3
        have HRt := Lib.hid (confRight_any y w.heap.size W3 (HLy.out.below HB3.out) HB3.out.size (HT.out.under HB3.out))
        have HLy3 := Lib.hid (HLy.out.below HB3.out)
        have hyn : y.n = n - 14 := by rw [← HY2.out]; rfl
        have hyn2 : y.n ≤ 1000 := by omega
        clear hyn
        obtain ⟨d0, d1, d2, d3, d4, d5, d6, d7, d8, d9, d10, d11, d12, d13, d14⟩ := HW3.out.conf
        have HA1 : Hid (cf0.cells.all (·.oneCell') = true) := Lib.hid (by simp [cf0, Value.oneCell'])
        by_cases hm : may y = true
        · rw [hm] at HRt
          have HMy := Lib.hid (HIs.out.trans hm)
          clear hm
          gi_wp2_with fail
          refine ⟨trivial, (callsIn_wide.2 HRt.out).mono ?_⟩
          rintro e w4 ⟨rfl, b4⟩
          clear HRt d0 d1 d2 d3 d4 d5 d6 d7 d8 d9 d10 d11 d12 d13 d14
          have HW4 := Lib.hid (HW3.out.under b4)
          have HR4 := Lib.hid (HR3.out.under b4)
          have HB4 := Lib.hid (HB3.out.trans (b4.mono HB3.out.size))
          have HK4 : Hid (w4.heap[D]? = some (.deferred (some []))) := Lib.hid ((b4.block D (Array.getElem?_eq_some_iff.1 HK3.out).1).trans HK3.out)
          obtain ⟨v5, W5, hrun, o5, g5⟩ := run_appI w4 w.heap.size (.slice none 0 0) 0 [] (World.ownsRow_nil _ _ _ _) w.heap.size y.A y.n y.c y.ms (HLy3.out.on HB3.out.size b4).rd (by omega) HB4.out.size
          obtain ⟨A5, c5, rfl⟩ := own_form o5
          rw [Nat.zero_add, List.nil_append] at o5
          rw [Nat.zero_add] at hrun
          have hnb : ∀ k : Nat, some k ≠ (Value.slice none 0 0).ownBlock := fun k => by simp [Value.ownBlock]
          have hw5 := HW4.out.grown g5 (hnb _)
          have hr5 := HR4.out.grown g5 (hnb _)
          have hb5 : Below w.heap.size w W5 := HB4.out.grown g5 HB4.out.size (fun k e => absurd e.symm (hnb k))
          have hk5 : W5.heap[D]? = some (.deferred (some [])) := (g5.block D (Array.getElem?_eq_some_iff.1 HK4.out).1 (hnb _)).trans HK4.out
          obtain ⟨y2, hy2⟩ : ∃ y2 : Cf, { y with A := A5, c := c5 } = y2 := ⟨_, rfl⟩
          have hw6 : Whole (W5.setCell ⟨w.heap.size + 1 + 1, 14, none⟩ (.slice A5 y.n c5)) (w.heap.size + 1 + 1) 24 y2.cells := by rw [← hy2]; exact hw5.set 14 (.slice A5 y.n c5)
          have hr6 : Whole (W5.setCell ⟨w.heap.size + 1 + 1, 14, none⟩ (.slice A5 y.n c5)) (w.heap.size + 1) 24 cf0.cells := hr5.far (p := ⟨w.heap.size + 1 + 1, 14, none⟩) (by simp) _
          have hb6 : Below w.heap.size w (W5.setCell ⟨w.heap.size + 1 + 1, 14, none⟩ (.slice A5 y.n c5)) := hb5.setCell (p := ⟨w.heap.size + 1 + 1, 14, none⟩) (by simp only; omega) _
          have hk6 : (W5.setCell ⟨w.heap.size + 1 + 1, 14, none⟩ (.slice A5 y.n c5)).heap[D]? = some (.deferred (some [])) := (KeepsOthers.setCell W5 ⟨w.heap.size + 1 + 1, 14, none⟩ (.slice A5 y.n c5)).same D _ hk5 rfl
          have ho6 := ownsRow_setCell_other (a := ⟨w.heap.size + 1 + 1, 14, none⟩) o5 (own_apart_of (by decide) o5 hw5) (.slice A5 y.n c5)
          have x14 := HW4.out.cell 14
          have q14 := hw5.cell 14
          have g14 := hw5.frozen 14
          simp only [List.getElem?_toArray, List.getElem?_cons_zero, List.getElem?_cons_succ] at x14 q14
          obtain ⟨e0, e1, e2, e3, e4, e5, e6, e7, e8, e9, e10, e11, e12, e13, e14⟩ := hw6.conf
          have HRun := Lib.hid hrun
          have HW6 := Lib.hid hw6
          have HR6 := Lib.hid hr6
          have HB6 := Lib.hid hb6
          have HK6 := Lib.hid hk6
          have HO6 := Lib.hid ho6
          have HYY := Lib.hid hy2
          have HA2 : Hid (y2.cells.all (·.oneCell') = true) := Lib.hid (by simp [Value.oneCell'])
          clear hrun hw6 hr6 hb6 hk6 ho6 hy2 hw5 hr5 hb5 hk5 o5 g5 hnb b4 HW4 HR4 HB4 HK4 HW3 HR3 HB3 HK3
          gi_wp2_with (first | (gi_at_builtin; refine wpListIn_app rfl _ _ _ rfl _ _ _ _ rfl rfl HRun.out ?_; clear HRun) | (refine wpListIn_store_row rfl 24 _ _ rfl (w.heap.size + 1) y2.cells (by rfl) (by rfl) 24 _ HR6.out (by kernel_rfl) rfl HA2.out ?_))
          simp only [Exit.jump]
          have h7 : Whole ((W5.setCell ⟨w.heap.size + 1 + 1, 14, none⟩ (.slice A5 y.n c5)).setRow (w.heap.size + 1) y2.cells) (w.heap.size + 1) 24 y2.cells := setRow_heap _ _ _ _ _ _ HR6.out
          have hb7 : Below w.heap.size w ((W5.setCell ⟨w.heap.size + 1 + 1, 14, none⟩ (.slice A5 y.n c5)).setRow (w.heap.size + 1) y2.cells) := below_rowset HB6.out (Nat.le_succ _) _
          have hk7 : ((W5.setCell ⟨w.heap.size + 1 + 1, 14, none⟩ (.slice A5 y.n c5)).setRow (w.heap.size + 1) y2.cells).heap[D]? = some (.deferred (some [])) := (setRow_other _ _ _ _ (by rintro rfl; have h1 := HK6.out; have h2 := HR6.out; unfold Whole at h2; rw [h2] at h1; cases h1)).trans HK6.out
          have ho7 := own_rowset HO6.out (own_apart_of (by decide) HO6.out HR6.out) y2.cells
          clear e0 e1 e2 e3 e4 e5 e6 e7 e8 e9 e10 e11 e12 e13 e14 x14 q14 g14
          generalize ((W5.setCell ⟨w.heap.size + 1 + 1, 14, none⟩ (.slice A5 y.n c5)).setRow (w.heap.size + 1) y2.cells) = W7 at h7 hb7 hk7 ho7 ⊢
          have hg' := grownBy_putObj' W7 D (.deferred none)
          have hr' : ∀ r, (some D) = some r → ∃ o : Obj, W7.heap[r]? = some o ∧ o.isCells = false := fun r e => by cases e; exact ⟨_, hk7, rfl⟩
          have h8 := h7.turn hg' hr'
          obtain ⟨p0, p1, p2, p3, p4, p5, p6, p7, p8, p9, p10, p11, p12, p13, p14⟩ := h8.conf
          refine ⟨by simp, .inl ⟨_, _, rfl, run_takeDeferred hk7, ?_⟩⟩
          refine ⟨.tuple #[y2.v, .int .i64 0], by simp [results, Tryz.results117, go_sem, p0, p1, p2, p3, p4, p5, p6, p7, p8, p9, p10, p11, p12, p13, p14], y2, by rw [HMy.out]; rfl, ⟨fun _ => ⟨by rw [← HYY.out, ← HY2.out]; rfl, ?_⟩, fun h => (by rw [HMy.out] at h; cases h)⟩, ?_⟩
          · rw [← HYY.out]
            exact ownsRow_putObj ho7 _ hk7 rfl
          · exact hb7.trans ((Below.refl _ _).grown hg' hb7.size (fun k e => by cases e; omega))
        · have hm' : may y = false := by simpa using hm
          rw [hm'] at HRt
          have HMy := Lib.hid (HIs.out.trans hm')
          clear hm hm'
          gi_wp2_with fail
          refine ⟨trivial, (callsIn_wide.2 HRt.out).mono ?_⟩
          rintro e w4 ⟨rfl, b4⟩
          clear HRt d0 d1 d2 d3 d4 d5 d6 d7 d8 d9 d10 d11 d12 d13 d14
          have HR4 := Lib.hid (HR3.out.under b4)
          have HB4 := Lib.hid (HB3.out.trans (b4.mono HB3.out.size))
          have HK4 : Hid (w4.heap[D]? = some (.deferred (some []))) := Lib.hid ((b4.block D (Array.getElem?_eq_some_iff.1 HK3.out).1).trans HK3.out)
          clear b4 HW3 HR3 HB3 HK3
          gi_wp2_with fail
          refine wpIn_wide.2 (wp_label ?_)
          gi_wp2_with (refine wpListIn_store_row rfl 24 _ _ rfl (w.heap.size + 1) cf0.cells (by rfl) (by rfl) 24 _ HR4.out (by kernel_rfl) rfl HA1.out ?_)
          simp only [Exit.jump]
          have h7 : Whole (w4.setRow (w.heap.size + 1) cf0.cells) (w.heap.size + 1) 24 cf0.cells := setRow_heap _ _ _ _ _ _ HR4.out
          have hb7 : Below w.heap.size w (w4.setRow (w.heap.size + 1) cf0.cells) := below_rowset HB4.out (Nat.le_succ _) _
          have hk7 : (w4.setRow (w.heap.size + 1) cf0.cells).heap[D]? = some (.deferred (some [])) := (setRow_other _ _ _ _ (by rintro rfl; have h1 := HK4.out; have h2 := HR4.out; unfold Whole at h2; rw [h2] at h1; cases h1)).trans HK4.out
          generalize w4.setRow (w.heap.size + 1) cf0.cells = W7 at h7 hb7 hk7 ⊢
          have hg' := grownBy_putObj' W7 D (.deferred none)
          have hr' : ∀ r, (some D) = some r → ∃ o : Obj, W7.heap[r]? = some o ∧ o.isCells = false := fun r e => by cases e; exact ⟨_, hk7, rfl⟩
          have h8 := h7.turn hg' hr'
          obtain ⟨p0, p1, p2, p3, p4, p5, p6, p7, p8, p9, p10, p11, p12, p13, p14⟩ := h8.conf
          refine ⟨by simp, .inl ⟨_, _, rfl, run_takeDeferred hk7, ?_⟩⟩
          refine ⟨.tuple #[cf0.v, .int .i64 70], by simp [results, Tryz.results117, go_sem, p0, p1, p2, p3, p4, p5, p6, p7, p8, p9, p10, p11, p12, p13, p14, cf0], cf0, by rw [HMy.out]; rfl, ⟨fun h => (by rw [HMy.out] at h; cases h), fun _ => rfl⟩, ?_⟩
          exact hb7.trans ((Below.refl _ _).grown hg' hb7.size (fun k e => by cases e; omega))
      case stop =>
        rintro D c W hD h hK
        exact h.elim
    · have hs' : shapeB l = false := by simpa using hs
      rw [hs'] at hSh
      have HNo : Hid (isRow l = false) := Lib.hid (by unfold isRow; rw [hs']; rfl)
      have HCall := Lib.hid hSh
      clear hs hs' hSh
      gi_wp2_with fail
      clear hW1
      refine ⟨trivial, (callsIn_wide.2 HCall.out).mono ?_⟩
      rintro e wq ⟨rfl, rfl⟩
      gi_wp2_with fail
      refine wpIn_goto ?_
      exact ⟨rfl, _, _, _, _, _, _, _, _, _, _, _, _, _, _, _, _, _, _, _, _, _, _, _, _, _, _, _, _, _, _, _, _, _, _, rfl, HY.out, HNo.out, HB0.out⟩

end Go.Proofs.YtdaimejlcfhfiaaGreatDoor

namespace Go.Proofs.YtdaimejlcfhfiaaGreatDoor
open Go.RowKit Go.Shelf

/-- A struct is laid over some cells of a block. -/
theorem wpList_store_at {P : Program} {ops : Array Oper} {rest : List Oper} {o : Oper} {a : Act} {w : World} {Q : Exit → Act → World → Prop} (hgd : o.guard = none) (ty : TypeId) (x y : Operand) (ho : o.op = .store ty x y)
    (g off : Nat) (cells : Array Value) (hx : a.eval x = .pointer (some ⟨g, off, none⟩)) (hy : a.eval y = .agg cells)
    (t : TypeId) (old : Array Value) (hg : w.heap[g]? = some (.cells old t (0, 0))) (hi : (P.info? ty).map (·.size) = some cells.size)
    (hfit : off + cells.size ≤ old.size) (h1 : cells.all (·.oneCell') = true)
    (h : wpList P ops Q rest (a.put o.dst undef) (w.setRow g (old.toList.take off ++ cells.toList ++ old.toList.drop (off + cells.size)).toArray)) : wpList P ops Q (o :: rest) a w :=
  wpList_plain hgd fun _ hK => by
    have hst := run_storeCells_at P g off t cells.toList 0 old w hg (by simpa using hfit) (fun v hv => (Array.all_eq_true_iff_forall_mem.1 h1) v (by simpa using hv))
    simp only [Nat.add_zero, Array.length_toList] at hst
    have hv : (storeVar ty ⟨g, off, none⟩ (.agg cells)).run P w = .ok () (w.setRow g (old.toList.take off ++ cells.toList ++ old.toList.drop (off + cells.size)).toArray) := by
      cases hq : P.info? ty with
      | none => simp [hq] at hi
      | some i =>
        have hs : cells.size = i.size := by simp [hq] at hi; omega
        rw [← hst]
        simp [storeVar, sizeOf, typeInfo, hq, Value.cells, hs]
    unfold Oper.wp execOp
    simp only [ho, hx, hy, Instr.storeAt, Instr.sureAddr, Sem.run_bind, Sem.run_pure, Result.andThen_ok, hv]
    exact hK _ _ h
theorem Stp.row {base g : Nat} {w : World} {t : TypeId} {cs : Array Value} (hw : Whole w g t cs) (ht : mutT t = true) (hg : base ≤ g) (c' : Array Value) (hsz : c'.size = cs.size) : Stp base w (w.setRow g c') := by
  refine ⟨below_rowsetB (Below.refl base w) hg c', fun j o ho hs => ?_, fun j cs1 hj => ?_⟩
  rotate_left
  · by_cases e : j = g
    · subst e
      have e1 : cs1 = cs ∧ t = 30 := by
        unfold Whole at hj hw
        rw [hw] at hj
        cases hj
        exact ⟨rfl, rfl⟩
      obtain ⟨rfl, rfl⟩ := e1
      exact ⟨c', setRow_heap w j _ c' _ _ hw, hsz⟩
    · exact ⟨cs1, (setRow_other w g j c' e).trans hj, rfl⟩
  by_cases e : j = g
  · subst e
    unfold Whole at hw
    rw [hw] at ho
    cases ho
    simp [stayO, ht] at hs
  · exact (setRow_other w g j c' e).trans ho
theorem er_ok (b : Bool) : (er b == 0) = b := by cases b <;> rfl

set_option maxHeartbeats 2000000 in
theorem isGroup_any (A : Option Addr) (n c : Nat) (l : List Int) (B : Nat) (w : World) (hr : Rd w B A n (iv l)) (hB : B ≤ w.heap.size) (hc : n ≤ c) (hm : c ≤ maxLen) (hn : n ≤ 1000) (hT : Tab w) :
    Calls Tryz.prog 73 #[.slice A n c] w (BoolPost (isRow l) w) := by
  have HO := Lib.hid (of_any A n c l B w hr hB hc hm hn hT)
  clear hr hB hc hm hn hT
  go_enter Tryz.func73, Tryz.ntmps73
  go_wp2_with fail
  refine HO.out.mono ?_
  rintro e w1 ⟨y, rfl, _, hb⟩
  obtain ⟨V, hV⟩ : ∃ V, w1.alloc (.cells y.cells 24) = V := ⟨_, rfl⟩
  have hbV : Below w.heap.size w V := by rw [← hV]; exact hb.alloc hb.size _
  have HB := Lib.hid hbV
  have he := er_ok (isRow l)
  clear hb hbV HO
  go_wp2_with fail
  go_ret
  exact ⟨rfl, HB.out⟩

theorem confB_yes {p : Br} {l : List Int} (h : isRow l = true) : confB p l = { p with cf := if p.set then { ofRow l none 0 0 with f12 := p.cf.f12 } else ofRow l none 0 0, set := true } := by
  unfold confB
  rw [if_pos h]

set_option maxHeartbeats 4000000 in
theorem regroup_any (p : Br) (a : Ad) (A : Option Addr) (n c : Nat) (l : List Int) (B base g : Nat) (w : World) (h : BrIn base g w p a) (hr : Rd w B A n (iv l)) (hB : B ≤ w.heap.size) (hc : n ≤ c) (hm : c ≤ maxLen) (hn : n ≤ 1000) (hT : Tab w) (hrow : isRow l = true) :
    Calls Tryz.prog 75 #[.pointer (some ⟨g, 0, none⟩), .slice A n c] w (StPost base g (confB p l) w) := by
  have hbase : base ≤ w.heap.size := Nat.le_trans h.ge (Nat.le_of_lt h.lt)
  have HO := Lib.hid (of_any A n c l B w hr hB hc hm hn hT)
  have H := Lib.hid h
  have HBase := Lib.hid hbase
  have HRow := Lib.hid hrow
  have HCf := Lib.hid (confB_yes (p := p) hrow)
  obtain ⟨c0, c1, c2, c3, c4, c5, c6, c7, c8, c9, c10, c11, c12, c13, c14, c15, c16, c17, c18, c19, c20, c21, c22, c23, c24, c25, c26⟩ := cells27 h.box
  clear h hr hB hc hm hn hT hbase hrow
  go_enter Tryz.func75, Tryz.ntmps75
  go_wp2_with fail
  refine HO.out.mono ?_
  rintro e w1 ⟨y, rfl, hok, hb⟩
  obtain ⟨hy, hown⟩ := hok.1 HRow.out
  have hyn : y.n = y.ms.length := by have := hown.1; rw [iv_length] at this; omega
  have HY := Lib.hid hy
  have H1 := Lib.hid (H.out.under hb)
  have HS1 := Lib.hid (Stp.of_below hb HBase.out)
  have HM := Lib.hid (own_weaker hown HBase.out)
  have HYn := Lib.hid hyn
  -- the brain's box with the group in it
  have hbox : Whole (w1.setRow g ((brC p a).toList.take 3 ++ y.cells.toList ++ (brC p a).toList.drop (3 + y.cells.size)).toArray) g 30 ((brC p a).toList.take 3 ++ y.cells.toList ++ (brC p a).toList.drop (3 + y.cells.size)).toArray := setRow_heap _ _ _ _ _ _ H1.out.box
  have hp1 : BrIn base g (w1.setRow g ((brC p a).toList.take 3 ++ y.cells.toList ++ (brC p a).toList.drop (3 + y.cells.size)).toArray) { p with cf := ofRow l none 0 0 } ⟨y.A, y.c, a.A, a.c, a.B, a.d⟩ := by
    have e1 : ((brC p a).toList.take 3 ++ y.cells.toList ++ (brC p a).toList.drop (3 + y.cells.size)).toArray = brC { p with cf := ofRow l none 0 0 } ⟨y.A, y.c, a.A, a.c, a.B, a.d⟩ := by
      have e2 : y.n = (l.drop 14).length := by rw [hyn, hy]; rfl
      rw [hy]
      simp only [ofRow, e2]
      rfl
    rw [e1] at hbox ⊢
    refine ⟨hbox, ⟨?_, own_rowsetB H1.out.own.its (own_apart_F (by decide) H1.out.own.its H1.out.box) _, own_rowsetB H1.out.own.kps (own_apart_F (by decide) H1.out.own.kps H1.out.box) _⟩, H1.out.ge⟩
    have h3 := own_rowsetB HM.out (own_apart_F (by decide) HM.out H1.out.box) (brC { p with cf := ofRow l none 0 0 } ⟨y.A, y.c, a.A, a.c, a.B, a.d⟩)
    have e2 : y.ms = l.drop 14 := by rw [hy]; rfl
    rw [hyn, e2] at h3
    exact h3
  obtain ⟨W2, hW2⟩ : ∃ W2, w1.setRow g ((brC p a).toList.take 3 ++ y.cells.toList ++ (brC p a).toList.drop (3 + y.cells.size)).toArray = W2 := ⟨_, rfl⟩
  have hs2 := HS1.out.trans (Stp.row H1.out.box (by decide) H1.out.ge ((brC p a).toList.take 3 ++ y.cells.toList ++ (brC p a).toList.drop (3 + y.cells.size)).toArray (by rfl))
  rw [hW2] at hp1 hs2
  have HP1 := Lib.hid hp1
  have HS2 := Lib.hid hs2
  have HW2 := Lib.hid hW2
  clear hy hown hyn hbox hp1 hs2 hW2 hok hb H c0 c1 c2 c3 c4 c5 c6 c7 c8 c9 c10 c11 c12 c13 c14 c15 c16 c17 c18 c19 c20 c21 c22 c23 c24 c25 c26
  go_upto_region 2 with (refine wpList_store_at (by rfl) 24 _ _ rfl g 3 y.cells (by rfl) (by rfl) 30 _ H1.out.box (by kernel_rfl) (by simp) (by simp [Value.oneCell']) ?_)
  rw [HW2.out]
  obtain ⟨c0, c1, c2, c3, c4, c5, c6, c7, c8, c9, c10, c11, c12, c13, c14, c15, c16, c17, c18, c19, c20, c21, c22, c23, c24, c25, c26⟩ := cells27 HP1.out.box
  have f2 := HP1.out.box.frozen 2
  have f15 := HP1.out.box.frozen 15
  clear HW2
  cases hs : p.set with
  | true =>
    have hp2 := HP1.out.set (p' := { p with cf := { ofRow l none 0 0 with f12 := p.cf.f12 } }) 15 (.int .i64 p.cf.f12) rfl rfl rfl rfl
    have s2 := HS2.out.trans (Stp.set HP1.out.box (by decide) HP1.out.ge 15 (.int .i64 p.cf.f12))
    have hp3 := hp2.set (p' := confB p l) 2 (.bool true) (by rw [HCf.out, hs]; rfl) (by rw [HCf.out, hs]; rfl) (by rw [HCf.out]) (by rw [HCf.out])
    have s3 := s2.trans (Stp.set hp2.box (by decide) hp2.ge 2 (.bool true))
    have HP3 := Lib.hid hp3
    have HS3 := Lib.hid s3
    have HSt := Lib.hid hs
    have q2 := (cells27 hp2.box).2.2.1
    have q2f := hp2.box.frozen 2
    rw [hs] at c2
    clear hp2 s2 hp3 s3 hs
    go_wp2_with fail
    go_end0
    exact ⟨rfl, HS3.out, _, HP3.out⟩
  | false =>
    have hp3 := HP1.out.set (p' := confB p l) 2 (.bool true) (by rw [HCf.out, hs]; rfl) (by rw [HCf.out, hs]; rfl) (by rw [HCf.out]) (by rw [HCf.out])
    have s3 := HS2.out.trans (Stp.set HP1.out.box (by decide) HP1.out.ge 2 (.bool true))
    have HP3 := Lib.hid hp3
    have HS3 := Lib.hid s3
    rw [hs] at c2
    clear hp3 s3 hs
    go_wp2_with fail
    go_end0
    exact ⟨rfl, HS3.out, _, HP3.out⟩

end Go.Proofs.YtdaimejlcfhfiaaGreatDoor
