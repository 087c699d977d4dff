/-
  The walks of 'All' and 'Do' of package event. Conditions: those that each theorem names.
-/
import Derived.Test.YtoiegffnmjlkdaaEvKinds
import Derived.Test.YtoiegffnmjlkdaaEvRow
import Derived.Test.YtoiegffnmjlkdaaCdSmall
import Derived.Test.YtoiegffnmjlkdaaScope2
namespace Go.Proofs.Ytoiegffnmjlkdaa
open Go.RowKit Go.Shelf
open Go.Maps (Keyed int_keyed keyOf_int_mk)

/-- A cloud told, its boxes in memory of its own. -/
def CwPost (x : Cw) (w : World) (e : Ending) (w' : World) : Prop :=
  ∃ A n c, e = .returned (.agg #[.slice A n c, .int .i64 x.fl, .int .i64 x.dr, .int .i64 x.nw, .bool x.tg]) ∧ w'.ownsRow w.heap.size 36 11 (.slice A n c) n (flat x.l) ∧ Below w.heap.size w w'

theorem HpMap.same {W W' : World} {b n : Nat} {D : DataW Value} (h : HpMap W b n D) (e : W'.heap[b]? = W.heap[b]?) : HpMap W' b n D := by
  obtain ⟨es, clock, h1, h2⟩ := h
  exact ⟨es, clock, e.trans h1, h2⟩

/-- What lies beside the cloud's box. -/
structure AlSt (w : World) (base b1 b2 : Nat) (W : World) : Prop where
  res : Whole W (w.heap.size + 1) 24 #[.slice none 0 0, .int .i64 0, .int .i64 0, .int .i64 0, .bool false]
  map : HpMap W (w.heap.size + 1 + 1) 6 (hpD b1 b2)
  fns : HpFns (w.heap.size + 1 + 1) b1 b2 W
  l1 : b1 < base
  l2 : b2 < base
  l3 : w.heap.size + 1 + 1 < base
section
variable {w W W' : World} {base b1 b2 : Nat}
theorem AlSt.but (h : AlSt w base b1 b2 W) (hb : BelowBut base w.heap.size W W') : AlSt w base b1 b2 W' :=
  have h3 := h.l3
  have h4 := h.fns.lo_
  ⟨(hb.block _ (by omega) (by omega)).trans h.res, h.map.same (hb.block _ h.l3 (by omega)), ⟨(hb.block _ h.l1 (by omega)).trans h.fns.f1, (hb.block _ h.l2 (by omega)).trans h.fns.f2, h4⟩, h.l1, h.l2, h.l3⟩
theorem neq_nil (w : World) : (binOp .neq 46 .nilFunc .nilFunc).run Try.prog w = .ok (.bool false) w := by kernel_rfl
theorem neq_fun (f : Nat) (lb : Array Value) (w : World) : (binOp .neq 46 (.func (.func f) #[] lb) .nilFunc).run Try.prog w = .ok (.bool true) w := by kernel_rfl
end

/-- Where the run stands at the first label: so many events have happened. -/
def LpAt (w : World) (x : Cw) (l : List Ev) (Al : Option Addr) (nl cl : Nat) (a' : Act) (w' : World) : Prop :=
  ∃ (k : Nat) (u0 u3 u5 u8 u9 u10 u11 u12 u13 u14 u15 u16 u17 u18 u19 u20 u21 u22 u23 u24 u25 u26 u27 u28 u29 u30 u31 u32 u33 u34 u35 : Value), a' = { tmps := #[u0, .slice Al nl cl, .pointer (some ⟨w.heap.size, 0, none⟩), u3, .pointer (some ⟨w.heap.size + 1, 0, none⟩), u5, .int .i64 (k : Int), .map (some (w.heap.size + 1 + 1)), u8, u9, u10, u11, u12, u13, u14, u15, u16, u17, u18, u19, u20, u21, u22, u23, u24, u25, u26, u27, u28, u29, u30, u31, u32, u33, u34, u35], defers := [] } ∧ k ≤ nl ∧ Below w.heap.size w w' ∧ ∃ base b1 b2 A n c, Clu w' base w.heap.size A n c (evsC x (l.take k)) ∧ AlSt w base b1 b2 w'
/-- Where it stands at the second one: all have. -/
def EvToldAt (w : World) (x' : Cw) (a' : Act) (w' : World) : Prop :=
  ∃ (u0 u1 u3 u5 u6 u7 u8 u9 u10 u11 u12 u13 u14 u15 u16 u17 u18 u19 u20 u21 u22 u23 u24 u25 u26 u27 u28 u29 u30 u31 u32 u33 u34 u35 : Value), a' = { tmps := #[u0, u1, .pointer (some ⟨w.heap.size, 0, none⟩), u3, .pointer (some ⟨w.heap.size + 1, 0, none⟩), u5, u6, u7, u8, u9, u10, u11, u12, u13, u14, u15, u16, u17, u18, u19, u20, u21, u22, u23, u24, u25, u26, u27, u28, u29, u30, u31, u32, u33, u34, u35], defers := [] } ∧ Below w.heap.size w w' ∧ ∃ base b1 b2 A n c, Clu w' base w.heap.size A n c x' ∧ AlSt w base b1 b2 w'

section
variable {n c B nl cl : Nat} {A Al : Option Addr} {x : Cw} {l : List Ev} {w : World}

/-- The first pieces of code: a cloud of its own in its box. -/
theorem all_start (hr : RdX w w.heap.size A n x.l) : ∃ V, (w.alloc (.cells #[.slice A n c, .int .i64 x.fl, .int .i64 x.dr, .int .i64 x.nw, .bool x.tg] 24)).alloc (.cells #[.slice none 0 0, .int .i64 0, .int .i64 0, .int .i64 0, .bool false] 24) = V ∧ Whole V w.heap.size 24 #[.slice A n c, .int .i64 x.fl, .int .i64 x.dr, .int .i64 x.nw, .bool x.tg] ∧ Whole V (w.heap.size + 1) 24 #[.slice none 0 0, .int .i64 0, .int .i64 0, .int .i64 0, .bool false] ∧ V.heap.size = w.heap.size + 1 + 1 ∧ Below w.heap.size w V ∧ RdX V w.heap.size A n x.l := by
  have hb : Below w.heap.size w ((w.alloc (.cells #[.slice A n c, .int .i64 x.fl, .int .i64 x.dr, .int .i64 x.nw, .bool x.tg] 24)).alloc (.cells #[.slice none 0 0, .int .i64 0, .int .i64 0, .int .i64 0, .bool false] 24)) := ((Below.refl _ w).alloc (Nat.le_refl _) _).alloc (by simp) _
  refine ⟨_, rfl, (Whole.new w _ _).alloc _, ?_, by simp, hb, hr.below hb⟩
  have := Whole.new (w.alloc (.cells #[.slice A n c, .int .i64 x.fl, .int .i64 x.dr, .int .i64 x.nw, .bool x.tg] 24)) 24 #[.slice none 0 0, .int .i64 0, .int .i64 0, .int .i64 0, .bool false]
  rwa [World.size_alloc] at this

/-- The cloud of its own stored in its box. -/
theorem all_own {V1 V2 : World} {b1 b2 : Nat} {A2 A0 : Option Addr} {n0 c0 n2 c2 : Nat} (hb : Below w.heap.size w V1) (hX : Whole V1 w.heap.size 24 #[.slice A0 n0 c0, .int .i64 x.fl, .int .i64 x.dr, .int .i64 x.nw, .bool x.tg]) (hres : Whole V1 (w.heap.size + 1) 24 #[.slice none 0 0, .int .i64 0, .int .i64 0, .int .i64 0, .bool false]) (hmap : HpMap V1 (w.heap.size + 1 + 1) 6 (hpD b1 b2)) (hF : HpFns (w.heap.size + 1 + 1) b1 b2 V1)
    (ho : V2.ownsRow V1.heap.size 36 11 (.slice A2 n2 c2) n2 (flat x.l)) (hb2 : Below V1.heap.size V1 V2) :
    ∃ Y, (((((V2.setCell ⟨w.heap.size, 0, none⟩ (.slice A2 n2 c2)).setCell ⟨w.heap.size, 1, none⟩ (.int .i64 x.fl)).setCell ⟨w.heap.size, 2, none⟩ (.int .i64 x.dr)).setCell ⟨w.heap.size, 3, none⟩ (.int .i64 x.nw)).setCell ⟨w.heap.size, 4, none⟩ (.bool x.tg)) = Y ∧ Clu Y V1.heap.size w.heap.size A2 n2 c2 x ∧ AlSt w V1.heap.size b1 b2 Y ∧ Below w.heap.size w Y := by
  have hX2 := hX.under hb2
  have hlt := hX.lt
  have hm := hmap.lt
  have hs : AlSt w V1.heap.size b1 b2 V2 := ⟨hres.under hb2, hmap.same (hb2.block _ hm), hF.under hb2, hF.f1.lt, hF.f2.lt, hm⟩
  have hbt := ((((((BelowBut.refl V1.heap.size w.heap.size V2).set 0 (.slice A2 n2 c2)).set 1 (.int .i64 x.fl)).set 2 (.int .i64 x.dr)).set 3 (.int .i64 x.nw)).set 4 (.bool x.tg))
  refine ⟨_, rfl, ⟨(put5 hX2 _ _ _ _ _).2, ?_, hlt, Nat.le_trans hb2.size hbt.size⟩, hs.but hbt, ?_⟩
  · exact own_set (b := w.heap.size) (own_set (b := w.heap.size) (own_set (b := w.heap.size) (own_set (b := w.heap.size) (own_set (b := w.heap.size) ho hlt _) hlt _) hlt _) hlt _) hlt _
  · exact (hb.trans (hb2.mono (Nat.le_of_lt hlt))).trans (hbt.below (Nat.le_of_lt hlt) (Nat.le_refl _))

/-- What is told is stored in the result's box. -/
theorem all_fin {x' : Cw} {W : World} {base b1 b2 : Nat} {A' : Option Addr} {n' c' : Nat} (hC : Clu W base w.heap.size A' n' c' x') (hS : AlSt w base b1 b2 W) (hb : Below w.heap.size w W) :
    ∃ Y, (((((W.setCell ⟨w.heap.size + 1, 0, none⟩ (.slice A' n' c')).setCell ⟨w.heap.size + 1, 1, none⟩ (.int .i64 x'.fl)).setCell ⟨w.heap.size + 1, 2, none⟩ (.int .i64 x'.dr)).setCell ⟨w.heap.size + 1, 3, none⟩ (.int .i64 x'.nw)).setCell ⟨w.heap.size + 1, 4, none⟩ (.bool x'.tg)) = Y ∧ Whole Y (w.heap.size + 1) 24 #[.slice A' n' c', .int .i64 x'.fl, .int .i64 x'.dr, .int .i64 x'.nw, .bool x'.tg] ∧ Y.ownsRow w.heap.size 36 11 (.slice A' n' c') n' (flat x'.l) ∧ Below w.heap.size w Y := by
  have hl : w.heap.size + 1 < base := by have := hS.l3; omega
  refine ⟨_, rfl, (put5 hS.res _ _ _ _ _).2, own_weaker (base' := base) ?_ (by omega), ?_⟩
  · exact own_set (b := w.heap.size + 1) (own_set (b := w.heap.size + 1) (own_set (b := w.heap.size + 1) (own_set (b := w.heap.size + 1) (own_set (b := w.heap.size + 1) hC.row hl _) hl _) hl _) hl _) hl _
  · exact ((((hb.setCell (p := ⟨w.heap.size + 1, 0, none⟩) (Nat.le_succ _) _).setCell (p := ⟨w.heap.size + 1, 1, none⟩) (Nat.le_succ _) _).setCell (p := ⟨w.heap.size + 1, 2, none⟩) (Nat.le_succ _) _).setCell (p := ⟨w.heap.size + 1, 3, none⟩) (Nat.le_succ _) _).setCell (p := ⟨w.heap.size + 1, 4, none⟩) (Nat.le_succ _) _

set_option maxRecDepth 100000 in
set_option maxHeartbeats 4000000 in
theorem all_out (hr : RdX w w.heap.size A n x.l) (hn : n ≤ 1000) (hR : right x = false) :
    Calls Try.prog 12 #[.agg #[.slice A n c, .int .i64 x.fl, .int .i64 x.dr, .int .i64 x.nw, .bool x.tg], .slice Al nl cl] w (CwPost x w) := by
  obtain ⟨V, hV, hX, hres, hsV, hbV, hrV⟩ := all_start (c := c) hr
  have HV := Lib.hid hV
  have HX := Lib.hid hX
  have HRes := Lib.hid hres
  have HSV := Lib.hid hsV
  have HBV := Lib.hid hbV
  have HRV := Lib.hid hrV
  clear hV hX hres hsV hbV hrV hr
  have HR := Lib.hid hR
  clear hR
  go_enter Try.func12, Try.ntmps12
  go_wp2_with fail
  rw [HV.out]
  refine wp_scope_fwd 0 (EvToldAt w x) rfl ?first ?tail
  case tail =>
    intro a' w' hJ
    obtain ⟨u0, u1, u3, u5, u6, u7, u8, u9, u10, u11, u12, u13, u14, u15, u16, u17, u18, u19, u20, u21, u22, u23, u24, u25, u26, u27, u28, u29, u30, u31, u32, u33, u34, u35, rfl, hb, base, b1, b2, A', n', c', hC, hS⟩ := hJ
    obtain ⟨d0, d1, d2, d3, d4⟩ := hC.cells
    have k0 := hS.res.cell 0
    have k1 := hS.res.cell 1
    have k2 := hS.res.cell 2
    have k3 := hS.res.cell 3
    have k4 := hS.res.cell 4
    simp only [List.getElem?_toArray, List.getElem?_cons_zero, List.getElem?_cons_succ] at k0 k1 k2 k3 k4
    have z0 := hS.res.frozen 0
    have z1 := hS.res.frozen 1
    have z2 := hS.res.frozen 2
    have z3 := hS.res.frozen 3
    have z4 := hS.res.frozen 4
    have HC := Lib.hid hC
    have HS := Lib.hid hS
    have HB := Lib.hid hb
    clear hC hS hb
    go_wp2_with fail
    obtain ⟨Y, hY, q1, q2, q3⟩ := all_fin HC.out HS.out HB.out
    rw [hY]
    have j0 := q1.cell 0
    have j1 := q1.cell 1
    have j2 := q1.cell 2
    have j3 := q1.cell 3
    have j4 := q1.cell 4
    simp only [List.getElem?_toArray, List.getElem?_cons_zero, List.getElem?_cons_succ] at j0 j1 j2 j3 j4
    refine bodyPost_ret (v := .agg #[.slice A' n' c', .int .i64 x.fl, .int .i64 x.dr, .int .i64 x.nw, .bool x.tg]) (by simp [results, Try.results12, go_sem, j0, j1, j2, j3, j4]) rfl ?_
    exact ⟨A', n', c', rfl, q2, q3⟩
  case first =>
    go_wp2_with fail
    refine (happenings_any V).mono ?_
    rintro e V1 ⟨rfl, b1, b2, hm, hF, hb1⟩
    rw [HSV.out] at hm hF
    have hX1 := HX.out.under hb1
    have hres1 := HRes.out.under hb1
    have HRV1 := Lib.hid (((HRV.out.below (hb1.mono HBV.out.size)).more (Nat.le_trans HBV.out.size hb1.size)))
    have HB1 := Lib.hid (HBV.out.trans (hb1.mono HBV.out.size))
    have HM := Lib.hid hm
    have HF := Lib.hid hF
    have HX1 := Lib.hid hX1
    have HRes1 := Lib.hid hres1
    have d0 := hX1.cell 0
    have d1 := hX1.cell 1
    have d2 := hX1.cell 2
    have d3 := hX1.cell 3
    have d4 := hX1.cell 4
    simp only [List.getElem?_toArray, List.getElem?_cons_zero, List.getElem?_cons_succ] at d0 d1 d2 d3 d4
    rw [HSV.out]
    clear hX1 hres1 hm hF hb1 HX HRes HRV HBV HSV
    go_wp2_with fail
    refine (own_anyX A n c x V1.heap.size V1 HRV1.out (Nat.le_refl _) hn).mono ?_
    rintro e V2 ⟨A2, c2, rfl, o2, bb2⟩
    unfold cwV
    have hX2 := HX1.out.under bb2
    have k0 := hX2.cell 0
    have k1 := hX2.cell 1
    have k2 := hX2.cell 2
    have k3 := hX2.cell 3
    have k4 := hX2.cell 4
    simp only [List.getElem?_toArray, List.getElem?_cons_zero, List.getElem?_cons_succ] at k0 k1 k2 k3 k4
    have z0 := hX2.frozen 0
    have z1 := hX2.frozen 1
    have z2 := hX2.frozen 2
    have z3 := hX2.frozen 3
    have z4 := hX2.frozen 4
    obtain ⟨Y, hY, hC, hS, hBY⟩ := all_own HB1.out HX1.out HRes1.out HM.out HF.out o2 bb2
    have HY := Lib.hid hY
    have HC := Lib.hid hC
    have HS := Lib.hid hS
    have HBY := Lib.hid hBY
    have HRy := Lib.hid (right_any A2 n c2 x Y.heap.size Y hC.rd (Nat.le_refl _))
    obtain ⟨e0, e1, e2, e3, e4⟩ := hC.cells
    clear HX1 HRes1 HM HF o2 bb2 hX2 hC hS hBY hY HRV1 HB1 d0 d1 d2 d3 d4
    go_wp2_with fail
    rw [HY.out]
    clear HY k0 k1 k2 k3 k4 z0 z1 z2 z3 z4
    rw [HR.out] at HRy
    go_wp2_with fail
    refine HRy.out.mono ?_
    rintro e V3 ⟨rfl, bb3⟩
    have HC3 := Lib.hid (HC.out.under bb3)
    have HS3 := Lib.hid (HS.out.but (Below.but (bb3.mono HC.out.le)))
    have HB3 := Lib.hid (HBY.out.trans (bb3.mono HBY.out.size))
    clear HC HS HBY bb3 e0 e1 e2 e3 e4 HRy
    go_wp2_with fail
    go_step3
    exact ⟨rfl, _, _, _, _, _, _, _, _, _, _, _, _, _, _, _, _, _, _, _, _, _, _, _, _, _, _, _, _, _, _, _, _, _, _, rfl, HB3.out, _, _, _, _, _, _, HC3.out, HS3.out⟩

set_option maxRecDepth 100000 in
set_option maxHeartbeats 4000000 in
theorem all_in (hr : RdX w w.heap.size A n x.l) (hn : n ≤ 1000) (hl : RdE w w.heap.size Al nl l) (hnl : nl ≤ 1000) (hR : right x = true) (hk : ∀ e ∈ l, (Lit.int .u8 e.kind).wf = true) :
    Calls Try.prog 12 #[.agg #[.slice A n c, .int .i64 x.fl, .int .i64 x.dr, .int .i64 x.nw, .bool x.tg], .slice Al nl cl] w (CwPost (evsC x l) w) := by
  obtain ⟨V, hV, hX, hres, hsV, hbV, hrV⟩ := all_start (c := c) hr
  have HV := Lib.hid hV
  have HX := Lib.hid hX
  have HRes := Lib.hid hres
  have HSV := Lib.hid hsV
  have HBV := Lib.hid hbV
  have HRV := Lib.hid hrV
  clear hV hX hres hsV hbV hrV hr
  have HR := Lib.hid hR
  have HLe := Lib.hid hl
  have HK := Lib.hid hk
  clear hR hl hk
  go_enter Try.func12, Try.ntmps12
  go_wp2_with fail
  rw [HV.out]
  refine wp_scope_back_fwd4 0 1 (EvToldAt w (evsC x l)) (LpAt w x l Al nl cl) (fun a' _ => nl - (intOf (a'.tmps.getD 6 undef)).toNat) rfl rfl rfl rfl rfl ?ahead (fun a' w' hJ => ?pass) (fun a' w' hJ => ?tail)
  case tail =>
    obtain ⟨u0, u1, u3, u5, u6, u7, u8, u9, u10, u11, u12, u13, u14, u15, u16, u17, u18, u19, u20, u21, u22, u23, u24, u25, u26, u27, u28, u29, u30, u31, u32, u33, u34, u35, rfl, hb, base, b1, b2, A', n', c', hC, hS⟩ := hJ
    obtain ⟨d0, d1, d2, d3, d4⟩ := hC.cells
    have k0 := hS.res.cell 0
    have k1 := hS.res.cell 1
    have k2 := hS.res.cell 2
    have k3 := hS.res.cell 3
    have k4 := hS.res.cell 4
    simp only [List.getElem?_toArray, List.getElem?_cons_zero, List.getElem?_cons_succ] at k0 k1 k2 k3 k4
    have z0 := hS.res.frozen 0
    have z1 := hS.res.frozen 1
    have z2 := hS.res.frozen 2
    have z3 := hS.res.frozen 3
    have z4 := hS.res.frozen 4
    have HC := Lib.hid hC
    have HS := Lib.hid hS
    have HB := Lib.hid hb
    clear hC hS hb
    go_wp2_with fail
    obtain ⟨Y, hY, q1, q2, q3⟩ := all_fin HC.out HS.out HB.out
    rw [hY]
    have j0 := q1.cell 0
    have j1 := q1.cell 1
    have j2 := q1.cell 2
    have j3 := q1.cell 3
    have j4 := q1.cell 4
    simp only [List.getElem?_toArray, List.getElem?_cons_zero, List.getElem?_cons_succ] at j0 j1 j2 j3 j4
    refine bodyPost_ret (v := .agg #[.slice A' n' c', .int .i64 (evsC x l).fl, .int .i64 (evsC x l).dr, .int .i64 (evsC x l).nw, .bool (evsC x l).tg]) (by simp [results, Try.results12, go_sem, j0, j1, j2, j3, j4]) rfl ?_
    exact ⟨A', n', c', rfl, q2, q3⟩
  case ahead =>
    go_wp2_with fail
    refine (happenings_any V).mono ?_
    rintro e V1 ⟨rfl, b1, b2, hm, hF, hb1⟩
    rw [HSV.out] at hm hF
    have hX1 := HX.out.under hb1
    have hres1 := HRes.out.under hb1
    have HRV1 := Lib.hid (((HRV.out.below (hb1.mono HBV.out.size)).more (Nat.le_trans HBV.out.size hb1.size)))
    have HB1 := Lib.hid (HBV.out.trans (hb1.mono HBV.out.size))
    have HM := Lib.hid hm
    have HF := Lib.hid hF
    have HX1 := Lib.hid hX1
    have HRes1 := Lib.hid hres1
    have d0 := hX1.cell 0
    have d1 := hX1.cell 1
    have d2 := hX1.cell 2
    have d3 := hX1.cell 3
    have d4 := hX1.cell 4
    simp only [List.getElem?_toArray, List.getElem?_cons_zero, List.getElem?_cons_succ] at d0 d1 d2 d3 d4
    rw [HSV.out]
    clear hX1 hres1 hm hF hb1 HX HRes HRV HBV HSV
    go_wp2_with fail
    go_wp2_with fail
    refine (own_anyX A n c x V1.heap.size V1 HRV1.out (Nat.le_refl _) hn).mono ?_
    rintro e V2 ⟨A2, c2, rfl, o2, bb2⟩
    unfold cwV
    have hX2 := HX1.out.under bb2
    have k0 := hX2.cell 0
    have k1 := hX2.cell 1
    have k2 := hX2.cell 2
    have k3 := hX2.cell 3
    have k4 := hX2.cell 4
    simp only [List.getElem?_toArray, List.getElem?_cons_zero, List.getElem?_cons_succ] at k0 k1 k2 k3 k4
    have z0 := hX2.frozen 0
    have z1 := hX2.frozen 1
    have z2 := hX2.frozen 2
    have z3 := hX2.frozen 3
    have z4 := hX2.frozen 4
    obtain ⟨Y, hY, hC, hS, hBY⟩ := all_own HB1.out HX1.out HRes1.out HM.out HF.out o2 bb2
    have HY := Lib.hid hY
    have HC := Lib.hid hC
    have HS := Lib.hid hS
    have HBY := Lib.hid hBY
    have HRy := Lib.hid (right_any A2 n c2 x Y.heap.size Y hC.rd (Nat.le_refl _))
    obtain ⟨e0, e1, e2, e3, e4⟩ := hC.cells
    clear HX1 HRes1 HM HF o2 bb2 hX2 hC hS hBY hY HRV1 HB1 d0 d1 d2 d3 d4
    go_wp2_with fail
    rw [HY.out]
    clear HY k0 k1 k2 k3 k4 z0 z1 z2 z3 z4
    rw [HR.out] at HRy
    go_wp2_with fail
    go_wp2_with fail
    refine HRy.out.mono ?_
    rintro e V3 ⟨rfl, bb3⟩
    have HC3 := Lib.hid (HC.out.under bb3)
    have HS3 := Lib.hid (HS.out.but (Below.but (bb3.mono HC.out.le)))
    have HB3 := Lib.hid (HBY.out.trans (bb3.mono HBY.out.size))
    clear HC HS HBY bb3 e0 e1 e2 e3 e4 HRy
    go_wp2_with fail
    exact ⟨0, _, _, _, _, _, _, _, _, _, _, _, _, _, _, _, _, _, _, _, _, _, _, _, _, _, _, _, _, _, _, _, rfl, Nat.zero_le _, HB3.out, _, _, _, _, _, _, HC3.out, HS3.out⟩
  case pass =>
    clear HV HX HRes HSV HBV HRV hn
    obtain ⟨k, u0, u3, u5, u8, u9, u10, u11, u12, u13, u14, u15, u16, u17, u18, u19, u20, u21, u22, u23, u24, u25, u26, u27, u28, u29, u30, u31, u32, u33, u34, u35, rfl, hkn, hb, base, b1, b2, A', n', c', hC, hS⟩ := hJ
    have HB := Lib.hid hb
    have HC := Lib.hid hC
    have HS := Lib.hid hS
    by_cases hlt : k < nl
    rotate_left
    · have HE : Hid (k = nl) := Lib.hid (by omega)
      have hne : ((k : Int) == (nl : Int)) = true := by have := HE.out; simp; omega
      clear hb hC hS hlt hkn
      go_wp2_with fail
      go_step3
      have HC2 := HC.out
      rw [HE.out, List.take_of_length_le (by rw [HLe.out.len]; exact Nat.le_refl _)] at HC2
      exact .inl ⟨rfl, _, _, _, _, _, _, _, _, _, _, _, _, _, _, _, _, _, _, _, _, _, _, _, _, _, _, _, _, _, _, _, _, _, _, rfl, HB.out, _, _, _, _, _, _, HC2, HS.out⟩
    · have hne : ((k : Int) == (nl : Int)) = false := by simp; omega
      have hkI : (k : Int) < (nl : Int) := by omega
      obtain ⟨e, he⟩ : ∃ e, l[k]? = some e := ⟨_, List.getElem?_eq_getElem (by rw [HLe.out.len]; exact hlt)⟩
      obtain ⟨b, off, rfl, hbl, hc⟩ := (HLe.out.below hb).2 (by omega)
      obtain ⟨c0, c1, c2⟩ := hc k e he
      have hkw := HK.out e (List.mem_of_getElem? he)
      have hRk : right (evsC x (l.take k)) = true := right_evs HR.out _
      have HN : Hid (evsC x (l.take (k + 1)) = evK (evsC x (l.take k)) e) := Lib.hid (by rw [evsC_take he, evC_in hRk])
      have hn60 : n' ≤ 1000 := by have h1 := right_few hRk; have h2 := hC.len; omega
      have hnw : 0 ≤ (evsC x (l.take k)).nw := (isNum_iff.1 (right_nums hRk).2.2).1
      obtain ⟨v, ps, hrun, hv⟩ := World.ownsMap.lookup hS.map (int_keyed Try.underlying5) Try.underlying47 (z := .nilFunc) (by kernel_rfl) (zd := .held .nilFunc) (zp := []) rfl (keyOf_int_mk (q := .u8) (a := e.kind) Try.underlying5 hkw)
      rw [hpD_at] at hv
      have ev : v = hapV b1 b2 e.kind := by simpa [hapR] using (congrArg (fun o => o.map Prod.fst) hv)
      subst ev
      have HLt := Lib.hid hlt
      by_cases hkd : e.kind = 1 ∨ e.kind = 2 ∨ e.kind = 3 ∨ e.kind = 4 ∨ e.kind = 5 ∨ e.kind = 6
      · obtain ⟨f, lb, hfv, hfe, hcall⟩ := hap_fun hkd hC hn60 hnw hS.fns hS.l1 hS.l2
        rw [hfv] at hrun
        have HCall := Lib.hid hcall
        have hnf := fun (W : World) => neq_fun f lb W
        clear hb hC hS hlt hkn hc hkw hRk hn60 hnw hv hcall hfv he hkd hbl
        go_wp2_with fail
        refine HCall.out.mono ?_
        rintro e3 w3 ⟨⟨v3, rfl⟩, ⟨A3, n3, c3, h3⟩, b3⟩
        have H3 := Lib.hid h3
        have S3 := Lib.hid (HS.out.but b3)
        have B3 := Lib.hid (HB.out.trans (b3.below (Nat.le_of_lt HC.out.lt) (Nat.le_refl _)))
        clear h3 b3 c0 c1 c2 hrun hnf hfe
        go_wp2_with fail
        go_step3
        have el : ((k : Int) + 1) = ((k + 1 : Nat) : Int) := by simp
        rw [el]
        have H4 := H3.out
        rw [← HN.out] at H4
        exact .inr ⟨rfl, ⟨k + 1, _, _, _, _, _, _, _, _, _, _, _, _, _, _, _, _, _, _, _, _, _, _, _, _, _, _, _, _, _, _, _, rfl, HLt.out, B3.out, _, _, _, _, _, _, H4, S3.out⟩, by have := HLt.out; simp [intOf]; omega⟩
      · rw [hap_nil hkd] at hrun
        have H4 := HC.out
        rw [← evK_none (x := evsC x (l.take k)) hkd, ← HN.out] at H4
        have HC4 := Lib.hid H4
        have hnf := fun (W : World) => neq_nil W
        clear hb hC hS hlt hkn hc hkw hRk hn60 hnw hv he hkd hbl H4
        go_wp2_with fail
        go_step3
        have el : ((k : Int) + 1) = ((k + 1 : Nat) : Int) := by simp
        rw [el]
        exact .inr ⟨rfl, ⟨k + 1, _, _, _, _, _, _, _, _, _, _, _, _, _, _, _, _, _, _, _, _, _, _, _, _, _, _, _, _, _, _, _, rfl, HLt.out, HB.out, _, _, _, _, _, _, HC4.out, HS.out⟩, by have := HLt.out; simp [intOf]; omega⟩

theorem all_any (hr : RdX w w.heap.size A n x.l) (hn : n ≤ 1000) (hl : RdE w w.heap.size Al nl l) (hnl : nl ≤ 1000) (hk : ∀ e ∈ l, (Lit.int .u8 e.kind).wf = true) :
    Calls Try.prog 12 #[.agg #[.slice A n c, .int .i64 x.fl, .int .i64 x.dr, .int .i64 x.nw, .bool x.tg], .slice Al nl cl] w (CwPost (evsC x l) w) := by
  cases hR : right x with
  | true => exact all_in hr hn hl hnl hR hk
  | false => rw [evsC_out hR]; exact all_out hr hn hR

set_option maxRecDepth 100000 in
set_option maxHeartbeats 4000000 in
theorem do_any {e : Ev} (hr : RdX w w.heap.size A n x.l) (hn : n ≤ 1000) (hk : (Lit.int .u8 e.kind).wf = true) :
    Calls Try.prog 10 #[.agg #[.slice A n c, .int .i64 x.fl, .int .i64 x.dr, .int .i64 x.nw, .bool x.tg], .agg #[.int .u8 e.kind, .int .i64 e.a, .int .i64 e.b]] w (CwPost (evC x e) w) := by
  have hb0 : Below w.heap.size w (((w.alloc (.cells #[.slice A n c, .int .i64 x.fl, .int .i64 x.dr, .int .i64 x.nw, .bool x.tg] 24)).alloc (.cells #[.int .u8 e.kind, .int .i64 e.a, .int .i64 e.b] 26)).alloc (.cells #[.slice none 0 0, .int .i64 0, .int .i64 0, .int .i64 0, .bool false] 24)) := (((Below.refl _ w).alloc (Nat.le_refl _) _).alloc (by simp) _).alloc (by simp; omega) _
  have h0 : Whole (((w.alloc (.cells #[.slice A n c, .int .i64 x.fl, .int .i64 x.dr, .int .i64 x.nw, .bool x.tg] 24)).alloc (.cells #[.int .u8 e.kind, .int .i64 e.a, .int .i64 e.b] 26)).alloc (.cells #[.slice none 0 0, .int .i64 0, .int .i64 0, .int .i64 0, .bool false] 24)) w.heap.size 24 #[.slice A n c, .int .i64 x.fl, .int .i64 x.dr, .int .i64 x.nw, .bool x.tg] := ((Whole.new w _ _).alloc _).alloc _
  have h1 : Whole (((w.alloc (.cells #[.slice A n c, .int .i64 x.fl, .int .i64 x.dr, .int .i64 x.nw, .bool x.tg] 24)).alloc (.cells #[.int .u8 e.kind, .int .i64 e.a, .int .i64 e.b] 26)).alloc (.cells #[.slice none 0 0, .int .i64 0, .int .i64 0, .int .i64 0, .bool false] 24)) (w.heap.size + 1) 26 #[.int .u8 e.kind, .int .i64 e.a, .int .i64 e.b] := by
    have := (Whole.new (w.alloc (.cells #[.slice A n c, .int .i64 x.fl, .int .i64 x.dr, .int .i64 x.nw, .bool x.tg] 24)) 26 #[.int .u8 e.kind, .int .i64 e.a, .int .i64 e.b]).alloc (.cells #[.slice none 0 0, .int .i64 0, .int .i64 0, .int .i64 0, .bool false] 24)
    rwa [World.size_alloc] at this
  have h2 : Whole (((w.alloc (.cells #[.slice A n c, .int .i64 x.fl, .int .i64 x.dr, .int .i64 x.nw, .bool x.tg] 24)).alloc (.cells #[.int .u8 e.kind, .int .i64 e.a, .int .i64 e.b] 26)).alloc (.cells #[.slice none 0 0, .int .i64 0, .int .i64 0, .int .i64 0, .bool false] 24)) (w.heap.size + 1 + 1) 24 #[.slice none 0 0, .int .i64 0, .int .i64 0, .int .i64 0, .bool false] := by
    have := Whole.new ((w.alloc (.cells #[.slice A n c, .int .i64 x.fl, .int .i64 x.dr, .int .i64 x.nw, .bool x.tg] 24)).alloc (.cells #[.int .u8 e.kind, .int .i64 e.a, .int .i64 e.b] 26)) 24 #[.slice none 0 0, .int .i64 0, .int .i64 0, .int .i64 0, .bool false]
    simpa using this
  obtain ⟨V, hV⟩ : ∃ V, ((w.alloc (.cells #[.slice A n c, .int .i64 x.fl, .int .i64 x.dr, .int .i64 x.nw, .bool x.tg] 24)).alloc (.cells #[.int .u8 e.kind, .int .i64 e.a, .int .i64 e.b] 26)).alloc (.cells #[.slice none 0 0, .int .i64 0, .int .i64 0, .int .i64 0, .bool false] 24) = V := ⟨_, rfl⟩
  have hsv : V.heap.size = w.heap.size + 1 + 1 + 1 := by rw [← hV]; simp
  rw [hV] at hb0 h0 h1 h2
  obtain ⟨Z, hZ⟩ : ∃ Z, V.alloc (.cells #[.int .u8 e.kind, .int .i64 e.a, .int .i64 e.b] 26) = Z := ⟨_, rfl⟩
  have hbz : Below V.heap.size V Z := by rw [← hZ]; exact (Below.refl _ _).alloc (Nat.le_refl _) _
  have hez : Whole Z V.heap.size 26 ([e].flatMap Ev.vs).toArray := by rw [← hZ]; exact Whole.new _ _ _
  have HAll := Lib.hid (all_any (c := c) (cl := 1) ((hr.below (hb0.trans (hbz.mono hb0.size))).more (Nat.le_trans hb0.size hbz.size)) hn (rdE_whole hez) (by simp) (by simpa using hk))
  rw [hsv] at HAll
  have HB := Lib.hid (hb0.trans (hbz.mono hb0.size))
  have H2 := Lib.hid (h2.under hbz)
  obtain ⟨a0, a1, a2, a3, a4⟩ := (⟨h0.cell 0, h0.cell 1, h0.cell 2, h0.cell 3, h0.cell 4⟩ : _ ∧ _ ∧ _ ∧ _ ∧ _)
  obtain ⟨v0, v1, v2⟩ := (⟨h1.cell 0, h1.cell 1, h1.cell 2⟩ : _ ∧ _ ∧ _)
  simp only [List.getElem?_toArray, List.getElem?_cons_zero, List.getElem?_cons_succ] at a0 a1 a2 a3 a4 v0 v1 v2
  have HZ := Lib.hid hZ
  have HVe := Lib.hid hV
  clear hr hk hb0 h0 h1 h2 hbz hez hZ hV hsv
  go_enter Try.func10, Try.ntmps10
  go_wp2_with fail
  rw [HVe.out, HZ.out]
  go_wp2_with fail
  refine HAll.out.mono ?_
  rintro e3 w3 ⟨A3, n3, c3, rfl, ho, hb3⟩
  have h3 := H2.out.under hb3
  have hlt := H2.out.lt
  have k0 := h3.cell 0
  have k1 := h3.cell 1
  have k2 := h3.cell 2
  have k3 := h3.cell 3
  have k4 := h3.cell 4
  simp only [List.getElem?_toArray, List.getElem?_cons_zero, List.getElem?_cons_succ] at k0 k1 k2 k3 k4
  have z0 := h3.frozen 0
  have z1 := h3.frozen 1
  have z2 := h3.frozen 2
  have z3 := h3.frozen 3
  have z4 := h3.frozen 4
  have HO := Lib.hid ho
  have HB3 := Lib.hid (HB.out.trans (hb3.mono HB.out.size))
  have HLt := Lib.hid hlt
  have H3 := Lib.hid h3
  have HZs := Lib.hid HB.out.size
  clear ho hb3 h3 hlt a0 a1 a2 a3 a4 v0 v1 v2 HAll HB H2 HZ HVe
  go_wp2_with fail
  obtain ⟨j0, j1, j2, j3, j4⟩ := (put5 H3.out (.slice A3 n3 c3) (.int .i64 (evsC x [e]).fl) (.int .i64 (evsC x [e]).dr) (.int .i64 (evsC x [e]).nw) (.bool (evsC x [e]).tg)).1
  refine bodyPost_ret (v := .agg #[.slice A3 n3 c3, .int .i64 (evsC x [e]).fl, .int .i64 (evsC x [e]).dr, .int .i64 (evsC x [e]).nw, .bool (evsC x [e]).tg]) (by simp [results, Try.results10, go_sem, j0, j1, j2, j3, j4]) rfl ?_
  have hl := HLt.out
  refine ⟨A3, n3, c3, rfl, own_weaker (base' := Z.heap.size) ?_ HZs.out, ?_⟩
  · exact own_set (b := w.heap.size + 1 + 1) (own_set (b := w.heap.size + 1 + 1) (own_set (b := w.heap.size + 1 + 1) (own_set (b := w.heap.size + 1 + 1) (own_set (b := w.heap.size + 1 + 1) HO.out hl _) hl _) hl _) hl _) hl _
  · exact ((((HB3.out.setCell (p := ⟨w.heap.size + 1 + 1, 0, none⟩) (by show w.heap.size ≤ w.heap.size + 1 + 1; omega) _).setCell (p := ⟨w.heap.size + 1 + 1, 1, none⟩) (by show w.heap.size ≤ w.heap.size + 1 + 1; omega) _).setCell (p := ⟨w.heap.size + 1 + 1, 2, none⟩) (by show w.heap.size ≤ w.heap.size + 1 + 1; omega) _).setCell (p := ⟨w.heap.size + 1 + 1, 3, none⟩) (by show w.heap.size ≤ w.heap.size + 1 + 1; omega) _).setCell (p := ⟨w.heap.size + 1 + 1, 4, none⟩) (by show w.heap.size ≤ w.heap.size + 1 + 1; omega) _
end

end Go.Proofs.Ytoiegffnmjlkdaa
