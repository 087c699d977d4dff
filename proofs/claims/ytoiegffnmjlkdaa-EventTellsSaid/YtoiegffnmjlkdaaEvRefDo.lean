/-
  The walk of the document's own Do (layer 10). Conditions: those that each theorem names.
-/
import Derived.Test.YtoiegffnmjlkdaaEvRefTick
import Derived.Test.YtoiegffnmjlkdaaEvFound
import Derived.Test.YtoiegffnmjlkdaaEvAll
import Derived.Test.YtoiegffnmjlkdaaCdKit2
namespace Go.Proofs.Ytoiegffnmjlkdaa
open Go.RowKit Go.Shelf

/-- What lies beside the cloud's box. -/
structure RsSt (w : World) (e : Ev) (base : Nat) (W : World) : Prop where
  ev : EvIn W (w.heap.size + 1) e
  res : Whole W (w.heap.size + 1 + 1) 24 #[.slice none 0 0, .int .i64 0, .int .i64 0, .int .i64 0, .bool false]
  l : w.heap.size + 1 + 1 < base
theorem RsSt.but {w W W' : World} {e : Ev} {base : Nat} (h : RsSt w e base W) (hb : BelowBut base w.heap.size W W') : RsSt w e base W' :=
  have hl := h.l
  ⟨(hb.block _ (by omega) (by omega)).trans h.ev, (hb.block _ (by omega) (by omega)).trans h.res, hl⟩
section
variable {n c : Nat} {A : Option Addr} {x : Cw} {e : Ev} {w : World}
/-- The first pieces of code. -/
theorem rdo_start (hr : RdX w w.heap.size A n x.l) : ∃ V, ((w.alloc (.cells #[.slice A n c, .int .i64 x.fl, .int .i64 x.dr, .int .i64 x.nw, .bool x.tg] 24)).alloc (.cells #[.int .u8 e.kind, .int .i64 e.a, .int .i64 e.b] 26)).alloc (.cells #[.slice none 0 0, .int .i64 0, .int .i64 0, .int .i64 0, .bool false] 24) = V ∧ Whole V w.heap.size 24 #[.slice A n c, .int .i64 x.fl, .int .i64 x.dr, .int .i64 x.nw, .bool x.tg] ∧ EvIn V (w.heap.size + 1) e ∧ Whole V (w.heap.size + 1 + 1) 24 #[.slice none 0 0, .int .i64 0, .int .i64 0, .int .i64 0, .bool false] ∧ V.heap.size = w.heap.size + 1 + 1 + 1 ∧ Below w.heap.size w V ∧ RdX V w.heap.size A n x.l := by
  have hb : Below w.heap.size w (((w.alloc (.cells #[.slice A n c, .int .i64 x.fl, .int .i64 x.dr, .int .i64 x.nw, .bool x.tg] 24)).alloc (.cells #[.int .u8 e.kind, .int .i64 e.a, .int .i64 e.b] 26)).alloc (.cells #[.slice none 0 0, .int .i64 0, .int .i64 0, .int .i64 0, .bool false] 24)) := (((Below.refl _ w).alloc (Nat.le_refl _) _).alloc (by simp) _).alloc (by simp; omega) _
  refine ⟨_, rfl, ((Whole.new w _ _).alloc _).alloc _, ?_, ?_, by simp, hb, hr.below hb⟩
  · have := (Whole.new (w.alloc (.cells #[.slice A n c, .int .i64 x.fl, .int .i64 x.dr, .int .i64 x.nw, .bool x.tg] 24)) 26 #[.int .u8 e.kind, .int .i64 e.a, .int .i64 e.b]).alloc (.cells #[.slice none 0 0, .int .i64 0, .int .i64 0, .int .i64 0, .bool false] 24)
    rwa [World.size_alloc] at this
  · have := Whole.new ((w.alloc (.cells #[.slice A n c, .int .i64 x.fl, .int .i64 x.dr, .int .i64 x.nw, .bool x.tg] 24)).alloc (.cells #[.int .u8 e.kind, .int .i64 e.a, .int .i64 e.b] 26)) 24 #[.slice none 0 0, .int .i64 0, .int .i64 0, .int .i64 0, .bool false]
    simpa using this
/-- The cloud of its own stored in its box. -/
theorem rdo_own {V1 V2 : World} {A2 A0 : Option Addr} {n0 c0 n2 c2 : Nat} (hb : Below w.heap.size w V1) (hX : Whole V1 w.heap.size 24 #[.slice A0 n0 c0, .int .i64 x.fl, .int .i64 x.dr, .int .i64 x.nw, .bool x.tg]) (he : EvIn V1 (w.heap.size + 1) e) (hres : Whole V1 (w.heap.size + 1 + 1) 24 #[.slice none 0 0, .int .i64 0, .int .i64 0, .int .i64 0, .bool false])
    (ho : V2.ownsRow V1.heap.size 36 11 (.slice A2 n2 c2) n2 (flat x.l)) (hb2 : Below V1.heap.size V1 V2) :
    ∃ Y, (((((V2.setCell ⟨w.heap.size, 0, none⟩ (.slice A2 n2 c2)).setCell ⟨w.heap.size, 1, none⟩ (.int .i64 x.fl)).setCell ⟨w.heap.size, 2, none⟩ (.int .i64 x.dr)).setCell ⟨w.heap.size, 3, none⟩ (.int .i64 x.nw)).setCell ⟨w.heap.size, 4, none⟩ (.bool x.tg)) = Y ∧ Clu Y V1.heap.size w.heap.size A2 n2 c2 x ∧ RsSt w e V1.heap.size Y ∧ Below w.heap.size w Y := by
  have hX2 := hX.under hb2
  have hlt := hX.lt
  have hs : RsSt w e V1.heap.size V2 := ⟨he.under hb2, hres.under hb2, hres.lt⟩
  have hbt := ((((((BelowBut.refl V1.heap.size w.heap.size V2).set 0 (.slice A2 n2 c2)).set 1 (.int .i64 x.fl)).set 2 (.int .i64 x.dr)).set 3 (.int .i64 x.nw)).set 4 (.bool x.tg))
  refine ⟨_, rfl, ⟨(put5 hX2 _ _ _ _ _).2, ?_, hlt, Nat.le_trans hb2.size hbt.size⟩, hs.but hbt, ?_⟩
  · exact own_set (b := w.heap.size) (own_set (b := w.heap.size) (own_set (b := w.heap.size) (own_set (b := w.heap.size) (own_set (b := w.heap.size) ho hlt _) hlt _) hlt _) hlt _) hlt _
  · exact (hb.trans (hb2.mono (Nat.le_of_lt hlt))).trans (hbt.below (Nat.le_of_lt hlt) (Nat.le_refl _))

set_option maxRecDepth 100000 in
set_option maxHeartbeats 4000000 in
theorem rdo_out (hr : RdX w w.heap.size A n x.l) (hn : n ≤ 1000) (hR : right x = false) :
    Calls Try.prog 11 #[.agg #[.slice A n c, .int .i64 x.fl, .int .i64 x.dr, .int .i64 x.nw, .bool x.tg], .agg #[.int .u8 e.kind, .int .i64 e.a, .int .i64 e.b]] w (CwPost x w) := by
  obtain ⟨V, hV, hX, he, hres, hsV, hbV, hrV⟩ := rdo_start (c := c) (e := e) hr
  have HX := Lib.hid hX
  have HE := Lib.hid he
  have HRes := Lib.hid hres
  have HBV := Lib.hid hbV
  have HRV := Lib.hid (hrV.more hbV.size)
  have HVe := Lib.hid hV
  have HRt := Lib.hid (fun W A c hr => rightL (l := x.l) (fl := x.fl) (dr := x.dr) (nw := x.nw) (tg := x.tg) (n := n) (b := false) hR W A c hr)
  clear hX he hres hsV hbV hrV hr hV hR
  go_enter Try.func11, Try.ntmps11
  go_upto_region 1 with fail
  rw [HVe.out]
  clear HVe
  have d0 := HX.out.cell 0
  have d1 := HX.out.cell 1
  have d2 := HX.out.cell 2
  have d3 := HX.out.cell 3
  have d4 := HX.out.cell 4
  simp only [List.getElem?_toArray, List.getElem?_cons_zero, List.getElem?_cons_succ] at d0 d1 d2 d3 d4
  have f0 := HX.out.frozen 0
  have f1 := HX.out.frozen 1
  have f2 := HX.out.frozen 2
  have f3 := HX.out.frozen 3
  have f4 := HX.out.frozen 4
  go_wp2_with fail
  refine (refOwn_any A n c x V.heap.size V HRV.out (Nat.le_refl _) hn).mono ?_
  rintro e2 V2 ⟨A2, c2, rfl, o2, bb2⟩
  unfold cwV
  clear d0 d1 d2 d3 d4 f0 f1 f2 f3 f4
  have hX2 := HX.out.under bb2
  have k0 := hX2.cell 0
  have k1 := hX2.cell 1
  have k2 := hX2.cell 2
  have k3 := hX2.cell 3
  have k4 := hX2.cell 4
  simp only [List.getElem?_toArray, List.getElem?_cons_zero, List.getElem?_cons_succ] at k0 k1 k2 k3 k4
  have z0 := hX2.frozen 0
  have z1 := hX2.frozen 1
  have z2 := hX2.frozen 2
  have z3 := hX2.frozen 3
  have z4 := hX2.frozen 4
  obtain ⟨Y, hY, hC, hS, hBY⟩ := rdo_own HBV.out HX.out HE.out HRes.out o2 bb2
  have HY := Lib.hid hY
  have HC := Lib.hid hC
  have HS := Lib.hid hS
  have HBY := Lib.hid hBY
  obtain ⟨base, hbase⟩ : ∃ base, V.heap.size = base := ⟨_, rfl⟩
  rw [hbase] at HC HS
  clear HX HE HRes o2 bb2 hX2 hC hS hBY hY HRV HBV hbase
  go_upto_region 2 with fail
  rw [HY.out]
  clear HY k0 k1 k2 k3 k4 z0 z1 z2 z3 z4
  obtain ⟨e0, e1, e2, e3, e4⟩ := HC.out.cells
  go_wp2_with fail
  refine (HRt.out _ _ _ HC.out.rd).mono ?_
  rintro e5 V3 ⟨rfl, bb3⟩
  have HC3 := Lib.hid (HC.out.under bb3)
  have HS3 := Lib.hid (HS.out.but (Below.but (bb3.mono HC.out.le)))
  have HB3 := Lib.hid (HBY.out.trans (bb3.mono HBY.out.size))
  clear HC HS HBY bb3 e0 e1 e2 e3 e4 HRt
  obtain ⟨d0, d1, d2, d3, d4⟩ := HC3.out.cells
  have k0 := HS3.out.res.cell 0
  have k1 := HS3.out.res.cell 1
  have k2 := HS3.out.res.cell 2
  have k3 := HS3.out.res.cell 3
  have k4 := HS3.out.res.cell 4
  simp only [List.getElem?_toArray, List.getElem?_cons_zero, List.getElem?_cons_succ] at k0 k1 k2 k3 k4
  have z0 := HS3.out.res.frozen 0
  have z1 := HS3.out.res.frozen 1
  have z2 := HS3.out.res.frozen 2
  have z3 := HS3.out.res.frozen 3
  have z4 := HS3.out.res.frozen 4
  go_wp2_with fail
  obtain ⟨Z, hZ, q1, q2, q3⟩ := fin5 (A := A2) (n := n) (c := c2) (x := x) (base := w.heap.size) HS3.out.res (own_weaker HC3.out.row (by have := HC3.out.lt; omega)) HB3.out (by omega)
  rw [hZ]
  have j0 := q1.cell 0
  have j1 := q1.cell 1
  have j2 := q1.cell 2
  have j3 := q1.cell 3
  have j4 := q1.cell 4
  simp only [List.getElem?_toArray, List.getElem?_cons_zero, List.getElem?_cons_succ] at j0 j1 j2 j3 j4
  refine bodyPost_ret (v := .agg #[.slice A2 n c2, .int .i64 (x).fl, .int .i64 (x).dr, .int .i64 (x).nw, .bool (x).tg]) (by simp [results, Try.results11, go_sem, j0, j1, j2, j3, j4]) rfl ?_
  exact ⟨_, _, _, rfl, q2, q3⟩

set_option maxRecDepth 100000 in
set_option maxHeartbeats 4000000 in
theorem rdo_other (hr : RdX w w.heap.size A n x.l) (hn : n ≤ 1000) (hk : ¬ (e.kind = 1 ∨ e.kind = 2 ∨ e.kind = 3 ∨ e.kind = 4 ∨ e.kind = 5 ∨ e.kind = 6)) (hR : right x = true)  :
    Calls Try.prog 11 #[.agg #[.slice A n c, .int .i64 x.fl, .int .i64 x.dr, .int .i64 x.nw, .bool x.tg], .agg #[.int .u8 e.kind, .int .i64 e.a, .int .i64 e.b]] w (CwPost x w) := by
  have q1 : (e.kind == 1) = false := by rw [beq_eq_false_iff_ne]; omega
  have q2 : (e.kind == 2) = false := by rw [beq_eq_false_iff_ne]; omega
  have q3 : (e.kind == 3) = false := by rw [beq_eq_false_iff_ne]; omega
  have q4 : (e.kind == 4) = false := by rw [beq_eq_false_iff_ne]; omega
  have q5 : (e.kind == 5) = false := by rw [beq_eq_false_iff_ne]; omega
  have q6 : (e.kind == 6) = false := by rw [beq_eq_false_iff_ne]; omega
  clear hk
  obtain ⟨r, hf⟩ : ∃ r, placeI (find x.l e.a) = r := ⟨_, rfl⟩
  obtain ⟨V, hV, hX, he, hres, hsV, hbV, hrV⟩ := rdo_start (c := c) (e := e) hr
  have HX := Lib.hid hX
  have HE := Lib.hid he
  have HRes := Lib.hid hres
  have HBV := Lib.hid hbV
  have HRV := Lib.hid (hrV.more hbV.size)
  have HVe := Lib.hid hV
  have HRt := Lib.hid (fun W A c hr => rightL (l := x.l) (fl := x.fl) (dr := x.dr) (nw := x.nw) (tg := x.tg) (n := n) (b := true) hR W A c hr)
  clear hX he hres hsV hbV hrV hr hV hR
  go_enter Try.func11, Try.ntmps11
  go_upto_region 1 with fail
  rw [HVe.out]
  clear HVe
  have d0 := HX.out.cell 0
  have d1 := HX.out.cell 1
  have d2 := HX.out.cell 2
  have d3 := HX.out.cell 3
  have d4 := HX.out.cell 4
  simp only [List.getElem?_toArray, List.getElem?_cons_zero, List.getElem?_cons_succ] at d0 d1 d2 d3 d4
  have f0 := HX.out.frozen 0
  have f1 := HX.out.frozen 1
  have f2 := HX.out.frozen 2
  have f3 := HX.out.frozen 3
  have f4 := HX.out.frozen 4
  go_wp2_with fail
  refine (refOwn_any A n c x V.heap.size V HRV.out (Nat.le_refl _) hn).mono ?_
  rintro e2 V2 ⟨A2, c2, rfl, o2, bb2⟩
  unfold cwV
  clear d0 d1 d2 d3 d4 f0 f1 f2 f3 f4
  have hX2 := HX.out.under bb2
  have k0 := hX2.cell 0
  have k1 := hX2.cell 1
  have k2 := hX2.cell 2
  have k3 := hX2.cell 3
  have k4 := hX2.cell 4
  simp only [List.getElem?_toArray, List.getElem?_cons_zero, List.getElem?_cons_succ] at k0 k1 k2 k3 k4
  have z0 := hX2.frozen 0
  have z1 := hX2.frozen 1
  have z2 := hX2.frozen 2
  have z3 := hX2.frozen 3
  have z4 := hX2.frozen 4
  obtain ⟨Y, hY, hC, hS, hBY⟩ := rdo_own HBV.out HX.out HE.out HRes.out o2 bb2
  have HY := Lib.hid hY
  have HC := Lib.hid hC
  have HS := Lib.hid hS
  have HBY := Lib.hid hBY
  obtain ⟨base, hbase⟩ : ∃ base, V.heap.size = base := ⟨_, rfl⟩
  rw [hbase] at HC HS
  clear HX HE HRes o2 bb2 hX2 hC hS hBY hY HRV HBV hbase
  go_upto_region 2 with fail
  rw [HY.out]
  clear HY k0 k1 k2 k3 k4 z0 z1 z2 z3 z4
  obtain ⟨e0, e1, e2, e3, e4⟩ := HC.out.cells
  go_wp2_with fail
  refine (HRt.out _ _ _ HC.out.rd).mono ?_
  rintro e5 V3 ⟨rfl, bb3⟩
  have HC3 := Lib.hid (HC.out.under bb3)
  have HS3 := Lib.hid (HS.out.but (Below.but (bb3.mono HC.out.le)))
  have HB3 := Lib.hid (HBY.out.trans (bb3.mono HBY.out.size))
  clear HC HS HBY bb3 e0 e1 e2 e3 e4 HRt
  obtain ⟨d0, d1, d2, d3, d4⟩ := HC3.out.cells
  obtain ⟨v0, v1, v2⟩ := HS3.out.ev.cells
  go_upto_region 4 with fail
  go_wp2_with fail
  refine (findL (l := x.l) (fl := x.fl) (dr := x.dr) (nw := x.nw) (tg := x.tg) (n := n) (id := e.a) hf (by omega) _ _ _ HC3.out.rd).mono ?_
  rintro e6 V4 ⟨rfl, bb4⟩
  have HC := Lib.hid (HC3.out.under bb4)
  have HS := Lib.hid (HS3.out.but (Below.but (bb4.mono HC3.out.le)))
  have HB := Lib.hid (HB3.out.trans (bb4.mono HB3.out.size))
  clear HC3 HS3 HB3 bb4 d0 d1 d2 d3 d4 v0 v1 v2 hf
  obtain ⟨v0, v1, v2⟩ := HS.out.ev.cells
  obtain ⟨d0, d1, d2, d3, d4⟩ := HC.out.cells
  have k0 := HS.out.res.cell 0
  have k1 := HS.out.res.cell 1
  have k2 := HS.out.res.cell 2
  have k3 := HS.out.res.cell 3
  have k4 := HS.out.res.cell 4
  simp only [List.getElem?_toArray, List.getElem?_cons_zero, List.getElem?_cons_succ] at k0 k1 k2 k3 k4
  have z0 := HS.out.res.frozen 0
  have z1 := HS.out.res.frozen 1
  have z2 := HS.out.res.frozen 2
  have z3 := HS.out.res.frozen 3
  have z4 := HS.out.res.frozen 4
  go_wp2_with fail
  obtain ⟨Z, hZ, q1, q2, q3⟩ := fin5 (A := A2) (n := n) (c := c2) (x := x) (base := w.heap.size) HS.out.res (own_weaker HC.out.row (by have := HC.out.lt; omega)) HB.out (by omega)
  rw [hZ]
  have j0 := q1.cell 0
  have j1 := q1.cell 1
  have j2 := q1.cell 2
  have j3 := q1.cell 3
  have j4 := q1.cell 4
  simp only [List.getElem?_toArray, List.getElem?_cons_zero, List.getElem?_cons_succ] at j0 j1 j2 j3 j4
  refine bodyPost_ret (v := .agg #[.slice A2 n c2, .int .i64 (x).fl, .int .i64 (x).dr, .int .i64 (x).nw, .bool (x).tg]) (by simp [results, Try.results11, go_sem, j0, j1, j2, j3, j4]) rfl ?_
  exact ⟨_, _, _, rfl, q2, q3⟩

set_option maxRecDepth 100000 in
set_option maxHeartbeats 4000000 in
theorem rdo_die0 (hr : RdX w w.heap.size A n x.l) (hn : n ≤ 1000) (hk : e.kind = 1) (hR : right x = true) (hf0 : find x.l e.a = none) :
    Calls Try.prog 11 #[.agg #[.slice A n c, .int .i64 x.fl, .int .i64 x.dr, .int .i64 x.nw, .bool x.tg], .agg #[.int .u8 e.kind, .int .i64 e.a, .int .i64 e.b]] w (CwPost x w) := by
  have q1 : (e.kind == 1) = true := by rw [hk]; rfl
  clear hk
  have hf : placeI (find x.l e.a) = -1 := by rw [hf0]; rfl
  clear hf0
  obtain ⟨V, hV, hX, he, hres, hsV, hbV, hrV⟩ := rdo_start (c := c) (e := e) hr
  have HX := Lib.hid hX
  have HE := Lib.hid he
  have HRes := Lib.hid hres
  have HBV := Lib.hid hbV
  have HRV := Lib.hid (hrV.more hbV.size)
  have HVe := Lib.hid hV
  have HRt := Lib.hid (fun W A c hr => rightL (l := x.l) (fl := x.fl) (dr := x.dr) (nw := x.nw) (tg := x.tg) (n := n) (b := true) hR W A c hr)
  clear hX he hres hsV hbV hrV hr hV hR
  go_enter Try.func11, Try.ntmps11
  go_upto_region 1 with fail
  rw [HVe.out]
  clear HVe
  have d0 := HX.out.cell 0
  have d1 := HX.out.cell 1
  have d2 := HX.out.cell 2
  have d3 := HX.out.cell 3
  have d4 := HX.out.cell 4
  simp only [List.getElem?_toArray, List.getElem?_cons_zero, List.getElem?_cons_succ] at d0 d1 d2 d3 d4
  have f0 := HX.out.frozen 0
  have f1 := HX.out.frozen 1
  have f2 := HX.out.frozen 2
  have f3 := HX.out.frozen 3
  have f4 := HX.out.frozen 4
  go_wp2_with fail
  refine (refOwn_any A n c x V.heap.size V HRV.out (Nat.le_refl _) hn).mono ?_
  rintro e2 V2 ⟨A2, c2, rfl, o2, bb2⟩
  unfold cwV
  clear d0 d1 d2 d3 d4 f0 f1 f2 f3 f4
  have hX2 := HX.out.under bb2
  have k0 := hX2.cell 0
  have k1 := hX2.cell 1
  have k2 := hX2.cell 2
  have k3 := hX2.cell 3
  have k4 := hX2.cell 4
  simp only [List.getElem?_toArray, List.getElem?_cons_zero, List.getElem?_cons_succ] at k0 k1 k2 k3 k4
  have z0 := hX2.frozen 0
  have z1 := hX2.frozen 1
  have z2 := hX2.frozen 2
  have z3 := hX2.frozen 3
  have z4 := hX2.frozen 4
  obtain ⟨Y, hY, hC, hS, hBY⟩ := rdo_own HBV.out HX.out HE.out HRes.out o2 bb2
  have HY := Lib.hid hY
  have HC := Lib.hid hC
  have HS := Lib.hid hS
  have HBY := Lib.hid hBY
  obtain ⟨base, hbase⟩ : ∃ base, V.heap.size = base := ⟨_, rfl⟩
  rw [hbase] at HC HS
  clear HX HE HRes o2 bb2 hX2 hC hS hBY hY HRV HBV hbase
  go_upto_region 2 with fail
  rw [HY.out]
  clear HY k0 k1 k2 k3 k4 z0 z1 z2 z3 z4
  obtain ⟨e0, e1, e2, e3, e4⟩ := HC.out.cells
  go_wp2_with fail
  refine (HRt.out _ _ _ HC.out.rd).mono ?_
  rintro e5 V3 ⟨rfl, bb3⟩
  have HC3 := Lib.hid (HC.out.under bb3)
  have HS3 := Lib.hid (HS.out.but (Below.but (bb3.mono HC.out.le)))
  have HB3 := Lib.hid (HBY.out.trans (bb3.mono HBY.out.size))
  clear HC HS HBY bb3 e0 e1 e2 e3 e4 HRt
  obtain ⟨d0, d1, d2, d3, d4⟩ := HC3.out.cells
  obtain ⟨v0, v1, v2⟩ := HS3.out.ev.cells
  go_upto_region 4 with fail
  go_wp2_with fail
  refine (findL (l := x.l) (fl := x.fl) (dr := x.dr) (nw := x.nw) (tg := x.tg) (n := n) (id := e.a) hf (by omega) _ _ _ HC3.out.rd).mono ?_
  rintro e6 V4 ⟨rfl, bb4⟩
  have HC := Lib.hid (HC3.out.under bb4)
  have HS := Lib.hid (HS3.out.but (Below.but (bb4.mono HC3.out.le)))
  have HB := Lib.hid (HB3.out.trans (bb4.mono HB3.out.size))
  clear HC3 HS3 HB3 bb4 d0 d1 d2 d3 d4 v0 v1 v2 hf
  obtain ⟨v0, v1, v2⟩ := HS.out.ev.cells
  obtain ⟨d0, d1, d2, d3, d4⟩ := HC.out.cells
  have k0 := HS.out.res.cell 0
  have k1 := HS.out.res.cell 1
  have k2 := HS.out.res.cell 2
  have k3 := HS.out.res.cell 3
  have k4 := HS.out.res.cell 4
  simp only [List.getElem?_toArray, List.getElem?_cons_zero, List.getElem?_cons_succ] at k0 k1 k2 k3 k4
  have z0 := HS.out.res.frozen 0
  have z1 := HS.out.res.frozen 1
  have z2 := HS.out.res.frozen 2
  have z3 := HS.out.res.frozen 3
  have z4 := HS.out.res.frozen 4
  go_wp2_with fail
  obtain ⟨Z, hZ, q1, q2, q3⟩ := fin5 (A := A2) (n := n) (c := c2) (x := x) (base := w.heap.size) HS.out.res (own_weaker HC.out.row (by have := HC.out.lt; omega)) HB.out (by omega)
  rw [hZ]
  have j0 := q1.cell 0
  have j1 := q1.cell 1
  have j2 := q1.cell 2
  have j3 := q1.cell 3
  have j4 := q1.cell 4
  simp only [List.getElem?_toArray, List.getElem?_cons_zero, List.getElem?_cons_succ] at j0 j1 j2 j3 j4
  refine bodyPost_ret (v := .agg #[.slice A2 n c2, .int .i64 (x).fl, .int .i64 (x).dr, .int .i64 (x).nw, .bool (x).tg]) (by simp [results, Try.results11, go_sem, j0, j1, j2, j3, j4]) rfl ?_
  exact ⟨_, _, _, rfl, q2, q3⟩

set_option maxRecDepth 100000 in
set_option maxHeartbeats 4000000 in
theorem rdo_flip0 (hr : RdX w w.heap.size A n x.l) (hn : n ≤ 1000) (hk : e.kind = 2) (hR : right x = true) (hf0 : find x.l e.a = none) :
    Calls Try.prog 11 #[.agg #[.slice A n c, .int .i64 x.fl, .int .i64 x.dr, .int .i64 x.nw, .bool x.tg], .agg #[.int .u8 e.kind, .int .i64 e.a, .int .i64 e.b]] w (CwPost x w) := by
  have q1 : (e.kind == 1) = false := by rw [hk]; rfl
  have q2 : (e.kind == 2) = true := by rw [hk]; rfl
  clear hk
  have hf : placeI (find x.l e.a) = -1 := by rw [hf0]; rfl
  clear hf0
  obtain ⟨V, hV, hX, he, hres, hsV, hbV, hrV⟩ := rdo_start (c := c) (e := e) hr
  have HX := Lib.hid hX
  have HE := Lib.hid he
  have HRes := Lib.hid hres
  have HBV := Lib.hid hbV
  have HRV := Lib.hid (hrV.more hbV.size)
  have HVe := Lib.hid hV
  have HRt := Lib.hid (fun W A c hr => rightL (l := x.l) (fl := x.fl) (dr := x.dr) (nw := x.nw) (tg := x.tg) (n := n) (b := true) hR W A c hr)
  clear hX he hres hsV hbV hrV hr hV hR
  go_enter Try.func11, Try.ntmps11
  go_upto_region 1 with fail
  rw [HVe.out]
  clear HVe
  have d0 := HX.out.cell 0
  have d1 := HX.out.cell 1
  have d2 := HX.out.cell 2
  have d3 := HX.out.cell 3
  have d4 := HX.out.cell 4
  simp only [List.getElem?_toArray, List.getElem?_cons_zero, List.getElem?_cons_succ] at d0 d1 d2 d3 d4
  have f0 := HX.out.frozen 0
  have f1 := HX.out.frozen 1
  have f2 := HX.out.frozen 2
  have f3 := HX.out.frozen 3
  have f4 := HX.out.frozen 4
  go_wp2_with fail
  refine (refOwn_any A n c x V.heap.size V HRV.out (Nat.le_refl _) hn).mono ?_
  rintro e2 V2 ⟨A2, c2, rfl, o2, bb2⟩
  unfold cwV
  clear d0 d1 d2 d3 d4 f0 f1 f2 f3 f4
  have hX2 := HX.out.under bb2
  have k0 := hX2.cell 0
  have k1 := hX2.cell 1
  have k2 := hX2.cell 2
  have k3 := hX2.cell 3
  have k4 := hX2.cell 4
  simp only [List.getElem?_toArray, List.getElem?_cons_zero, List.getElem?_cons_succ] at k0 k1 k2 k3 k4
  have z0 := hX2.frozen 0
  have z1 := hX2.frozen 1
  have z2 := hX2.frozen 2
  have z3 := hX2.frozen 3
  have z4 := hX2.frozen 4
  obtain ⟨Y, hY, hC, hS, hBY⟩ := rdo_own HBV.out HX.out HE.out HRes.out o2 bb2
  have HY := Lib.hid hY
  have HC := Lib.hid hC
  have HS := Lib.hid hS
  have HBY := Lib.hid hBY
  obtain ⟨base, hbase⟩ : ∃ base, V.heap.size = base := ⟨_, rfl⟩
  rw [hbase] at HC HS
  clear HX HE HRes o2 bb2 hX2 hC hS hBY hY HRV HBV hbase
  go_upto_region 2 with fail
  rw [HY.out]
  clear HY k0 k1 k2 k3 k4 z0 z1 z2 z3 z4
  obtain ⟨e0, e1, e2, e3, e4⟩ := HC.out.cells
  go_wp2_with fail
  refine (HRt.out _ _ _ HC.out.rd).mono ?_
  rintro e5 V3 ⟨rfl, bb3⟩
  have HC3 := Lib.hid (HC.out.under bb3)
  have HS3 := Lib.hid (HS.out.but (Below.but (bb3.mono HC.out.le)))
  have HB3 := Lib.hid (HBY.out.trans (bb3.mono HBY.out.size))
  clear HC HS HBY bb3 e0 e1 e2 e3 e4 HRt
  obtain ⟨d0, d1, d2, d3, d4⟩ := HC3.out.cells
  obtain ⟨v0, v1, v2⟩ := HS3.out.ev.cells
  go_upto_region 4 with fail
  go_wp2_with fail
  refine (findL (l := x.l) (fl := x.fl) (dr := x.dr) (nw := x.nw) (tg := x.tg) (n := n) (id := e.a) hf (by omega) _ _ _ HC3.out.rd).mono ?_
  rintro e6 V4 ⟨rfl, bb4⟩
  have HC := Lib.hid (HC3.out.under bb4)
  have HS := Lib.hid (HS3.out.but (Below.but (bb4.mono HC3.out.le)))
  have HB := Lib.hid (HB3.out.trans (bb4.mono HB3.out.size))
  clear HC3 HS3 HB3 bb4 d0 d1 d2 d3 d4 v0 v1 v2 hf
  obtain ⟨v0, v1, v2⟩ := HS.out.ev.cells
  obtain ⟨d0, d1, d2, d3, d4⟩ := HC.out.cells
  have k0 := HS.out.res.cell 0
  have k1 := HS.out.res.cell 1
  have k2 := HS.out.res.cell 2
  have k3 := HS.out.res.cell 3
  have k4 := HS.out.res.cell 4
  simp only [List.getElem?_toArray, List.getElem?_cons_zero, List.getElem?_cons_succ] at k0 k1 k2 k3 k4
  have z0 := HS.out.res.frozen 0
  have z1 := HS.out.res.frozen 1
  have z2 := HS.out.res.frozen 2
  have z3 := HS.out.res.frozen 3
  have z4 := HS.out.res.frozen 4
  go_wp2_with fail
  obtain ⟨Z, hZ, q1, q2, q3⟩ := fin5 (A := A2) (n := n) (c := c2) (x := x) (base := w.heap.size) HS.out.res (own_weaker HC.out.row (by have := HC.out.lt; omega)) HB.out (by omega)
  rw [hZ]
  have j0 := q1.cell 0
  have j1 := q1.cell 1
  have j2 := q1.cell 2
  have j3 := q1.cell 3
  have j4 := q1.cell 4
  simp only [List.getElem?_toArray, List.getElem?_cons_zero, List.getElem?_cons_succ] at j0 j1 j2 j3 j4
  refine bodyPost_ret (v := .agg #[.slice A2 n c2, .int .i64 (x).fl, .int .i64 (x).dr, .int .i64 (x).nw, .bool (x).tg]) (by simp [results, Try.results11, go_sem, j0, j1, j2, j3, j4]) rfl ?_
  exact ⟨_, _, _, rfl, q2, q3⟩

set_option maxRecDepth 100000 in
set_option maxHeartbeats 4000000 in
theorem rdo_die1 (hr : RdX w w.heap.size A n x.l) (hn : n ≤ 1000) (hk : e.kind = 1) (hR : right x = true) {j : Nat} {y : Bx} (hf0 : find x.l e.a = some j) (hx : x.l[j]? = some y) :
    Calls Try.prog 11 #[.agg #[.slice A n c, .int .i64 x.fl, .int .i64 x.dr, .int .i64 x.nw, .bool x.tg], .agg #[.int .u8 e.kind, .int .i64 e.a, .int .i64 e.b]] w (CwPost { x with l := x.l.set j (goneB y) } w) := by
  have q1 : (e.kind == 1) = true := by rw [hk]; rfl
  clear hk
  have hf : placeI (find x.l e.a) = (j : Int) := by rw [hf0]; rfl
  have HXj := Lib.hid hx
  have hj0 : decide ((0 : Int) ≤ (j : Int)) = true := decide_eq_true (by omega)
  have hji : (j : Int) < (n : Int) := by have h1 := (List.getElem?_eq_some_iff.1 hx).1; have h2 := hr.len; omega
  clear hf0 hx
  obtain ⟨V, hV, hX, he, hres, hsV, hbV, hrV⟩ := rdo_start (c := c) (e := e) hr
  have HX := Lib.hid hX
  have HE := Lib.hid he
  have HRes := Lib.hid hres
  have HBV := Lib.hid hbV
  have HRV := Lib.hid (hrV.more hbV.size)
  have HVe := Lib.hid hV
  have HRt := Lib.hid (fun W A c hr => rightL (l := x.l) (fl := x.fl) (dr := x.dr) (nw := x.nw) (tg := x.tg) (n := n) (b := true) hR W A c hr)
  clear hX he hres hsV hbV hrV hr hV hR
  go_enter Try.func11, Try.ntmps11
  go_upto_region 1 with fail
  rw [HVe.out]
  clear HVe
  have d0 := HX.out.cell 0
  have d1 := HX.out.cell 1
  have d2 := HX.out.cell 2
  have d3 := HX.out.cell 3
  have d4 := HX.out.cell 4
  simp only [List.getElem?_toArray, List.getElem?_cons_zero, List.getElem?_cons_succ] at d0 d1 d2 d3 d4
  have f0 := HX.out.frozen 0
  have f1 := HX.out.frozen 1
  have f2 := HX.out.frozen 2
  have f3 := HX.out.frozen 3
  have f4 := HX.out.frozen 4
  go_wp2_with fail
  refine (refOwn_any A n c x V.heap.size V HRV.out (Nat.le_refl _) hn).mono ?_
  rintro e2 V2 ⟨A2, c2, rfl, o2, bb2⟩
  unfold cwV
  clear d0 d1 d2 d3 d4 f0 f1 f2 f3 f4
  have hX2 := HX.out.under bb2
  have k0 := hX2.cell 0
  have k1 := hX2.cell 1
  have k2 := hX2.cell 2
  have k3 := hX2.cell 3
  have k4 := hX2.cell 4
  simp only [List.getElem?_toArray, List.getElem?_cons_zero, List.getElem?_cons_succ] at k0 k1 k2 k3 k4
  have z0 := hX2.frozen 0
  have z1 := hX2.frozen 1
  have z2 := hX2.frozen 2
  have z3 := hX2.frozen 3
  have z4 := hX2.frozen 4
  obtain ⟨Y, hY, hC, hS, hBY⟩ := rdo_own HBV.out HX.out HE.out HRes.out o2 bb2
  have HY := Lib.hid hY
  have HC := Lib.hid hC
  have HS := Lib.hid hS
  have HBY := Lib.hid hBY
  obtain ⟨base, hbase⟩ : ∃ base, V.heap.size = base := ⟨_, rfl⟩
  rw [hbase] at HC HS
  clear HX HE HRes o2 bb2 hX2 hC hS hBY hY HRV HBV hbase
  go_upto_region 2 with fail
  rw [HY.out]
  clear HY k0 k1 k2 k3 k4 z0 z1 z2 z3 z4
  obtain ⟨e0, e1, e2, e3, e4⟩ := HC.out.cells
  go_wp2_with fail
  refine (HRt.out _ _ _ HC.out.rd).mono ?_
  rintro e5 V3 ⟨rfl, bb3⟩
  have HC3 := Lib.hid (HC.out.under bb3)
  have HS3 := Lib.hid (HS.out.but (Below.but (bb3.mono HC.out.le)))
  have HB3 := Lib.hid (HBY.out.trans (bb3.mono HBY.out.size))
  clear HC HS HBY bb3 e0 e1 e2 e3 e4 HRt
  obtain ⟨d0, d1, d2, d3, d4⟩ := HC3.out.cells
  obtain ⟨v0, v1, v2⟩ := HS3.out.ev.cells
  go_upto_region 4 with fail
  go_wp2_with fail
  refine (findL (l := x.l) (fl := x.fl) (dr := x.dr) (nw := x.nw) (tg := x.tg) (n := n) (id := e.a) hf (by omega) _ _ _ HC3.out.rd).mono ?_
  rintro e6 V4 ⟨rfl, bb4⟩
  have HC := Lib.hid (HC3.out.under bb4)
  have HS := Lib.hid (HS3.out.but (Below.but (bb4.mono HC3.out.le)))
  have HB := Lib.hid (HB3.out.trans (bb4.mono HB3.out.size))
  clear HC3 HS3 HB3 bb4 d0 d1 d2 d3 d4 v0 v1 v2 hf
  obtain ⟨v0, v1, v2⟩ := HS.out.ev.cells
  obtain ⟨g, rfl, hbg, _⟩ := HC.out.form HXj.out
  have HBg := Lib.hid hbg
  clear hbg
  go_upto_region 8 with fail
  clear v0 v1 v2
  have d0 := HC.out.cells.1
  obtain ⟨b0, b1, b2, b3, b4, b5, b6, b7, b8, b9, b10⟩ := HC.out.at_ (y := y) HXj.out
  have fz := HC.out.frz (j * 11 + 6)
  go_upto_region 9 with fail
  have hs := HC.out.set (y := y) HXj.out (i := 6) (by omega) (u := .bool true) (y' := { y with gone := true }) rfl
  have hsB := BelowBut.grown (BelowBut.refl base w.heap.size V4) hs.2 HBg.out HC.out.le
  obtain ⟨Y1, hY⟩ : ∃ Y, V4.setCell ⟨g, j * 11 + 6, none⟩ (.bool true) = Y := ⟨_, rfl⟩
  rw [hY] at hs hsB ⊢
  have HC_ := Lib.hid hs.1
  have HS_ := Lib.hid (HS.out.but hsB)
  have HB_ := Lib.hid (HB.out.trans (hsB.below (Nat.le_of_lt HC.out.lt) (Nat.le_refl _)))
  clear HC HS HB hs hsB hY d0 b0 b1 b2 b3 b4 b5 b6 b7 b8 b9 b10 fz
  have HC := HC_
  have HS := HS_
  have HB := HB_
  clear HC_ HS_ HB_
  have d0 := HC.out.cells.1
  obtain ⟨b0, b1, b2, b3, b4, b5, b6, b7, b8, b9, b10⟩ := HC.out.at_ (y := { y with gone := true }) (set_at HXj.out)
  have fz := HC.out.frz (j * 11 + 5)
  go_upto_region 10 with fail
  have hs := HC.out.set (y := { y with gone := true }) (set_at HXj.out) (i := 5) (by omega) (u := .bool false) (y' := { y with gone := true, on := false }) rfl
  have hsB := BelowBut.grown (BelowBut.refl base w.heap.size Y1) hs.2 HBg.out HC.out.le
  obtain ⟨Y2, hY⟩ : ∃ Y, Y1.setCell ⟨g, j * 11 + 5, none⟩ (.bool false) = Y := ⟨_, rfl⟩
  rw [hY] at hs hsB ⊢
  have HC_ := Lib.hid hs.1
  have HS_ := Lib.hid (HS.out.but hsB)
  have HB_ := Lib.hid (HB.out.trans (hsB.below (Nat.le_of_lt HC.out.lt) (Nat.le_refl _)))
  clear HC HS HB hs hsB hY d0 b0 b1 b2 b3 b4 b5 b6 b7 b8 b9 b10 fz
  have HC := HC_
  have HS := HS_
  have HB := HB_
  clear HC_ HS_ HB_
  simp only [List.set_set] at HC
  have d0 := HC.out.cells.1
  obtain ⟨b0, b1, b2, b3, b4, b5, b6, b7, b8, b9, b10⟩ := HC.out.at_ (y := { y with gone := true, on := false }) (set_at HXj.out)
  have fz := HC.out.frz (j * 11 + 8)
  go_upto_region 23 with fail
  have hs := HC.out.set (y := { y with gone := true, on := false }) (set_at HXj.out) (i := 8) (by omega) (u := .int .u8 0) (y' := goneB y) rfl
  have hsB := BelowBut.grown (BelowBut.refl base w.heap.size Y2) hs.2 HBg.out HC.out.le
  obtain ⟨Y3, hY⟩ : ∃ Y, Y2.setCell ⟨g, j * 11 + 8, none⟩ (.int .u8 0) = Y := ⟨_, rfl⟩
  rw [hY] at hs hsB ⊢
  have HC_ := Lib.hid hs.1
  have HS_ := Lib.hid (HS.out.but hsB)
  have HB_ := Lib.hid (HB.out.trans (hsB.below (Nat.le_of_lt HC.out.lt) (Nat.le_refl _)))
  clear HC HS HB hs hsB hY d0 b0 b1 b2 b3 b4 b5 b6 b7 b8 b9 b10 fz
  have HC := HC_
  have HS := HS_
  have HB := HB_
  clear HC_ HS_ HB_
  simp only [List.set_set] at HC
  obtain ⟨d0, d1, d2, d3, d4⟩ := HC.out.cells
  have k0 := HS.out.res.cell 0
  have k1 := HS.out.res.cell 1
  have k2 := HS.out.res.cell 2
  have k3 := HS.out.res.cell 3
  have k4 := HS.out.res.cell 4
  simp only [List.getElem?_toArray, List.getElem?_cons_zero, List.getElem?_cons_succ] at k0 k1 k2 k3 k4
  have z0 := HS.out.res.frozen 0
  have z1 := HS.out.res.frozen 1
  have z2 := HS.out.res.frozen 2
  have z3 := HS.out.res.frozen 3
  have z4 := HS.out.res.frozen 4
  go_wp2_with fail
  obtain ⟨Z, hZ, q1, q2, q3⟩ := fin5 (A := (some ⟨g, 0, none⟩)) (n := n) (c := c2) (x := { x with l := x.l.set j (goneB y) }) (base := w.heap.size) HS.out.res (own_weaker HC.out.row (by have := HC.out.lt; omega)) HB.out (by omega)
  rw [hZ]
  have j0 := q1.cell 0
  have j1 := q1.cell 1
  have j2 := q1.cell 2
  have j3 := q1.cell 3
  have j4 := q1.cell 4
  simp only [List.getElem?_toArray, List.getElem?_cons_zero, List.getElem?_cons_succ] at j0 j1 j2 j3 j4
  refine bodyPost_ret (v := .agg #[.slice (some ⟨g, 0, none⟩) n c2, .int .i64 ({ x with l := x.l.set j (goneB y) }).fl, .int .i64 ({ x with l := x.l.set j (goneB y) }).dr, .int .i64 ({ x with l := x.l.set j (goneB y) }).nw, .bool ({ x with l := x.l.set j (goneB y) }).tg]) (by simp [results, Try.results11, go_sem, j0, j1, j2, j3, j4]) rfl ?_
  exact ⟨_, _, _, rfl, q2, q3⟩

set_option maxRecDepth 100000 in
set_option maxHeartbeats 4000000 in
theorem rdo_flip1 (hr : RdX w w.heap.size A n x.l) (hn : n ≤ 1000) (hk : e.kind = 2) (hR : right x = true) {j : Nat} {y : Bx} (hf0 : find x.l e.a = some j) (hx : x.l[j]? = some y) :
    Calls Try.prog 11 #[.agg #[.slice A n c, .int .i64 x.fl, .int .i64 x.dr, .int .i64 x.nw, .bool x.tg], .agg #[.int .u8 e.kind, .int .i64 e.a, .int .i64 e.b]] w (CwPost { x with l := x.l.set j (flipB y) } w) := by
  have q1 : (e.kind == 1) = false := by rw [hk]; rfl
  have q2 : (e.kind == 2) = true := by rw [hk]; rfl
  clear hk
  have hf : placeI (find x.l e.a) = (j : Int) := by rw [hf0]; rfl
  have HXj := Lib.hid hx
  have hj0 : decide ((0 : Int) ≤ (j : Int)) = true := decide_eq_true (by omega)
  have hji : (j : Int) < (n : Int) := by have h1 := (List.getElem?_eq_some_iff.1 hx).1; have h2 := hr.len; omega
  clear hf0 hx
  obtain ⟨V, hV, hX, he, hres, hsV, hbV, hrV⟩ := rdo_start (c := c) (e := e) hr
  have HX := Lib.hid hX
  have HE := Lib.hid he
  have HRes := Lib.hid hres
  have HBV := Lib.hid hbV
  have HRV := Lib.hid (hrV.more hbV.size)
  have HVe := Lib.hid hV
  have HRt := Lib.hid (fun W A c hr => rightL (l := x.l) (fl := x.fl) (dr := x.dr) (nw := x.nw) (tg := x.tg) (n := n) (b := true) hR W A c hr)
  clear hX he hres hsV hbV hrV hr hV hR
  go_enter Try.func11, Try.ntmps11
  go_upto_region 1 with fail
  rw [HVe.out]
  clear HVe
  have d0 := HX.out.cell 0
  have d1 := HX.out.cell 1
  have d2 := HX.out.cell 2
  have d3 := HX.out.cell 3
  have d4 := HX.out.cell 4
  simp only [List.getElem?_toArray, List.getElem?_cons_zero, List.getElem?_cons_succ] at d0 d1 d2 d3 d4
  have f0 := HX.out.frozen 0
  have f1 := HX.out.frozen 1
  have f2 := HX.out.frozen 2
  have f3 := HX.out.frozen 3
  have f4 := HX.out.frozen 4
  go_wp2_with fail
  refine (refOwn_any A n c x V.heap.size V HRV.out (Nat.le_refl _) hn).mono ?_
  rintro e2 V2 ⟨A2, c2, rfl, o2, bb2⟩
  unfold cwV
  clear d0 d1 d2 d3 d4 f0 f1 f2 f3 f4
  have hX2 := HX.out.under bb2
  have k0 := hX2.cell 0
  have k1 := hX2.cell 1
  have k2 := hX2.cell 2
  have k3 := hX2.cell 3
  have k4 := hX2.cell 4
  simp only [List.getElem?_toArray, List.getElem?_cons_zero, List.getElem?_cons_succ] at k0 k1 k2 k3 k4
  have z0 := hX2.frozen 0
  have z1 := hX2.frozen 1
  have z2 := hX2.frozen 2
  have z3 := hX2.frozen 3
  have z4 := hX2.frozen 4
  obtain ⟨Y, hY, hC, hS, hBY⟩ := rdo_own HBV.out HX.out HE.out HRes.out o2 bb2
  have HY := Lib.hid hY
  have HC := Lib.hid hC
  have HS := Lib.hid hS
  have HBY := Lib.hid hBY
  obtain ⟨base, hbase⟩ : ∃ base, V.heap.size = base := ⟨_, rfl⟩
  rw [hbase] at HC HS
  clear HX HE HRes o2 bb2 hX2 hC hS hBY hY HRV HBV hbase
  go_upto_region 2 with fail
  rw [HY.out]
  clear HY k0 k1 k2 k3 k4 z0 z1 z2 z3 z4
  obtain ⟨e0, e1, e2, e3, e4⟩ := HC.out.cells
  go_wp2_with fail
  refine (HRt.out _ _ _ HC.out.rd).mono ?_
  rintro e5 V3 ⟨rfl, bb3⟩
  have HC3 := Lib.hid (HC.out.under bb3)
  have HS3 := Lib.hid (HS.out.but (Below.but (bb3.mono HC.out.le)))
  have HB3 := Lib.hid (HBY.out.trans (bb3.mono HBY.out.size))
  clear HC HS HBY bb3 e0 e1 e2 e3 e4 HRt
  obtain ⟨d0, d1, d2, d3, d4⟩ := HC3.out.cells
  obtain ⟨v0, v1, v2⟩ := HS3.out.ev.cells
  go_upto_region 4 with fail
  go_wp2_with fail
  refine (findL (l := x.l) (fl := x.fl) (dr := x.dr) (nw := x.nw) (tg := x.tg) (n := n) (id := e.a) hf (by omega) _ _ _ HC3.out.rd).mono ?_
  rintro e6 V4 ⟨rfl, bb4⟩
  have HC := Lib.hid (HC3.out.under bb4)
  have HS := Lib.hid (HS3.out.but (Below.but (bb4.mono HC3.out.le)))
  have HB := Lib.hid (HB3.out.trans (bb4.mono HB3.out.size))
  clear HC3 HS3 HB3 bb4 d0 d1 d2 d3 d4 v0 v1 v2 hf
  obtain ⟨v0, v1, v2⟩ := HS.out.ev.cells
  obtain ⟨g, rfl, hbg, _⟩ := HC.out.form HXj.out
  have HBg := Lib.hid hbg
  clear hbg
  go_upto_region 13 with fail
  clear v0 v1 v2
  have d0 := HC.out.cells.1
  have b7 := (HC.out.at_ HXj.out).c7
  have fz := HC.out.frz (j * 11 + 7)
  have d0' : V4.drew.cell? ⟨w.heap.size, 0, none⟩ = some (.slice (some ⟨g, 0, none⟩) n c2) := d0
  have b7' : V4.drew.cell? ⟨g, j * 11 + 7, none⟩ = some (.bool y.well) := b7
  have fz' : V4.drew.frozen? ⟨g, j * 11 + 7, none⟩ = false := fz
  have hs := HC.out.set HXj.out (i := 7) (by omega) (u := .bool (!y.well)) (y' := flipB y) rfl
  have hsB := (BelowBut.grown (BelowBut.refl base w.heap.size V4) hs.2 HBg.out HC.out.le).on (Below.refl _ _).drew HC.out.le
  have HCr := Lib.hid d0'
  have HC_ := Lib.hid (hs.1.under (Below.refl _ _).drew)
  have HCs := Lib.hid HC_.out.cells.1
  have HS_ := Lib.hid (HS.out.but hsB)
  have HB_ := Lib.hid (HB.out.trans (hsB.below (Nat.le_of_lt HC.out.lt) (Nat.le_refl _)))
  clear HC HS HB hs hsB d0 b7 fz
  refine wp_region_held_drew (S := fun V => V.cell? ⟨w.heap.size, 0, none⟩ = some (.slice (some ⟨g, 0, none⟩) n c2)) (by kernel_rfl) HCr.out (fun _ => ?_)
  refine takeH (i := 0) (v := ?_) rfl (by kernel_rfl) (by kernel_rfl) (by kernel_rfl) (fun _ _ _ h => h) (by rfl) ?_ HCr.out ?_
  rotate_left
  · intro V d0; go_simp <;> with_reducible rfl
  simp only [Act.put, List.setIfInBounds_toArray, List.set_cons_zero, List.set_cons_succ]
  refine takeH (i := 1) (v := ?_) rfl (by kernel_rfl) (by kernel_rfl) (by kernel_rfl) (fun _ _ _ h => h) (by rfl) ?_ HCr.out ?_
  rotate_left
  · intro V d0; go_simp <;> with_reducible rfl
  simp only [Act.put, List.setIfInBounds_toArray, List.set_cons_zero, List.set_cons_succ]
  refine takeH (i := 2) (v := ?_) rfl (by kernel_rfl) (by kernel_rfl) (by kernel_rfl) (fun _ _ _ h => h) (by rfl) ?_ HCr.out ?_
  rotate_left
  · intro V d0; go_simp <;> with_reducible rfl
  simp only [Act.put, List.setIfInBounds_toArray, List.set_cons_zero, List.set_cons_succ]
  refine takeH (i := 3) (v := ?_) rfl (by kernel_rfl) (by kernel_rfl) (by kernel_rfl) (fun _ _ _ h => h) (by rfl) ?_ HCr.out ?_
  rotate_left
  · intro V d0; go_simp <;> with_reducible rfl
  simp only [Act.put, List.setIfInBounds_toArray, List.set_cons_zero, List.set_cons_succ]
  refine takeH (i := 4) (v := ?_) rfl (by kernel_rfl) (by kernel_rfl) (by kernel_rfl) (fun _ _ _ h => h) (by rfl) ?_ HCr.out ?_
  rotate_left
  · intro V d0; go_simp <;> with_reducible rfl
  simp only [Act.put, List.setIfInBounds_toArray, List.set_cons_zero, List.set_cons_succ]
  refine takeH (i := 5) (v := ?_) rfl (by kernel_rfl) (by kernel_rfl) (by kernel_rfl) (fun _ _ _ h => h) (by rfl) ?_ HCr.out ?_
  rotate_left
  · intro V d0; go_simp <;> with_reducible rfl
  simp only [Act.put, List.setIfInBounds_toArray, List.set_cons_zero, List.set_cons_succ]
  refine takeH (i := 6) (v := ?_) rfl (by kernel_rfl) (by kernel_rfl) (by kernel_rfl) (fun _ _ _ h => h) (by rfl) ?_ HCr.out ?_
  rotate_left
  · intro V d0; go_simp <;> with_reducible rfl
  simp only [Act.put, List.setIfInBounds_toArray, List.set_cons_zero, List.set_cons_succ]
  refine takeH (i := 7) (v := ?_) rfl (by kernel_rfl) (by kernel_rfl) (by kernel_rfl) (fun _ _ _ h => h) (by rfl) ?_ HCr.out ?_
  rotate_left
  · intro V d0; go_simp <;> with_reducible rfl
  simp only [Act.put, List.setIfInBounds_toArray, List.set_cons_zero, List.set_cons_succ]
  refine oneH (i := 8) rfl (by kernel_rfl) (by rfl) (fun K hK => ?_)
  go_simp
  refine hK.out _ _ HCr.out (fun _ => ?_)
  clear hK K
  refine takeH (i := 9) (v := ?_) rfl (by kernel_rfl) (by kernel_rfl) (by kernel_rfl) (fun _ _ _ h => h) (by rfl) ?_ HCr.out ?_
  rotate_left
  · intro V d0; go_simp <;> with_reducible rfl
  simp only [Act.put, List.setIfInBounds_toArray, List.set_cons_zero, List.set_cons_succ]
  refine takeH (i := 10) (v := ?_) rfl (by kernel_rfl) (by kernel_rfl) (by kernel_rfl) (fun _ _ _ h => h) (by rfl) ?_ HCr.out ?_
  rotate_left
  · intro V d0; go_simp <;> with_reducible rfl
  simp only [Act.put, List.setIfInBounds_toArray, List.set_cons_zero, List.set_cons_succ]
  refine takeH (i := 11) (v := ?_) rfl (by kernel_rfl) (by kernel_rfl) (by kernel_rfl) (fun _ _ _ h => h) (by rfl) ?_ HCr.out ?_
  rotate_left
  · intro V d0; go_simp <;> with_reducible rfl
  simp only [Act.put, List.setIfInBounds_toArray, List.set_cons_zero, List.set_cons_succ]
  refine oneH (i := 12) rfl (by kernel_rfl) (by rfl) (fun K hK => ?_)
  go_simp
  refine hK.out _ _ HCs.out (fun _ => ?_)
  clear hK K
  refine wpAnyH_done (by kernel_rfl) ?_ _
  obtain ⟨Y, hY⟩ : ∃ Y, (V4.setCell ⟨g, j * 11 + 7, none⟩ (.bool (!y.well))).drew = Y := ⟨_, rfl⟩
  rw [hY] at HC_ HS_ HB_ ⊢
  clear hY HCr HCs d0' b7' fz'
  obtain ⟨d0, d1, d2, d3, d4⟩ := HC_.out.cells
  have k0 := HS_.out.res.cell 0
  have k1 := HS_.out.res.cell 1
  have k2 := HS_.out.res.cell 2
  have k3 := HS_.out.res.cell 3
  have k4 := HS_.out.res.cell 4
  simp only [List.getElem?_toArray, List.getElem?_cons_zero, List.getElem?_cons_succ] at k0 k1 k2 k3 k4
  have z0 := HS_.out.res.frozen 0
  have z1 := HS_.out.res.frozen 1
  have z2 := HS_.out.res.frozen 2
  have z3 := HS_.out.res.frozen 3
  have z4 := HS_.out.res.frozen 4
  go_wp2_with fail
  obtain ⟨Z, hZ, q1, q2, q3⟩ := fin5 (A := (some ⟨g, 0, none⟩)) (n := n) (c := c2) (x := { x with l := x.l.set j (flipB y) }) (base := w.heap.size) HS_.out.res (own_weaker HC_.out.row (by have := HC_.out.lt; omega)) HB_.out (by omega)
  rw [hZ]
  have j0 := q1.cell 0
  have j1 := q1.cell 1
  have j2 := q1.cell 2
  have j3 := q1.cell 3
  have j4 := q1.cell 4
  simp only [List.getElem?_toArray, List.getElem?_cons_zero, List.getElem?_cons_succ] at j0 j1 j2 j3 j4
  refine bodyPost_ret (v := .agg #[.slice (some ⟨g, 0, none⟩) n c2, .int .i64 ({ x with l := x.l.set j (flipB y) }).fl, .int .i64 ({ x with l := x.l.set j (flipB y) }).dr, .int .i64 ({ x with l := x.l.set j (flipB y) }).nw, .bool ({ x with l := x.l.set j (flipB y) }).tg]) (by simp [results, Try.results11, go_sem, j0, j1, j2, j3, j4]) rfl ?_
  exact ⟨_, _, _, rfl, q2, q3⟩

set_option maxRecDepth 100000 in
set_option maxHeartbeats 4000000 in
theorem rdo_stray (hr : RdX w w.heap.size A n x.l) (hn : n ≤ 1000) (hk : e.kind = 3) (hR : right x = true)  :
    Calls Try.prog 11 #[.agg #[.slice A n c, .int .i64 x.fl, .int .i64 x.dr, .int .i64 x.nw, .bool x.tg], .agg #[.int .u8 e.kind, .int .i64 e.a, .int .i64 e.b]] w (CwPost (strayC x e.a (e.b != 0)) w) := by
  have q1 : (e.kind == 1) = false := by rw [hk]; rfl
  have q2 : (e.kind == 2) = false := by rw [hk]; rfl
  have q3 : (e.kind == 3) = true := by rw [hk]; rfl
  clear hk
  obtain ⟨r, hf⟩ : ∃ r, placeI (find x.l e.a) = r := ⟨_, rfl⟩
  obtain ⟨T, hT⟩ : ∃ T, (e.b != 0) = T := ⟨_, rfl⟩
  rw [hT]
  obtain ⟨V, hV, hX, he, hres, hsV, hbV, hrV⟩ := rdo_start (c := c) (e := e) hr
  have HX := Lib.hid hX
  have HE := Lib.hid he
  have HRes := Lib.hid hres
  have HBV := Lib.hid hbV
  have HRV := Lib.hid (hrV.more hbV.size)
  have HVe := Lib.hid hV
  have HRt := Lib.hid (fun W A c hr => rightL (l := x.l) (fl := x.fl) (dr := x.dr) (nw := x.nw) (tg := x.tg) (n := n) (b := true) hR W A c hr)
  clear hX he hres hsV hbV hrV hr hV hR
  go_enter Try.func11, Try.ntmps11
  go_upto_region 1 with fail
  rw [HVe.out]
  clear HVe
  have d0 := HX.out.cell 0
  have d1 := HX.out.cell 1
  have d2 := HX.out.cell 2
  have d3 := HX.out.cell 3
  have d4 := HX.out.cell 4
  simp only [List.getElem?_toArray, List.getElem?_cons_zero, List.getElem?_cons_succ] at d0 d1 d2 d3 d4
  have f0 := HX.out.frozen 0
  have f1 := HX.out.frozen 1
  have f2 := HX.out.frozen 2
  have f3 := HX.out.frozen 3
  have f4 := HX.out.frozen 4
  go_wp2_with fail
  refine (refOwn_any A n c x V.heap.size V HRV.out (Nat.le_refl _) hn).mono ?_
  rintro e2 V2 ⟨A2, c2, rfl, o2, bb2⟩
  unfold cwV
  clear d0 d1 d2 d3 d4 f0 f1 f2 f3 f4
  have hX2 := HX.out.under bb2
  have k0 := hX2.cell 0
  have k1 := hX2.cell 1
  have k2 := hX2.cell 2
  have k3 := hX2.cell 3
  have k4 := hX2.cell 4
  simp only [List.getElem?_toArray, List.getElem?_cons_zero, List.getElem?_cons_succ] at k0 k1 k2 k3 k4
  have z0 := hX2.frozen 0
  have z1 := hX2.frozen 1
  have z2 := hX2.frozen 2
  have z3 := hX2.frozen 3
  have z4 := hX2.frozen 4
  obtain ⟨Y, hY, hC, hS, hBY⟩ := rdo_own HBV.out HX.out HE.out HRes.out o2 bb2
  have HY := Lib.hid hY
  have HC := Lib.hid hC
  have HS := Lib.hid hS
  have HBY := Lib.hid hBY
  obtain ⟨base, hbase⟩ : ∃ base, V.heap.size = base := ⟨_, rfl⟩
  rw [hbase] at HC HS
  clear HX HE HRes o2 bb2 hX2 hC hS hBY hY HRV HBV hbase
  go_upto_region 2 with fail
  rw [HY.out]
  clear HY k0 k1 k2 k3 k4 z0 z1 z2 z3 z4
  obtain ⟨e0, e1, e2, e3, e4⟩ := HC.out.cells
  go_wp2_with fail
  refine (HRt.out _ _ _ HC.out.rd).mono ?_
  rintro e5 V3 ⟨rfl, bb3⟩
  have HC3 := Lib.hid (HC.out.under bb3)
  have HS3 := Lib.hid (HS.out.but (Below.but (bb3.mono HC.out.le)))
  have HB3 := Lib.hid (HBY.out.trans (bb3.mono HBY.out.size))
  clear HC HS HBY bb3 e0 e1 e2 e3 e4 HRt
  obtain ⟨d0, d1, d2, d3, d4⟩ := HC3.out.cells
  obtain ⟨v0, v1, v2⟩ := HS3.out.ev.cells
  go_upto_region 4 with fail
  go_wp2_with fail
  refine (findL (l := x.l) (fl := x.fl) (dr := x.dr) (nw := x.nw) (tg := x.tg) (n := n) (id := e.a) hf (by omega) _ _ _ HC3.out.rd).mono ?_
  rintro e6 V4 ⟨rfl, bb4⟩
  have HC := Lib.hid (HC3.out.under bb4)
  have HS := Lib.hid (HS3.out.but (Below.but (bb4.mono HC3.out.le)))
  have HB := Lib.hid (HB3.out.trans (bb4.mono HB3.out.size))
  clear HC3 HS3 HB3 bb4 d0 d1 d2 d3 d4 v0 v1 v2 hf
  obtain ⟨v0, v1, v2⟩ := HS.out.ev.cells
  obtain ⟨d0, d1, d2, d3, d4⟩ := HC.out.cells
  go_wp2_with fail
  refine (refStray_any (x := x) (ver := e.a) (T := T) HC.out.row HC.out.le).mono ?_
  rintro e7 V5 ⟨A5, n5, c5, rfl, o5, bb5⟩
  have HS5 := Lib.hid (HS.out.but (Below.but bb5))
  have HB5 := Lib.hid (HB.out.trans (bb5.mono (Nat.le_of_lt HC.out.lt)))
  have HO5 := Lib.hid (own_weaker (base := w.heap.size) o5 (Nat.le_of_lt HC.out.lt))
  clear HC HS HB o5 bb5 d0 d1 d2 d3 d4 v0 v1 v2
  have k0 := HS5.out.res.cell 0
  have k1 := HS5.out.res.cell 1
  have k2 := HS5.out.res.cell 2
  have k3 := HS5.out.res.cell 3
  have k4 := HS5.out.res.cell 4
  simp only [List.getElem?_toArray, List.getElem?_cons_zero, List.getElem?_cons_succ] at k0 k1 k2 k3 k4
  have z0 := HS5.out.res.frozen 0
  have z1 := HS5.out.res.frozen 1
  have z2 := HS5.out.res.frozen 2
  have z3 := HS5.out.res.frozen 3
  have z4 := HS5.out.res.frozen 4
  go_wp2_with fail
  obtain ⟨Z, hZ, q1, q2, q3⟩ := fin5 (A := A5) (n := n5) (c := c5) (x := (strayC x e.a T)) (base := w.heap.size) HS5.out.res HO5.out HB5.out (by omega)
  rw [hZ]
  have j0 := q1.cell 0
  have j1 := q1.cell 1
  have j2 := q1.cell 2
  have j3 := q1.cell 3
  have j4 := q1.cell 4
  simp only [List.getElem?_toArray, List.getElem?_cons_zero, List.getElem?_cons_succ] at j0 j1 j2 j3 j4
  refine bodyPost_ret (v := .agg #[.slice A5 n5 c5, .int .i64 ((strayC x e.a T)).fl, .int .i64 ((strayC x e.a T)).dr, .int .i64 ((strayC x e.a T)).nw, .bool ((strayC x e.a T)).tg]) (by simp [results, Try.results11, go_sem, j0, j1, j2, j3, j4]) rfl ?_
  exact ⟨_, _, _, rfl, q2, q3⟩

set_option maxRecDepth 100000 in
set_option maxHeartbeats 4000000 in
theorem rdo_tick (hr : RdX w w.heap.size A n x.l) (hn : n ≤ 1000) (hk : e.kind = 5) (hR : right x = true) (h0 : 0 ≤ x.nw) :
    Calls Try.prog 11 #[.agg #[.slice A n c, .int .i64 x.fl, .int .i64 x.dr, .int .i64 x.nw, .bool x.tg], .agg #[.int .u8 e.kind, .int .i64 e.a, .int .i64 e.b]] w (CwPost (tickC x) w) := by
  have q1 : (e.kind == 1) = false := by rw [hk]; rfl
  have q2 : (e.kind == 2) = false := by rw [hk]; rfl
  have q3 : (e.kind == 3) = false := by rw [hk]; rfl
  have q4 : (e.kind == 4) = false := by rw [hk]; rfl
  have q5 : (e.kind == 5) = true := by rw [hk]; rfl
  clear hk
  obtain ⟨r, hf⟩ : ∃ r, placeI (find x.l e.a) = r := ⟨_, rfl⟩
  obtain ⟨V, hV, hX, he, hres, hsV, hbV, hrV⟩ := rdo_start (c := c) (e := e) hr
  have HX := Lib.hid hX
  have HE := Lib.hid he
  have HRes := Lib.hid hres
  have HBV := Lib.hid hbV
  have HRV := Lib.hid (hrV.more hbV.size)
  have HVe := Lib.hid hV
  have HRt := Lib.hid (fun W A c hr => rightL (l := x.l) (fl := x.fl) (dr := x.dr) (nw := x.nw) (tg := x.tg) (n := n) (b := true) hR W A c hr)
  clear hX he hres hsV hbV hrV hr hV hR
  go_enter Try.func11, Try.ntmps11
  go_upto_region 1 with fail
  rw [HVe.out]
  clear HVe
  have d0 := HX.out.cell 0
  have d1 := HX.out.cell 1
  have d2 := HX.out.cell 2
  have d3 := HX.out.cell 3
  have d4 := HX.out.cell 4
  simp only [List.getElem?_toArray, List.getElem?_cons_zero, List.getElem?_cons_succ] at d0 d1 d2 d3 d4
  have f0 := HX.out.frozen 0
  have f1 := HX.out.frozen 1
  have f2 := HX.out.frozen 2
  have f3 := HX.out.frozen 3
  have f4 := HX.out.frozen 4
  go_wp2_with fail
  refine (refOwn_any A n c x V.heap.size V HRV.out (Nat.le_refl _) hn).mono ?_
  rintro e2 V2 ⟨A2, c2, rfl, o2, bb2⟩
  unfold cwV
  clear d0 d1 d2 d3 d4 f0 f1 f2 f3 f4
  have hX2 := HX.out.under bb2
  have k0 := hX2.cell 0
  have k1 := hX2.cell 1
  have k2 := hX2.cell 2
  have k3 := hX2.cell 3
  have k4 := hX2.cell 4
  simp only [List.getElem?_toArray, List.getElem?_cons_zero, List.getElem?_cons_succ] at k0 k1 k2 k3 k4
  have z0 := hX2.frozen 0
  have z1 := hX2.frozen 1
  have z2 := hX2.frozen 2
  have z3 := hX2.frozen 3
  have z4 := hX2.frozen 4
  obtain ⟨Y, hY, hC, hS, hBY⟩ := rdo_own HBV.out HX.out HE.out HRes.out o2 bb2
  have HY := Lib.hid hY
  have HC := Lib.hid hC
  have HS := Lib.hid hS
  have HBY := Lib.hid hBY
  obtain ⟨base, hbase⟩ : ∃ base, V.heap.size = base := ⟨_, rfl⟩
  rw [hbase] at HC HS
  clear HX HE HRes o2 bb2 hX2 hC hS hBY hY HRV HBV hbase
  go_upto_region 2 with fail
  rw [HY.out]
  clear HY k0 k1 k2 k3 k4 z0 z1 z2 z3 z4
  obtain ⟨e0, e1, e2, e3, e4⟩ := HC.out.cells
  go_wp2_with fail
  refine (HRt.out _ _ _ HC.out.rd).mono ?_
  rintro e5 V3 ⟨rfl, bb3⟩
  have HC3 := Lib.hid (HC.out.under bb3)
  have HS3 := Lib.hid (HS.out.but (Below.but (bb3.mono HC.out.le)))
  have HB3 := Lib.hid (HBY.out.trans (bb3.mono HBY.out.size))
  clear HC HS HBY bb3 e0 e1 e2 e3 e4 HRt
  obtain ⟨d0, d1, d2, d3, d4⟩ := HC3.out.cells
  obtain ⟨v0, v1, v2⟩ := HS3.out.ev.cells
  go_upto_region 4 with fail
  go_wp2_with fail
  refine (findL (l := x.l) (fl := x.fl) (dr := x.dr) (nw := x.nw) (tg := x.tg) (n := n) (id := e.a) hf (by omega) _ _ _ HC3.out.rd).mono ?_
  rintro e6 V4 ⟨rfl, bb4⟩
  have HC := Lib.hid (HC3.out.under bb4)
  have HS := Lib.hid (HS3.out.but (Below.but (bb4.mono HC3.out.le)))
  have HB := Lib.hid (HB3.out.trans (bb4.mono HB3.out.size))
  clear HC3 HS3 HB3 bb4 d0 d1 d2 d3 d4 v0 v1 v2 hf
  obtain ⟨v0, v1, v2⟩ := HS.out.ev.cells
  obtain ⟨d0, d1, d2, d3, d4⟩ := HC.out.cells
  go_wp2_with fail
  refine (refTick_any (x := x) HC.out.row HC.out.le hn h0).mono ?_
  rintro e7 V5 ⟨A5, n5, c5, rfl, o5, bb5⟩
  have HS5 := Lib.hid (HS.out.but (Below.but bb5))
  have HB5 := Lib.hid (HB.out.trans (bb5.mono (Nat.le_of_lt HC.out.lt)))
  have HO5 := Lib.hid (own_weaker (base := w.heap.size) o5 (Nat.le_of_lt HC.out.lt))
  clear HC HS HB o5 bb5 d0 d1 d2 d3 d4 v0 v1 v2
  have k0 := HS5.out.res.cell 0
  have k1 := HS5.out.res.cell 1
  have k2 := HS5.out.res.cell 2
  have k3 := HS5.out.res.cell 3
  have k4 := HS5.out.res.cell 4
  simp only [List.getElem?_toArray, List.getElem?_cons_zero, List.getElem?_cons_succ] at k0 k1 k2 k3 k4
  have z0 := HS5.out.res.frozen 0
  have z1 := HS5.out.res.frozen 1
  have z2 := HS5.out.res.frozen 2
  have z3 := HS5.out.res.frozen 3
  have z4 := HS5.out.res.frozen 4
  go_wp2_with fail
  obtain ⟨Z, hZ, q1, q2, q3⟩ := fin5 (A := A5) (n := n5) (c := c5) (x := (tickC x)) (base := w.heap.size) HS5.out.res HO5.out HB5.out (by omega)
  rw [hZ]
  have j0 := q1.cell 0
  have j1 := q1.cell 1
  have j2 := q1.cell 2
  have j3 := q1.cell 3
  have j4 := q1.cell 4
  simp only [List.getElem?_toArray, List.getElem?_cons_zero, List.getElem?_cons_succ] at j0 j1 j2 j3 j4
  refine bodyPost_ret (v := .agg #[.slice A5 n5 c5, .int .i64 ((tickC x)).fl, .int .i64 ((tickC x)).dr, .int .i64 ((tickC x)).nw, .bool ((tickC x)).tg]) (by simp [results, Try.results11, go_sem, j0, j1, j2, j3, j4]) rfl ?_
  exact ⟨_, _, _, rfl, q2, q3⟩

set_option maxRecDepth 100000 in
set_option maxHeartbeats 4000000 in
theorem rdo_tight (hr : RdX w w.heap.size A n x.l) (hn : n ≤ 1000) (hk : e.kind = 4) (hR : right x = true)  :
    Calls Try.prog 11 #[.agg #[.slice A n c, .int .i64 x.fl, .int .i64 x.dr, .int .i64 x.nw, .bool x.tg], .agg #[.int .u8 e.kind, .int .i64 e.a, .int .i64 e.b]] w (CwPost { x with tg := !x.tg } w) := by
  have q1 : (e.kind == 1) = false := by rw [hk]; rfl
  have q2 : (e.kind == 2) = false := by rw [hk]; rfl
  have q3 : (e.kind == 3) = false := by rw [hk]; rfl
  have q4 : (e.kind == 4) = true := by rw [hk]; rfl
  clear hk
  obtain ⟨r, hf⟩ : ∃ r, placeI (find x.l e.a) = r := ⟨_, rfl⟩
  obtain ⟨V, hV, hX, he, hres, hsV, hbV, hrV⟩ := rdo_start (c := c) (e := e) hr
  have HX := Lib.hid hX
  have HE := Lib.hid he
  have HRes := Lib.hid hres
  have HBV := Lib.hid hbV
  have HRV := Lib.hid (hrV.more hbV.size)
  have HVe := Lib.hid hV
  have HRt := Lib.hid (fun W A c hr => rightL (l := x.l) (fl := x.fl) (dr := x.dr) (nw := x.nw) (tg := x.tg) (n := n) (b := true) hR W A c hr)
  clear hX he hres hsV hbV hrV hr hV hR
  go_enter Try.func11, Try.ntmps11
  go_upto_region 1 with fail
  rw [HVe.out]
  clear HVe
  have d0 := HX.out.cell 0
  have d1 := HX.out.cell 1
  have d2 := HX.out.cell 2
  have d3 := HX.out.cell 3
  have d4 := HX.out.cell 4
  simp only [List.getElem?_toArray, List.getElem?_cons_zero, List.getElem?_cons_succ] at d0 d1 d2 d3 d4
  have f0 := HX.out.frozen 0
  have f1 := HX.out.frozen 1
  have f2 := HX.out.frozen 2
  have f3 := HX.out.frozen 3
  have f4 := HX.out.frozen 4
  go_wp2_with fail
  refine (refOwn_any A n c x V.heap.size V HRV.out (Nat.le_refl _) hn).mono ?_
  rintro e2 V2 ⟨A2, c2, rfl, o2, bb2⟩
  unfold cwV
  clear d0 d1 d2 d3 d4 f0 f1 f2 f3 f4
  have hX2 := HX.out.under bb2
  have k0 := hX2.cell 0
  have k1 := hX2.cell 1
  have k2 := hX2.cell 2
  have k3 := hX2.cell 3
  have k4 := hX2.cell 4
  simp only [List.getElem?_toArray, List.getElem?_cons_zero, List.getElem?_cons_succ] at k0 k1 k2 k3 k4
  have z0 := hX2.frozen 0
  have z1 := hX2.frozen 1
  have z2 := hX2.frozen 2
  have z3 := hX2.frozen 3
  have z4 := hX2.frozen 4
  obtain ⟨Y, hY, hC, hS, hBY⟩ := rdo_own HBV.out HX.out HE.out HRes.out o2 bb2
  have HY := Lib.hid hY
  have HC := Lib.hid hC
  have HS := Lib.hid hS
  have HBY := Lib.hid hBY
  obtain ⟨base, hbase⟩ : ∃ base, V.heap.size = base := ⟨_, rfl⟩
  rw [hbase] at HC HS
  clear HX HE HRes o2 bb2 hX2 hC hS hBY hY HRV HBV hbase
  go_upto_region 2 with fail
  rw [HY.out]
  clear HY k0 k1 k2 k3 k4 z0 z1 z2 z3 z4
  obtain ⟨e0, e1, e2, e3, e4⟩ := HC.out.cells
  go_wp2_with fail
  refine (HRt.out _ _ _ HC.out.rd).mono ?_
  rintro e5 V3 ⟨rfl, bb3⟩
  have HC3 := Lib.hid (HC.out.under bb3)
  have HS3 := Lib.hid (HS.out.but (Below.but (bb3.mono HC.out.le)))
  have HB3 := Lib.hid (HBY.out.trans (bb3.mono HBY.out.size))
  clear HC HS HBY bb3 e0 e1 e2 e3 e4 HRt
  obtain ⟨d0, d1, d2, d3, d4⟩ := HC3.out.cells
  obtain ⟨v0, v1, v2⟩ := HS3.out.ev.cells
  go_upto_region 4 with fail
  go_wp2_with fail
  refine (findL (l := x.l) (fl := x.fl) (dr := x.dr) (nw := x.nw) (tg := x.tg) (n := n) (id := e.a) hf (by omega) _ _ _ HC3.out.rd).mono ?_
  rintro e6 V4 ⟨rfl, bb4⟩
  have HC := Lib.hid (HC3.out.under bb4)
  have HS := Lib.hid (HS3.out.but (Below.but (bb4.mono HC3.out.le)))
  have HB := Lib.hid (HB3.out.trans (bb4.mono HB3.out.size))
  clear HC3 HS3 HB3 bb4 d0 d1 d2 d3 d4 v0 v1 v2 hf
  obtain ⟨v0, v1, v2⟩ := HS.out.ev.cells
  obtain ⟨d0, d1, d2, d3, d4⟩ := HC.out.cells
  have f4 := HC.out.box.frozen 4
  go_upto_region 23 with fail
  have HC_ := Lib.hid (HC.out.setTg (!x.tg))
  have hsB := (BelowBut.refl base w.heap.size V4).set 4 (.bool (!x.tg))
  have HS_ := Lib.hid (HS.out.but hsB)
  have HB_ := Lib.hid (HB.out.trans (hsB.below (Nat.le_of_lt HC.out.lt) (Nat.le_refl _)))
  obtain ⟨Y, hY⟩ : ∃ Y, V4.setCell ⟨w.heap.size, 4, none⟩ (.bool (!x.tg)) = Y := ⟨_, rfl⟩
  rw [hY] at HC_ HS_ HB_ ⊢
  clear hY hsB HC HS HB d0 d1 d2 d3 d4 f4 v0 v1 v2
  obtain ⟨d0, d1, d2, d3, d4⟩ := HC_.out.cells
  have k0 := HS_.out.res.cell 0
  have k1 := HS_.out.res.cell 1
  have k2 := HS_.out.res.cell 2
  have k3 := HS_.out.res.cell 3
  have k4 := HS_.out.res.cell 4
  simp only [List.getElem?_toArray, List.getElem?_cons_zero, List.getElem?_cons_succ] at k0 k1 k2 k3 k4
  have z0 := HS_.out.res.frozen 0
  have z1 := HS_.out.res.frozen 1
  have z2 := HS_.out.res.frozen 2
  have z3 := HS_.out.res.frozen 3
  have z4 := HS_.out.res.frozen 4
  go_wp2_with fail
  obtain ⟨Z, hZ, q1, q2, q3⟩ := fin5 (A := A2) (n := n) (c := c2) (x := { x with tg := !x.tg }) (base := w.heap.size) HS_.out.res (own_weaker HC_.out.row (by have := HC_.out.lt; omega)) HB_.out (by omega)
  rw [hZ]
  have j0 := q1.cell 0
  have j1 := q1.cell 1
  have j2 := q1.cell 2
  have j3 := q1.cell 3
  have j4 := q1.cell 4
  simp only [List.getElem?_toArray, List.getElem?_cons_zero, List.getElem?_cons_succ] at j0 j1 j2 j3 j4
  refine bodyPost_ret (v := .agg #[.slice A2 n c2, .int .i64 ({ x with tg := !x.tg }).fl, .int .i64 ({ x with tg := !x.tg }).dr, .int .i64 ({ x with tg := !x.tg }).nw, .bool ({ x with tg := !x.tg }).tg]) (by simp [results, Try.results11, go_sem, j0, j1, j2, j3, j4]) rfl ?_
  exact ⟨_, _, _, rfl, q2, q3⟩

set_option maxRecDepth 100000 in
set_option maxHeartbeats 4000000 in
theorem rdo_floor0 (hr : RdX w w.heap.size A n x.l) (hn : n ≤ 1000) (hk : e.kind = 6) (hR : right x = true) (ha : isNum e.a = false) :
    Calls Try.prog 11 #[.agg #[.slice A n c, .int .i64 x.fl, .int .i64 x.dr, .int .i64 x.nw, .bool x.tg], .agg #[.int .u8 e.kind, .int .i64 e.a, .int .i64 e.b]] w (CwPost x w) := by
  have q1 : (e.kind == 1) = false := by rw [hk]; rfl
  have q2 : (e.kind == 2) = false := by rw [hk]; rfl
  have q3 : (e.kind == 3) = false := by rw [hk]; rfl
  have q4 : (e.kind == 4) = false := by rw [hk]; rfl
  have q5 : (e.kind == 5) = false := by rw [hk]; rfl
  have q6 : (e.kind == 6) = true := by rw [hk]; rfl
  clear hk
  obtain ⟨r, hf⟩ : ∃ r, placeI (find x.l e.a) = r := ⟨_, rfl⟩
  have HN1 := Lib.hid (fun W => refNumber_any e.a W)
  have HN2 := Lib.hid (fun W => refNumber_any e.b W)
  rw [ha] at HN1
  clear ha
  obtain ⟨V, hV, hX, he, hres, hsV, hbV, hrV⟩ := rdo_start (c := c) (e := e) hr
  have HX := Lib.hid hX
  have HE := Lib.hid he
  have HRes := Lib.hid hres
  have HBV := Lib.hid hbV
  have HRV := Lib.hid (hrV.more hbV.size)
  have HVe := Lib.hid hV
  have HRt := Lib.hid (fun W A c hr => rightL (l := x.l) (fl := x.fl) (dr := x.dr) (nw := x.nw) (tg := x.tg) (n := n) (b := true) hR W A c hr)
  clear hX he hres hsV hbV hrV hr hV hR
  go_enter Try.func11, Try.ntmps11
  go_upto_region 1 with fail
  rw [HVe.out]
  clear HVe
  have d0 := HX.out.cell 0
  have d1 := HX.out.cell 1
  have d2 := HX.out.cell 2
  have d3 := HX.out.cell 3
  have d4 := HX.out.cell 4
  simp only [List.getElem?_toArray, List.getElem?_cons_zero, List.getElem?_cons_succ] at d0 d1 d2 d3 d4
  have f0 := HX.out.frozen 0
  have f1 := HX.out.frozen 1
  have f2 := HX.out.frozen 2
  have f3 := HX.out.frozen 3
  have f4 := HX.out.frozen 4
  go_wp2_with fail
  refine (refOwn_any A n c x V.heap.size V HRV.out (Nat.le_refl _) hn).mono ?_
  rintro e2 V2 ⟨A2, c2, rfl, o2, bb2⟩
  unfold cwV
  clear d0 d1 d2 d3 d4 f0 f1 f2 f3 f4
  have hX2 := HX.out.under bb2
  have k0 := hX2.cell 0
  have k1 := hX2.cell 1
  have k2 := hX2.cell 2
  have k3 := hX2.cell 3
  have k4 := hX2.cell 4
  simp only [List.getElem?_toArray, List.getElem?_cons_zero, List.getElem?_cons_succ] at k0 k1 k2 k3 k4
  have z0 := hX2.frozen 0
  have z1 := hX2.frozen 1
  have z2 := hX2.frozen 2
  have z3 := hX2.frozen 3
  have z4 := hX2.frozen 4
  obtain ⟨Y, hY, hC, hS, hBY⟩ := rdo_own HBV.out HX.out HE.out HRes.out o2 bb2
  have HY := Lib.hid hY
  have HC := Lib.hid hC
  have HS := Lib.hid hS
  have HBY := Lib.hid hBY
  obtain ⟨base, hbase⟩ : ∃ base, V.heap.size = base := ⟨_, rfl⟩
  rw [hbase] at HC HS
  clear HX HE HRes o2 bb2 hX2 hC hS hBY hY HRV HBV hbase
  go_upto_region 2 with fail
  rw [HY.out]
  clear HY k0 k1 k2 k3 k4 z0 z1 z2 z3 z4
  obtain ⟨e0, e1, e2, e3, e4⟩ := HC.out.cells
  go_wp2_with fail
  refine (HRt.out _ _ _ HC.out.rd).mono ?_
  rintro e5 V3 ⟨rfl, bb3⟩
  have HC3 := Lib.hid (HC.out.under bb3)
  have HS3 := Lib.hid (HS.out.but (Below.but (bb3.mono HC.out.le)))
  have HB3 := Lib.hid (HBY.out.trans (bb3.mono HBY.out.size))
  clear HC HS HBY bb3 e0 e1 e2 e3 e4 HRt
  obtain ⟨d0, d1, d2, d3, d4⟩ := HC3.out.cells
  obtain ⟨v0, v1, v2⟩ := HS3.out.ev.cells
  go_upto_region 4 with fail
  go_wp2_with fail
  refine (findL (l := x.l) (fl := x.fl) (dr := x.dr) (nw := x.nw) (tg := x.tg) (n := n) (id := e.a) hf (by omega) _ _ _ HC3.out.rd).mono ?_
  rintro e6 V4 ⟨rfl, bb4⟩
  have HC := Lib.hid (HC3.out.under bb4)
  have HS := Lib.hid (HS3.out.but (Below.but (bb4.mono HC3.out.le)))
  have HB := Lib.hid (HB3.out.trans (bb4.mono HB3.out.size))
  clear HC3 HS3 HB3 bb4 d0 d1 d2 d3 d4 v0 v1 v2 hf
  obtain ⟨v0, v1, v2⟩ := HS.out.ev.cells
  go_wp2_with fail
  refine (HN1.out _).mono ?_; rintro e7 w7 ⟨rfl, rfl⟩
  obtain ⟨d0, d1, d2, d3, d4⟩ := HC.out.cells
  have k0 := HS.out.res.cell 0
  have k1 := HS.out.res.cell 1
  have k2 := HS.out.res.cell 2
  have k3 := HS.out.res.cell 3
  have k4 := HS.out.res.cell 4
  simp only [List.getElem?_toArray, List.getElem?_cons_zero, List.getElem?_cons_succ] at k0 k1 k2 k3 k4
  have z0 := HS.out.res.frozen 0
  have z1 := HS.out.res.frozen 1
  have z2 := HS.out.res.frozen 2
  have z3 := HS.out.res.frozen 3
  have z4 := HS.out.res.frozen 4
  go_wp2_with fail
  obtain ⟨Z, hZ, q1, q2, q3⟩ := fin5 (A := A2) (n := n) (c := c2) (x := x) (base := w.heap.size) HS.out.res (own_weaker HC.out.row (by have := HC.out.lt; omega)) HB.out (by omega)
  rw [hZ]
  have j0 := q1.cell 0
  have j1 := q1.cell 1
  have j2 := q1.cell 2
  have j3 := q1.cell 3
  have j4 := q1.cell 4
  simp only [List.getElem?_toArray, List.getElem?_cons_zero, List.getElem?_cons_succ] at j0 j1 j2 j3 j4
  refine bodyPost_ret (v := .agg #[.slice A2 n c2, .int .i64 (x).fl, .int .i64 (x).dr, .int .i64 (x).nw, .bool (x).tg]) (by simp [results, Try.results11, go_sem, j0, j1, j2, j3, j4]) rfl ?_
  exact ⟨_, _, _, rfl, q2, q3⟩

set_option maxRecDepth 100000 in
set_option maxHeartbeats 4000000 in
theorem rdo_floor1 (hr : RdX w w.heap.size A n x.l) (hn : n ≤ 1000) (hk : e.kind = 6) (hR : right x = true) (ha : isNum e.a = true) (hb : isNum e.b = false) :
    Calls Try.prog 11 #[.agg #[.slice A n c, .int .i64 x.fl, .int .i64 x.dr, .int .i64 x.nw, .bool x.tg], .agg #[.int .u8 e.kind, .int .i64 e.a, .int .i64 e.b]] w (CwPost x w) := by
  have q1 : (e.kind == 1) = false := by rw [hk]; rfl
  have q2 : (e.kind == 2) = false := by rw [hk]; rfl
  have q3 : (e.kind == 3) = false := by rw [hk]; rfl
  have q4 : (e.kind == 4) = false := by rw [hk]; rfl
  have q5 : (e.kind == 5) = false := by rw [hk]; rfl
  have q6 : (e.kind == 6) = true := by rw [hk]; rfl
  clear hk
  obtain ⟨r, hf⟩ : ∃ r, placeI (find x.l e.a) = r := ⟨_, rfl⟩
  have HN1 := Lib.hid (fun W => refNumber_any e.a W)
  have HN2 := Lib.hid (fun W => refNumber_any e.b W)
  rw [ha] at HN1
  rw [hb] at HN2
  clear ha hb
  obtain ⟨V, hV, hX, he, hres, hsV, hbV, hrV⟩ := rdo_start (c := c) (e := e) hr
  have HX := Lib.hid hX
  have HE := Lib.hid he
  have HRes := Lib.hid hres
  have HBV := Lib.hid hbV
  have HRV := Lib.hid (hrV.more hbV.size)
  have HVe := Lib.hid hV
  have HRt := Lib.hid (fun W A c hr => rightL (l := x.l) (fl := x.fl) (dr := x.dr) (nw := x.nw) (tg := x.tg) (n := n) (b := true) hR W A c hr)
  clear hX he hres hsV hbV hrV hr hV hR
  go_enter Try.func11, Try.ntmps11
  go_upto_region 1 with fail
  rw [HVe.out]
  clear HVe
  have d0 := HX.out.cell 0
  have d1 := HX.out.cell 1
  have d2 := HX.out.cell 2
  have d3 := HX.out.cell 3
  have d4 := HX.out.cell 4
  simp only [List.getElem?_toArray, List.getElem?_cons_zero, List.getElem?_cons_succ] at d0 d1 d2 d3 d4
  have f0 := HX.out.frozen 0
  have f1 := HX.out.frozen 1
  have f2 := HX.out.frozen 2
  have f3 := HX.out.frozen 3
  have f4 := HX.out.frozen 4
  go_wp2_with fail
  refine (refOwn_any A n c x V.heap.size V HRV.out (Nat.le_refl _) hn).mono ?_
  rintro e2 V2 ⟨A2, c2, rfl, o2, bb2⟩
  unfold cwV
  clear d0 d1 d2 d3 d4 f0 f1 f2 f3 f4
  have hX2 := HX.out.under bb2
  have k0 := hX2.cell 0
  have k1 := hX2.cell 1
  have k2 := hX2.cell 2
  have k3 := hX2.cell 3
  have k4 := hX2.cell 4
  simp only [List.getElem?_toArray, List.getElem?_cons_zero, List.getElem?_cons_succ] at k0 k1 k2 k3 k4
  have z0 := hX2.frozen 0
  have z1 := hX2.frozen 1
  have z2 := hX2.frozen 2
  have z3 := hX2.frozen 3
  have z4 := hX2.frozen 4
  obtain ⟨Y, hY, hC, hS, hBY⟩ := rdo_own HBV.out HX.out HE.out HRes.out o2 bb2
  have HY := Lib.hid hY
  have HC := Lib.hid hC
  have HS := Lib.hid hS
  have HBY := Lib.hid hBY
  obtain ⟨base, hbase⟩ : ∃ base, V.heap.size = base := ⟨_, rfl⟩
  rw [hbase] at HC HS
  clear HX HE HRes o2 bb2 hX2 hC hS hBY hY HRV HBV hbase
  go_upto_region 2 with fail
  rw [HY.out]
  clear HY k0 k1 k2 k3 k4 z0 z1 z2 z3 z4
  obtain ⟨e0, e1, e2, e3, e4⟩ := HC.out.cells
  go_wp2_with fail
  refine (HRt.out _ _ _ HC.out.rd).mono ?_
  rintro e5 V3 ⟨rfl, bb3⟩
  have HC3 := Lib.hid (HC.out.under bb3)
  have HS3 := Lib.hid (HS.out.but (Below.but (bb3.mono HC.out.le)))
  have HB3 := Lib.hid (HBY.out.trans (bb3.mono HBY.out.size))
  clear HC HS HBY bb3 e0 e1 e2 e3 e4 HRt
  obtain ⟨d0, d1, d2, d3, d4⟩ := HC3.out.cells
  obtain ⟨v0, v1, v2⟩ := HS3.out.ev.cells
  go_upto_region 4 with fail
  go_wp2_with fail
  refine (findL (l := x.l) (fl := x.fl) (dr := x.dr) (nw := x.nw) (tg := x.tg) (n := n) (id := e.a) hf (by omega) _ _ _ HC3.out.rd).mono ?_
  rintro e6 V4 ⟨rfl, bb4⟩
  have HC := Lib.hid (HC3.out.under bb4)
  have HS := Lib.hid (HS3.out.but (Below.but (bb4.mono HC3.out.le)))
  have HB := Lib.hid (HB3.out.trans (bb4.mono HB3.out.size))
  clear HC3 HS3 HB3 bb4 d0 d1 d2 d3 d4 v0 v1 v2 hf
  obtain ⟨v0, v1, v2⟩ := HS.out.ev.cells
  go_wp2_with fail
  refine (HN1.out _).mono ?_; rintro e7 w7 ⟨rfl, rfl⟩
  go_wp2_with fail
  refine (HN2.out _).mono ?_; rintro e8 w8 ⟨rfl, rfl⟩
  obtain ⟨d0, d1, d2, d3, d4⟩ := HC.out.cells
  have k0 := HS.out.res.cell 0
  have k1 := HS.out.res.cell 1
  have k2 := HS.out.res.cell 2
  have k3 := HS.out.res.cell 3
  have k4 := HS.out.res.cell 4
  simp only [List.getElem?_toArray, List.getElem?_cons_zero, List.getElem?_cons_succ] at k0 k1 k2 k3 k4
  have z0 := HS.out.res.frozen 0
  have z1 := HS.out.res.frozen 1
  have z2 := HS.out.res.frozen 2
  have z3 := HS.out.res.frozen 3
  have z4 := HS.out.res.frozen 4
  go_wp2_with fail
  obtain ⟨Z, hZ, q1, q2, q3⟩ := fin5 (A := A2) (n := n) (c := c2) (x := x) (base := w.heap.size) HS.out.res (own_weaker HC.out.row (by have := HC.out.lt; omega)) HB.out (by omega)
  rw [hZ]
  have j0 := q1.cell 0
  have j1 := q1.cell 1
  have j2 := q1.cell 2
  have j3 := q1.cell 3
  have j4 := q1.cell 4
  simp only [List.getElem?_toArray, List.getElem?_cons_zero, List.getElem?_cons_succ] at j0 j1 j2 j3 j4
  refine bodyPost_ret (v := .agg #[.slice A2 n c2, .int .i64 (x).fl, .int .i64 (x).dr, .int .i64 (x).nw, .bool (x).tg]) (by simp [results, Try.results11, go_sem, j0, j1, j2, j3, j4]) rfl ?_
  exact ⟨_, _, _, rfl, q2, q3⟩

set_option maxRecDepth 100000 in
set_option maxHeartbeats 4000000 in
theorem rdo_floor2 (hr : RdX w w.heap.size A n x.l) (hn : n ≤ 1000) (hk : e.kind = 6) (hR : right x = true) (ha : isNum e.a = true) (hb : isNum e.b = true) :
    Calls Try.prog 11 #[.agg #[.slice A n c, .int .i64 x.fl, .int .i64 x.dr, .int .i64 x.nw, .bool x.tg], .agg #[.int .u8 e.kind, .int .i64 e.a, .int .i64 e.b]] w (CwPost { x with fl := e.a, dr := e.b } w) := by
  have q1 : (e.kind == 1) = false := by rw [hk]; rfl
  have q2 : (e.kind == 2) = false := by rw [hk]; rfl
  have q3 : (e.kind == 3) = false := by rw [hk]; rfl
  have q4 : (e.kind == 4) = false := by rw [hk]; rfl
  have q5 : (e.kind == 5) = false := by rw [hk]; rfl
  have q6 : (e.kind == 6) = true := by rw [hk]; rfl
  clear hk
  obtain ⟨r, hf⟩ : ∃ r, placeI (find x.l e.a) = r := ⟨_, rfl⟩
  have HN1 := Lib.hid (fun W => refNumber_any e.a W)
  have HN2 := Lib.hid (fun W => refNumber_any e.b W)
  rw [ha] at HN1
  rw [hb] at HN2
  clear ha hb
  obtain ⟨V, hV, hX, he, hres, hsV, hbV, hrV⟩ := rdo_start (c := c) (e := e) hr
  have HX := Lib.hid hX
  have HE := Lib.hid he
  have HRes := Lib.hid hres
  have HBV := Lib.hid hbV
  have HRV := Lib.hid (hrV.more hbV.size)
  have HVe := Lib.hid hV
  have HRt := Lib.hid (fun W A c hr => rightL (l := x.l) (fl := x.fl) (dr := x.dr) (nw := x.nw) (tg := x.tg) (n := n) (b := true) hR W A c hr)
  clear hX he hres hsV hbV hrV hr hV hR
  go_enter Try.func11, Try.ntmps11
  go_upto_region 1 with fail
  rw [HVe.out]
  clear HVe
  have d0 := HX.out.cell 0
  have d1 := HX.out.cell 1
  have d2 := HX.out.cell 2
  have d3 := HX.out.cell 3
  have d4 := HX.out.cell 4
  simp only [List.getElem?_toArray, List.getElem?_cons_zero, List.getElem?_cons_succ] at d0 d1 d2 d3 d4
  have f0 := HX.out.frozen 0
  have f1 := HX.out.frozen 1
  have f2 := HX.out.frozen 2
  have f3 := HX.out.frozen 3
  have f4 := HX.out.frozen 4
  go_wp2_with fail
  refine (refOwn_any A n c x V.heap.size V HRV.out (Nat.le_refl _) hn).mono ?_
  rintro e2 V2 ⟨A2, c2, rfl, o2, bb2⟩
  unfold cwV
  clear d0 d1 d2 d3 d4 f0 f1 f2 f3 f4
  have hX2 := HX.out.under bb2
  have k0 := hX2.cell 0
  have k1 := hX2.cell 1
  have k2 := hX2.cell 2
  have k3 := hX2.cell 3
  have k4 := hX2.cell 4
  simp only [List.getElem?_toArray, List.getElem?_cons_zero, List.getElem?_cons_succ] at k0 k1 k2 k3 k4
  have z0 := hX2.frozen 0
  have z1 := hX2.frozen 1
  have z2 := hX2.frozen 2
  have z3 := hX2.frozen 3
  have z4 := hX2.frozen 4
  obtain ⟨Y, hY, hC, hS, hBY⟩ := rdo_own HBV.out HX.out HE.out HRes.out o2 bb2
  have HY := Lib.hid hY
  have HC := Lib.hid hC
  have HS := Lib.hid hS
  have HBY := Lib.hid hBY
  obtain ⟨base, hbase⟩ : ∃ base, V.heap.size = base := ⟨_, rfl⟩
  rw [hbase] at HC HS
  clear HX HE HRes o2 bb2 hX2 hC hS hBY hY HRV HBV hbase
  go_upto_region 2 with fail
  rw [HY.out]
  clear HY k0 k1 k2 k3 k4 z0 z1 z2 z3 z4
  obtain ⟨e0, e1, e2, e3, e4⟩ := HC.out.cells
  go_wp2_with fail
  refine (HRt.out _ _ _ HC.out.rd).mono ?_
  rintro e5 V3 ⟨rfl, bb3⟩
  have HC3 := Lib.hid (HC.out.under bb3)
  have HS3 := Lib.hid (HS.out.but (Below.but (bb3.mono HC.out.le)))
  have HB3 := Lib.hid (HBY.out.trans (bb3.mono HBY.out.size))
  clear HC HS HBY bb3 e0 e1 e2 e3 e4 HRt
  obtain ⟨d0, d1, d2, d3, d4⟩ := HC3.out.cells
  obtain ⟨v0, v1, v2⟩ := HS3.out.ev.cells
  go_upto_region 4 with fail
  go_wp2_with fail
  refine (findL (l := x.l) (fl := x.fl) (dr := x.dr) (nw := x.nw) (tg := x.tg) (n := n) (id := e.a) hf (by omega) _ _ _ HC3.out.rd).mono ?_
  rintro e6 V4 ⟨rfl, bb4⟩
  have HC := Lib.hid (HC3.out.under bb4)
  have HS := Lib.hid (HS3.out.but (Below.but (bb4.mono HC3.out.le)))
  have HB := Lib.hid (HB3.out.trans (bb4.mono HB3.out.size))
  clear HC3 HS3 HB3 bb4 d0 d1 d2 d3 d4 v0 v1 v2 hf
  obtain ⟨v0, v1, v2⟩ := HS.out.ev.cells
  go_wp2_with fail
  refine (HN1.out _).mono ?_; rintro e7 w7 ⟨rfl, rfl⟩
  go_wp2_with fail
  refine (HN2.out _).mono ?_; rintro e8 w8 ⟨rfl, rfl⟩
  go_upto_region 22 with fail
  clear v0
  obtain ⟨d0, d1, d2, d3, d4⟩ := HC.out.cells
  have f1 := HC.out.box.frozen 1
  have f2 := HC.out.box.frozen 2
  have HEF := Whole.far HS.out.ev (p := ⟨w.heap.size, 1, none⟩) (by show w.heap.size + 1 ≠ w.heap.size; omega) (.int .i64 e.a)
  have e3 := HEF.cell 2
  simp only [List.getElem?_toArray, List.getElem?_cons_zero, List.getElem?_cons_succ] at e3
  have e4 : (V4.setCell ⟨w.heap.size, 1, none⟩ (.int .i64 e.a)).drew.cell? ⟨w.heap.size + 1, 2, none⟩ = some (.int .i64 e.b) := e3
  have HC_ := Lib.hid (((HC.out.setFl e.a).setDr e.b).under (Below.refl _ _).drew)
  have hsB := (((BelowBut.refl base w.heap.size V4).set 1 (.int .i64 e.a)).set 2 (.int .i64 e.b)).on (Below.refl _ _).drew HC.out.le
  have HS_ := Lib.hid (HS.out.but hsB)
  have HB_ := Lib.hid (HB.out.trans (hsB.below (Nat.le_of_lt HC.out.lt) (Nat.le_refl _)))
  clear hsB HC HS HB HEF
  go_region
  obtain ⟨Y, hY⟩ : ∃ Y, ((V4.setCell ⟨w.heap.size, 1, none⟩ (.int .i64 e.a)).setCell ⟨w.heap.size, 2, none⟩ (.int .i64 e.b)).drew = Y := ⟨_, rfl⟩
  rw [hY] at HC_ HS_ HB_ ⊢
  clear hY d0 d1 d2 d3 d4 f1 f2 e3 e4 v1 v2
  obtain ⟨d0, d1, d2, d3, d4⟩ := HC_.out.cells
  have k0 := HS_.out.res.cell 0
  have k1 := HS_.out.res.cell 1
  have k2 := HS_.out.res.cell 2
  have k3 := HS_.out.res.cell 3
  have k4 := HS_.out.res.cell 4
  simp only [List.getElem?_toArray, List.getElem?_cons_zero, List.getElem?_cons_succ] at k0 k1 k2 k3 k4
  have z0 := HS_.out.res.frozen 0
  have z1 := HS_.out.res.frozen 1
  have z2 := HS_.out.res.frozen 2
  have z3 := HS_.out.res.frozen 3
  have z4 := HS_.out.res.frozen 4
  go_wp2_with fail
  obtain ⟨Z, hZ, q1, q2, q3⟩ := fin5 (A := A2) (n := n) (c := c2) (x := { x with fl := e.a, dr := e.b }) (base := w.heap.size) HS_.out.res (own_weaker HC_.out.row (by have := HC_.out.lt; omega)) HB_.out (by omega)
  rw [hZ]
  have j0 := q1.cell 0
  have j1 := q1.cell 1
  have j2 := q1.cell 2
  have j3 := q1.cell 3
  have j4 := q1.cell 4
  simp only [List.getElem?_toArray, List.getElem?_cons_zero, List.getElem?_cons_succ] at j0 j1 j2 j3 j4
  refine bodyPost_ret (v := .agg #[.slice A2 n c2, .int .i64 ({ x with fl := e.a, dr := e.b }).fl, .int .i64 ({ x with fl := e.a, dr := e.b }).dr, .int .i64 ({ x with fl := e.a, dr := e.b }).nw, .bool ({ x with fl := e.a, dr := e.b }).tg]) (by simp [results, Try.results11, go_sem, j0, j1, j2, j3, j4]) rfl ?_
  exact ⟨_, _, _, rfl, q2, q3⟩

theorem refDo_any (hr : RdX w w.heap.size A n x.l) (hn : n ≤ 1000) :
    Calls Try.prog 11 #[.agg #[.slice A n c, .int .i64 x.fl, .int .i64 x.dr, .int .i64 x.nw, .bool x.tg], .agg #[.int .u8 e.kind, .int .i64 e.a, .int .i64 e.b]] w (CwPost (evC x e) w) := by
  cases hR : right x with
  | false => rw [evC_out hR]; exact rdo_out hr hn hR
  | true =>
    rw [evC_in hR]
    by_cases hk : e.kind = 1 ∨ e.kind = 2 ∨ e.kind = 3 ∨ e.kind = 4 ∨ e.kind = 5 ∨ e.kind = 6
    · rcases hk with k | k | k | k | k | k
      · have e1 : evK x e = { x with l := atB x.l e.a goneB } := by simp [evK, k]
        rw [e1]
        rcases atB_cases x.l e.a goneB with ⟨h1, h2⟩ | ⟨j, y, h1, hy, _, _, h2⟩
        · rw [h2]; exact rdo_die0 hr hn k hR h1
        · rw [h2]; exact rdo_die1 hr hn k hR h1 hy
      · have e1 : evK x e = { x with l := atB x.l e.a flipB } := by simp [evK, k]
        rw [e1]
        rcases atB_cases x.l e.a flipB with ⟨h1, h2⟩ | ⟨j, y, h1, hy, _, _, h2⟩
        · rw [h2]; exact rdo_flip0 hr hn k hR h1
        · rw [h2]; exact rdo_flip1 hr hn k hR h1 hy
      · have e1 : evK x e = strayC x e.a (e.b != 0) := by simp [evK, k]
        rw [e1]; exact rdo_stray hr hn k hR
      · have e1 : evK x e = { x with tg := !x.tg } := by simp [evK, k]
        rw [e1]; exact rdo_tight hr hn k hR
      · have e1 : evK x e = tickC x := by simp [evK, k]
        rw [e1]; exact rdo_tick hr hn k hR (isNum_iff.1 (right_nums hR).2.2).1
      · have e1 : evK x e = floorC x e.a e.b := by simp [evK, k]
        rw [e1]
        cases ha : isNum e.a with
        | false => rw [floorC_no (by rw [ha]; rfl)]; exact rdo_floor0 hr hn k hR ha
        | true =>
          cases hb : isNum e.b with
          | false => rw [floorC_no (by rw [ha, hb]; rfl)]; exact rdo_floor1 hr hn k hR ha hb
          | true => rw [floorC_yes (by rw [ha, hb]; rfl)]; exact rdo_floor2 hr hn k hR ha hb
    · rw [evK_none hk]; exact rdo_other hr hn hk hR
end

end Go.Proofs.Ytoiegffnmjlkdaa
