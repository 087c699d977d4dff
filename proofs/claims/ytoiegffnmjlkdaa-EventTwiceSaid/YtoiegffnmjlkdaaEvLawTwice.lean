/-
  The walk of the statement EventTwice: what is turned about twice is as it was; who dies once dies no more; what was handed in stays. Conditions: those that each theorem names.
-/
import Derived.Test.YtoiegffnmjlkdaaEvWakes
import Derived.Test.YtoiegffnmjlkdaaEvPlain
import Derived.Test.YtoiegffnmjlkdaaEvTwReg
import Derived.Test.YtoiegffnmjlkdaaCdKit2
import Derived.BigQuiet
import Derived.Deep.DeepCutAuto
namespace Go.Proofs.Ytoiegffnmjlkdaa
open Go.RowKit Go.Shelf

set_option maxRecDepth 100000 in
set_option maxHeartbeats 8000000 in
theorem twice_wrong (x : Cw) (id ver flo : Int) (A : Option Addr) (n c : Nat) (w : World) (hr : RdX w w.heap.size A n x.l) (h : right x = false) :
    Calls Try.prog 6 #[.agg #[.slice A n c, .int .i64 x.fl, .int .i64 x.dr, .int .i64 x.nw, .bool x.tg], .int .i64 id, .int .i64 ver, .int .i64 flo] w (TruePost w) := by
  have one := whole_one (W := w) (t := 24) (x := #[.slice A n c, .int .i64 x.fl, .int .i64 x.dr, .int .i64 x.nw, .bool x.tg])
  have C := Lib.hid one.1
  have R := Lib.hid (hr.up one.2)
  have B := Lib.hid one.2
  clear one hr
  have HRt := Lib.hid (rightL (l := x.l) (fl := x.fl) (dr := x.dr) (nw := x.nw) (tg := x.tg) (n := n) h)
  clear h
  go_enter Try.func6, Try.ntmps6
  have vC_0 := C.out.cell 0
  have vC_1 := C.out.cell 1
  have vC_2 := C.out.cell 2
  have vC_3 := C.out.cell 3
  have vC_4 := C.out.cell 4
  simp only [List.getElem?_toArray, List.getElem?_cons_zero, List.getElem?_cons_succ] at vC_0 vC_1 vC_2 vC_3 vC_4
  go_wp2_with fail
  refine (HRt.out _ _ _ R.out).mono ?_
  rintro e y1 ⟨rfl, b⟩
  clear vC_0 vC_1 vC_2 vC_3 vC_4
  have C_ := Lib.hid (C.out.under b)
  have R_ := Lib.hid (R.out.up b)
  have B_ := Lib.hid (B.out.trans (b.mono B.out.size))
  clear C R B
  have C := C_
  have R := R_
  have B := B_
  clear C_ R_ B_
  clear b HRt
  go_wp2_with fail
  refine (evWakes_any _).mono ?_
  rintro e y2 ⟨rfl, b⟩
  have C_ := Lib.hid (C.out.under b)
  have R_ := Lib.hid (R.out.up b)
  have B_ := Lib.hid (B.out.trans (b.mono B.out.size))
  clear C R B
  have C := C_
  have R := R_
  have B := B_
  clear C_ R_ B_
  clear b
  go_wp2_with fail
  go_ret
  exact ⟨rfl, B.out⟩

set_option maxRecDepth 100000 in
set_option maxHeartbeats 8000000 in
theorem twice_on (x : Cw) (id ver flo : Int) (A : Option Addr) (n c : Nat) (w : World) (hr : RdX w w.heap.size A n x.l) (h : right x = true) :
    Calls Try.prog 6 #[.agg #[.slice A n c, .int .i64 x.fl, .int .i64 x.dr, .int .i64 x.nw, .bool x.tg], .int .i64 id, .int .i64 ver, .int .i64 flo] w (TruePost w) := by
  have one := whole_one (W := w) (t := 24) (x := #[.slice A n c, .int .i64 x.fl, .int .i64 x.dr, .int .i64 x.nw, .bool x.tg])
  have C := Lib.hid one.1
  have R := Lib.hid (hr.up one.2)
  have B := Lib.hid one.2
  clear one hr
  have hl := R.out.len
  have hn : n ≤ 60 := by have := right_few h; omega
  obtain ⟨x1, hx1⟩ : ∃ x1 : Cw, ({ x with l := atB x.l id goneB } : Cw) = x1 := ⟨_, rfl⟩
  obtain ⟨s, hs⟩ : ∃ s, floorC x flo 3 = s := ⟨_, rfl⟩
  obtain ⟨q, hq⟩ : ∃ q, strayC x ver (0 != (0 : Int)) = q := ⟨_, rfl⟩
  obtain ⟨M, hM⟩ : ∃ M, q.l.length = M := ⟨_, rfl⟩
  have hl1 : x1.l.length = n := by rw [← hx1]; rcases atB_cases x.l id goneB with ⟨_, e⟩ | ⟨j, y, _, _, _, _, e⟩ <;> simp [e, hl]
  have hls : s.l.length = n := by rw [← hs]; unfold floorC; split <;> exact hl
  have e1 : evsC x [(⟨2, id, 0⟩ : Ev), ⟨4, 0, 0⟩, ⟨4, 0, 0⟩, ⟨2, id, 0⟩] = x := ev_twice h id 0 0 0 0 0 0
  have e2 : evsC x [⟨1, id, 0⟩] = x1 := by rw [← hx1]; exact ev_died h id 0
  have e3 : evsC x [⟨1, id, 0⟩, ⟨2, id, 0⟩, ⟨1, id, 0⟩] = x1 := by rw [← hx1]; exact ev_dies h id 0 0 0
  have e4 : evsC x [⟨6, flo, 3⟩, ⟨6, flo, 3⟩] = s := by rw [← hs]; exact ev_sets h flo 3
  have e5 : evC x ⟨6, flo, 3⟩ = s := by rw [← hs]; exact ev_set h flo 3
  have e6 : evC x ⟨3, ver, 0⟩ = q := by rw [← hq]; exact ev_stray h ver 0
  have hM1 : M ≤ 1000 := by have := (evd_len (evd h ⟨3, ver, 0⟩)).2; rw [e6] at this; omega
  have ef : placeI (find x1.l id) = -1 := by rw [← hx1]; show placeI (find (atB x.l id goneB) id) = -1; rw [find_died h]; rfl
  have k4 : ∀ e ∈ [(⟨2, id, 0⟩ : Ev), ⟨4, 0, 0⟩, ⟨4, 0, 0⟩, ⟨2, id, 0⟩], (Lit.int .u8 e.kind).wf = true := by intro e he; simp at he; rcases he with rfl | rfl | rfl | rfl <;> rfl
  have k1 : ∀ e ∈ [(⟨1, id, 0⟩ : Ev)], (Lit.int .u8 e.kind).wf = true := by intro e he; simp at he; subst he; rfl
  have k3 : ∀ e ∈ [(⟨1, id, 0⟩ : Ev), ⟨2, id, 0⟩, ⟨1, id, 0⟩], (Lit.int .u8 e.kind).wf = true := by intro e he; simp at he; rcases he with rfl | rfl | rfl <;> rfl
  have k2 : ∀ e ∈ [(⟨6, flo, 3⟩ : Ev), ⟨6, flo, 3⟩], (Lit.int .u8 e.kind).wf = true := by intro e he; simp at he; subst he; rfl
  have HO := Lib.hid (fun W A c hr => ownL (l := x.l) (fl := x.fl) (dr := x.dr) (nw := x.nw) (tg := x.tg) (n := n) (by omega) W A c hr)
  have HA4 := Lib.hid (fun W A c B cl hr9 hl9 => evAllL (l := x.l) (fl := x.fl) (dr := x.dr) (nw := x.nw) (tg := x.tg) (n := n) (m := 4) (es := [(⟨2, id, 0⟩ : Ev), ⟨4, 0, 0⟩, ⟨4, 0, 0⟩, ⟨2, id, 0⟩]) (L := x.l) (fl' := x.fl) (dr' := x.dr) (nw' := x.nw) (tg' := x.tg) (N := n) e1 hl k4 (by omega) (by omega) W A c B cl hr9 hl9)
  have HA1 := Lib.hid (fun W A c B cl hr9 hl9 => evAllL (l := x.l) (fl := x.fl) (dr := x.dr) (nw := x.nw) (tg := x.tg) (n := n) (m := 1) (es := [⟨1, id, 0⟩]) (L := x1.l) (fl' := x1.fl) (dr' := x1.dr) (nw' := x1.nw) (tg' := x1.tg) (N := n) e2 hl1 k1 (by omega) (by omega) W A c B cl hr9 hl9)
  have HA3 := Lib.hid (fun W A c B cl hr9 hl9 => evAllL (l := x.l) (fl := x.fl) (dr := x.dr) (nw := x.nw) (tg := x.tg) (n := n) (m := 3) (es := [⟨1, id, 0⟩, ⟨2, id, 0⟩, ⟨1, id, 0⟩]) (L := x1.l) (fl' := x1.fl) (dr' := x1.dr) (nw' := x1.nw) (tg' := x1.tg) (N := n) e3 hl1 k3 (by omega) (by omega) W A c B cl hr9 hl9)
  have HA2 := Lib.hid (fun W A c B cl hr9 hl9 => evAllL (l := x.l) (fl := x.fl) (dr := x.dr) (nw := x.nw) (tg := x.tg) (n := n) (m := 2) (es := [⟨6, flo, 3⟩, ⟨6, flo, 3⟩]) (L := s.l) (fl' := s.fl) (dr' := s.dr) (nw' := s.nw) (tg' := s.tg) (N := n) e4 hls k2 (by omega) (by omega) W A c B cl hr9 hl9)
  have HDs := Lib.hid (fun W A c hr => evDoL (l := x.l) (fl := x.fl) (dr := x.dr) (nw := x.nw) (tg := x.tg) (k := 6) (a := flo) (b := 3) (n := n) (L := s.l) (fl' := s.fl) (dr' := s.dr) (nw' := s.nw) (tg' := s.tg) (N := n) e5 hls (by decide) (by omega) W A c hr)
  have HDq := Lib.hid (fun W A c hr => evDoL (l := x.l) (fl := x.fl) (dr := x.dr) (nw := x.nw) (tg := x.tg) (k := 3) (a := ver) (b := 0) (n := n) (L := q.l) (fl' := q.fl) (dr' := q.dr) (nw' := q.nw) (tg' := q.tg) (N := M) e6 hM (by decide) (by omega) W A c hr)
  have HSx := Lib.hid (fun W A c A' c' hr hr' => sameL2 (l := x.l) (fl := x.fl) (dr := x.dr) (nw := x.nw) (tg := x.tg) (l' := x.l) (fl' := x.fl) (dr' := x.dr) (nw' := x.nw) (tg' := x.tg) (n := n) (N := n) (b := true) (sameCw_refl (x := x)) (by omega) W A c A' c' hr hr')
  have HS1 := Lib.hid (fun W A c A' c' hr hr' => sameL2 (l := x1.l) (fl := x1.fl) (dr := x1.dr) (nw := x1.nw) (tg := x1.tg) (l' := x1.l) (fl' := x1.fl) (dr' := x1.dr) (nw' := x1.nw) (tg' := x1.tg) (n := n) (N := n) (b := true) (sameCw_refl (x := x1)) (by omega) W A c A' c' hr hr')
  have HSs := Lib.hid (fun W A c A' c' hr hr' => sameL2 (l := s.l) (fl := s.fl) (dr := s.dr) (nw := s.nw) (tg := s.tg) (l' := s.l) (fl' := s.fl) (dr' := s.dr) (nw' := s.nw) (tg' := s.tg) (n := n) (N := n) (b := true) (sameCw_refl (x := s)) (by omega) W A c A' c' hr hr')
  have HFi := Lib.hid (fun W A c hr => findL (l := x1.l) (fl := x1.fl) (dr := x1.dr) (nw := x1.nw) (tg := x1.tg) (n := n) (id := id) ef (by omega) W A c hr)
  have HX := Lib.hid (And.intro hl (And.intro hn (And.intro hs (And.intro hq hM))))
  have HRt := Lib.hid (rightL (l := x.l) (fl := x.fl) (dr := x.dr) (nw := x.nw) (tg := x.tg) (n := n) (b := true) h)
  clear h hl hx1 hl1 hls hs hq hM hM1 e1 e2 e3 e4 e5 e6 ef k4 k1 k3 k2
  go_enter Try.func6, Try.ntmps6
  have vC_0 := C.out.cell 0
  have vC_1 := C.out.cell 1
  have vC_2 := C.out.cell 2
  have vC_3 := C.out.cell 3
  have vC_4 := C.out.cell 4
  simp only [List.getElem?_toArray, List.getElem?_cons_zero, List.getElem?_cons_succ] at vC_0 vC_1 vC_2 vC_3 vC_4
  go_wp2_with fail
  refine (HRt.out _ _ _ R.out).mono ?_
  rintro e y1 ⟨rfl, b⟩
  clear vC_0 vC_1 vC_2 vC_3 vC_4
  have C_ := Lib.hid (C.out.under b)
  have R_ := Lib.hid (R.out.up b)
  have B_ := Lib.hid (B.out.trans (b.mono B.out.size))
  clear C R B
  have C := C_
  have R := R_
  have B := B_
  clear C_ R_ B_
  clear b HRt
  have vC_0 := C.out.cell 0
  have vC_1 := C.out.cell 1
  have vC_2 := C.out.cell 2
  have vC_3 := C.out.cell 3
  have vC_4 := C.out.cell 4
  simp only [List.getElem?_toArray, List.getElem?_cons_zero, List.getElem?_cons_succ] at vC_0 vC_1 vC_2 vC_3 vC_4
  go_wp2_with fail
  refine (HO.out _ _ _ R.out).mono ?_
  rintro e y2 ⟨A9, c9, rfl, r9, b⟩
  clear vC_0 vC_1 vC_2 vC_3 vC_4
  have C_ := Lib.hid (C.out.under b)
  have R_ := Lib.hid (R.out.up b)
  have B_ := Lib.hid (B.out.trans (b.mono B.out.size))
  clear C R B
  have C := C_
  have R := R_
  have B := B_
  clear C_ R_ B_
  clear b HO
  have r9_ := Lib.hid r9
  clear r9
  have r9 := r9_
  clear r9_
  have hgt := Lib.hid C.out.lt
  clear hn
  go_upto_region 6 with fail
  obtain ⟨V, hV⟩ : ∃ V, (((((y2.alloc (.cells #[.slice A9 n c9, .int .i64 x.fl, .int .i64 x.dr, .int .i64 x.nw, .bool x.tg] 24)).alloc (.cells #[.int .u8 2, .int .i64 id, .int .i64 0] 26)).alloc (.cells #[.int .u8 4, .int .i64 0, .int .i64 0] 26)).alloc (.cells #[.int .u8 1, .int .i64 id, .int .i64 0] 26)).alloc (.cells #[.int .u8 6, .int .i64 flo, .int .i64 3] 26)) = V := ⟨_, rfl⟩
  have hbV : Below y2.heap.size y2 V := by rw [← hV]; exact (((((Below.refl _ y2).alloc (Nat.le_refl _) _).alloc (by simp) _).alloc (by simp; omega) _).alloc (by simp; omega) _).alloc (by simp; omega) _
  have hO : Whole V y2.heap.size 24 #[.slice A9 n c9, .int .i64 x.fl, .int .i64 x.dr, .int .i64 x.nw, .bool x.tg] := by rw [← hV]; exact ((((Whole.new y2 _ _).alloc (.cells #[.int .u8 2, .int .i64 id, .int .i64 0] 26)).alloc (.cells #[.int .u8 4, .int .i64 0, .int .i64 0] 26)).alloc (.cells #[.int .u8 1, .int .i64 id, .int .i64 0] 26)).alloc (.cells #[.int .u8 6, .int .i64 flo, .int .i64 3] 26)
  have hFl : Whole V (y2.heap.size + 1) 26 #[.int .u8 2, .int .i64 id, .int .i64 0] := by
    rw [← hV]
    have := (((Whole.new (y2.alloc (.cells #[.slice A9 n c9, .int .i64 x.fl, .int .i64 x.dr, .int .i64 x.nw, .bool x.tg] 24)) 26 #[.int .u8 2, .int .i64 id, .int .i64 0]).alloc (.cells #[.int .u8 4, .int .i64 0, .int .i64 0] 26)).alloc (.cells #[.int .u8 1, .int .i64 id, .int .i64 0] 26)).alloc (.cells #[.int .u8 6, .int .i64 flo, .int .i64 3] 26)
    simpa using this
  have hTi : Whole V (y2.heap.size + 1 + 1) 26 #[.int .u8 4, .int .i64 0, .int .i64 0] := by
    rw [← hV]
    have := ((Whole.new ((y2.alloc (.cells #[.slice A9 n c9, .int .i64 x.fl, .int .i64 x.dr, .int .i64 x.nw, .bool x.tg] 24)).alloc (.cells #[.int .u8 2, .int .i64 id, .int .i64 0] 26)) 26 #[.int .u8 4, .int .i64 0, .int .i64 0]).alloc (.cells #[.int .u8 1, .int .i64 id, .int .i64 0] 26)).alloc (.cells #[.int .u8 6, .int .i64 flo, .int .i64 3] 26)
    simpa using this
  have hDi : Whole V (y2.heap.size + 1 + 1 + 1) 26 #[.int .u8 1, .int .i64 id, .int .i64 0] := by
    rw [← hV]
    have := (Whole.new (((y2.alloc (.cells #[.slice A9 n c9, .int .i64 x.fl, .int .i64 x.dr, .int .i64 x.nw, .bool x.tg] 24)).alloc (.cells #[.int .u8 2, .int .i64 id, .int .i64 0] 26)).alloc (.cells #[.int .u8 4, .int .i64 0, .int .i64 0] 26)) 26 #[.int .u8 1, .int .i64 id, .int .i64 0]).alloc (.cells #[.int .u8 6, .int .i64 flo, .int .i64 3] 26)
    simpa using this
  have hSe : Whole V (y2.heap.size + 1 + 1 + 1 + 1) 26 #[.int .u8 6, .int .i64 flo, .int .i64 3] := by
    rw [← hV]
    have := Whole.new ((((y2.alloc (.cells #[.slice A9 n c9, .int .i64 x.fl, .int .i64 x.dr, .int .i64 x.nw, .bool x.tg] 24)).alloc (.cells #[.int .u8 2, .int .i64 id, .int .i64 0] 26)).alloc (.cells #[.int .u8 4, .int .i64 0, .int .i64 0] 26)).alloc (.cells #[.int .u8 1, .int .i64 id, .int .i64 0] 26)) 26 #[.int .u8 6, .int .i64 flo, .int .i64 3]
    simpa using this
  rw [hV]
  have C_ := Lib.hid (C.out.under hbV)
  have R_ := Lib.hid (R.out.up hbV)
  have B_ := Lib.hid (B.out.trans (hbV.mono B.out.size))
  have r9_ := Lib.hid (r9.out.up hbV)
  clear C R B r9
  have C := C_
  have R := R_
  have B := B_
  have r9 := r9_
  clear C_ R_ B_ r9_
  have O := Lib.hid hO
  have Fl := Lib.hid hFl
  have Ti := Lib.hid hTi
  have Di := Lib.hid hDi
  have Se := Lib.hid hSe
  clear hV hbV hO hFl hTi hDi hSe
  obtain ⟨g, hg⟩ : ∃ g, y2.heap.size = g := ⟨_, rfl⟩
  rw [hg] at hgt O Fl Ti Di Se ⊢
  clear hg
  have vC_0 := C.out.cell 0
  have vC_1 := C.out.cell 1
  have vC_2 := C.out.cell 2
  have vC_3 := C.out.cell 3
  have vC_4 := C.out.cell 4
  simp only [List.getElem?_toArray, List.getElem?_cons_zero, List.getElem?_cons_succ] at vC_0 vC_1 vC_2 vC_3 vC_4
  have vFl_0 := Fl.out.cell 0
  have vFl_1 := Fl.out.cell 1
  have vFl_2 := Fl.out.cell 2
  simp only [List.getElem?_toArray, List.getElem?_cons_zero, List.getElem?_cons_succ] at vFl_0 vFl_1 vFl_2
  have vTi_0 := Ti.out.cell 0
  have vTi_1 := Ti.out.cell 1
  have vTi_2 := Ti.out.cell 2
  simp only [List.getElem?_toArray, List.getElem?_cons_zero, List.getElem?_cons_succ] at vTi_0 vTi_1 vTi_2
  go_wp2_with fail
  obtain ⟨V1, hV1⟩ : ∃ V1, V.alloc (.cells ([(⟨2, id, 0⟩ : Ev), ⟨4, 0, 0⟩, ⟨4, 0, 0⟩, ⟨2, id, 0⟩].flatMap Ev.vs).toArray 26) = V1 := ⟨_, rfl⟩
  have hb1 : Below V.heap.size V V1 := by rw [← hV1]; exact (Below.refl _ _).alloc (Nat.le_refl _) _
  have hl1_ : Whole V1 V.heap.size 26 ([(⟨2, id, 0⟩ : Ev), ⟨4, 0, 0⟩, ⟨4, 0, 0⟩, ⟨2, id, 0⟩].flatMap Ev.vs).toArray := by rw [← hV1]; exact Whole.new _ _ _
  have hV1_ : V.alloc (.cells #[.int .u8 2, .int .i64 id, .int .i64 0, .int .u8 4, .int .i64 0, .int .i64 0, .int .u8 4, .int .i64 0, .int .i64 0, .int .u8 2, .int .i64 id, .int .i64 0] 26) = V1 := hV1
  rw [hV1_]
  clear vC_0 vC_1 vC_2 vC_3 vC_4 vFl_0 vFl_1 vFl_2 vTi_0 vTi_1 vTi_2
  have C_ := Lib.hid (C.out.under hb1)
  have R_ := Lib.hid (R.out.up hb1)
  have B_ := Lib.hid (B.out.trans (hb1.mono B.out.size))
  have r9_ := Lib.hid (r9.out.up hb1)
  have O_ := Lib.hid (O.out.under hb1)
  have Fl_ := Lib.hid (Fl.out.under hb1)
  have Ti_ := Lib.hid (Ti.out.under hb1)
  have Di_ := Lib.hid (Di.out.under hb1)
  have Se_ := Lib.hid (Se.out.under hb1)
  clear C R B r9 O Fl Ti Di Se
  have C := C_
  have R := R_
  have B := B_
  have r9 := r9_
  have O := O_
  have Fl := Fl_
  have Ti := Ti_
  have Di := Di_
  have Se := Se_
  clear C_ R_ B_ r9_ O_ Fl_ Ti_ Di_ Se_
  have QL := Lib.hid (rdE_whole hl1_)
  clear hl1_ hb1 hV1 hV1_
  refine (HA4.out _ _ _ _ _ R.out QL.out).mono ?_
  rintro e y3 ⟨A14, c14, rfl, r14, b⟩
  have C_ := Lib.hid (C.out.under b)
  have R_ := Lib.hid (R.out.up b)
  have B_ := Lib.hid (B.out.trans (b.mono B.out.size))
  have r9_ := Lib.hid (r9.out.up b)
  have O_ := Lib.hid (O.out.under b)
  have Fl_ := Lib.hid (Fl.out.under b)
  have Ti_ := Lib.hid (Ti.out.under b)
  have Di_ := Lib.hid (Di.out.under b)
  have Se_ := Lib.hid (Se.out.under b)
  have QL_ := Lib.hid (QL.out.up b)
  clear C R B r9 O Fl Ti Di Se QL
  have C := C_
  have R := R_
  have B := B_
  have r9 := r9_
  have O := O_
  have Fl := Fl_
  have Ti := Ti_
  have Di := Di_
  have Se := Se_
  have QL := QL_
  clear C_ R_ B_ r9_ O_ Fl_ Ti_ Di_ Se_ QL_
  clear b HA4 QL
  have r14_ := Lib.hid r14
  clear r14
  have r14 := r14_
  clear r14_
  have one := whole_one (W := y3) (t := 24) (x := #[.slice A14 n c14, .int .i64 x.fl, .int .i64 x.dr, .int .i64 x.nw, .bool x.tg])
  have C_ := Lib.hid (C.out.under one.2)
  have R_ := Lib.hid (R.out.up one.2)
  have B_ := Lib.hid (B.out.trans (one.2.mono B.out.size))
  have r9_ := Lib.hid (r9.out.up one.2)
  have O_ := Lib.hid (O.out.under one.2)
  have Fl_ := Lib.hid (Fl.out.under one.2)
  have Ti_ := Lib.hid (Ti.out.under one.2)
  have Di_ := Lib.hid (Di.out.under one.2)
  have Se_ := Lib.hid (Se.out.under one.2)
  have r14_ := Lib.hid (r14.out.up one.2)
  clear C R B r9 O Fl Ti Di Se r14
  have C := C_
  have R := R_
  have B := B_
  have r9 := r9_
  have O := O_
  have Fl := Fl_
  have Ti := Ti_
  have Di := Di_
  have Se := Se_
  have r14 := r14_
  clear C_ R_ B_ r9_ O_ Fl_ Ti_ Di_ Se_ r14_
  have A4 := Lib.hid one.1
  clear one
  go_upto_region 7 with fail
  obtain ⟨V2, hV2⟩ : ∃ V2, y3.alloc (.cells #[.slice A14 n c14, .int .i64 x.fl, .int .i64 x.dr, .int .i64 x.nw, .bool x.tg] 24) = V2 := ⟨_, rfl⟩
  obtain ⟨g4, hg4⟩ : ∃ g4, y3.heap.size = g4 := ⟨_, rfl⟩
  rw [hV2] at C R B r9 O Fl Ti Di Se r14 A4 ⊢
  rw [hg4] at A4 ⊢
  clear hV2 hg4
  refine tw_region rfl (by kernel_rfl) ⟨_, rfl, rfl, rfl, rfl, rfl, by kernel_rfl⟩ ⟨_, rfl, rfl, rfl, rfl, rfl, by kernel_rfl⟩ ⟨_, rfl, rfl, rfl, rfl, rfl, by kernel_rfl⟩ ⟨_, rfl, rfl, rfl, rfl, rfl, by kernel_rfl⟩ ⟨_, rfl, rfl, rfl, rfl, rfl, by kernel_rfl⟩ ⟨_, rfl, rfl, rfl, rfl, rfl, by kernel_rfl⟩ ⟨_, rfl, rfl, rfl, rfl, rfl, by kernel_rfl⟩ ⟨_, rfl, rfl, rfl, rfl, rfl, by kernel_rfl⟩ ⟨_, rfl, rfl, rfl, rfl, rfl, by kernel_rfl⟩ ⟨_, rfl, rfl, rfl, rfl, rfl, by kernel_rfl⟩ ⟨_, rfl, rfl, rfl, rfl, rfl, by kernel_rfl⟩ ⟨_, rfl, rfl, rfl, rfl, rfl, by kernel_rfl⟩ ⟨_, rfl, rfl, rfl, rfl, rfl, by kernel_rfl⟩ ⟨_, rfl, rfl, rfl, rfl, rfl, by kernel_rfl⟩ _ _ A n c x.fl x.dr x.nw x.tg ⟨1, id, 0⟩ ⟨2, id, 0⟩ n x1.l x1.fl x1.dr x1.nw x1.tg w.heap.size (g + 1 + 1 + 1) (g + 1) ?ds rfl rfl rfl C.out Di.out Fl.out (fun W b hW hl => HA1.out W _ _ _ _ (R.out.up hW) hl) (fun W b hW hl => HA3.out W _ _ _ _ (R.out.up hW) hl) ?fin
  case ds =>
    intro d hd
    simp only [twDs, List.mem_cons, List.not_mem_nil, or_false] at hd
    rcases hd with rfl | rfl | rfl | rfl | rfl | rfl | rfl | rfl | rfl | rfl | rfl | rfl <;> simp
  case fin =>
    rintro σ y3 A15 c15 g15 A16 c16 g16 s15 s16 r15 B1 r16 B2 b
    simp only [twDs, lay, List.foldl_cons, List.foldl_nil, Act.put, List.setIfInBounds_toArray, List.set_cons_zero, List.set_cons_succ]
    rw [s15, s16]
    clear s15 s16 HA1 HA3
    have C_ := Lib.hid (C.out.under b)
    have R_ := Lib.hid (R.out.up b)
    have B_ := Lib.hid (B.out.trans (b.mono B.out.size))
    have r9_ := Lib.hid (r9.out.up b)
    have O_ := Lib.hid (O.out.under b)
    have Fl_ := Lib.hid (Fl.out.under b)
    have Ti_ := Lib.hid (Ti.out.under b)
    have Di_ := Lib.hid (Di.out.under b)
    have Se_ := Lib.hid (Se.out.under b)
    have r14_ := Lib.hid (r14.out.up b)
    have A4_ := Lib.hid (A4.out.under b)
    clear C R B r9 O Fl Ti Di Se r14 A4
    have C := C_
    have R := R_
    have B := B_
    have r9 := r9_
    have O := O_
    have Fl := Fl_
    have Ti := Ti_
    have Di := Di_
    have Se := Se_
    have r14 := r14_
    have A4 := A4_
    clear C_ R_ B_ r9_ O_ Fl_ Ti_ Di_ Se_ r14_ A4_
    clear b
    have B1_ := Lib.hid B1
    clear B1
    have B1 := B1_
    clear B1_
    have B2_ := Lib.hid B2
    clear B2
    have B2 := B2_
    clear B2_
    have r15_ := Lib.hid r15
    clear r15
    have r15 := r15_
    clear r15_
    have r16_ := Lib.hid r16
    clear r16
    have r16 := r16_
    clear r16_
    have vC_0 := C.out.cell 0
    have vC_1 := C.out.cell 1
    have vC_2 := C.out.cell 2
    have vC_3 := C.out.cell 3
    have vC_4 := C.out.cell 4
    simp only [List.getElem?_toArray, List.getElem?_cons_zero, List.getElem?_cons_succ] at vC_0 vC_1 vC_2 vC_3 vC_4
    have vSe_0 := Se.out.cell 0
    have vSe_1 := Se.out.cell 1
    have vSe_2 := Se.out.cell 2
    simp only [List.getElem?_toArray, List.getElem?_cons_zero, List.getElem?_cons_succ] at vSe_0 vSe_1 vSe_2
    go_wp2_with fail
    obtain ⟨V3, hV3⟩ : ∃ V3, y3.alloc (.cells ([(⟨6, flo, 3⟩ : Ev), ⟨6, flo, 3⟩].flatMap Ev.vs).toArray 26) = V3 := ⟨_, rfl⟩
    have hb1 : Below y3.heap.size y3 V3 := by rw [← hV3]; exact (Below.refl _ _).alloc (Nat.le_refl _) _
    have hl1_ : Whole V3 y3.heap.size 26 ([(⟨6, flo, 3⟩ : Ev), ⟨6, flo, 3⟩].flatMap Ev.vs).toArray := by rw [← hV3]; exact Whole.new _ _ _
    have hV3_ : y3.alloc (.cells #[.int .u8 6, .int .i64 flo, .int .i64 3, .int .u8 6, .int .i64 flo, .int .i64 3] 26) = V3 := hV3
    rw [hV3_]
    clear vC_0 vC_1 vC_2 vC_3 vC_4 vSe_0 vSe_1 vSe_2
    have C_ := Lib.hid (C.out.under hb1)
    have R_ := Lib.hid (R.out.up hb1)
    have B_ := Lib.hid (B.out.trans (hb1.mono B.out.size))
    have r9_ := Lib.hid (r9.out.up hb1)
    have O_ := Lib.hid (O.out.under hb1)
    have Fl_ := Lib.hid (Fl.out.under hb1)
    have Ti_ := Lib.hid (Ti.out.under hb1)
    have Di_ := Lib.hid (Di.out.under hb1)
    have Se_ := Lib.hid (Se.out.under hb1)
    have r14_ := Lib.hid (r14.out.up hb1)
    have A4_ := Lib.hid (A4.out.under hb1)
    have B1_ := Lib.hid (B1.out.under hb1)
    have B2_ := Lib.hid (B2.out.under hb1)
    have r15_ := Lib.hid (r15.out.up hb1)
    have r16_ := Lib.hid (r16.out.up hb1)
    clear C R B r9 O Fl Ti Di Se r14 A4 B1 B2 r15 r16
    have C := C_
    have R := R_
    have B := B_
    have r9 := r9_
    have O := O_
    have Fl := Fl_
    have Ti := Ti_
    have Di := Di_
    have Se := Se_
    have r14 := r14_
    have A4 := A4_
    have B1 := B1_
    have B2 := B2_
    have r15 := r15_
    have r16 := r16_
    clear C_ R_ B_ r9_ O_ Fl_ Ti_ Di_ Se_ r14_ A4_ B1_ B2_ r15_ r16_
    have QL := Lib.hid (rdE_whole hl1_)
    clear hl1_ hb1 hV3 hV3_
    refine (HA2.out _ _ _ _ _ R.out QL.out).mono ?_
    rintro e y4 ⟨A17, c17, rfl, r17, b⟩
    have C_ := Lib.hid (C.out.under b)
    have R_ := Lib.hid (R.out.up b)
    have B_ := Lib.hid (B.out.trans (b.mono B.out.size))
    have r9_ := Lib.hid (r9.out.up b)
    have O_ := Lib.hid (O.out.under b)
    have Fl_ := Lib.hid (Fl.out.under b)
    have Ti_ := Lib.hid (Ti.out.under b)
    have Di_ := Lib.hid (Di.out.under b)
    have Se_ := Lib.hid (Se.out.under b)
    have r14_ := Lib.hid (r14.out.up b)
    have A4_ := Lib.hid (A4.out.under b)
    have B1_ := Lib.hid (B1.out.under b)
    have B2_ := Lib.hid (B2.out.under b)
    have r15_ := Lib.hid (r15.out.up b)
    have r16_ := Lib.hid (r16.out.up b)
    clear C R B r9 O Fl Ti Di Se r14 A4 B1 B2 r15 r16
    have C := C_
    have R := R_
    have B := B_
    have r9 := r9_
    have O := O_
    have Fl := Fl_
    have Ti := Ti_
    have Di := Di_
    have Se := Se_
    have r14 := r14_
    have A4 := A4_
    have B1 := B1_
    have B2 := B2_
    have r15 := r15_
    have r16 := r16_
    clear C_ R_ B_ r9_ O_ Fl_ Ti_ Di_ Se_ r14_ A4_ B1_ B2_ r15_ r16_
    clear b HA2 QL
    have r17_ := Lib.hid r17
    clear r17
    have r17 := r17_
    clear r17_
    have one := whole_one (W := y4) (t := 24) (x := #[.slice A17 n c17, .int .i64 s.fl, .int .i64 s.dr, .int .i64 s.nw, .bool s.tg])
    have C_ := Lib.hid (C.out.under one.2)
    have R_ := Lib.hid (R.out.up one.2)
    have B_ := Lib.hid (B.out.trans (one.2.mono B.out.size))
    have r9_ := Lib.hid (r9.out.up one.2)
    have O_ := Lib.hid (O.out.under one.2)
    have Fl_ := Lib.hid (Fl.out.under one.2)
    have Ti_ := Lib.hid (Ti.out.under one.2)
    have Di_ := Lib.hid (Di.out.under one.2)
    have Se_ := Lib.hid (Se.out.under one.2)
    have r14_ := Lib.hid (r14.out.up one.2)
    have A4_ := Lib.hid (A4.out.under one.2)
    have B1_ := Lib.hid (B1.out.under one.2)
    have B2_ := Lib.hid (B2.out.under one.2)
    have r15_ := Lib.hid (r15.out.up one.2)
    have r16_ := Lib.hid (r16.out.up one.2)
    have r17_ := Lib.hid (r17.out.up one.2)
    clear C R B r9 O Fl Ti Di Se r14 A4 B1 B2 r15 r16 r17
    have C := C_
    have R := R_
    have B := B_
    have r9 := r9_
    have O := O_
    have Fl := Fl_
    have Ti := Ti_
    have Di := Di_
    have Se := Se_
    have r14 := r14_
    have A4 := A4_
    have B1 := B1_
    have B2 := B2_
    have r15 := r15_
    have r16 := r16_
    have r17 := r17_
    clear C_ R_ B_ r9_ O_ Fl_ Ti_ Di_ Se_ r14_ A4_ B1_ B2_ r15_ r16_ r17_
    have E17 := Lib.hid one.1
    clear one
    go_upto_region 9 with fail
    obtain ⟨V4, hV4⟩ : ∃ V4, y4.alloc (.cells #[.slice A17 n c17, .int .i64 s.fl, .int .i64 s.dr, .int .i64 s.nw, .bool s.tg] 24) = V4 := ⟨_, rfl⟩
    obtain ⟨g17, hg17⟩ : ∃ g17, y4.heap.size = g17 := ⟨_, rfl⟩
    rw [hV4] at C R B r9 O Fl Ti Di Se r14 A4 B1 B2 r15 r16 r17 E17 ⊢
    rw [hg17] at E17 ⊢
    clear hV4 hg17
    have vC_0 := C.out.cell 0
    have vC_1 := C.out.cell 1
    have vC_2 := C.out.cell 2
    have vC_3 := C.out.cell 3
    have vC_4 := C.out.cell 4
    simp only [List.getElem?_toArray, List.getElem?_cons_zero, List.getElem?_cons_succ] at vC_0 vC_1 vC_2 vC_3 vC_4
    go_wp2_with fail
    refine (HDq.out _ _ _ R.out).mono ?_
    rintro e y5 ⟨A18, c18, rfl, r18, b⟩
    clear vC_0 vC_1 vC_2 vC_3 vC_4
    have C_ := Lib.hid (C.out.under b)
    have R_ := Lib.hid (R.out.up b)
    have B_ := Lib.hid (B.out.trans (b.mono B.out.size))
    have r9_ := Lib.hid (r9.out.up b)
    have O_ := Lib.hid (O.out.under b)
    have Fl_ := Lib.hid (Fl.out.under b)
    have Ti_ := Lib.hid (Ti.out.under b)
    have Di_ := Lib.hid (Di.out.under b)
    have Se_ := Lib.hid (Se.out.under b)
    have r14_ := Lib.hid (r14.out.up b)
    have A4_ := Lib.hid (A4.out.under b)
    have B1_ := Lib.hid (B1.out.under b)
    have B2_ := Lib.hid (B2.out.under b)
    have r15_ := Lib.hid (r15.out.up b)
    have r16_ := Lib.hid (r16.out.up b)
    have r17_ := Lib.hid (r17.out.up b)
    have E17_ := Lib.hid (E17.out.under b)
    clear C R B r9 O Fl Ti Di Se r14 A4 B1 B2 r15 r16 r17 E17
    have C := C_
    have R := R_
    have B := B_
    have r9 := r9_
    have O := O_
    have Fl := Fl_
    have Ti := Ti_
    have Di := Di_
    have Se := Se_
    have r14 := r14_
    have A4 := A4_
    have B1 := B1_
    have B2 := B2_
    have r15 := r15_
    have r16 := r16_
    have r17 := r17_
    have E17 := E17_
    clear C_ R_ B_ r9_ O_ Fl_ Ti_ Di_ Se_ r14_ A4_ B1_ B2_ r15_ r16_ r17_ E17_
    clear b HDq
    have r18_ := Lib.hid r18
    clear r18
    have r18 := r18_
    clear r18_
    have one := whole_one (W := y5) (t := 24) (x := #[.slice A18 M c18, .int .i64 q.fl, .int .i64 q.dr, .int .i64 q.nw, .bool q.tg])
    have C_ := Lib.hid (C.out.under one.2)
    have R_ := Lib.hid (R.out.up one.2)
    have B_ := Lib.hid (B.out.trans (one.2.mono B.out.size))
    have r9_ := Lib.hid (r9.out.up one.2)
    have O_ := Lib.hid (O.out.under one.2)
    have Fl_ := Lib.hid (Fl.out.under one.2)
    have Ti_ := Lib.hid (Ti.out.under one.2)
    have Di_ := Lib.hid (Di.out.under one.2)
    have Se_ := Lib.hid (Se.out.under one.2)
    have r14_ := Lib.hid (r14.out.up one.2)
    have A4_ := Lib.hid (A4.out.under one.2)
    have B1_ := Lib.hid (B1.out.under one.2)
    have B2_ := Lib.hid (B2.out.under one.2)
    have r15_ := Lib.hid (r15.out.up one.2)
    have r16_ := Lib.hid (r16.out.up one.2)
    have r17_ := Lib.hid (r17.out.up one.2)
    have E17_ := Lib.hid (E17.out.under one.2)
    have r18_ := Lib.hid (r18.out.up one.2)
    clear C R B r9 O Fl Ti Di Se r14 A4 B1 B2 r15 r16 r17 E17 r18
    have C := C_
    have R := R_
    have B := B_
    have r9 := r9_
    have O := O_
    have Fl := Fl_
    have Ti := Ti_
    have Di := Di_
    have Se := Se_
    have r14 := r14_
    have A4 := A4_
    have B1 := B1_
    have B2 := B2_
    have r15 := r15_
    have r16 := r16_
    have r17 := r17_
    have E17 := E17_
    have r18 := r18_
    clear C_ R_ B_ r9_ O_ Fl_ Ti_ Di_ Se_ r14_ A4_ B1_ B2_ r15_ r16_ r17_ E17_ r18_
    have E18 := Lib.hid one.1
    clear one
    go_upto_region 10 with fail
    obtain ⟨V5, hV5⟩ : ∃ V5, y5.alloc (.cells #[.slice A18 M c18, .int .i64 q.fl, .int .i64 q.dr, .int .i64 q.nw, .bool q.tg] 24) = V5 := ⟨_, rfl⟩
    obtain ⟨g18, hg18⟩ : ∃ g18, y5.heap.size = g18 := ⟨_, rfl⟩
    rw [hV5] at C R B r9 O Fl Ti Di Se r14 A4 B1 B2 r15 r16 r17 E17 r18 E18 ⊢
    rw [hg18] at E18 ⊢
    clear hV5 hg18
    have HC := Lib.hid ((Below.refl V5.heap.size V5).drew)
    have HL := Lib.hid (fun W (hW : Below V5.heap.size V5 W) => And.intro (cells5 (C.out.under hW)) (And.intro (cells5 (O.out.under hW)) (And.intro (cells5 (A4.out.under hW)) (And.intro (cells5 (B1.out.under hW)) (And.intro (cells5 (B2.out.under hW)) (And.intro (cells5 (E17.out.under hW)) (And.intro ((Se.out.under hW).cell 0) (And.intro ((Se.out.under hW).cell 1) ((Se.out.under hW).cell 2)))))))))
    have R_ := Lib.hid (R.out.up HC.out)
    have r9_ := Lib.hid (r9.out.up HC.out)
    have r14_ := Lib.hid (r14.out.up HC.out)
    have r15_ := Lib.hid (r15.out.up HC.out)
    have r16_ := Lib.hid (r16.out.up HC.out)
    have r17_ := Lib.hid (r17.out.up HC.out)
    have r18_ := Lib.hid (r18.out.up HC.out)
    clear R r9 r14 r15 r16 r17 r18
    have R := R_
    have r9 := r9_
    have r14 := r14_
    have r15 := r15_
    have r16 := r16_
    have r17 := r17_
    have r18 := r18_
    clear R_ r9_ r14_ r15_ r16_ r17_ r18_
    refine wp_region_held_drew (S := fun W => Below V5.heap.size V5 W) (by kernel_rfl) HC.out (fun _ => ?_)
    refine takeH (i := 0) (v := ?_) rfl (by kernel_rfl) (by kernel_rfl) (by kernel_rfl) (fun _ _ _ h => h) (by rfl) ?_ HC.out ?_
    rotate_left
    · intro W hW; obtain ⟨⟨c0, c1, c3, c4, c5⟩, ⟨o0, o1, o3, o4, o5⟩, ⟨a0, a1, a3, a4, a5⟩, ⟨b0, b1, b3, b4, b5⟩, ⟨d0, d1, d3, d4, d5⟩, ⟨e0, e1, e3, e4, e5⟩, s0, s1, s2⟩ := HL.out W hW; simp only [List.getElem?_toArray, List.getElem?_cons_zero, List.getElem?_cons_succ] at s0 s1 s2; go_simp <;> with_reducible rfl
    simp only [Act.put, List.setIfInBounds_toArray, List.set_cons_zero, List.set_cons_succ]
    refine takeH (i := 1) (v := ?_) rfl (by kernel_rfl) (by kernel_rfl) (by kernel_rfl) (fun _ _ _ h => h) (by rfl) ?_ HC.out ?_
    rotate_left
    · intro W hW; obtain ⟨⟨c0, c1, c3, c4, c5⟩, ⟨o0, o1, o3, o4, o5⟩, ⟨a0, a1, a3, a4, a5⟩, ⟨b0, b1, b3, b4, b5⟩, ⟨d0, d1, d3, d4, d5⟩, ⟨e0, e1, e3, e4, e5⟩, s0, s1, s2⟩ := HL.out W hW; simp only [List.getElem?_toArray, List.getElem?_cons_zero, List.getElem?_cons_succ] at s0 s1 s2; go_simp <;> with_reducible rfl
    simp only [Act.put, List.setIfInBounds_toArray, List.set_cons_zero, List.set_cons_succ]
    refine oneH (i := 2) rfl (by kernel_rfl) (by rfl) (fun K hK => ?_)
    go_simp
    go_at_call 9
    refine (HSx.out _ _ _ _ _ R.out r9.out).mono ?_
    rintro e9 y6 ⟨rfl, b9⟩
    have R_ := Lib.hid (R.out.up b9)
    have r9_ := Lib.hid (r9.out.up b9)
    have r14_ := Lib.hid (r14.out.up b9)
    have r15_ := Lib.hid (r15.out.up b9)
    have r16_ := Lib.hid (r16.out.up b9)
    have r17_ := Lib.hid (r17.out.up b9)
    have r18_ := Lib.hid (r18.out.up b9)
    clear R r9 r14 r15 r16 r17 r18
    have R := R_
    have r9 := r9_
    have r14 := r14_
    have r15 := r15_
    have r16 := r16_
    have r17 := r17_
    have r18 := r18_
    clear R_ r9_ r14_ r15_ r16_ r17_ r18_
    have HC2 := Lib.hid (HC.out.trans (b9.mono HC.out.size))
    clear HC b9
    have HC := HC2
    clear HC2
    refine hK.out _ _ HC.out (fun _ => ?_)
    clear hK K
    refine takeH (i := 3) (v := ?_) rfl (by kernel_rfl) (by kernel_rfl) (by kernel_rfl) (fun _ _ _ h => h) (by rfl) ?_ HC.out ?_
    rotate_left
    · intro W hW; obtain ⟨⟨c0, c1, c3, c4, c5⟩, ⟨o0, o1, o3, o4, o5⟩, ⟨a0, a1, a3, a4, a5⟩, ⟨b0, b1, b3, b4, b5⟩, ⟨d0, d1, d3, d4, d5⟩, ⟨e0, e1, e3, e4, e5⟩, s0, s1, s2⟩ := HL.out W hW; simp only [List.getElem?_toArray, List.getElem?_cons_zero, List.getElem?_cons_succ] at s0 s1 s2; go_simp <;> with_reducible rfl
    simp only [Act.put, List.setIfInBounds_toArray, List.set_cons_zero, List.set_cons_succ]
    refine takeH (i := 4) (v := ?_) rfl (by kernel_rfl) (by kernel_rfl) (by kernel_rfl) (fun _ _ _ h => h) (by rfl) ?_ HC.out ?_
    rotate_left
    · intro W hW; obtain ⟨⟨c0, c1, c3, c4, c5⟩, ⟨o0, o1, o3, o4, o5⟩, ⟨a0, a1, a3, a4, a5⟩, ⟨b0, b1, b3, b4, b5⟩, ⟨d0, d1, d3, d4, d5⟩, ⟨e0, e1, e3, e4, e5⟩, s0, s1, s2⟩ := HL.out W hW; simp only [List.getElem?_toArray, List.getElem?_cons_zero, List.getElem?_cons_succ] at s0 s1 s2; go_simp <;> with_reducible rfl
    simp only [Act.put, List.setIfInBounds_toArray, List.set_cons_zero, List.set_cons_succ]
    refine takeH (i := 5) (v := ?_) rfl (by kernel_rfl) (by kernel_rfl) (by kernel_rfl) (fun _ _ _ h => h) (by rfl) ?_ HC.out ?_
    rotate_left
    · intro W hW; obtain ⟨⟨c0, c1, c3, c4, c5⟩, ⟨o0, o1, o3, o4, o5⟩, ⟨a0, a1, a3, a4, a5⟩, ⟨b0, b1, b3, b4, b5⟩, ⟨d0, d1, d3, d4, d5⟩, ⟨e0, e1, e3, e4, e5⟩, s0, s1, s2⟩ := HL.out W hW; simp only [List.getElem?_toArray, List.getElem?_cons_zero, List.getElem?_cons_succ] at s0 s1 s2; go_simp <;> with_reducible rfl
    simp only [Act.put, List.setIfInBounds_toArray, List.set_cons_zero, List.set_cons_succ]
    refine takeH (i := 6) (v := ?_) rfl (by kernel_rfl) (by kernel_rfl) (by kernel_rfl) (fun _ _ _ h => h) (by rfl) ?_ HC.out ?_
    rotate_left
    · intro W hW; obtain ⟨⟨c0, c1, c3, c4, c5⟩, ⟨o0, o1, o3, o4, o5⟩, ⟨a0, a1, a3, a4, a5⟩, ⟨b0, b1, b3, b4, b5⟩, ⟨d0, d1, d3, d4, d5⟩, ⟨e0, e1, e3, e4, e5⟩, s0, s1, s2⟩ := HL.out W hW; simp only [List.getElem?_toArray, List.getElem?_cons_zero, List.getElem?_cons_succ] at s0 s1 s2; go_simp <;> with_reducible rfl
    simp only [Act.put, List.setIfInBounds_toArray, List.set_cons_zero, List.set_cons_succ]
    refine oneH (i := 7) rfl (by kernel_rfl) (by rfl) (fun K hK => ?_)
    go_simp
    go_at_call 9
    refine (HSx.out _ _ _ _ _ r14.out R.out).mono ?_
    rintro e9 y7 ⟨rfl, b9⟩
    have R_ := Lib.hid (R.out.up b9)
    have r9_ := Lib.hid (r9.out.up b9)
    have r14_ := Lib.hid (r14.out.up b9)
    have r15_ := Lib.hid (r15.out.up b9)
    have r16_ := Lib.hid (r16.out.up b9)
    have r17_ := Lib.hid (r17.out.up b9)
    have r18_ := Lib.hid (r18.out.up b9)
    clear R r9 r14 r15 r16 r17 r18
    have R := R_
    have r9 := r9_
    have r14 := r14_
    have r15 := r15_
    have r16 := r16_
    have r17 := r17_
    have r18 := r18_
    clear R_ r9_ r14_ r15_ r16_ r17_ r18_
    have HC2 := Lib.hid (HC.out.trans (b9.mono HC.out.size))
    clear HC b9
    have HC := HC2
    clear HC2
    refine hK.out _ _ HC.out (fun _ => ?_)
    clear hK K
    refine takeH (i := 8) (v := ?_) rfl (by kernel_rfl) (by kernel_rfl) (by kernel_rfl) (fun _ _ _ h => h) (by rfl) ?_ HC.out ?_
    rotate_left
    · intro W hW; obtain ⟨⟨c0, c1, c3, c4, c5⟩, ⟨o0, o1, o3, o4, o5⟩, ⟨a0, a1, a3, a4, a5⟩, ⟨b0, b1, b3, b4, b5⟩, ⟨d0, d1, d3, d4, d5⟩, ⟨e0, e1, e3, e4, e5⟩, s0, s1, s2⟩ := HL.out W hW; simp only [List.getElem?_toArray, List.getElem?_cons_zero, List.getElem?_cons_succ] at s0 s1 s2; go_simp <;> with_reducible rfl
    simp only [Act.put, List.setIfInBounds_toArray, List.set_cons_zero, List.set_cons_succ]
    refine takeH (i := 9) (v := ?_) rfl (by kernel_rfl) (by kernel_rfl) (by kernel_rfl) (fun _ _ _ h => h) (by rfl) ?_ HC.out ?_
    rotate_left
    · intro W hW; obtain ⟨⟨c0, c1, c3, c4, c5⟩, ⟨o0, o1, o3, o4, o5⟩, ⟨a0, a1, a3, a4, a5⟩, ⟨b0, b1, b3, b4, b5⟩, ⟨d0, d1, d3, d4, d5⟩, ⟨e0, e1, e3, e4, e5⟩, s0, s1, s2⟩ := HL.out W hW; simp only [List.getElem?_toArray, List.getElem?_cons_zero, List.getElem?_cons_succ] at s0 s1 s2; go_simp <;> with_reducible rfl
    simp only [Act.put, List.setIfInBounds_toArray, List.set_cons_zero, List.set_cons_succ]
    refine takeH (i := 10) (v := ?_) rfl (by kernel_rfl) (by kernel_rfl) (by kernel_rfl) (fun _ _ _ h => h) (by rfl) ?_ HC.out ?_
    rotate_left
    · intro W hW; obtain ⟨⟨c0, c1, c3, c4, c5⟩, ⟨o0, o1, o3, o4, o5⟩, ⟨a0, a1, a3, a4, a5⟩, ⟨b0, b1, b3, b4, b5⟩, ⟨d0, d1, d3, d4, d5⟩, ⟨e0, e1, e3, e4, e5⟩, s0, s1, s2⟩ := HL.out W hW; simp only [List.getElem?_toArray, List.getElem?_cons_zero, List.getElem?_cons_succ] at s0 s1 s2; go_simp <;> with_reducible rfl
    simp only [Act.put, List.setIfInBounds_toArray, List.set_cons_zero, List.set_cons_succ]
    refine takeH (i := 11) (v := ?_) rfl (by kernel_rfl) (by kernel_rfl) (by kernel_rfl) (fun _ _ _ h => h) (by rfl) ?_ HC.out ?_
    rotate_left
    · intro W hW; obtain ⟨⟨c0, c1, c3, c4, c5⟩, ⟨o0, o1, o3, o4, o5⟩, ⟨a0, a1, a3, a4, a5⟩, ⟨b0, b1, b3, b4, b5⟩, ⟨d0, d1, d3, d4, d5⟩, ⟨e0, e1, e3, e4, e5⟩, s0, s1, s2⟩ := HL.out W hW; simp only [List.getElem?_toArray, List.getElem?_cons_zero, List.getElem?_cons_succ] at s0 s1 s2; go_simp <;> with_reducible rfl
    simp only [Act.put, List.setIfInBounds_toArray, List.set_cons_zero, List.set_cons_succ]
    refine takeH (i := 12) (v := ?_) rfl (by kernel_rfl) (by kernel_rfl) (by kernel_rfl) (fun _ _ _ h => h) (by rfl) ?_ HC.out ?_
    rotate_left
    · intro W hW; obtain ⟨⟨c0, c1, c3, c4, c5⟩, ⟨o0, o1, o3, o4, o5⟩, ⟨a0, a1, a3, a4, a5⟩, ⟨b0, b1, b3, b4, b5⟩, ⟨d0, d1, d3, d4, d5⟩, ⟨e0, e1, e3, e4, e5⟩, s0, s1, s2⟩ := HL.out W hW; simp only [List.getElem?_toArray, List.getElem?_cons_zero, List.getElem?_cons_succ] at s0 s1 s2; go_simp <;> with_reducible rfl
    simp only [Act.put, List.setIfInBounds_toArray, List.set_cons_zero, List.set_cons_succ]
    refine oneH (i := 13) rfl (by kernel_rfl) (by rfl) (fun K hK => ?_)
    go_simp
    go_at_call 9
    refine (HS1.out _ _ _ _ _ r15.out r16.out).mono ?_
    rintro e9 y8 ⟨rfl, b9⟩
    have R_ := Lib.hid (R.out.up b9)
    have r9_ := Lib.hid (r9.out.up b9)
    have r14_ := Lib.hid (r14.out.up b9)
    have r15_ := Lib.hid (r15.out.up b9)
    have r16_ := Lib.hid (r16.out.up b9)
    have r17_ := Lib.hid (r17.out.up b9)
    have r18_ := Lib.hid (r18.out.up b9)
    clear R r9 r14 r15 r16 r17 r18
    have R := R_
    have r9 := r9_
    have r14 := r14_
    have r15 := r15_
    have r16 := r16_
    have r17 := r17_
    have r18 := r18_
    clear R_ r9_ r14_ r15_ r16_ r17_ r18_
    have HC2 := Lib.hid (HC.out.trans (b9.mono HC.out.size))
    clear HC b9
    have HC := HC2
    clear HC2
    refine hK.out _ _ HC.out (fun _ => ?_)
    clear hK K
    refine takeH (i := 14) (v := ?_) rfl (by kernel_rfl) (by kernel_rfl) (by kernel_rfl) (fun _ _ _ h => h) (by rfl) ?_ HC.out ?_
    rotate_left
    · intro W hW; obtain ⟨⟨c0, c1, c3, c4, c5⟩, ⟨o0, o1, o3, o4, o5⟩, ⟨a0, a1, a3, a4, a5⟩, ⟨b0, b1, b3, b4, b5⟩, ⟨d0, d1, d3, d4, d5⟩, ⟨e0, e1, e3, e4, e5⟩, s0, s1, s2⟩ := HL.out W hW; simp only [List.getElem?_toArray, List.getElem?_cons_zero, List.getElem?_cons_succ] at s0 s1 s2; go_simp <;> with_reducible rfl
    simp only [Act.put, List.setIfInBounds_toArray, List.set_cons_zero, List.set_cons_succ]
    refine takeH (i := 15) (v := ?_) rfl (by kernel_rfl) (by kernel_rfl) (by kernel_rfl) (fun _ _ _ h => h) (by rfl) ?_ HC.out ?_
    rotate_left
    · intro W hW; obtain ⟨⟨c0, c1, c3, c4, c5⟩, ⟨o0, o1, o3, o4, o5⟩, ⟨a0, a1, a3, a4, a5⟩, ⟨b0, b1, b3, b4, b5⟩, ⟨d0, d1, d3, d4, d5⟩, ⟨e0, e1, e3, e4, e5⟩, s0, s1, s2⟩ := HL.out W hW; simp only [List.getElem?_toArray, List.getElem?_cons_zero, List.getElem?_cons_succ] at s0 s1 s2; go_simp <;> with_reducible rfl
    simp only [Act.put, List.setIfInBounds_toArray, List.set_cons_zero, List.set_cons_succ]
    refine takeH (i := 16) (v := ?_) rfl (by kernel_rfl) (by kernel_rfl) (by kernel_rfl) (fun _ _ _ h => h) (by rfl) ?_ HC.out ?_
    rotate_left
    · intro W hW; obtain ⟨⟨c0, c1, c3, c4, c5⟩, ⟨o0, o1, o3, o4, o5⟩, ⟨a0, a1, a3, a4, a5⟩, ⟨b0, b1, b3, b4, b5⟩, ⟨d0, d1, d3, d4, d5⟩, ⟨e0, e1, e3, e4, e5⟩, s0, s1, s2⟩ := HL.out W hW; simp only [List.getElem?_toArray, List.getElem?_cons_zero, List.getElem?_cons_succ] at s0 s1 s2; go_simp <;> with_reducible rfl
    simp only [Act.put, List.setIfInBounds_toArray, List.set_cons_zero, List.set_cons_succ]
    refine takeH (i := 17) (v := ?_) rfl (by kernel_rfl) (by kernel_rfl) (by kernel_rfl) (fun _ _ _ h => h) (by rfl) ?_ HC.out ?_
    rotate_left
    · intro W hW; obtain ⟨⟨c0, c1, c3, c4, c5⟩, ⟨o0, o1, o3, o4, o5⟩, ⟨a0, a1, a3, a4, a5⟩, ⟨b0, b1, b3, b4, b5⟩, ⟨d0, d1, d3, d4, d5⟩, ⟨e0, e1, e3, e4, e5⟩, s0, s1, s2⟩ := HL.out W hW; simp only [List.getElem?_toArray, List.getElem?_cons_zero, List.getElem?_cons_succ] at s0 s1 s2; go_simp <;> with_reducible rfl
    simp only [Act.put, List.setIfInBounds_toArray, List.set_cons_zero, List.set_cons_succ]
    refine takeH (i := 18) (v := ?_) rfl (by kernel_rfl) (by kernel_rfl) (by kernel_rfl) (fun _ _ _ h => h) (by rfl) ?_ HC.out ?_
    rotate_left
    · intro W hW; obtain ⟨⟨c0, c1, c3, c4, c5⟩, ⟨o0, o1, o3, o4, o5⟩, ⟨a0, a1, a3, a4, a5⟩, ⟨b0, b1, b3, b4, b5⟩, ⟨d0, d1, d3, d4, d5⟩, ⟨e0, e1, e3, e4, e5⟩, s0, s1, s2⟩ := HL.out W hW; simp only [List.getElem?_toArray, List.getElem?_cons_zero, List.getElem?_cons_succ] at s0 s1 s2; go_simp <;> with_reducible rfl
    simp only [Act.put, List.setIfInBounds_toArray, List.set_cons_zero, List.set_cons_succ]
    refine takeH (i := 19) (v := ?_) rfl (by kernel_rfl) (by kernel_rfl) (by kernel_rfl) (fun _ _ _ h => h) (by rfl) ?_ HC.out ?_
    rotate_left
    · intro W hW; obtain ⟨⟨c0, c1, c3, c4, c5⟩, ⟨o0, o1, o3, o4, o5⟩, ⟨a0, a1, a3, a4, a5⟩, ⟨b0, b1, b3, b4, b5⟩, ⟨d0, d1, d3, d4, d5⟩, ⟨e0, e1, e3, e4, e5⟩, s0, s1, s2⟩ := HL.out W hW; simp only [List.getElem?_toArray, List.getElem?_cons_zero, List.getElem?_cons_succ] at s0 s1 s2; go_simp <;> with_reducible rfl
    simp only [Act.put, List.setIfInBounds_toArray, List.set_cons_zero, List.set_cons_succ]
    refine oneH (i := 20) rfl (by kernel_rfl) (by rfl) (fun K hK => ?_)
    go_simp
    go_at_call 10
    refine (HDs.out _ _ _ R.out).mono ?_
    rintro e9 y9 ⟨A20, c20, rfl, r_, b9⟩
    have R_ := Lib.hid (R.out.up b9)
    have r9_ := Lib.hid (r9.out.up b9)
    have r14_ := Lib.hid (r14.out.up b9)
    have r15_ := Lib.hid (r15.out.up b9)
    have r16_ := Lib.hid (r16.out.up b9)
    have r17_ := Lib.hid (r17.out.up b9)
    have r18_ := Lib.hid (r18.out.up b9)
    clear R r9 r14 r15 r16 r17 r18
    have R := R_
    have r9 := r9_
    have r14 := r14_
    have r15 := r15_
    have r16 := r16_
    have r17 := r17_
    have r18 := r18_
    clear R_ r9_ r14_ r15_ r16_ r17_ r18_
    have r20 := Lib.hid r_
    clear r_
    have HC2 := Lib.hid (HC.out.trans (b9.mono HC.out.size))
    clear HC b9
    have HC := HC2
    clear HC2
    refine hK.out _ _ HC.out (fun _ => ?_)
    clear hK K
    refine oneH (i := 21) rfl (by kernel_rfl) (by rfl) (fun K hK => ?_)
    go_simp
    go_at_call 9
    refine (HSs.out _ _ _ _ _ r17.out r20.out).mono ?_
    rintro e9 y10 ⟨rfl, b9⟩
    have R_ := Lib.hid (R.out.up b9)
    have r9_ := Lib.hid (r9.out.up b9)
    have r14_ := Lib.hid (r14.out.up b9)
    have r15_ := Lib.hid (r15.out.up b9)
    have r16_ := Lib.hid (r16.out.up b9)
    have r17_ := Lib.hid (r17.out.up b9)
    have r18_ := Lib.hid (r18.out.up b9)
    have r20_ := Lib.hid (r20.out.up b9)
    clear R r9 r14 r15 r16 r17 r18 r20
    have R := R_
    have r9 := r9_
    have r14 := r14_
    have r15 := r15_
    have r16 := r16_
    have r17 := r17_
    have r18 := r18_
    have r20 := r20_
    clear R_ r9_ r14_ r15_ r16_ r17_ r18_ r20_
    have HC2 := Lib.hid (HC.out.trans (b9.mono HC.out.size))
    clear HC b9
    have HC := HC2
    clear HC2
    refine hK.out _ _ HC.out (fun _ => ?_)
    clear hK K
    refine takeH (i := 22) (v := ?_) rfl (by kernel_rfl) (by kernel_rfl) (by kernel_rfl) (fun _ _ _ h => h) (by rfl) ?_ HC.out ?_
    rotate_left
    · intro W hW; obtain ⟨⟨c0, c1, c3, c4, c5⟩, ⟨o0, o1, o3, o4, o5⟩, ⟨a0, a1, a3, a4, a5⟩, ⟨b0, b1, b3, b4, b5⟩, ⟨d0, d1, d3, d4, d5⟩, ⟨e0, e1, e3, e4, e5⟩, s0, s1, s2⟩ := HL.out W hW; simp only [List.getElem?_toArray, List.getElem?_cons_zero, List.getElem?_cons_succ] at s0 s1 s2; go_simp <;> with_reducible rfl
    simp only [Act.put, List.setIfInBounds_toArray, List.set_cons_zero, List.set_cons_succ]
    refine takeH (i := 23) (v := ?_) rfl (by kernel_rfl) (by kernel_rfl) (by kernel_rfl) (fun _ _ _ h => h) (by rfl) ?_ HC.out ?_
    rotate_left
    · intro W hW; obtain ⟨⟨c0, c1, c3, c4, c5⟩, ⟨o0, o1, o3, o4, o5⟩, ⟨a0, a1, a3, a4, a5⟩, ⟨b0, b1, b3, b4, b5⟩, ⟨d0, d1, d3, d4, d5⟩, ⟨e0, e1, e3, e4, e5⟩, s0, s1, s2⟩ := HL.out W hW; simp only [List.getElem?_toArray, List.getElem?_cons_zero, List.getElem?_cons_succ] at s0 s1 s2; go_simp <;> with_reducible rfl
    simp only [Act.put, List.setIfInBounds_toArray, List.set_cons_zero, List.set_cons_succ]
    refine wpAnyH_done (by kernel_rfl) ?_ _
    clear HL HSx HS1 HSs HDs r9 r14 r16 r17 r18 r20 R
    have C_ := Lib.hid (C.out.under HC.out)
    have B_ := Lib.hid (B.out.trans (HC.out.mono B.out.size))
    have O_ := Lib.hid (O.out.under HC.out)
    have Fl_ := Lib.hid (Fl.out.under HC.out)
    have Ti_ := Lib.hid (Ti.out.under HC.out)
    have Di_ := Lib.hid (Di.out.under HC.out)
    have Se_ := Lib.hid (Se.out.under HC.out)
    have A4_ := Lib.hid (A4.out.under HC.out)
    have B1_ := Lib.hid (B1.out.under HC.out)
    have B2_ := Lib.hid (B2.out.under HC.out)
    have E17_ := Lib.hid (E17.out.under HC.out)
    have E18_ := Lib.hid (E18.out.under HC.out)
    clear C B O Fl Ti Di Se A4 B1 B2 E17 E18
    have C := C_
    have B := B_
    have O := O_
    have Fl := Fl_
    have Ti := Ti_
    have Di := Di_
    have Se := Se_
    have A4 := A4_
    have B1 := B1_
    have B2 := B2_
    have E17 := E17_
    have E18 := E18_
    clear C_ B_ O_ Fl_ Ti_ Di_ Se_ A4_ B1_ B2_ E17_ E18_
    clear HC
    clear O Fl Ti Di A4 B2 Se
    go_upto_region 12 with fail
    go_cut [99] (fun s wx => s = .bool false ∧ wx = y10)
    case first =>
      have hs := HX.out.2.2.1
      have vE17_1 := E17.out.cell 1
      have vE17_2 := E17.out.cell 2
      simp only [List.getElem?_toArray, List.getElem?_cons_zero, List.getElem?_cons_succ] at vE17_1 vE17_2
      by_cases h0 : 0 ≤ flo
      ·
        by_cases h1 : flo ≤ 1099511627776
        ·
          have e9 : s.fl = flo ∧ s.dr = 3 := by rw [← hs]; unfold floorC; rw [if_pos (by rw [isNum_yes h0 h1]; rfl)]; exact ⟨rfl, rfl⟩
          have p0 : decide (0 ≤ flo) = true := decide_eq_true h0
          have p1 : decide (flo ≤ 1099511627776) = true := decide_eq_true h1
          have p2 : (s.fl != flo) = false := by simp [e9.1]
          have p3 : (s.dr != 3) = false := by simp [e9.2]
          clear h0 h1 e9 hs HX
          go_wp2_with fail
          go_meet
          exact ⟨rfl, rfl⟩
        ·
          have p0 : decide (0 ≤ flo) = true := decide_eq_true h0
          have p1 : decide (flo ≤ 1099511627776) = false := decide_eq_false h1
          clear h0 h1 hs HX
          go_wp2_with fail
          go_meet
          exact ⟨rfl, rfl⟩
      ·
        have p0 : decide (0 ≤ flo) = false := decide_eq_false h0
        clear h0 hs HX
        go_wp2_with fail
        go_meet
        exact ⟨rfl, rfl⟩
    case rest =>
      obtain ⟨rfl, hwx⟩ := hcut
      have hwy := hwx.symm
      subst hwy
      clear hwx
      go_upto_region 14 with fail
      obtain ⟨P, hP⟩ : ∃ P, (decide (0 ≤ ver) && (decide (ver ≤ 1099511627776) && decide (n < 60))) = P := ⟨_, rfl⟩
      have HP : Hid (((M : Int) == (n : Int) + 1) = P) := Lib.hid (by
        obtain ⟨hl, hn, _, hq, hM⟩ := HX.out
        rw [← hP, ← hM, ← hq]
        have e9 : (decide (0 ≤ ver) && (decide (ver ≤ 1099511627776) && decide (n < 60))) = (isNum ver && decide (n < 60)) := by unfold isNum; rw [Bool.and_assoc]
        rw [e9]
        by_cases c1 : n < 60
        · cases c2 : isNum ver with
          | true => rw [strayC_yes (by omega) c2, decide_eq_true c1]; simp [hl]
          | false =>
            rw [strayC_no (by rw [c2]; simp), hl, Bool.false_and, beq_eq_false_iff_ne]
            omega
        · rw [strayC_no (by omega), hl, decide_eq_false c1, Bool.and_false, beq_eq_false_iff_ne]
          omega
        )
      go_cut [19] (fun s wx => s = .bool P ∧ wx = y10)
      case first =>
        have vC_0 := C.out.cell 0
        simp only [List.getElem?_toArray, List.getElem?_cons_zero] at vC_0
        clear HP HX
        cases p0 : decide (0 ≤ ver)
        ·
          rw [p0, Bool.false_and] at hP
          subst hP
          go_wp2_with fail
          go_meet
          exact ⟨rfl, rfl⟩
        ·
          cases p1 : decide (ver ≤ 1099511627776)
          ·
            rw [p0, p1, Bool.true_and, Bool.false_and] at hP
            subst hP
            go_wp2_with fail
            go_meet
            exact ⟨rfl, rfl⟩
          ·
            rw [p0, p1, Bool.true_and, Bool.true_and] at hP
            have p2 : decide ((n : Int) < 60) = P := by rw [← hP]; exact decide_eq_decide.2 (by omega)
            clear hP
            go_wp2_with fail
            go_meet
            exact ⟨rfl, rfl⟩
      case rest =>
        obtain ⟨rfl, hwx⟩ := hcut
        have hwy := hwx.symm
        subst hwy
        clear hwx hP
        have ew : IntKind.i64.wrap ((n : Int) + 1) = (n : Int) + 1 := IntWalk.i64_in _ ⟨by have := HX.out.2.1; omega, by have := HX.out.2.1; omega⟩
        have hP1 := HP.out
        have hP2 : (P == P) = true := by simp
        have vC_0 := C.out.cell 0
        simp only [List.getElem?_toArray, List.getElem?_cons_zero] at vC_0
        have vE18_0 := E18.out.cell 0
        simp only [List.getElem?_toArray, List.getElem?_cons_zero] at vE18_0
        have vB1_0 := B1.out.cell 0
        have vB1_1 := B1.out.cell 1
        have vB1_2 := B1.out.cell 2
        have vB1_3 := B1.out.cell 3
        have vB1_4 := B1.out.cell 4
        simp only [List.getElem?_toArray, List.getElem?_cons_zero, List.getElem?_cons_succ] at vB1_0 vB1_1 vB1_2 vB1_3 vB1_4
        go_upto_region 15 with fail
        go_wp2_with fail
        refine (HFi.out _ _ _ r15.out).mono ?_
        rintro e y11 ⟨rfl, b⟩
        clear vC_0 vE18_0 vB1_0 vB1_1 vB1_2 vB1_3 vB1_4
        have C_ := Lib.hid (C.out.under b)
        have B_ := Lib.hid (B.out.trans (b.mono B.out.size))
        have B1_ := Lib.hid (B1.out.under b)
        have E17_ := Lib.hid (E17.out.under b)
        have E18_ := Lib.hid (E18.out.under b)
        have r15_ := Lib.hid (r15.out.up b)
        clear C B B1 E17 E18 r15
        have C := C_
        have B := B_
        have B1 := B1_
        have E17 := E17_
        have E18 := E18_
        have r15 := r15_
        clear C_ B_ B1_ E17_ E18_ r15_
        clear b HFi hP1 hP2 ew
        go_wp2_with fail
        refine (evWakes_any _).mono ?_
        rintro e y12 ⟨rfl, b⟩
        have C_ := Lib.hid (C.out.under b)
        have B_ := Lib.hid (B.out.trans (b.mono B.out.size))
        have B1_ := Lib.hid (B1.out.under b)
        have E17_ := Lib.hid (E17.out.under b)
        have E18_ := Lib.hid (E18.out.under b)
        have r15_ := Lib.hid (r15.out.up b)
        clear C B B1 E17 E18 r15
        have C := C_
        have B := B_
        have B1 := B1_
        have E17 := E17_
        have E18 := E18_
        have r15 := r15_
        clear C_ B_ B1_ E17_ E18_ r15_
        clear b
        go_wp2_with fail
        go_ret
        exact ⟨rfl, B.out⟩

theorem eventTwice_any (x : Cw) (id ver flo : Int) (A : Option Addr) (n c : Nat) (w : World) (hr : RdX w w.heap.size A n x.l) :
    Calls Try.prog 6 #[.agg #[.slice A n c, .int .i64 x.fl, .int .i64 x.dr, .int .i64 x.nw, .bool x.tg], .int .i64 id, .int .i64 ver, .int .i64 flo] w (TruePost w) := by
  cases h : right x with
  | false => exact twice_wrong x id ver flo A n c w hr h
  | true => exact twice_on x id ver flo A n c w hr h

end Go.Proofs.Ytoiegffnmjlkdaa
