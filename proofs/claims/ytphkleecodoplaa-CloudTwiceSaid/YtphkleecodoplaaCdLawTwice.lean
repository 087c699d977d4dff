/-
  The walk of the statement CloudTwice: what is asked twice is done once. Conditions: those that the theorem names.
-/
import Derived.Test.YtphkleecodoplaaCdLawKit
import Derived.BigQuiet
namespace Go.Proofs.Ytphkleecodoplaa
open Go.RowKit Go.Shelf

set_option maxRecDepth 100000 in
set_option maxHeartbeats 8000000 in
theorem twice_wrong (x : Cw) (q p : Ak) (A : Option Addr) (n c : Nat) (w : World) (hr : RdX w w.heap.size A n x.l) (h : right x = false) :
    Calls Try.prog 6 #[.agg #[.slice A n c, .int .i64 x.fl, .int .i64 x.dr, .int .i64 x.nw, .bool x.tg], .agg #[.int .u8 q.kind, .int .i64 q.call, .int .i64 q.a, .int .i64 q.b, .int .i64 q.c, .int .i64 q.d], .agg #[.int .u8 p.kind, .int .i64 p.call, .int .i64 p.a, .int .i64 p.b, .int .i64 p.c, .int .i64 p.d]] w (TruePost w) := by
  have three := whole_three (W := w) (t := 24) (u := 26) (v := 26) (x := #[.slice A n c, .int .i64 x.fl, .int .i64 x.dr, .int .i64 x.nw, .bool x.tg]) (y := #[.int .u8 q.kind, .int .i64 q.call, .int .i64 q.a, .int .i64 q.b, .int .i64 q.c, .int .i64 q.d]) (z := #[.int .u8 p.kind, .int .i64 p.call, .int .i64 p.a, .int .i64 p.b, .int .i64 p.c, .int .i64 p.d])
  have C := Lib.hid three.1
  have Q := Lib.hid three.2.1
  have P := Lib.hid three.2.2.1
  have R := Lib.hid (hr.up three.2.2.2)
  have B := Lib.hid three.2.2.2
  clear three hr
  have HRt := Lib.hid (rightL (l := x.l) (fl := x.fl) (dr := x.dr) (nw := x.nw) (tg := x.tg) (n := n) h)
  go_enter Try.func6, Try.ntmps6
  go_wp2_with fail
  refine (HRt.out _ _ _ R.out).mono ?_
  rintro e y1 ⟨rfl, b⟩
  have C_ := Lib.hid (C.out.under b)
  have Q_ := Lib.hid (Q.out.under b)
  have P_ := Lib.hid (P.out.under b)
  have R_ := Lib.hid (R.out.up b)
  have B_ := Lib.hid (B.out.trans (b.mono B.out.size))
  clear C Q P R B
  have C := C_
  have Q := Q_
  have P := P_
  have R := R_
  have B := B_
  clear C_ Q_ P_ R_ B_
  clear b
  go_wp2_with fail
  refine (wakes_any _).mono ?_
  rintro e y2 ⟨rfl, b⟩
  have C_ := Lib.hid (C.out.under b)
  have Q_ := Lib.hid (Q.out.under b)
  have P_ := Lib.hid (P.out.under b)
  have R_ := Lib.hid (R.out.up b)
  have B_ := Lib.hid (B.out.trans (b.mono B.out.size))
  clear C Q P R B
  have C := C_
  have Q := Q_
  have P := P_
  have R := R_
  have B := B_
  clear C_ Q_ P_ R_ B_
  clear b
  go_wp2_with fail
  go_ret
  exact ⟨rfl, B.out⟩

set_option maxRecDepth 100000 in
set_option maxHeartbeats 8000000 in
theorem twice_right (x : Cw) (q p : Ak) (A : Option Addr) (n c : Nat) (w : World) (hr : RdX w w.heap.size A n x.l) (hk : (Lit.int .u8 q.kind).wf = true) (hkp : (Lit.int .u8 p.kind).wf = true) (h : right x = true) {L : List Bx} {K I : Int} {N : Nat} (hdo : doP x q = (L, K, I)) (hN : L.length = N) :
    Calls Try.prog 6 #[.agg #[.slice A n c, .int .i64 x.fl, .int .i64 x.dr, .int .i64 x.nw, .bool x.tg], .agg #[.int .u8 q.kind, .int .i64 q.call, .int .i64 q.a, .int .i64 q.b, .int .i64 q.c, .int .i64 q.d], .agg #[.int .u8 p.kind, .int .i64 p.call, .int .i64 p.a, .int .i64 p.b, .int .i64 p.c, .int .i64 p.d]] w (TruePost w) := by
  have three := whole_three (W := w) (t := 24) (u := 26) (v := 26) (x := #[.slice A n c, .int .i64 x.fl, .int .i64 x.dr, .int .i64 x.nw, .bool x.tg]) (y := #[.int .u8 q.kind, .int .i64 q.call, .int .i64 q.a, .int .i64 q.b, .int .i64 q.c, .int .i64 q.d]) (z := #[.int .u8 p.kind, .int .i64 p.call, .int .i64 p.a, .int .i64 p.b, .int .i64 p.c, .int .i64 p.d])
  have C := Lib.hid three.1
  have Q := Lib.hid three.2.1
  have P := Lib.hid three.2.2.1
  have R := Lib.hid (hr.up three.2.2.2)
  have B := Lib.hid three.2.2.2
  clear three hr
  have hn : n ≤ 60 := by have := right_few h; have := R.out.len; omega
  have hN60 : N ≤ 60 := by have := doC_few (q := q) h; rw [hdo] at this; exact hN ▸ this
  have hR : right ⟨L, x.fl, x.dr, x.nw, x.tg⟩ = true := by have := right_do (q := q) h; unfold doC at this; rw [hdo] at this; exact this
  have h2 : doP ⟨L, x.fl, x.dr, x.nw, x.tg⟩ q = (L, K, I) := by have := twice (q := q) h; unfold doC at this; rw [hdo] at this; exact this
  have HRt := Lib.hid (rightL (l := x.l) (fl := x.fl) (dr := x.dr) (nw := x.nw) (tg := x.tg) (n := n) (b := true) h)
  have HOw := Lib.hid (fun W A c hr => ownL (l := x.l) (fl := x.fl) (dr := x.dr) (nw := x.nw) (tg := x.tg) (n := n) (by omega) W A c hr)
  have HD1 := Lib.hid (fun W A c hr => doL (l := x.l) (fl := x.fl) (dr := x.dr) (nw := x.nw) (tg := x.tg) (n := n) hdo hN hk (by omega) W A c hr)
  have HD2 := Lib.hid (fun W A c hr => doL (l := L) (fl := x.fl) (dr := x.dr) (nw := x.nw) (tg := x.tg) (n := N) h2 hN hk (by omega) W A c hr)
  have HS1 := Lib.hid (fun W A c A' c' hr hr' => sameL (l := x.l) (l' := x.l) (fl := x.fl) (dr := x.dr) (nw := x.nw) (tg := x.tg) (n := n) (N := n) (sameCw_eq rfl) (by omega) W A c A' c' hr hr')
  have HS2 := Lib.hid (fun W A c A' c' hr hr' => sameL (l := L) (l' := L) (fl := x.fl) (dr := x.dr) (nw := x.nw) (tg := x.tg) (n := N) (N := N) (sameCw_eq rfl) (by omega) W A c A' c' hr hr')
  obtain ⟨r, hrr⟩ : ∃ r, placeI (find L I) = r := ⟨_, rfl⟩
  have HFi := Lib.hid (fun W A c hr => findL (l := L) (fl := x.fl) (dr := x.dr) (nw := x.nw) (tg := x.tg) (n := N) (id := I) hrr (by omega) W A c hr)
  have HX := Lib.hid (And.intro h (And.intro hdo (And.intro hN (And.intro hN60 (And.intro hR (And.intro hrr hkp))))))
  clear h hdo hN hN60 hR hrr h2 hn hk hkp
  go_enter Try.func6, Try.ntmps6
  go_wp2_with fail
  refine (HRt.out _ _ _ R.out).mono ?_
  rintro e y1 ⟨rfl, b⟩
  have C_ := Lib.hid (C.out.under b)
  have Q_ := Lib.hid (Q.out.under b)
  have P_ := Lib.hid (P.out.under b)
  have R_ := Lib.hid (R.out.up b)
  have B_ := Lib.hid (B.out.trans (b.mono B.out.size))
  clear C Q P R B
  have C := C_
  have Q := Q_
  have P := P_
  have R := R_
  have B := B_
  clear C_ Q_ P_ R_ B_
  clear b HRt
  have vC_0 := C.out.cell 0
  have vC_1 := C.out.cell 1
  have vC_2 := C.out.cell 2
  have vC_3 := C.out.cell 3
  have vC_4 := C.out.cell 4
  simp only [List.getElem?_toArray, List.getElem?_cons_zero, List.getElem?_cons_succ] at vC_0 vC_1 vC_2 vC_3 vC_4
  go_wp2_with fail
  refine (HOw.out _ _ _ R.out).mono ?_
  rintro e y2 ⟨A2, c2, rfl, r2, b⟩
  clear vC_0 vC_1 vC_2 vC_3 vC_4
  have C_ := Lib.hid (C.out.under b)
  have Q_ := Lib.hid (Q.out.under b)
  have P_ := Lib.hid (P.out.under b)
  have R_ := Lib.hid (R.out.up b)
  have B_ := Lib.hid (B.out.trans (b.mono B.out.size))
  clear C Q P R B
  have C := C_
  have Q := Q_
  have P := P_
  have R := R_
  have B := B_
  clear C_ Q_ P_ R_ B_
  clear HOw b
  have one := whole_one (W := y2) (t := 24) (x := #[.slice A2 n c2, .int .i64 x.fl, .int .i64 x.dr, .int .i64 x.nw, .bool x.tg])
  have C_ := Lib.hid (C.out.under one.2)
  have Q_ := Lib.hid (Q.out.under one.2)
  have P_ := Lib.hid (P.out.under one.2)
  have R_ := Lib.hid (R.out.up one.2)
  have B_ := Lib.hid (B.out.trans (one.2.mono B.out.size))
  clear C Q P R B
  have C := C_
  have Q := Q_
  have P := P_
  have R := R_
  have B := B_
  clear C_ Q_ P_ R_ B_
  have S := Lib.hid one.1
  have RS := Lib.hid (r2.up one.2)
  clear one r2
  have vC_0 := C.out.cell 0
  have vC_1 := C.out.cell 1
  have vC_2 := C.out.cell 2
  have vC_3 := C.out.cell 3
  have vC_4 := C.out.cell 4
  simp only [List.getElem?_toArray, List.getElem?_cons_zero, List.getElem?_cons_succ] at vC_0 vC_1 vC_2 vC_3 vC_4
  have vQ_0 := Q.out.cell 0
  have vQ_1 := Q.out.cell 1
  have vQ_2 := Q.out.cell 2
  have vQ_3 := Q.out.cell 3
  have vQ_4 := Q.out.cell 4
  have vQ_5 := Q.out.cell 5
  simp only [List.getElem?_toArray, List.getElem?_cons_zero, List.getElem?_cons_succ] at vQ_0 vQ_1 vQ_2 vQ_3 vQ_4 vQ_5
  go_wp2_with fail
  refine (HD1.out _ _ _ R.out).mono ?_
  rintro e y3 ⟨A3, c3, rfl, r2, b⟩
  clear vC_0 vC_1 vC_2 vC_3 vC_4 vQ_0 vQ_1 vQ_2 vQ_3 vQ_4 vQ_5
  have C_ := Lib.hid (C.out.under b)
  have Q_ := Lib.hid (Q.out.under b)
  have P_ := Lib.hid (P.out.under b)
  have R_ := Lib.hid (R.out.up b)
  have B_ := Lib.hid (B.out.trans (b.mono B.out.size))
  have S_ := Lib.hid (S.out.under b)
  have RS_ := Lib.hid (RS.out.up b)
  clear C Q P R B S RS
  have C := C_
  have Q := Q_
  have P := P_
  have R := R_
  have B := B_
  have S := S_
  have RS := RS_
  clear C_ Q_ P_ R_ B_ S_ RS_
  clear HD1 b
  have two := whole_two (W := y3) (t := 24) (u := 30) (x := #[.slice A3 N c3, .int .i64 x.fl, .int .i64 x.dr, .int .i64 x.nw, .bool x.tg]) (y := #[.int .i64 q.call, .int .u8 q.kind, .int .u8 K, .int .i64 I, .slice none 0 0, .bool false])
  have C_ := Lib.hid (C.out.under two.2.2)
  have Q_ := Lib.hid (Q.out.under two.2.2)
  have P_ := Lib.hid (P.out.under two.2.2)
  have R_ := Lib.hid (R.out.up two.2.2)
  have B_ := Lib.hid (B.out.trans (two.2.2.mono B.out.size))
  have S_ := Lib.hid (S.out.under two.2.2)
  have RS_ := Lib.hid (RS.out.up two.2.2)
  clear C Q P R B S RS
  have C := C_
  have Q := Q_
  have P := P_
  have R := R_
  have B := B_
  have S := S_
  have RS := RS_
  clear C_ Q_ P_ R_ B_ S_ RS_
  have D := Lib.hid two.1
  have T := Lib.hid two.2.1
  have RD := Lib.hid (r2.up two.2.2)
  clear two r2
  have vQ_0 := Q.out.cell 0
  have vQ_1 := Q.out.cell 1
  have vQ_2 := Q.out.cell 2
  have vQ_3 := Q.out.cell 3
  have vQ_4 := Q.out.cell 4
  have vQ_5 := Q.out.cell 5
  simp only [List.getElem?_toArray, List.getElem?_cons_zero, List.getElem?_cons_succ] at vQ_0 vQ_1 vQ_2 vQ_3 vQ_4 vQ_5
  go_wp2_with fail
  refine (HD2.out _ _ _ RD.out).mono ?_
  rintro e y4 ⟨A4, c4, rfl, r2, b⟩
  clear vQ_0 vQ_1 vQ_2 vQ_3 vQ_4 vQ_5
  have C_ := Lib.hid (C.out.under b)
  have Q_ := Lib.hid (Q.out.under b)
  have P_ := Lib.hid (P.out.under b)
  have R_ := Lib.hid (R.out.up b)
  have B_ := Lib.hid (B.out.trans (b.mono B.out.size))
  have S_ := Lib.hid (S.out.under b)
  have RS_ := Lib.hid (RS.out.up b)
  have D_ := Lib.hid (D.out.under b)
  have T_ := Lib.hid (T.out.under b)
  have RD_ := Lib.hid (RD.out.up b)
  clear C Q P R B S RS D T RD
  have C := C_
  have Q := Q_
  have P := P_
  have R := R_
  have B := B_
  have S := S_
  have RS := RS_
  have D := D_
  have T := T_
  have RD := RD_
  clear C_ Q_ P_ R_ B_ S_ RS_ D_ T_ RD_
  clear HD2 b
  have two := whole_two (W := y4) (t := 24) (u := 30) (x := #[.slice A4 N c4, .int .i64 x.fl, .int .i64 x.dr, .int .i64 x.nw, .bool x.tg]) (y := #[.int .i64 q.call, .int .u8 q.kind, .int .u8 K, .int .i64 I, .slice none 0 0, .bool false])
  have C_ := Lib.hid (C.out.under two.2.2)
  have Q_ := Lib.hid (Q.out.under two.2.2)
  have P_ := Lib.hid (P.out.under two.2.2)
  have R_ := Lib.hid (R.out.up two.2.2)
  have B_ := Lib.hid (B.out.trans (two.2.2.mono B.out.size))
  have S_ := Lib.hid (S.out.under two.2.2)
  have RS_ := Lib.hid (RS.out.up two.2.2)
  have D_ := Lib.hid (D.out.under two.2.2)
  have T_ := Lib.hid (T.out.under two.2.2)
  have RD_ := Lib.hid (RD.out.up two.2.2)
  clear C Q P R B S RS D T RD
  have C := C_
  have Q := Q_
  have P := P_
  have R := R_
  have B := B_
  have S := S_
  have RS := RS_
  have D := D_
  have T := T_
  have RD := RD_
  clear C_ Q_ P_ R_ B_ S_ RS_ D_ T_ RD_
  have E := Lib.hid two.1
  have U := Lib.hid two.2.1
  have RE := Lib.hid (r2.up two.2.2)
  clear two r2
  have vC_0 := C.out.cell 0
  have vC_1 := C.out.cell 1
  have vC_2 := C.out.cell 2
  have vC_3 := C.out.cell 3
  have vC_4 := C.out.cell 4
  simp only [List.getElem?_toArray, List.getElem?_cons_zero, List.getElem?_cons_succ] at vC_0 vC_1 vC_2 vC_3 vC_4
  have vS_0 := S.out.cell 0
  have vS_1 := S.out.cell 1
  have vS_2 := S.out.cell 2
  have vS_3 := S.out.cell 3
  have vS_4 := S.out.cell 4
  simp only [List.getElem?_toArray, List.getElem?_cons_zero, List.getElem?_cons_succ] at vS_0 vS_1 vS_2 vS_3 vS_4
  go_wp2_with fail
  refine (HS1.out _ _ _ _ _ R.out RS.out).mono ?_
  rintro e y5 ⟨rfl, b⟩
  clear vC_0 vC_1 vC_2 vC_3 vC_4 vS_0 vS_1 vS_2 vS_3 vS_4
  have C_ := Lib.hid (C.out.under b)
  have Q_ := Lib.hid (Q.out.under b)
  have P_ := Lib.hid (P.out.under b)
  have R_ := Lib.hid (R.out.up b)
  have B_ := Lib.hid (B.out.trans (b.mono B.out.size))
  have S_ := Lib.hid (S.out.under b)
  have RS_ := Lib.hid (RS.out.up b)
  have D_ := Lib.hid (D.out.under b)
  have T_ := Lib.hid (T.out.under b)
  have RD_ := Lib.hid (RD.out.up b)
  have E_ := Lib.hid (E.out.under b)
  have U_ := Lib.hid (U.out.under b)
  have RE_ := Lib.hid (RE.out.up b)
  clear C Q P R B S RS D T RD E U RE
  have C := C_
  have Q := Q_
  have P := P_
  have R := R_
  have B := B_
  have S := S_
  have RS := RS_
  have D := D_
  have T := T_
  have RD := RD_
  have E := E_
  have U := U_
  have RE := RE_
  clear C_ Q_ P_ R_ B_ S_ RS_ D_ T_ RD_ E_ U_ RE_
  clear HS1 b
  have vD_0 := D.out.cell 0
  have vD_1 := D.out.cell 1
  have vD_2 := D.out.cell 2
  have vD_3 := D.out.cell 3
  have vD_4 := D.out.cell 4
  simp only [List.getElem?_toArray, List.getElem?_cons_zero, List.getElem?_cons_succ] at vD_0 vD_1 vD_2 vD_3 vD_4
  have vE_0 := E.out.cell 0
  have vE_1 := E.out.cell 1
  have vE_2 := E.out.cell 2
  have vE_3 := E.out.cell 3
  have vE_4 := E.out.cell 4
  simp only [List.getElem?_toArray, List.getElem?_cons_zero, List.getElem?_cons_succ] at vE_0 vE_1 vE_2 vE_3 vE_4
  go_wp2_with fail
  refine (HS2.out _ _ _ _ _ RD.out RE.out).mono ?_
  rintro e y6 ⟨rfl, b⟩
  clear vD_0 vD_1 vD_2 vD_3 vD_4 vE_0 vE_1 vE_2 vE_3 vE_4
  have C_ := Lib.hid (C.out.under b)
  have Q_ := Lib.hid (Q.out.under b)
  have P_ := Lib.hid (P.out.under b)
  have R_ := Lib.hid (R.out.up b)
  have B_ := Lib.hid (B.out.trans (b.mono B.out.size))
  have S_ := Lib.hid (S.out.under b)
  have RS_ := Lib.hid (RS.out.up b)
  have D_ := Lib.hid (D.out.under b)
  have T_ := Lib.hid (T.out.under b)
  have RD_ := Lib.hid (RD.out.up b)
  have E_ := Lib.hid (E.out.under b)
  have U_ := Lib.hid (U.out.under b)
  have RE_ := Lib.hid (RE.out.up b)
  clear C Q P R B S RS D T RD E U RE
  have C := C_
  have Q := Q_
  have P := P_
  have R := R_
  have B := B_
  have S := S_
  have RS := RS_
  have D := D_
  have T := T_
  have RD := RD_
  have E := E_
  have U := U_
  have RE := RE_
  clear C_ Q_ P_ R_ B_ S_ RS_ D_ T_ RD_ E_ U_ RE_
  clear HS2 b
  have vT_0 := T.out.cell 0
  have vT_1 := T.out.cell 1
  have vT_2 := T.out.cell 2
  have vT_3 := T.out.cell 3
  have vT_4 := T.out.cell 4
  have vT_5 := T.out.cell 5
  simp only [List.getElem?_toArray, List.getElem?_cons_zero, List.getElem?_cons_succ] at vT_0 vT_1 vT_2 vT_3 vT_4 vT_5
  have vU_0 := U.out.cell 0
  have vU_1 := U.out.cell 1
  have vU_2 := U.out.cell 2
  have vU_3 := U.out.cell 3
  have vU_4 := U.out.cell 4
  have vU_5 := U.out.cell 5
  simp only [List.getElem?_toArray, List.getElem?_cons_zero, List.getElem?_cons_succ] at vU_0 vU_1 vU_2 vU_3 vU_4 vU_5
  go_wp2_with fail
  refine (tellL _).mono ?_
  rintro e y7 ⟨rfl, b⟩
  clear vT_0 vT_1 vT_2 vT_3 vT_4 vT_5 vU_0 vU_1 vU_2 vU_3 vU_4 vU_5
  have C_ := Lib.hid (C.out.under b)
  have Q_ := Lib.hid (Q.out.under b)
  have P_ := Lib.hid (P.out.under b)
  have R_ := Lib.hid (R.out.up b)
  have B_ := Lib.hid (B.out.trans (b.mono B.out.size))
  have S_ := Lib.hid (S.out.under b)
  have RS_ := Lib.hid (RS.out.up b)
  have D_ := Lib.hid (D.out.under b)
  have T_ := Lib.hid (T.out.under b)
  have RD_ := Lib.hid (RD.out.up b)
  have E_ := Lib.hid (E.out.under b)
  have U_ := Lib.hid (U.out.under b)
  have RE_ := Lib.hid (RE.out.up b)
  clear C Q P R B S RS D T RD E U RE
  have C := C_
  have Q := Q_
  have P := P_
  have R := R_
  have B := B_
  have S := S_
  have RS := RS_
  have D := D_
  have T := T_
  have RD := RD_
  have E := E_
  have U := U_
  have RE := RE_
  clear C_ Q_ P_ R_ B_ S_ RS_ D_ T_ RD_ E_ U_ RE_
  clear b
  have vD_0 := D.out.cell 0
  have vD_1 := D.out.cell 1
  have vD_2 := D.out.cell 2
  have vD_3 := D.out.cell 3
  have vD_4 := D.out.cell 4
  simp only [List.getElem?_toArray, List.getElem?_cons_zero, List.getElem?_cons_succ] at vD_0 vD_1 vD_2 vD_3 vD_4
  have vT_3 := T.out.cell 3
  simp only [List.getElem?_toArray, List.getElem?_cons_zero, List.getElem?_cons_succ] at vT_3
  go_wp2_with fail
  refine (HFi.out _ _ _ RD.out).mono ?_
  rintro e y8 ⟨rfl, b⟩
  clear vD_0 vD_1 vD_2 vD_3 vD_4 vT_3
  have C_ := Lib.hid (C.out.under b)
  have Q_ := Lib.hid (Q.out.under b)
  have P_ := Lib.hid (P.out.under b)
  have R_ := Lib.hid (R.out.up b)
  have B_ := Lib.hid (B.out.trans (b.mono B.out.size))
  have S_ := Lib.hid (S.out.under b)
  have RS_ := Lib.hid (RS.out.up b)
  have D_ := Lib.hid (D.out.under b)
  have T_ := Lib.hid (T.out.under b)
  have RD_ := Lib.hid (RD.out.up b)
  have E_ := Lib.hid (E.out.under b)
  have U_ := Lib.hid (U.out.under b)
  have RE_ := Lib.hid (RE.out.up b)
  clear C Q P R B S RS D T RD E U RE
  have C := C_
  have Q := Q_
  have P := P_
  have R := R_
  have B := B_
  have S := S_
  have RS := RS_
  have D := D_
  have T := T_
  have RD := RD_
  have E := E_
  have U := U_
  have RE := RE_
  clear C_ Q_ P_ R_ B_ S_ RS_ D_ T_ RD_ E_ U_ RE_
  clear HFi b
  have vD_0 := D.out.cell 0
  have vD_1 := D.out.cell 1
  have vD_2 := D.out.cell 2
  have vD_3 := D.out.cell 3
  have vD_4 := D.out.cell 4
  simp only [List.getElem?_toArray, List.getElem?_cons_zero, List.getElem?_cons_succ] at vD_0 vD_1 vD_2 vD_3 vD_4
  have vT_2 := T.out.cell 2
  have vT_3 := T.out.cell 3
  simp only [List.getElem?_toArray, List.getElem?_cons_zero, List.getElem?_cons_succ] at vT_2 vT_3
  have vP_0 := P.out.cell 0
  have vP_1 := P.out.cell 1
  simp only [List.getElem?_toArray, List.getElem?_cons_zero, List.getElem?_cons_succ] at vP_0 vP_1
  have vQ_1 := Q.out.cell 1
  simp only [List.getElem?_toArray, List.getElem?_cons_zero, List.getElem?_cons_succ] at vQ_1
  obtain ⟨h, hdo, hN, hN60, hR, hrr, hkp⟩ := HX.out
  by_cases k1 : K = 1
  case neg =>
    have d1 : (K != 1) = true := by simp [k1]
    clear k1 h hdo hN hN60 hR hrr hkp
    go_wp2_with fail
    go_quiet (fail)
    clear vD_0 vD_1 vD_2 vD_3 vD_4 vT_2 vT_3 vP_0 vP_1 vQ_1
    have C_ := Lib.hid (C.out.under (below_drewN (Below.refl y8.heap.size y8) nq))
    have Q_ := Lib.hid (Q.out.under (below_drewN (Below.refl y8.heap.size y8) nq))
    have P_ := Lib.hid (P.out.under (below_drewN (Below.refl y8.heap.size y8) nq))
    have R_ := Lib.hid (R.out.up (below_drewN (Below.refl y8.heap.size y8) nq))
    have B_ := Lib.hid (B.out.trans ((below_drewN (Below.refl y8.heap.size y8) nq).mono B.out.size))
    have S_ := Lib.hid (S.out.under (below_drewN (Below.refl y8.heap.size y8) nq))
    have RS_ := Lib.hid (RS.out.up (below_drewN (Below.refl y8.heap.size y8) nq))
    have D_ := Lib.hid (D.out.under (below_drewN (Below.refl y8.heap.size y8) nq))
    have T_ := Lib.hid (T.out.under (below_drewN (Below.refl y8.heap.size y8) nq))
    have RD_ := Lib.hid (RD.out.up (below_drewN (Below.refl y8.heap.size y8) nq))
    have E_ := Lib.hid (E.out.under (below_drewN (Below.refl y8.heap.size y8) nq))
    have U_ := Lib.hid (U.out.under (below_drewN (Below.refl y8.heap.size y8) nq))
    have RE_ := Lib.hid (RE.out.up (below_drewN (Below.refl y8.heap.size y8) nq))
    clear C Q P R B S RS D T RD E U RE
    have C := C_
    have Q := Q_
    have P := P_
    have R := R_
    have B := B_
    have S := S_
    have RS := RS_
    have D := D_
    have T := T_
    have RD := RD_
    have E := E_
    have U := U_
    have RE := RE_
    clear C_ Q_ P_ R_ B_ S_ RS_ D_ T_ RD_ E_ U_ RE_
    go_wp2_with fail
    refine (wakes_any _).mono ?_
    rintro e y9 ⟨rfl, b⟩
    have C_ := Lib.hid (C.out.under b)
    have Q_ := Lib.hid (Q.out.under b)
    have P_ := Lib.hid (P.out.under b)
    have R_ := Lib.hid (R.out.up b)
    have B_ := Lib.hid (B.out.trans (b.mono B.out.size))
    have S_ := Lib.hid (S.out.under b)
    have RS_ := Lib.hid (RS.out.up b)
    have D_ := Lib.hid (D.out.under b)
    have T_ := Lib.hid (T.out.under b)
    have RD_ := Lib.hid (RD.out.up b)
    have E_ := Lib.hid (E.out.under b)
    have U_ := Lib.hid (U.out.under b)
    have RE_ := Lib.hid (RE.out.up b)
    clear C Q P R B S RS D T RD E U RE
    have C := C_
    have Q := Q_
    have P := P_
    have R := R_
    have B := B_
    have S := S_
    have RS := RS_
    have D := D_
    have T := T_
    have RD := RD_
    have E := E_
    have U := U_
    have RE := RE_
    clear C_ Q_ P_ R_ B_ S_ RS_ D_ T_ RD_ E_ U_ RE_
    clear b
    go_wp2_with fail
    go_ret
    exact ⟨rfl, B.out⟩
  have d1 : (K != 1) = false := by simp [k1]
  cases hf : find L I
  case none =>
    rw [hf] at hrr
    have d2 : decide (r < 0) = true := by rw [← hrr]; decide
    clear k1 h hdo hN hN60 hR hrr hkp hf
    go_wp2_with fail
    go_quiet (fail)
    clear vD_0 vD_1 vD_2 vD_3 vD_4 vT_2 vT_3 vP_0 vP_1 vQ_1
    have C_ := Lib.hid (C.out.under (below_drewN (Below.refl y8.heap.size y8) nq))
    have Q_ := Lib.hid (Q.out.under (below_drewN (Below.refl y8.heap.size y8) nq))
    have P_ := Lib.hid (P.out.under (below_drewN (Below.refl y8.heap.size y8) nq))
    have R_ := Lib.hid (R.out.up (below_drewN (Below.refl y8.heap.size y8) nq))
    have B_ := Lib.hid (B.out.trans ((below_drewN (Below.refl y8.heap.size y8) nq).mono B.out.size))
    have S_ := Lib.hid (S.out.under (below_drewN (Below.refl y8.heap.size y8) nq))
    have RS_ := Lib.hid (RS.out.up (below_drewN (Below.refl y8.heap.size y8) nq))
    have D_ := Lib.hid (D.out.under (below_drewN (Below.refl y8.heap.size y8) nq))
    have T_ := Lib.hid (T.out.under (below_drewN (Below.refl y8.heap.size y8) nq))
    have RD_ := Lib.hid (RD.out.up (below_drewN (Below.refl y8.heap.size y8) nq))
    have E_ := Lib.hid (E.out.under (below_drewN (Below.refl y8.heap.size y8) nq))
    have U_ := Lib.hid (U.out.under (below_drewN (Below.refl y8.heap.size y8) nq))
    have RE_ := Lib.hid (RE.out.up (below_drewN (Below.refl y8.heap.size y8) nq))
    clear C Q P R B S RS D T RD E U RE
    have C := C_
    have Q := Q_
    have P := P_
    have R := R_
    have B := B_
    have S := S_
    have RS := RS_
    have D := D_
    have T := T_
    have RD := RD_
    have E := E_
    have U := U_
    have RE := RE_
    clear C_ Q_ P_ R_ B_ S_ RS_ D_ T_ RD_ E_ U_ RE_
    go_wp2_with fail
    refine (wakes_any _).mono ?_
    rintro e y9 ⟨rfl, b⟩
    have C_ := Lib.hid (C.out.under b)
    have Q_ := Lib.hid (Q.out.under b)
    have P_ := Lib.hid (P.out.under b)
    have R_ := Lib.hid (R.out.up b)
    have B_ := Lib.hid (B.out.trans (b.mono B.out.size))
    have S_ := Lib.hid (S.out.under b)
    have RS_ := Lib.hid (RS.out.up b)
    have D_ := Lib.hid (D.out.under b)
    have T_ := Lib.hid (T.out.under b)
    have RD_ := Lib.hid (RD.out.up b)
    have E_ := Lib.hid (E.out.under b)
    have U_ := Lib.hid (U.out.under b)
    have RE_ := Lib.hid (RE.out.up b)
    clear C Q P R B S RS D T RD E U RE
    have C := C_
    have Q := Q_
    have P := P_
    have R := R_
    have B := B_
    have S := S_
    have RS := RS_
    have D := D_
    have T := T_
    have RD := RD_
    have E := E_
    have U := U_
    have RE := RE_
    clear C_ Q_ P_ R_ B_ S_ RS_ D_ T_ RD_ E_ U_ RE_
    clear b
    go_wp2_with fail
    go_ret
    exact ⟨rfl, B.out⟩
  case some j =>
    rw [hf] at hrr
    have hrj : (j : Int) = r := hrr
    subst hrj
    have d2 : decide ((j : Int) < 0) = false := decide_eq_false (by omega)
    by_cases k3 : q.call ≤ p.call
    case pos =>
      have d3 : decide (q.call ≤ p.call) = true := decide_eq_true k3
      clear k1 k3 h hdo hN hN60 hR hrr hkp hf
      go_wp2_with fail
      go_quiet (fail)
      clear vD_0 vD_1 vD_2 vD_3 vD_4 vT_2 vT_3 vP_0 vP_1 vQ_1
      have C_ := Lib.hid (C.out.under (below_drewN (Below.refl y8.heap.size y8) nq))
      have Q_ := Lib.hid (Q.out.under (below_drewN (Below.refl y8.heap.size y8) nq))
      have P_ := Lib.hid (P.out.under (below_drewN (Below.refl y8.heap.size y8) nq))
      have R_ := Lib.hid (R.out.up (below_drewN (Below.refl y8.heap.size y8) nq))
      have B_ := Lib.hid (B.out.trans ((below_drewN (Below.refl y8.heap.size y8) nq).mono B.out.size))
      have S_ := Lib.hid (S.out.under (below_drewN (Below.refl y8.heap.size y8) nq))
      have RS_ := Lib.hid (RS.out.up (below_drewN (Below.refl y8.heap.size y8) nq))
      have D_ := Lib.hid (D.out.under (below_drewN (Below.refl y8.heap.size y8) nq))
      have T_ := Lib.hid (T.out.under (below_drewN (Below.refl y8.heap.size y8) nq))
      have RD_ := Lib.hid (RD.out.up (below_drewN (Below.refl y8.heap.size y8) nq))
      have E_ := Lib.hid (E.out.under (below_drewN (Below.refl y8.heap.size y8) nq))
      have U_ := Lib.hid (U.out.under (below_drewN (Below.refl y8.heap.size y8) nq))
      have RE_ := Lib.hid (RE.out.up (below_drewN (Below.refl y8.heap.size y8) nq))
      clear C Q P R B S RS D T RD E U RE
      have C := C_
      have Q := Q_
      have P := P_
      have R := R_
      have B := B_
      have S := S_
      have RS := RS_
      have D := D_
      have T := T_
      have RD := RD_
      have E := E_
      have U := U_
      have RE := RE_
      clear C_ Q_ P_ R_ B_ S_ RS_ D_ T_ RD_ E_ U_ RE_
      go_wp2_with fail
      refine (wakes_any _).mono ?_
      rintro e y9 ⟨rfl, b⟩
      have C_ := Lib.hid (C.out.under b)
      have Q_ := Lib.hid (Q.out.under b)
      have P_ := Lib.hid (P.out.under b)
      have R_ := Lib.hid (R.out.up b)
      have B_ := Lib.hid (B.out.trans (b.mono B.out.size))
      have S_ := Lib.hid (S.out.under b)
      have RS_ := Lib.hid (RS.out.up b)
      have D_ := Lib.hid (D.out.under b)
      have T_ := Lib.hid (T.out.under b)
      have RD_ := Lib.hid (RD.out.up b)
      have E_ := Lib.hid (E.out.under b)
      have U_ := Lib.hid (U.out.under b)
      have RE_ := Lib.hid (RE.out.up b)
      clear C Q P R B S RS D T RD E U RE
      have C := C_
      have Q := Q_
      have P := P_
      have R := R_
      have B := B_
      have S := S_
      have RS := RS_
      have D := D_
      have T := T_
      have RD := RD_
      have E := E_
      have U := U_
      have RE := RE_
      clear C_ Q_ P_ R_ B_ S_ RS_ D_ T_ RD_ E_ U_ RE_
      clear b
      go_wp2_with fail
      go_ret
      exact ⟨rfl, B.out⟩
    have d3 : decide (q.call ≤ p.call) = false := decide_eq_false k3
    obtain ⟨y, hy, _, _⟩ := firstAt_some hf
    have hjN : j < N := by have := (List.getElem?_eq_some_iff.1 hy).1; omega
    have hjI : (j : Int) < (N : Int) := by omega
    obtain ⟨bb, off, e3, _, hc⟩ := RD.out.2 (by omega)
    subst e3
    have c10 := (hc j y hy).c10
    clear hc
    by_cases k4 : y.fen = q.call
    case neg =>
      have d4 : (y.fen != q.call) = true := by simp [k4]
      clear k1 k3 k4 h hdo hN hN60 hR hrr hkp hf
      go_wp2_with fail
      go_quiet (fail)
      clear vD_0 vD_1 vD_2 vD_3 vD_4 vT_2 vT_3 vP_0 vP_1 vQ_1
      have C_ := Lib.hid (C.out.under (below_drewN (Below.refl y8.heap.size y8) nq))
      have Q_ := Lib.hid (Q.out.under (below_drewN (Below.refl y8.heap.size y8) nq))
      have P_ := Lib.hid (P.out.under (below_drewN (Below.refl y8.heap.size y8) nq))
      have R_ := Lib.hid (R.out.up (below_drewN (Below.refl y8.heap.size y8) nq))
      have B_ := Lib.hid (B.out.trans ((below_drewN (Below.refl y8.heap.size y8) nq).mono B.out.size))
      have S_ := Lib.hid (S.out.under (below_drewN (Below.refl y8.heap.size y8) nq))
      have RS_ := Lib.hid (RS.out.up (below_drewN (Below.refl y8.heap.size y8) nq))
      have D_ := Lib.hid (D.out.under (below_drewN (Below.refl y8.heap.size y8) nq))
      have T_ := Lib.hid (T.out.under (below_drewN (Below.refl y8.heap.size y8) nq))
      have RD_ := Lib.hid (RD.out.up (below_drewN (Below.refl y8.heap.size y8) nq))
      have E_ := Lib.hid (E.out.under (below_drewN (Below.refl y8.heap.size y8) nq))
      have U_ := Lib.hid (U.out.under (below_drewN (Below.refl y8.heap.size y8) nq))
      have RE_ := Lib.hid (RE.out.up (below_drewN (Below.refl y8.heap.size y8) nq))
      clear C Q P R B S RS D T RD E U RE
      have C := C_
      have Q := Q_
      have P := P_
      have R := R_
      have B := B_
      have S := S_
      have RS := RS_
      have D := D_
      have T := T_
      have RD := RD_
      have E := E_
      have U := U_
      have RE := RE_
      clear C_ Q_ P_ R_ B_ S_ RS_ D_ T_ RD_ E_ U_ RE_
      go_wp2_with fail
      refine (wakes_any _).mono ?_
      rintro e y9 ⟨rfl, b⟩
      have C_ := Lib.hid (C.out.under b)
      have Q_ := Lib.hid (Q.out.under b)
      have P_ := Lib.hid (P.out.under b)
      have R_ := Lib.hid (R.out.up b)
      have B_ := Lib.hid (B.out.trans (b.mono B.out.size))
      have S_ := Lib.hid (S.out.under b)
      have RS_ := Lib.hid (RS.out.up b)
      have D_ := Lib.hid (D.out.under b)
      have T_ := Lib.hid (T.out.under b)
      have RD_ := Lib.hid (RD.out.up b)
      have E_ := Lib.hid (E.out.under b)
      have U_ := Lib.hid (U.out.under b)
      have RE_ := Lib.hid (RE.out.up b)
      clear C Q P R B S RS D T RD E U RE
      have C := C_
      have Q := Q_
      have P := P_
      have R := R_
      have B := B_
      have S := S_
      have RS := RS_
      have D := D_
      have T := T_
      have RD := RD_
      have E := E_
      have U := U_
      have RE := RE_
      clear C_ Q_ P_ R_ B_ S_ RS_ D_ T_ RD_ E_ U_ RE_
      clear b
      go_wp2_with fail
      go_ret
      exact ⟨rfl, B.out⟩
    have d4 : (y.fen != q.call) = false := by simp [k4]
    by_cases k5 : p.kind = 1
    case pos =>
      have d5 : (p.kind == 1) = true := by simp [k5]
      clear k1 k3 k4 k5 h hdo hN hN60 hR hrr hkp hf
      go_wp2_with fail
      go_quiet (fail)
      clear vD_0 vD_1 vD_2 vD_3 vD_4 vT_2 vT_3 vP_0 vP_1 vQ_1
      have C_ := Lib.hid (C.out.under (below_drewN (Below.refl y8.heap.size y8) nq))
      have Q_ := Lib.hid (Q.out.under (below_drewN (Below.refl y8.heap.size y8) nq))
      have P_ := Lib.hid (P.out.under (below_drewN (Below.refl y8.heap.size y8) nq))
      have R_ := Lib.hid (R.out.up (below_drewN (Below.refl y8.heap.size y8) nq))
      have B_ := Lib.hid (B.out.trans ((below_drewN (Below.refl y8.heap.size y8) nq).mono B.out.size))
      have S_ := Lib.hid (S.out.under (below_drewN (Below.refl y8.heap.size y8) nq))
      have RS_ := Lib.hid (RS.out.up (below_drewN (Below.refl y8.heap.size y8) nq))
      have D_ := Lib.hid (D.out.under (below_drewN (Below.refl y8.heap.size y8) nq))
      have T_ := Lib.hid (T.out.under (below_drewN (Below.refl y8.heap.size y8) nq))
      have RD_ := Lib.hid (RD.out.up (below_drewN (Below.refl y8.heap.size y8) nq))
      have E_ := Lib.hid (E.out.under (below_drewN (Below.refl y8.heap.size y8) nq))
      have U_ := Lib.hid (U.out.under (below_drewN (Below.refl y8.heap.size y8) nq))
      have RE_ := Lib.hid (RE.out.up (below_drewN (Below.refl y8.heap.size y8) nq))
      clear C Q P R B S RS D T RD E U RE
      have C := C_
      have Q := Q_
      have P := P_
      have R := R_
      have B := B_
      have S := S_
      have RS := RS_
      have D := D_
      have T := T_
      have RD := RD_
      have E := E_
      have U := U_
      have RE := RE_
      clear C_ Q_ P_ R_ B_ S_ RS_ D_ T_ RD_ E_ U_ RE_
      go_wp2_with fail
      refine (wakes_any _).mono ?_
      rintro e y9 ⟨rfl, b⟩
      have C_ := Lib.hid (C.out.under b)
      have Q_ := Lib.hid (Q.out.under b)
      have P_ := Lib.hid (P.out.under b)
      have R_ := Lib.hid (R.out.up b)
      have B_ := Lib.hid (B.out.trans (b.mono B.out.size))
      have S_ := Lib.hid (S.out.under b)
      have RS_ := Lib.hid (RS.out.up b)
      have D_ := Lib.hid (D.out.under b)
      have T_ := Lib.hid (T.out.under b)
      have RD_ := Lib.hid (RD.out.up b)
      have E_ := Lib.hid (E.out.under b)
      have U_ := Lib.hid (U.out.under b)
      have RE_ := Lib.hid (RE.out.up b)
      clear C Q P R B S RS D T RD E U RE
      have C := C_
      have Q := Q_
      have P := P_
      have R := R_
      have B := B_
      have S := S_
      have RS := RS_
      have D := D_
      have T := T_
      have RD := RD_
      have E := E_
      have U := U_
      have RE := RE_
      clear C_ Q_ P_ R_ B_ S_ RS_ D_ T_ RD_ E_ U_ RE_
      clear b
      go_wp2_with fail
      go_ret
      exact ⟨rfl, B.out⟩
    have d5 : (p.kind == 1) = false := by simp [k5]
    have hlt := late_not (x := ⟨L, x.fl, x.dr, x.nw, x.tg⟩) (late := { p with a := I }) hR hf hy (by show p.call < y.fen; omega) k5
    obtain ⟨L', K', I', hd3⟩ : ∃ L' K' I', doP ⟨L, x.fl, x.dr, x.nw, x.tg⟩ { p with a := I } = (L', K', I') := ⟨_, _, _, rfl⟩
    rw [hd3] at hlt
    obtain ⟨e1, e2⟩ := hlt
    have e1 : L' = L := e1
    subst e1
    have HD3 := Lib.hid (fun W A c hr => doL (l := L') (fl := x.fl) (dr := x.dr) (nw := x.nw) (tg := x.tg) (q := { p with a := I }) (n := N) hd3 hN hkp (by omega) W A c hr)
    have HS3 := Lib.hid (fun W A c A' c' hr hr' => sameL (l := L') (l' := L') (fl := x.fl) (dr := x.dr) (nw := x.nw) (tg := x.tg) (n := N) (N := N) (sameCw_eq rfl) (by omega) W A c A' c' hr hr')
    have d6 : (K' != 1) = true := by simpa using e2
    clear k1 k3 k4 k5 h hdo hN hN60 hR hrr hkp hf hd3 e2
    go_wp2_with fail
    go_quiet (fail)
    clear vD_0 vD_1 vD_2 vD_3 vD_4 vT_2 vT_3 vP_0 vP_1 vQ_1
    have C_ := Lib.hid (C.out.under (below_drewN (Below.refl y8.heap.size y8) nq))
    have Q_ := Lib.hid (Q.out.under (below_drewN (Below.refl y8.heap.size y8) nq))
    have P_ := Lib.hid (P.out.under (below_drewN (Below.refl y8.heap.size y8) nq))
    have R_ := Lib.hid (R.out.up (below_drewN (Below.refl y8.heap.size y8) nq))
    have B_ := Lib.hid (B.out.trans ((below_drewN (Below.refl y8.heap.size y8) nq).mono B.out.size))
    have S_ := Lib.hid (S.out.under (below_drewN (Below.refl y8.heap.size y8) nq))
    have RS_ := Lib.hid (RS.out.up (below_drewN (Below.refl y8.heap.size y8) nq))
    have D_ := Lib.hid (D.out.under (below_drewN (Below.refl y8.heap.size y8) nq))
    have T_ := Lib.hid (T.out.under (below_drewN (Below.refl y8.heap.size y8) nq))
    have RD_ := Lib.hid (RD.out.up (below_drewN (Below.refl y8.heap.size y8) nq))
    have E_ := Lib.hid (E.out.under (below_drewN (Below.refl y8.heap.size y8) nq))
    have U_ := Lib.hid (U.out.under (below_drewN (Below.refl y8.heap.size y8) nq))
    have RE_ := Lib.hid (RE.out.up (below_drewN (Below.refl y8.heap.size y8) nq))
    clear C Q P R B S RS D T RD E U RE
    have C := C_
    have Q := Q_
    have P := P_
    have R := R_
    have B := B_
    have S := S_
    have RS := RS_
    have D := D_
    have T := T_
    have RD := RD_
    have E := E_
    have U := U_
    have RE := RE_
    clear C_ Q_ P_ R_ B_ S_ RS_ D_ T_ RD_ E_ U_ RE_
    clear HX c10 d1 d2 d3 d4 d5
    have z2 := P.out.frozen 2
    have D_ : Hid (Whole ((y8.drewN nq).setCell ⟨w.heap.size + 1 + 1, 2, none⟩ (.int .i64 I)) y3.heap.size 24 #[.slice (some ⟨bb, off, none⟩) N c3, .int .i64 x.fl, .int .i64 x.dr, .int .i64 x.nw, .bool x.tg]) := Lib.hid (D.out.far (p := ⟨w.heap.size + 1 + 1, 2, none⟩) (D.out.ne_size P.out (by simp)) _)
    have RD_ : Hid (RdX ((y8.drewN nq).setCell ⟨w.heap.size + 1 + 1, 2, none⟩ (.int .i64 I)) ((y8.drewN nq).setCell ⟨w.heap.size + 1 + 1, 2, none⟩ (.int .i64 I)).heap.size (some ⟨bb, off, none⟩) N L') := Lib.hid ((RD.out.ask P.out 2 (.int .i64 I)).more (by rw [World.size_setCell]; exact Nat.le_refl _))
    have B_ : Hid (Below w.heap.size w ((y8.drewN nq).setCell ⟨w.heap.size + 1 + 1, 2, none⟩ (.int .i64 I))) := Lib.hid (B.out.setCell (p := ⟨w.heap.size + 1 + 1, 2, none⟩) (by show w.heap.size ≤ w.heap.size + 1 + 1; omega) _)
    have P_ : Hid (Whole ((y8.drewN nq).setCell ⟨w.heap.size + 1 + 1, 2, none⟩ (.int .i64 I)) (w.heap.size + 1 + 1) 26 #[.int .u8 p.kind, .int .i64 p.call, .int .i64 I, .int .i64 p.b, .int .i64 p.c, .int .i64 p.d]) := Lib.hid (by have := P.out.set 2 (.int .i64 I); exact this)
    have vT_3 := T.out.cell 3
    simp only [List.getElem?_toArray, List.getElem?_cons_zero, List.getElem?_cons_succ] at vT_3
    have vP_2 := P.out.cell 2
    simp only [List.getElem?_toArray, List.getElem?_cons_zero, List.getElem?_cons_succ] at vP_2
    clear D RD B P
    have D := D_
    have RD := RD_
    have B := B_
    have P := P_
    clear D_ RD_ B_ P_
    clear C
    clear Q
    clear R
    clear S
    clear RS
    clear E
    clear U
    clear RE
    clear T
    have vD_0s := D.out.cell 0
    have vD_1s := D.out.cell 1
    have vD_2s := D.out.cell 2
    have vD_3s := D.out.cell 3
    have vD_4s := D.out.cell 4
    simp only [List.getElem?_toArray, List.getElem?_cons_zero, List.getElem?_cons_succ] at vD_0s vD_1s vD_2s vD_3s vD_4s
    have vP_0s := P.out.cell 0
    have vP_1s := P.out.cell 1
    have vP_2s := P.out.cell 2
    have vP_3s := P.out.cell 3
    have vP_4s := P.out.cell 4
    have vP_5s := P.out.cell 5
    simp only [List.getElem?_toArray, List.getElem?_cons_zero, List.getElem?_cons_succ] at vP_0s vP_1s vP_2s vP_3s vP_4s vP_5s
    go_wp2_with fail
    clear z2
    refine (HD3.out _ _ _ RD.out).mono ?_
    rintro e y9 ⟨A9, c9, rfl, r2, b⟩
    clear vT_3 vP_2 vD_0s vD_1s vD_2s vD_3s vD_4s vP_0s vP_1s vP_2s vP_3s vP_4s vP_5s
    have P_ := Lib.hid (P.out.under b)
    have B_ := Lib.hid (B.out.trans (b.mono B.out.size))
    have D_ := Lib.hid (D.out.under b)
    have RD_ := Lib.hid (RD.out.up b)
    clear P B D RD
    have P := P_
    have B := B_
    have D := D_
    have RD := RD_
    clear P_ B_ D_ RD_
    clear HD3 b
    have two := whole_two (W := y9) (t := 24) (u := 30) (x := #[.slice A9 N c9, .int .i64 x.fl, .int .i64 x.dr, .int .i64 x.nw, .bool x.tg]) (y := #[.int .i64 p.call, .int .u8 p.kind, .int .u8 K', .int .i64 I', .slice none 0 0, .bool false])
    have P_ := Lib.hid (P.out.under two.2.2)
    have B_ := Lib.hid (B.out.trans (two.2.2.mono B.out.size))
    have D_ := Lib.hid (D.out.under two.2.2)
    have RD_ := Lib.hid (RD.out.up two.2.2)
    clear P B D RD
    have P := P_
    have B := B_
    have D := D_
    have RD := RD_
    clear P_ B_ D_ RD_
    have F := Lib.hid two.1
    have V := Lib.hid two.2.1
    have RF := Lib.hid (r2.up two.2.2)
    clear two r2
    have vD_0 := D.out.cell 0
    have vD_1 := D.out.cell 1
    have vD_2 := D.out.cell 2
    have vD_3 := D.out.cell 3
    have vD_4 := D.out.cell 4
    simp only [List.getElem?_toArray, List.getElem?_cons_zero, List.getElem?_cons_succ] at vD_0 vD_1 vD_2 vD_3 vD_4
    go_wp2_with fail
    refine (HS3.out _ _ _ _ _ RF.out RD.out).mono ?_
    rintro e y10 ⟨rfl, b⟩
    clear vD_0 vD_1 vD_2 vD_3 vD_4
    have P_ := Lib.hid (P.out.under b)
    have B_ := Lib.hid (B.out.trans (b.mono B.out.size))
    have D_ := Lib.hid (D.out.under b)
    have RD_ := Lib.hid (RD.out.up b)
    have F_ := Lib.hid (F.out.under b)
    have V_ := Lib.hid (V.out.under b)
    have RF_ := Lib.hid (RF.out.up b)
    clear P B D RD F V RF
    have P := P_
    have B := B_
    have D := D_
    have RD := RD_
    have F := F_
    have V := V_
    have RF := RF_
    clear P_ B_ D_ RD_ F_ V_ RF_
    clear HS3 b
    have vV_2 := V.out.cell 2
    simp only [List.getElem?_toArray, List.getElem?_cons_zero, List.getElem?_cons_succ] at vV_2
    go_wp2_with fail
    refine (wakes_any _).mono ?_
    rintro e y11 ⟨rfl, b⟩
    clear vV_2
    have P_ := Lib.hid (P.out.under b)
    have B_ := Lib.hid (B.out.trans (b.mono B.out.size))
    have D_ := Lib.hid (D.out.under b)
    have RD_ := Lib.hid (RD.out.up b)
    have F_ := Lib.hid (F.out.under b)
    have V_ := Lib.hid (V.out.under b)
    have RF_ := Lib.hid (RF.out.up b)
    clear P B D RD F V RF
    have P := P_
    have B := B_
    have D := D_
    have RD := RD_
    have F := F_
    have V := V_
    have RF := RF_
    clear P_ B_ D_ RD_ F_ V_ RF_
    clear b
    go_wp2_with fail
    go_ret
    exact ⟨rfl, B.out⟩

theorem cloudTwice_any (x : Cw) (q p : Ak) (A : Option Addr) (n c : Nat) (w : World) (hr : RdX w w.heap.size A n x.l) (hk : (Lit.int .u8 q.kind).wf = true) (hkp : (Lit.int .u8 p.kind).wf = true) :
    Calls Try.prog 6 #[.agg #[.slice A n c, .int .i64 x.fl, .int .i64 x.dr, .int .i64 x.nw, .bool x.tg], .agg #[.int .u8 q.kind, .int .i64 q.call, .int .i64 q.a, .int .i64 q.b, .int .i64 q.c, .int .i64 q.d], .agg #[.int .u8 p.kind, .int .i64 p.call, .int .i64 p.a, .int .i64 p.b, .int .i64 p.c, .int .i64 p.d]] w (TruePost w) := by
  cases h : right x with
  | false => exact twice_wrong x q p A n c w hr h
  | true => exact twice_right x q p A n c w hr hk hkp h (hdo := rfl) rfl

end Go.Proofs.Ytphkleecodoplaa
