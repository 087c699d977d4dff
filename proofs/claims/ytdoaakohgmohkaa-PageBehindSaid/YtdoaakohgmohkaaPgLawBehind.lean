/-
  The walk of the statement PageBehind: a page does not hang on boxes with lesser ids, nor on the floor, the time, or whether there is room. Conditions: those that each theorem names.
-/
import Derived.Test.YtdoaakohgmohkaaPgGoneKit
namespace Go.Proofs.Ytdoaakohgmohkaa
open Go.RowKit Go.Shelf

theorem half_num {a : Int} (h : isNum a = true) : isNum (a.tdiv 2) = true ∧ IntKind.i64.wrap (a.tdiv 2) = a.tdiv 2 := by
  have := isNum_iff.1 h
  have h2 : a.tdiv 2 = a / 2 := Int.tdiv_eq_ediv_of_nonneg this.1
  rw [h2]
  exact ⟨isNum_yes (by omega) (by omega), IntWalk.i64_in _ ⟨by omega, by omega⟩⟩

set_option maxRecDepth 100000 in
set_option maxHeartbeats 8000000 in
theorem pgbeh_long (x : Cw) (b a : Int) (A : Option Addr) (n c : Nat) (w : World) (hr : RdX w w.heap.size A n x.l) (hm : (60 : Int) < (n : Int)) :
    Calls Try.prog 4 #[.agg #[.slice A n c, .int .i64 x.fl, .int .i64 x.dr, .int .i64 x.nw, .bool x.tg], .int .i64 b, .int .i64 a] w (TruePost w) := by
  have one := whole_one (W := w) (t := 24) (x := #[.slice A n c, .int .i64 x.fl, .int .i64 x.dr, .int .i64 x.nw, .bool x.tg])
  have C := Lib.hid one.1
  have R := Lib.hid (hr.up one.2)
  have B := Lib.hid one.2
  clear one hr
  have HGr := Lib.hid (greatL (n := n) (decide_eq_true hm) x.fl x.dr x.nw x.tg)
  clear hm
  go_enter Try.func4, Try.ntmps4
  go_wp2_with fail
  refine (HGr.out _ _ _).mono ?_
  rintro e y1 ⟨rfl, b⟩
  have C_ := Lib.hid (C.out.under b)
  have R_ := Lib.hid (R.out.up b)
  have B_ := Lib.hid (B.out.trans (b.mono B.out.size))
  clear C R B
  have C := C_
  have R := R_
  have B := B_
  clear C_ R_ B_
  clear b HGr
  go_wp2_with fail
  refine (wakes_any _).mono ?_
  rintro e y2 ⟨rfl, b⟩
  have C_ := Lib.hid (C.out.under b)
  have R_ := Lib.hid (R.out.up b)
  have B_ := Lib.hid (B.out.trans (b.mono B.out.size))
  clear C R B
  have C := C_
  have R := R_
  have B := B_
  clear C_ R_ B_
  clear b
  go_wp2_with fail
  go_ret
  exact ⟨rfl, B.out⟩

set_option maxRecDepth 100000 in
set_option maxHeartbeats 8000000 in
theorem pgbeh_wrong (x : Cw) (b a : Int) (A : Option Addr) (n c : Nat) (w : World) (hr : RdX w w.heap.size A n x.l) (hm : ¬ (60 : Int) < (n : Int)) (h : right x = false) :
    Calls Try.prog 4 #[.agg #[.slice A n c, .int .i64 x.fl, .int .i64 x.dr, .int .i64 x.nw, .bool x.tg], .int .i64 b, .int .i64 a] w (TruePost w) := by
  have one := whole_one (W := w) (t := 24) (x := #[.slice A n c, .int .i64 x.fl, .int .i64 x.dr, .int .i64 x.nw, .bool x.tg])
  have C := Lib.hid one.1
  have R := Lib.hid (hr.up one.2)
  have B := Lib.hid one.2
  clear one hr
  have HRt := Lib.hid (rightL (l := x.l) (fl := x.fl) (dr := x.dr) (nw := x.nw) (tg := x.tg) (n := n) h)
  clear h
  have HGr := Lib.hid (greatL (n := n) (decide_eq_false hm) x.fl x.dr x.nw x.tg)
  clear hm
  go_enter Try.func4, Try.ntmps4
  go_wp2_with fail
  refine (HGr.out _ _ _).mono ?_
  rintro e y1 ⟨rfl, b⟩
  have C_ := Lib.hid (C.out.under b)
  have R_ := Lib.hid (R.out.up b)
  have B_ := Lib.hid (B.out.trans (b.mono B.out.size))
  clear C R B
  have C := C_
  have R := R_
  have B := B_
  clear C_ R_ B_
  clear b HGr
  have vC_0 := C.out.cell 0
  have vC_1 := C.out.cell 1
  have vC_2 := C.out.cell 2
  have vC_3 := C.out.cell 3
  have vC_4 := C.out.cell 4
  simp only [List.getElem?_toArray, List.getElem?_cons_zero, List.getElem?_cons_succ] at vC_0 vC_1 vC_2 vC_3 vC_4
  go_wp2_with fail
  refine (HRt.out _ _ _ R.out).mono ?_
  rintro e y2 ⟨rfl, b⟩
  clear vC_0 vC_1 vC_2 vC_3 vC_4
  have C_ := Lib.hid (C.out.under b)
  have R_ := Lib.hid (R.out.up b)
  have B_ := Lib.hid (B.out.trans (b.mono B.out.size))
  clear C R B
  have C := C_
  have R := R_
  have B := B_
  clear C_ R_ B_
  clear b HRt
  go_wp2_with fail
  refine (wakes_any _).mono ?_
  rintro e y3 ⟨rfl, b⟩
  have C_ := Lib.hid (C.out.under b)
  have R_ := Lib.hid (R.out.up b)
  have B_ := Lib.hid (B.out.trans (b.mono B.out.size))
  clear C R B
  have C := C_
  have R := R_
  have B := B_
  clear C_ R_ B_
  clear b
  go_wp2_with fail
  go_ret
  exact ⟨rfl, B.out⟩

set_option maxRecDepth 100000 in
set_option maxHeartbeats 8000000 in
theorem pgbeh_none (x : Cw) (b a : Int) (A : Option Addr) (n c : Nat) (w : World) (hr : RdX w w.heap.size A n x.l) (hm : ¬ (60 : Int) < (n : Int)) (h : right x = true) (h0 : n = 0) :
    Calls Try.prog 4 #[.agg #[.slice A n c, .int .i64 x.fl, .int .i64 x.dr, .int .i64 x.nw, .bool x.tg], .int .i64 b, .int .i64 a] w (TruePost w) := by
  have one := whole_one (W := w) (t := 24) (x := #[.slice A n c, .int .i64 x.fl, .int .i64 x.dr, .int .i64 x.nw, .bool x.tg])
  have C := Lib.hid one.1
  have R := Lib.hid (hr.up one.2)
  have B := Lib.hid one.2
  clear one hr
  have HRt := Lib.hid (rightL (l := x.l) (fl := x.fl) (dr := x.dr) (nw := x.nw) (tg := x.tg) (n := n) h)
  clear h
  have e0 : ((n : Int) == 0) = true := by simp; omega
  clear h0
  have HGr := Lib.hid (greatL (n := n) (decide_eq_false hm) x.fl x.dr x.nw x.tg)
  clear hm
  go_enter Try.func4, Try.ntmps4
  go_wp2_with fail
  refine (HGr.out _ _ _).mono ?_
  rintro e y1 ⟨rfl, b⟩
  have C_ := Lib.hid (C.out.under b)
  have R_ := Lib.hid (R.out.up b)
  have B_ := Lib.hid (B.out.trans (b.mono B.out.size))
  clear C R B
  have C := C_
  have R := R_
  have B := B_
  clear C_ R_ B_
  clear b HGr
  have vC_0 := C.out.cell 0
  have vC_1 := C.out.cell 1
  have vC_2 := C.out.cell 2
  have vC_3 := C.out.cell 3
  have vC_4 := C.out.cell 4
  simp only [List.getElem?_toArray, List.getElem?_cons_zero, List.getElem?_cons_succ] at vC_0 vC_1 vC_2 vC_3 vC_4
  go_wp2_with fail
  refine (HRt.out _ _ _ R.out).mono ?_
  rintro e y2 ⟨rfl, b⟩
  clear vC_0 vC_1 vC_2 vC_3 vC_4
  have C_ := Lib.hid (C.out.under b)
  have R_ := Lib.hid (R.out.up b)
  have B_ := Lib.hid (B.out.trans (b.mono B.out.size))
  clear C R B
  have C := C_
  have R := R_
  have B := B_
  clear C_ R_ B_
  clear b HRt
  have vC_0 := C.out.cell 0
  have vC_1 := C.out.cell 1
  have vC_2 := C.out.cell 2
  have vC_3 := C.out.cell 3
  have vC_4 := C.out.cell 4
  simp only [List.getElem?_toArray, List.getElem?_cons_zero, List.getElem?_cons_succ] at vC_0 vC_1 vC_2 vC_3 vC_4
  go_wp2_with fail
  refine (wakes_any _).mono ?_
  rintro e y3 ⟨rfl, b⟩
  clear vC_0 vC_1 vC_2 vC_3 vC_4
  have C_ := Lib.hid (C.out.under b)
  have R_ := Lib.hid (R.out.up b)
  have B_ := Lib.hid (B.out.trans (b.mono B.out.size))
  clear C R B
  have C := C_
  have R := R_
  have B := B_
  clear C_ R_ B_
  clear b
  go_wp2_with fail
  go_ret
  exact ⟨rfl, B.out⟩

set_option maxRecDepth 100000 in
set_option maxHeartbeats 8000000 in
theorem pgbeh_low (x : Cw) (b a : Int) (A : Option Addr) (n c : Nat) (w : World) (hr : RdX w w.heap.size A n x.l) (hm : ¬ (60 : Int) < (n : Int)) (h : right x = true) (h0 : 0 < n) (j : Nat) (hj : (a.tmod n + n).tmod n = (j : Int)) (hjn : j < n) (y : Bx) (hy : x.l[j]? = some y) (hyb : y.id ≤ b) :
    Calls Try.prog 4 #[.agg #[.slice A n c, .int .i64 x.fl, .int .i64 x.dr, .int .i64 x.nw, .bool x.tg], .int .i64 b, .int .i64 a] w (TruePost w) := by
  obtain ⟨S, hS⟩ : ∃ S, shown x.l = S := ⟨_, rfl⟩
  obtain ⟨P, hP⟩ : ∃ P, pageOf S b = P := ⟨_, rfl⟩
  obtain ⟨M, hM⟩ : ∃ M, moreOf S b = M := ⟨_, rfl⟩
  obtain ⟨k, hk⟩ : ∃ k, P.length = k := ⟨_, rfl⟩
  have hn : n ≤ 60 := by omega
  have hk3 : k ≤ 3 := by rw [← hk, ← hP]; unfold pageOf; rw [List.length_take]; omega
  have hab : ∀ s ∈ P, b < s.id := fun s hs => by rw [← hP] at hs; exact restOf_above (List.mem_of_mem_take hs)
  have hsg := shown_gone h hy
  rw [hS] at hsg
  obtain ⟨q1, q2, q3⟩ := right_nums h
  obtain ⟨u1, u2⟩ := half_num q1
  obtain ⟨u3, u4⟩ := half_num q3
  obtain ⟨F, hF⟩ : ∃ F, x.fl.tdiv 2 = F := ⟨_, rfl⟩
  obtain ⟨N, hNw⟩ : ∃ N, x.nw.tdiv 2 = N := ⟨_, rfl⟩
  obtain ⟨x2, hx2⟩ : ∃ x2 : Cw, x2 = { x with fl := F, nw := N, tg := !x.tg } := ⟨_, rfl⟩
  have hr2 : right x2 = true := by rw [hx2, ← hF, ← hNw]; exact right_with h u1 u3 _
  have el2 : x2.l = x.l := by rw [hx2]
  have hy2 : x2.l[j]? = some y := by rw [el2]; exact hy
  have ew1 : IntKind.i64.wrap F = F := by rw [← hF]; exact u2
  have ew2 : IntKind.i64.wrap N = N := by rw [← hNw]; exact u4
  have hgr := right_gone hr2 hy2
  have hsg2 : shown ({ x2 with l := x2.l.set j (goneB y) } : Cw).l = dropId S y.id := by rw [← hsg]; show shown (x2.l.set j (goneB y)) = _; rw [el2]
  have HOf2 := Lib.hid (ofL (x := { x2 with l := x2.l.set j (goneB y) }) (n := n) (b := b) (P := P) (M := M) hgr (by rw [hsg2, ← hP]; unfold pageOf; rw [restOf_drop hyb]) (by rw [hsg2, ← hM]; unfold moreOf; rw [restOf_drop hyb]) hk (by omega))
  clear hgr hsg2
  have e0 : ((n : Int) == 0) = false := by rw [beq_eq_false_iff_ne]; omega
  have e1 := mod_wrapG a n h0 (by omega)
  have i0 : (0 : Int) ≤ (j : Int) := by omega
  have i1 : (j : Int) < (n : Int) := by omega
  have dle : decide (y.id ≤ b) = true := decide_eq_true hyb
  have HRt := Lib.hid (rightL (l := x.l) (fl := x.fl) (dr := x.dr) (nw := x.nw) (tg := x.tg) (n := n) h)
  have HOf := Lib.hid (ofL (n := n) (b := b) (P := P) (M := M) h (by rw [hS]; exact hP) (by rw [hS]; exact hM) hk (by omega))
  have HOw := Lib.hid (rownL (x := x) (n := n) (by omega) h0)
  have HX := Lib.hid (And.intro hk (And.intro hk3 (And.intro hab (And.intro hy hy2))))
  have HN := Lib.hid (And.intro h0 (And.intro hjn hn))
  have HE := Lib.hid (And.intro hx2 (And.intro ew1 (And.intro ew2 (And.intro hF hNw))))
  clear h hS hP hM hk hk3 hab hsg hn h0 hy hjn hr2 el2 hy2 ew1 ew2 q1 q2 q3 u1 u2 u3 u4 hx2 hyb hF hNw
  have one := whole_one (W := w) (t := 24) (x := #[.slice A n c, .int .i64 x.fl, .int .i64 x.dr, .int .i64 x.nw, .bool x.tg])
  have C := Lib.hid one.1
  have R := Lib.hid (hr.up one.2)
  have B := Lib.hid one.2
  clear one hr
  have HGr := Lib.hid (greatL (n := n) (decide_eq_false hm) x.fl x.dr x.nw x.tg)
  clear hm
  go_enter Try.func4, Try.ntmps4
  go_wp2_with fail
  refine (HGr.out _ _ _).mono ?_
  rintro e y1 ⟨rfl, b⟩
  have C_ := Lib.hid (C.out.under b)
  have R_ := Lib.hid (R.out.up b)
  have B_ := Lib.hid (B.out.trans (b.mono B.out.size))
  clear C R B
  have C := C_
  have R := R_
  have B := B_
  clear C_ R_ B_
  clear b HGr
  have vC_0 := C.out.cell 0
  have vC_1 := C.out.cell 1
  have vC_2 := C.out.cell 2
  have vC_3 := C.out.cell 3
  have vC_4 := C.out.cell 4
  simp only [List.getElem?_toArray, List.getElem?_cons_zero, List.getElem?_cons_succ] at vC_0 vC_1 vC_2 vC_3 vC_4
  go_wp2_with fail
  refine (HRt.out _ _ _ R.out).mono ?_
  rintro e y2 ⟨rfl, b⟩
  clear vC_0 vC_1 vC_2 vC_3 vC_4
  have C_ := Lib.hid (C.out.under b)
  have R_ := Lib.hid (R.out.up b)
  have B_ := Lib.hid (B.out.trans (b.mono B.out.size))
  clear C R B
  have C := C_
  have R := R_
  have B := B_
  clear C_ R_ B_
  clear b HRt
  have vC_0 := C.out.cell 0
  have vC_1 := C.out.cell 1
  have vC_2 := C.out.cell 2
  have vC_3 := C.out.cell 3
  have vC_4 := C.out.cell 4
  simp only [List.getElem?_toArray, List.getElem?_cons_zero, List.getElem?_cons_succ] at vC_0 vC_1 vC_2 vC_3 vC_4
  go_wp2_with fail
  refine (HOf.out _ _ _ R.out).mono ?_
  rintro e y3 ⟨A3, c3, rfl, r, b⟩
  clear vC_0 vC_1 vC_2 vC_3 vC_4
  have C_ := Lib.hid (C.out.under b)
  have R_ := Lib.hid (R.out.up b)
  have B_ := Lib.hid (B.out.trans (b.mono B.out.size))
  clear C R B
  have C := C_
  have R := R_
  have B := B_
  clear C_ R_ B_
  have RL := Lib.hid r
  clear r b HOf
  have vC_0 := C.out.cell 0
  have vC_1 := C.out.cell 1
  have vC_2 := C.out.cell 2
  have vC_3 := C.out.cell 3
  have vC_4 := C.out.cell 4
  simp only [List.getElem?_toArray, List.getElem?_cons_zero, List.getElem?_cons_succ] at vC_0 vC_1 vC_2 vC_3 vC_4
  go_wp2_with fail
  go_quiet (fail)
  clear vC_0 vC_1 vC_2 vC_3 vC_4
  have C_ := Lib.hid (C.out.under (below_drewN (Below.refl y3.heap.size y3) nq))
  have R_ := Lib.hid (R.out.up (below_drewN (Below.refl y3.heap.size y3) nq))
  have B_ := Lib.hid (B.out.trans ((below_drewN (Below.refl y3.heap.size y3) nq).mono B.out.size))
  have RL_ := Lib.hid (RL.out.up (below_drewN (Below.refl y3.heap.size y3) nq))
  clear C R B RL
  have C := C_
  have R := R_
  have B := B_
  have RL := RL_
  clear C_ R_ B_ RL_
  obtain ⟨y4, hy4⟩ : ∃ y4, y3.drewN nq = y4 := ⟨_, rfl⟩
  rw [hy4]
  rw [hy4] at C R B RL
  clear hy4 hj e1
  have vC_0 := C.out.cell 0
  have vC_1 := C.out.cell 1
  have vC_2 := C.out.cell 2
  have vC_3 := C.out.cell 3
  have vC_4 := C.out.cell 4
  simp only [List.getElem?_toArray, List.getElem?_cons_zero, List.getElem?_cons_succ] at vC_0 vC_1 vC_2 vC_3 vC_4
  go_wp2_with fail
  clear vC_0 vC_1 vC_2 vC_3 vC_4
  refine (HOw.out _ _ _ R.out).mono ?_
  rintro e y5 ⟨g, c4, rfl, hg1, hg2, ho, b4⟩
  clear HOw
  have hcb : w.heap.size < y5.heap.size := Nat.lt_of_lt_of_le C.out.lt b4.size
  have one := whole_one (W := y5) (t := 24) (x := #[.slice (some ⟨g, 0, none⟩) n c4, .int .i64 x.fl, .int .i64 x.dr, .int .i64 x.nw, .bool x.tg])
  obtain ⟨y6, hy6⟩ : ∃ y6, y5.alloc (.cells #[.slice (some ⟨g, 0, none⟩) n c4, .int .i64 x.fl, .int .i64 x.dr, .int .i64 x.nw, .bool x.tg] 24) = y6 := ⟨_, rfl⟩
  have d0 : DIn y6 y4.heap.size y5.heap.size g n c4 x := ⟨by rw [← hy6]; exact one.1, by rw [← hy6]; exact own_under ho one.2, by omega, hg1, HN.out.1⟩
  have b6 : Below y4.heap.size y4 y6 := by rw [← hy6]; exact b4.trans (one.2.mono b4.size)
  have D := Lib.hid d0
  have BY := Lib.hid b6
  have CB := Lib.hid (And.intro hcb b4.size)
  have h0 := hy6
  clear one ho b4 d0 b6 hg1 hg2 hy6 hcb
  have v0 := D.out.box.cell 0
  simp only [List.getElem?_toArray, List.getElem?_cons_zero] at v0
  go_wp2_with fail
  obtain ⟨hx2, ew1, ew2, hF, hNw⟩ := HE.out
  have D2 : DIn (((y6.setCell ⟨y5.heap.size, 1, none⟩ (.int .i64 F)).setCell ⟨y5.heap.size, 3, none⟩ (.int .i64 N)).setCell ⟨y5.heap.size, 4, none⟩ (.bool (!x.tg))) y4.heap.size y5.heap.size g n c4 x2 := by rw [hx2]; exact D.out.put F N (!x.tg)
  have C0 := C.out.under BY.out
  have hne : w.heap.size ≠ y5.heap.size := by have := CB.out.1; omega
  have C1 := C0.far (p := ⟨y5.heap.size, 1, none⟩) hne (.int .i64 F)
  have C2 := C1.far (p := ⟨y5.heap.size, 3, none⟩) hne (.int .i64 N)
  have B0 := D.out.box
  have B1 := B0.set 1 (.int .i64 F)
  have B2 := B1.set 3 (.int .i64 N)
  have k1 := (B0.under (Below.refl _ _).drew).cell 1
  have k3 := (B1.under (Below.refl _ _).drew).cell 3
  have k4 := (B2.under (Below.refl _ _).drew).cell 4
  have f1 := (B0.under (Below.refl _ _).drew).frozen 1
  have f3 := (B1.under (Below.refl _ _).drew).frozen 3
  have f4 := (B2.under (Below.refl _ _).drew).frozen 4
  simp [Array.setIfInBounds] at k1 k3 k4
  have S0 := Lib.hid (And.intro ((C0.under (Below.refl _ _).drew).cell 1) (And.intro ((C0.under (Below.refl _ _).drew).cell 3) ((C0.under (Below.refl _ _).drew).cell 4)))
  have S1 := Lib.hid (And.intro ((C1.under (Below.refl _ _).drew).cell 1) (And.intro ((C1.under (Below.refl _ _).drew).cell 3) ((C1.under (Below.refl _ _).drew).cell 4)))
  have S2 := Lib.hid (And.intro ((C2.under (Below.refl _ _).drew).cell 1) (And.intro ((C2.under (Below.refl _ _).drew).cell 3) ((C2.under (Below.refl _ _).drew).cell 4)))
  have C3 := C2.far (p := ⟨y5.heap.size, 4, none⟩) hne (.bool (!x.tg))
  have S3 := Lib.hid (And.intro ((C3.under (Below.refl _ _).drew).cell 1) (And.intro ((C3.under (Below.refl _ _).drew).cell 3) ((C3.under (Below.refl _ _).drew).cell 4)))
  simp only [List.getElem?_toArray, List.getElem?_cons_zero, List.getElem?_cons_succ] at S0 S1 S2 S3
  have D6 := Lib.hid (D2.under (Below.refl _ _).drew)
  have hlb : y4.heap.size ≤ y5.heap.size := CB.out.2
  have BY6 := Lib.hid (((BY.out.setCell (p := ⟨y5.heap.size, 1, none⟩) hlb (.int .i64 F)).setCell (p := ⟨y5.heap.size, 3, none⟩) hlb (.int .i64 N)).setCell (p := ⟨y5.heap.size, 4, none⟩) hlb (.bool (!x.tg))).drew
  have HC := S0
  clear D2 C0 C1 C2 C3 B0 B1 B2 D BY v0 h0 hlb hne hx2 S0
  refine wp_region_held_drew (S := fun W => W.cell? ⟨w.heap.size, 1, none⟩ = some (.int .i64 x.fl) ∧ W.cell? ⟨w.heap.size, 3, none⟩ = some (.int .i64 x.nw) ∧ W.cell? ⟨w.heap.size, 4, none⟩ = some (.bool x.tg)) (by kernel_rfl) HC.out (fun _ => ?_)
  refine takeH (i := 0) (v := ?_) rfl (by kernel_rfl) (by kernel_rfl) (by kernel_rfl) (fun _ _ _ h => h) (by rfl) ?_ HC.out ?_
  rotate_left
  · intro W hW; obtain ⟨g1, g3, g4⟩ := hW; go_simp <;> with_reducible rfl
  simp only [Act.put, List.setIfInBounds_toArray, List.set_cons_zero, List.set_cons_succ]
  refine takeH (i := 1) (v := ?_) rfl (by kernel_rfl) (by kernel_rfl) (by kernel_rfl) (fun _ _ _ h => h) (by rfl) ?_ HC.out ?_
  rotate_left
  · intro W hW; obtain ⟨g1, g3, g4⟩ := hW; go_simp <;> with_reducible rfl
  simp only [Act.put, List.setIfInBounds_toArray, List.set_cons_zero, List.set_cons_succ]
  refine takeH (i := 2) (v := ?_) rfl (by kernel_rfl) (by kernel_rfl) (by kernel_rfl) (fun _ _ _ h => h) (by rfl) ?_ HC.out ?_
  rotate_left
  · intro W hW; obtain ⟨g1, g3, g4⟩ := hW; go_simp <;> with_reducible rfl
  simp only [Act.put, List.setIfInBounds_toArray, List.set_cons_zero, List.set_cons_succ]
  refine takeH (i := 3) (v := ?_) rfl (by kernel_rfl) (by kernel_rfl) (by kernel_rfl) (fun _ _ _ h => h) (by rfl) ?_ HC.out ?_
  rotate_left
  · intro W hW; obtain ⟨g1, g3, g4⟩ := hW; go_simp <;> with_reducible rfl
  simp only [Act.put, List.setIfInBounds_toArray, List.set_cons_zero, List.set_cons_succ]
  refine takeH (i := 4) (v := ?_) rfl (by kernel_rfl) (by kernel_rfl) (by kernel_rfl) (fun _ _ _ h => h) (by rfl) ?_ HC.out ?_
  rotate_left
  · intro W hW; obtain ⟨g1, g3, g4⟩ := hW; go_simp <;> with_reducible rfl
  simp only [Act.put, List.setIfInBounds_toArray, List.set_cons_zero, List.set_cons_succ]
  refine takeH (i := 5) (v := ?_) rfl (by kernel_rfl) (by kernel_rfl) (by kernel_rfl) (fun _ _ _ h => h) (by rfl) ?_ HC.out ?_
  rotate_left
  · intro W hW; obtain ⟨g1, g3, g4⟩ := hW; go_simp <;> with_reducible rfl
  simp only [Act.put, List.setIfInBounds_toArray, List.set_cons_zero, List.set_cons_succ]
  refine takeH (i := 6) (v := ?_) rfl (by kernel_rfl) (by kernel_rfl) (by kernel_rfl) (fun _ _ _ h => h) (by rfl) ?_ HC.out ?_
  rotate_left
  · intro W hW; obtain ⟨g1, g3, g4⟩ := hW; go_simp <;> with_reducible rfl
  simp only [Act.put, List.setIfInBounds_toArray, List.set_cons_zero, List.set_cons_succ]
  refine takeH (i := 7) (v := ?_) rfl (by kernel_rfl) (by kernel_rfl) (by kernel_rfl) (fun _ _ _ h => h) (by rfl) ?_ HC.out ?_
  rotate_left
  · intro W hW; obtain ⟨g1, g3, g4⟩ := hW; go_simp <;> with_reducible rfl
  simp only [Act.put, List.setIfInBounds_toArray, List.set_cons_zero, List.set_cons_succ]
  refine takeH (i := 8) (v := ?_) rfl (by kernel_rfl) (by kernel_rfl) (by kernel_rfl) (fun _ _ _ h => h) (by rfl) ?_ HC.out ?_
  rotate_left
  · intro W hW; obtain ⟨g1, g3, g4⟩ := hW; go_simp <;> with_reducible rfl
  simp only [Act.put, List.setIfInBounds_toArray, List.set_cons_zero, List.set_cons_succ]
  refine takeH (i := 9) (v := ?_) rfl (by kernel_rfl) (by kernel_rfl) (by kernel_rfl) (fun _ _ _ h => h) (by rfl) ?_ HC.out ?_
  rotate_left
  · intro W hW; obtain ⟨g1, g3, g4⟩ := hW; go_simp <;> with_reducible rfl
  simp only [Act.put, List.setIfInBounds_toArray, List.set_cons_zero, List.set_cons_succ]
  refine oneH (i := 10) rfl (by kernel_rfl) (by rfl) (fun K hK => ?_)
  go_simp
  clear HC
  have HC := S1
  clear S1
  refine hK.out _ _ HC.out (fun _ => ?_)
  clear hK K
  refine takeH (i := 11) (v := ?_) rfl (by kernel_rfl) (by kernel_rfl) (by kernel_rfl) (fun _ _ _ h => h) (by rfl) ?_ HC.out ?_
  rotate_left
  · intro W hW; obtain ⟨g1, g3, g4⟩ := hW; go_simp <;> with_reducible rfl
  simp only [Act.put, List.setIfInBounds_toArray, List.set_cons_zero, List.set_cons_succ]
  refine oneH (i := 12) rfl (by kernel_rfl) (by rfl) (fun K hK => ?_)
  go_simp
  clear HC
  have HC := S2
  clear S2
  refine hK.out _ _ HC.out (fun _ => ?_)
  clear hK K
  refine takeH (i := 13) (v := ?_) rfl (by kernel_rfl) (by kernel_rfl) (by kernel_rfl) (fun _ _ _ h => h) (by rfl) ?_ HC.out ?_
  rotate_left
  · intro W hW; obtain ⟨g1, g3, g4⟩ := hW; go_simp <;> with_reducible rfl
  simp only [Act.put, List.setIfInBounds_toArray, List.set_cons_zero, List.set_cons_succ]
  refine oneH (i := 14) rfl (by kernel_rfl) (by rfl) (fun K hK => ?_)
  go_simp
  clear HC
  have HC := S3
  clear S3
  refine hK.out _ _ HC.out (fun _ => ?_)
  clear hK K
  refine wpAnyH_done (by kernel_rfl) ?_ _
  clear k1 k3 k4 f1 f3 f4 HC ew1 ew2 hF hNw
  obtain ⟨y7, hz⟩ : ∃ z, (((y6.setCell ⟨y5.heap.size, 1, none⟩ (.int .i64 F)).setCell ⟨y5.heap.size, 3, none⟩ (.int .i64 N)).setCell ⟨y5.heap.size, 4, none⟩ (.bool (!x.tg))).drew = z := ⟨_, rfl⟩
  rw [hz]
  rw [hz] at D6 BY6
  clear hz
  have D := D6
  have BY := BY6
  clear D6 BY6
  have w0 := (D.out.at_ HX.out.2.2.2.2).c0
  have v0 := D.out.box.cell 0
  simp only [List.getElem?_toArray, List.getElem?_cons_zero] at v0
  go_wp2_with fail
  clear w0
  have D0 : DIn y7 y4.heap.size y5.heap.size g n c4 x2 := D.out
  have D1 := D0.set HX.out.2.2.2.2 (i := 6) (by omega) (u := .bool true) (y' := { y with gone := true }) rfl
  have D2 := D1.set (set_at HX.out.2.2.2.2) (i := 5) (by omega) (u := .bool false) (y' := { y with gone := true, on := false }) rfl
  simp only [List.set_set] at D2
  have D3 := D2.set (set_at HX.out.2.2.2.2) (i := 8) (by omega) (u := .int .u8 0) (y' := { y with gone := true, on := false, lb := 0 }) rfl
  simp only [List.set_set] at D3
  have E0 := D0.under (Below.refl _ _).drew
  have E1 := D1.under (Below.refl _ _).drew
  have E2 := D2.under (Below.refl _ _).drew
  have E3 := D3.under (Below.refl _ _).drew
  have q1 := (E0.at_ HX.out.2.2.2.2).c6
  have q2 := (E1.at_ (set_at HX.out.2.2.2.2)).c5
  have q3 := (E2.at_ (set_at HX.out.2.2.2.2)).c8
  have f1 := E0.frz (j * 11 + 6)
  have f2 := E1.frz (j * 11 + 5)
  have f3 := E2.frz (j * 11 + 8)
  have HC := Lib.hid E0.cell0
  have S1 := Lib.hid E1.cell0
  have S2 := Lib.hid E2.cell0
  have S3 := Lib.hid E3.cell0
  have D6 := Lib.hid E3
  have hlb := D0.lb
  have BY6 := Lib.hid (((BY.out.setCell (p := ⟨g, j * 11 + 6, none⟩) hlb (.bool true)).setCell (p := ⟨g, j * 11 + 5, none⟩) hlb (.bool false)).setCell (p := ⟨g, j * 11 + 8, none⟩) hlb (.int .u8 0)).drew
  clear D0 D1 D2 D3 E0 E1 E2 E3 D BY v0 hlb
  simp only at q1 q2 q3
  refine wp_region_held_drew (S := fun W => W.cell? ⟨y5.heap.size, 0, none⟩ = some (.slice (some ⟨g, 0, none⟩) n c4)) (by kernel_rfl) HC.out (fun _ => ?_)
  refine takeH (i := 0) (v := ?_) rfl (by kernel_rfl) (by kernel_rfl) (by kernel_rfl) (fun _ _ _ h => h) (by rfl) ?_ HC.out ?_
  rotate_left
  · intro W hW; go_simp <;> with_reducible rfl
  simp only [Act.put, List.setIfInBounds_toArray, List.set_cons_zero, List.set_cons_succ]
  refine takeH (i := 1) (v := ?_) rfl (by kernel_rfl) (by kernel_rfl) (by kernel_rfl) (fun _ _ _ h => h) (by rfl) ?_ HC.out ?_
  rotate_left
  · intro W hW; go_simp <;> with_reducible rfl
  simp only [Act.put, List.setIfInBounds_toArray, List.set_cons_zero, List.set_cons_succ]
  refine takeH (i := 2) (v := ?_) rfl (by kernel_rfl) (by kernel_rfl) (by kernel_rfl) (fun _ _ _ h => h) (by rfl) ?_ HC.out ?_
  rotate_left
  · intro W hW; go_simp <;> with_reducible rfl
  simp only [Act.put, List.setIfInBounds_toArray, List.set_cons_zero, List.set_cons_succ]
  refine takeH (i := 3) (v := ?_) rfl (by kernel_rfl) (by kernel_rfl) (by kernel_rfl) (fun _ _ _ h => h) (by rfl) ?_ HC.out ?_
  rotate_left
  · intro W hW; go_simp <;> with_reducible rfl
  simp only [Act.put, List.setIfInBounds_toArray, List.set_cons_zero, List.set_cons_succ]
  refine takeH (i := 4) (v := ?_) rfl (by kernel_rfl) (by kernel_rfl) (by kernel_rfl) (fun _ _ _ h => h) (by rfl) ?_ HC.out ?_
  rotate_left
  · intro W hW; go_simp <;> with_reducible rfl
  simp only [Act.put, List.setIfInBounds_toArray, List.set_cons_zero, List.set_cons_succ]
  refine takeH (i := 5) (v := ?_) rfl (by kernel_rfl) (by kernel_rfl) (by kernel_rfl) (fun _ _ _ h => h) (by rfl) ?_ HC.out ?_
  rotate_left
  · intro W hW; go_simp <;> with_reducible rfl
  simp only [Act.put, List.setIfInBounds_toArray, List.set_cons_zero, List.set_cons_succ]
  refine takeH (i := 6) (v := ?_) rfl (by kernel_rfl) (by kernel_rfl) (by kernel_rfl) (fun _ _ _ h => h) (by rfl) ?_ HC.out ?_
  rotate_left
  · intro W hW; go_simp <;> with_reducible rfl
  simp only [Act.put, List.setIfInBounds_toArray, List.set_cons_zero, List.set_cons_succ]
  refine takeH (i := 7) (v := ?_) rfl (by kernel_rfl) (by kernel_rfl) (by kernel_rfl) (fun _ _ _ h => h) (by rfl) ?_ HC.out ?_
  rotate_left
  · intro W hW; go_simp <;> with_reducible rfl
  simp only [Act.put, List.setIfInBounds_toArray, List.set_cons_zero, List.set_cons_succ]
  refine takeH (i := 8) (v := ?_) rfl (by kernel_rfl) (by kernel_rfl) (by kernel_rfl) (fun _ _ _ h => h) (by rfl) ?_ HC.out ?_
  rotate_left
  · intro W hW; go_simp <;> with_reducible rfl
  simp only [Act.put, List.setIfInBounds_toArray, List.set_cons_zero, List.set_cons_succ]
  refine takeH (i := 9) (v := ?_) rfl (by kernel_rfl) (by kernel_rfl) (by kernel_rfl) (fun _ _ _ h => h) (by rfl) ?_ HC.out ?_
  rotate_left
  · intro W hW; go_simp <;> with_reducible rfl
  simp only [Act.put, List.setIfInBounds_toArray, List.set_cons_zero, List.set_cons_succ]
  refine takeH (i := 10) (v := ?_) rfl (by kernel_rfl) (by kernel_rfl) (by kernel_rfl) (fun _ _ _ h => h) (by rfl) ?_ HC.out ?_
  rotate_left
  · intro W hW; go_simp <;> with_reducible rfl
  simp only [Act.put, List.setIfInBounds_toArray, List.set_cons_zero, List.set_cons_succ]
  refine oneH (i := 11) rfl (by kernel_rfl) (by rfl) (fun K hK => ?_)
  go_simp
  clear HC
  have HC := S1
  clear S1
  refine hK.out _ _ HC.out (fun _ => ?_)
  clear hK K
  refine takeH (i := 12) (v := ?_) rfl (by kernel_rfl) (by kernel_rfl) (by kernel_rfl) (fun _ _ _ h => h) (by rfl) ?_ HC.out ?_
  rotate_left
  · intro W hW; go_simp <;> with_reducible rfl
  simp only [Act.put, List.setIfInBounds_toArray, List.set_cons_zero, List.set_cons_succ]
  refine takeH (i := 13) (v := ?_) rfl (by kernel_rfl) (by kernel_rfl) (by kernel_rfl) (fun _ _ _ h => h) (by rfl) ?_ HC.out ?_
  rotate_left
  · intro W hW; go_simp <;> with_reducible rfl
  simp only [Act.put, List.setIfInBounds_toArray, List.set_cons_zero, List.set_cons_succ]
  refine oneH (i := 14) rfl (by kernel_rfl) (by rfl) (fun K hK => ?_)
  go_simp
  clear HC
  have HC := S2
  clear S2
  refine hK.out _ _ HC.out (fun _ => ?_)
  clear hK K
  refine takeH (i := 15) (v := ?_) rfl (by kernel_rfl) (by kernel_rfl) (by kernel_rfl) (fun _ _ _ h => h) (by rfl) ?_ HC.out ?_
  rotate_left
  · intro W hW; go_simp <;> with_reducible rfl
  simp only [Act.put, List.setIfInBounds_toArray, List.set_cons_zero, List.set_cons_succ]
  refine takeH (i := 16) (v := ?_) rfl (by kernel_rfl) (by kernel_rfl) (by kernel_rfl) (fun _ _ _ h => h) (by rfl) ?_ HC.out ?_
  rotate_left
  · intro W hW; go_simp <;> with_reducible rfl
  simp only [Act.put, List.setIfInBounds_toArray, List.set_cons_zero, List.set_cons_succ]
  refine oneH (i := 17) rfl (by kernel_rfl) (by rfl) (fun K hK => ?_)
  go_simp
  clear HC
  have HC := S3
  clear S3
  refine hK.out _ _ HC.out (fun _ => ?_)
  clear hK K
  refine wpAnyH_done (by kernel_rfl) ?_ _
  clear q1 q2 q3 f1 f2 f3 HC
  obtain ⟨y8, hz⟩ : ∃ z, (((y7.setCell ⟨g, j * 11 + 6, none⟩ (.bool true)).setCell ⟨g, j * 11 + 5, none⟩ (.bool false)).setCell ⟨g, j * 11 + 8, none⟩ (.int .u8 0)).drew = z := ⟨_, rfl⟩
  rw [hz]
  rw [hz] at D6 BY6
  clear hz
  have C_ := Lib.hid (C.out.under BY6.out)
  have R_ := Lib.hid (R.out.up BY6.out)
  have B_ := Lib.hid (B.out.trans (BY6.out.mono B.out.size))
  have RL_ := Lib.hid (RL.out.up BY6.out)
  clear C R B RL
  have C := C_
  have R := R_
  have B := B_
  have RL := RL_
  clear C_ R_ B_ RL_
  clear BY6
  have DB := Lib.hid D6.out.box
  have RD := Lib.hid D6.out.rd
  clear D6
  have vDB_0 := DB.out.cell 0
  have vDB_1 := DB.out.cell 1
  have vDB_2 := DB.out.cell 2
  have vDB_3 := DB.out.cell 3
  have vDB_4 := DB.out.cell 4
  simp only [List.getElem?_toArray, List.getElem?_cons_zero, List.getElem?_cons_succ] at vDB_0 vDB_1 vDB_2 vDB_3 vDB_4
  go_wp2_with fail
  refine (HOf2.out _ _ _ RD.out).mono ?_
  rintro e y9 ⟨A5, c5, rfl, r, b⟩
  clear vDB_0 vDB_1 vDB_2 vDB_3 vDB_4
  have C_ := Lib.hid (C.out.under b)
  have R_ := Lib.hid (R.out.up b)
  have B_ := Lib.hid (B.out.trans (b.mono B.out.size))
  have RL_ := Lib.hid (RL.out.up b)
  have DB_ := Lib.hid (DB.out.under b)
  have RD_ := Lib.hid (RD.out.up b)
  clear C R B RL DB RD
  have C := C_
  have R := R_
  have B := B_
  have RL := RL_
  have DB := DB_
  have RD := RD_
  clear C_ R_ B_ RL_ DB_ RD_
  have RK := Lib.hid r
  clear r b HOf2
  go_wp2_with fail
  go_loopw [12] (fun i wr => ∃ q : Nat, i = .int .i64 (q : Int) ∧ q ≤ k ∧ wr = y9) (fun i _ => k - (intOf i).toNat)
  case atStart => exact ⟨0, rfl, Nat.zero_le _, rfl⟩
  case round =>
    obtain ⟨q, rfl, hq, rfl⟩ := hrel
    have hk3 := HX.out.2.1
    rcases Nat.eq_or_lt_of_le hq with rfl | hlt
    · clear hq
      go_wp2_with fail
      refine (sameSL rfl (by omega) _ _ _ _ _ RK.out RL.out).mono ?_
      rintro e y10 ⟨rfl, b⟩
      have B_ := Lib.hid (B.out.trans (b.mono B.out.size))
      have RL_ := Lib.hid (RL.out.up b)
      have RK_ := Lib.hid (RK.out.up b)
      clear B RL RK
      have B := B_
      have RL := RL_
      have RK := RK_
      clear B_ RL_ RK_
      clear b
      go_wp2_with fail
      refine (wakes_any _).mono ?_
      rintro e y11 ⟨rfl, b⟩
      have B_ := Lib.hid (B.out.trans (b.mono B.out.size))
      have RL_ := Lib.hid (RL.out.up b)
      have RK_ := Lib.hid (RK.out.up b)
      clear B RL RK
      have B := B_
      have RL := RL_
      have RK := RK_
      clear B_ RL_ RK_
      clear b
      go_wp2_with fail
      go_ret
      exact ⟨rfl, B.out⟩
    · have hqI : (q : Int) < (k : Int) := by omega
      obtain ⟨s, hs⟩ : ∃ s, P[q]? = some s := ⟨_, List.getElem?_eq_getElem (by have := HX.out.1; omega)⟩
      obtain ⟨pb, off, e3, hbl, hc⟩ := RL.out.2 (by omega)
      subst e3
      obtain ⟨s0, s1, s2, s3, s4, s5, s6⟩ := hc q s hs
      have dgt : decide (s.id ≤ b) = false := decide_eq_false (by have := HX.out.2.2.1 s (List.mem_of_getElem? hs); omega)
      have HLt := Lib.hid hlt
      clear hc hs hlt hq hbl s1 s2 s3 s4 s5 s6
      go_wp2_with fail
      go_roundw
      case rel => exact ⟨q + 1, by simp, HLt.out, trivial⟩
      case measure => have := HLt.out; simp [intOf]; omega

set_option maxRecDepth 100000 in
set_option maxHeartbeats 8000000 in
theorem pgbeh_high (x : Cw) (b a : Int) (A : Option Addr) (n c : Nat) (w : World) (hr : RdX w w.heap.size A n x.l) (hm : ¬ (60 : Int) < (n : Int)) (h : right x = true) (h0 : 0 < n) (j : Nat) (hj : (a.tmod n + n).tmod n = (j : Int)) (hjn : j < n) (y : Bx) (hy : x.l[j]? = some y) (hyb : ¬ y.id ≤ b) :
    Calls Try.prog 4 #[.agg #[.slice A n c, .int .i64 x.fl, .int .i64 x.dr, .int .i64 x.nw, .bool x.tg], .int .i64 b, .int .i64 a] w (TruePost w) := by
  obtain ⟨S, hS⟩ : ∃ S, shown x.l = S := ⟨_, rfl⟩
  obtain ⟨P, hP⟩ : ∃ P, pageOf S b = P := ⟨_, rfl⟩
  obtain ⟨M, hM⟩ : ∃ M, moreOf S b = M := ⟨_, rfl⟩
  obtain ⟨k, hk⟩ : ∃ k, P.length = k := ⟨_, rfl⟩
  have hn : n ≤ 60 := by omega
  have hk3 : k ≤ 3 := by rw [← hk, ← hP]; unfold pageOf; rw [List.length_take]; omega
  have hab : ∀ s ∈ P, b < s.id := fun s hs => by rw [← hP] at hs; exact restOf_above (List.mem_of_mem_take hs)
  have hsg := shown_gone h hy
  rw [hS] at hsg
  obtain ⟨q1, q2, q3⟩ := right_nums h
  obtain ⟨u1, u2⟩ := half_num q1
  obtain ⟨u3, u4⟩ := half_num q3
  obtain ⟨F, hF⟩ : ∃ F, x.fl.tdiv 2 = F := ⟨_, rfl⟩
  obtain ⟨N, hNw⟩ : ∃ N, x.nw.tdiv 2 = N := ⟨_, rfl⟩
  obtain ⟨x2, hx2⟩ : ∃ x2 : Cw, x2 = { x with fl := F, nw := N, tg := !x.tg } := ⟨_, rfl⟩
  have hr2 : right x2 = true := by rw [hx2, ← hF, ← hNw]; exact right_with h u1 u3 _
  have el2 : x2.l = x.l := by rw [hx2]
  have hy2 : x2.l[j]? = some y := by rw [el2]; exact hy
  have ew1 : IntKind.i64.wrap F = F := by rw [← hF]; exact u2
  have ew2 : IntKind.i64.wrap N = N := by rw [← hNw]; exact u4
  have HOf2 := Lib.hid (ofL (x := x2) (n := n) (b := b) (P := P) (M := M) hr2 (by rw [el2, hS]; exact hP) (by rw [el2, hS]; exact hM) hk (by omega))
  have e0 : ((n : Int) == 0) = false := by rw [beq_eq_false_iff_ne]; omega
  have e1 := mod_wrapG a n h0 (by omega)
  have i0 : (0 : Int) ≤ (j : Int) := by omega
  have i1 : (j : Int) < (n : Int) := by omega
  have dle : decide (y.id ≤ b) = false := decide_eq_false hyb
  have HRt := Lib.hid (rightL (l := x.l) (fl := x.fl) (dr := x.dr) (nw := x.nw) (tg := x.tg) (n := n) h)
  have HOf := Lib.hid (ofL (n := n) (b := b) (P := P) (M := M) h (by rw [hS]; exact hP) (by rw [hS]; exact hM) hk (by omega))
  have HOw := Lib.hid (rownL (x := x) (n := n) (by omega) h0)
  have HX := Lib.hid (And.intro hk (And.intro hk3 (And.intro hab (And.intro hy hy2))))
  have HN := Lib.hid (And.intro h0 (And.intro hjn hn))
  have HE := Lib.hid (And.intro hx2 (And.intro ew1 (And.intro ew2 (And.intro hF hNw))))
  clear h hS hP hM hk hk3 hab hsg hn h0 hy hjn hr2 el2 hy2 ew1 ew2 q1 q2 q3 u1 u2 u3 u4 hx2 hyb hF hNw
  have one := whole_one (W := w) (t := 24) (x := #[.slice A n c, .int .i64 x.fl, .int .i64 x.dr, .int .i64 x.nw, .bool x.tg])
  have C := Lib.hid one.1
  have R := Lib.hid (hr.up one.2)
  have B := Lib.hid one.2
  clear one hr
  have HGr := Lib.hid (greatL (n := n) (decide_eq_false hm) x.fl x.dr x.nw x.tg)
  clear hm
  go_enter Try.func4, Try.ntmps4
  go_wp2_with fail
  refine (HGr.out _ _ _).mono ?_
  rintro e y1 ⟨rfl, b⟩
  have C_ := Lib.hid (C.out.under b)
  have R_ := Lib.hid (R.out.up b)
  have B_ := Lib.hid (B.out.trans (b.mono B.out.size))
  clear C R B
  have C := C_
  have R := R_
  have B := B_
  clear C_ R_ B_
  clear b HGr
  have vC_0 := C.out.cell 0
  have vC_1 := C.out.cell 1
  have vC_2 := C.out.cell 2
  have vC_3 := C.out.cell 3
  have vC_4 := C.out.cell 4
  simp only [List.getElem?_toArray, List.getElem?_cons_zero, List.getElem?_cons_succ] at vC_0 vC_1 vC_2 vC_3 vC_4
  go_wp2_with fail
  refine (HRt.out _ _ _ R.out).mono ?_
  rintro e y2 ⟨rfl, b⟩
  clear vC_0 vC_1 vC_2 vC_3 vC_4
  have C_ := Lib.hid (C.out.under b)
  have R_ := Lib.hid (R.out.up b)
  have B_ := Lib.hid (B.out.trans (b.mono B.out.size))
  clear C R B
  have C := C_
  have R := R_
  have B := B_
  clear C_ R_ B_
  clear b HRt
  have vC_0 := C.out.cell 0
  have vC_1 := C.out.cell 1
  have vC_2 := C.out.cell 2
  have vC_3 := C.out.cell 3
  have vC_4 := C.out.cell 4
  simp only [List.getElem?_toArray, List.getElem?_cons_zero, List.getElem?_cons_succ] at vC_0 vC_1 vC_2 vC_3 vC_4
  go_wp2_with fail
  refine (HOf.out _ _ _ R.out).mono ?_
  rintro e y3 ⟨A3, c3, rfl, r, b⟩
  clear vC_0 vC_1 vC_2 vC_3 vC_4
  have C_ := Lib.hid (C.out.under b)
  have R_ := Lib.hid (R.out.up b)
  have B_ := Lib.hid (B.out.trans (b.mono B.out.size))
  clear C R B
  have C := C_
  have R := R_
  have B := B_
  clear C_ R_ B_
  have RL := Lib.hid r
  clear r b HOf
  have vC_0 := C.out.cell 0
  have vC_1 := C.out.cell 1
  have vC_2 := C.out.cell 2
  have vC_3 := C.out.cell 3
  have vC_4 := C.out.cell 4
  simp only [List.getElem?_toArray, List.getElem?_cons_zero, List.getElem?_cons_succ] at vC_0 vC_1 vC_2 vC_3 vC_4
  go_wp2_with fail
  go_quiet (fail)
  clear vC_0 vC_1 vC_2 vC_3 vC_4
  have C_ := Lib.hid (C.out.under (below_drewN (Below.refl y3.heap.size y3) nq))
  have R_ := Lib.hid (R.out.up (below_drewN (Below.refl y3.heap.size y3) nq))
  have B_ := Lib.hid (B.out.trans ((below_drewN (Below.refl y3.heap.size y3) nq).mono B.out.size))
  have RL_ := Lib.hid (RL.out.up (below_drewN (Below.refl y3.heap.size y3) nq))
  clear C R B RL
  have C := C_
  have R := R_
  have B := B_
  have RL := RL_
  clear C_ R_ B_ RL_
  obtain ⟨y4, hy4⟩ : ∃ y4, y3.drewN nq = y4 := ⟨_, rfl⟩
  rw [hy4]
  rw [hy4] at C R B RL
  clear hy4 hj e1
  have vC_0 := C.out.cell 0
  have vC_1 := C.out.cell 1
  have vC_2 := C.out.cell 2
  have vC_3 := C.out.cell 3
  have vC_4 := C.out.cell 4
  simp only [List.getElem?_toArray, List.getElem?_cons_zero, List.getElem?_cons_succ] at vC_0 vC_1 vC_2 vC_3 vC_4
  go_wp2_with fail
  clear vC_0 vC_1 vC_2 vC_3 vC_4
  refine (HOw.out _ _ _ R.out).mono ?_
  rintro e y5 ⟨g, c4, rfl, hg1, hg2, ho, b4⟩
  clear HOw
  have hcb : w.heap.size < y5.heap.size := Nat.lt_of_lt_of_le C.out.lt b4.size
  have one := whole_one (W := y5) (t := 24) (x := #[.slice (some ⟨g, 0, none⟩) n c4, .int .i64 x.fl, .int .i64 x.dr, .int .i64 x.nw, .bool x.tg])
  obtain ⟨y6, hy6⟩ : ∃ y6, y5.alloc (.cells #[.slice (some ⟨g, 0, none⟩) n c4, .int .i64 x.fl, .int .i64 x.dr, .int .i64 x.nw, .bool x.tg] 24) = y6 := ⟨_, rfl⟩
  have d0 : DIn y6 y4.heap.size y5.heap.size g n c4 x := ⟨by rw [← hy6]; exact one.1, by rw [← hy6]; exact own_under ho one.2, by omega, hg1, HN.out.1⟩
  have b6 : Below y4.heap.size y4 y6 := by rw [← hy6]; exact b4.trans (one.2.mono b4.size)
  have D := Lib.hid d0
  have BY := Lib.hid b6
  have CB := Lib.hid (And.intro hcb b4.size)
  have h0 := hy6
  clear one ho b4 d0 b6 hg1 hg2 hy6 hcb
  have v0 := D.out.box.cell 0
  simp only [List.getElem?_toArray, List.getElem?_cons_zero] at v0
  go_wp2_with fail
  obtain ⟨hx2, ew1, ew2, hF, hNw⟩ := HE.out
  have D2 : DIn (((y6.setCell ⟨y5.heap.size, 1, none⟩ (.int .i64 F)).setCell ⟨y5.heap.size, 3, none⟩ (.int .i64 N)).setCell ⟨y5.heap.size, 4, none⟩ (.bool (!x.tg))) y4.heap.size y5.heap.size g n c4 x2 := by rw [hx2]; exact D.out.put F N (!x.tg)
  have C0 := C.out.under BY.out
  have hne : w.heap.size ≠ y5.heap.size := by have := CB.out.1; omega
  have C1 := C0.far (p := ⟨y5.heap.size, 1, none⟩) hne (.int .i64 F)
  have C2 := C1.far (p := ⟨y5.heap.size, 3, none⟩) hne (.int .i64 N)
  have B0 := D.out.box
  have B1 := B0.set 1 (.int .i64 F)
  have B2 := B1.set 3 (.int .i64 N)
  have k1 := (B0.under (Below.refl _ _).drew).cell 1
  have k3 := (B1.under (Below.refl _ _).drew).cell 3
  have k4 := (B2.under (Below.refl _ _).drew).cell 4
  have f1 := (B0.under (Below.refl _ _).drew).frozen 1
  have f3 := (B1.under (Below.refl _ _).drew).frozen 3
  have f4 := (B2.under (Below.refl _ _).drew).frozen 4
  simp [Array.setIfInBounds] at k1 k3 k4
  have S0 := Lib.hid (And.intro ((C0.under (Below.refl _ _).drew).cell 1) (And.intro ((C0.under (Below.refl _ _).drew).cell 3) ((C0.under (Below.refl _ _).drew).cell 4)))
  have S1 := Lib.hid (And.intro ((C1.under (Below.refl _ _).drew).cell 1) (And.intro ((C1.under (Below.refl _ _).drew).cell 3) ((C1.under (Below.refl _ _).drew).cell 4)))
  have S2 := Lib.hid (And.intro ((C2.under (Below.refl _ _).drew).cell 1) (And.intro ((C2.under (Below.refl _ _).drew).cell 3) ((C2.under (Below.refl _ _).drew).cell 4)))
  have C3 := C2.far (p := ⟨y5.heap.size, 4, none⟩) hne (.bool (!x.tg))
  have S3 := Lib.hid (And.intro ((C3.under (Below.refl _ _).drew).cell 1) (And.intro ((C3.under (Below.refl _ _).drew).cell 3) ((C3.under (Below.refl _ _).drew).cell 4)))
  simp only [List.getElem?_toArray, List.getElem?_cons_zero, List.getElem?_cons_succ] at S0 S1 S2 S3
  have D6 := Lib.hid (D2.under (Below.refl _ _).drew)
  have hlb : y4.heap.size ≤ y5.heap.size := CB.out.2
  have BY6 := Lib.hid (((BY.out.setCell (p := ⟨y5.heap.size, 1, none⟩) hlb (.int .i64 F)).setCell (p := ⟨y5.heap.size, 3, none⟩) hlb (.int .i64 N)).setCell (p := ⟨y5.heap.size, 4, none⟩) hlb (.bool (!x.tg))).drew
  have HC := S0
  clear D2 C0 C1 C2 C3 B0 B1 B2 D BY v0 h0 hlb hne hx2 S0
  refine wp_region_held_drew (S := fun W => W.cell? ⟨w.heap.size, 1, none⟩ = some (.int .i64 x.fl) ∧ W.cell? ⟨w.heap.size, 3, none⟩ = some (.int .i64 x.nw) ∧ W.cell? ⟨w.heap.size, 4, none⟩ = some (.bool x.tg)) (by kernel_rfl) HC.out (fun _ => ?_)
  refine takeH (i := 0) (v := ?_) rfl (by kernel_rfl) (by kernel_rfl) (by kernel_rfl) (fun _ _ _ h => h) (by rfl) ?_ HC.out ?_
  rotate_left
  · intro W hW; obtain ⟨g1, g3, g4⟩ := hW; go_simp <;> with_reducible rfl
  simp only [Act.put, List.setIfInBounds_toArray, List.set_cons_zero, List.set_cons_succ]
  refine takeH (i := 1) (v := ?_) rfl (by kernel_rfl) (by kernel_rfl) (by kernel_rfl) (fun _ _ _ h => h) (by rfl) ?_ HC.out ?_
  rotate_left
  · intro W hW; obtain ⟨g1, g3, g4⟩ := hW; go_simp <;> with_reducible rfl
  simp only [Act.put, List.setIfInBounds_toArray, List.set_cons_zero, List.set_cons_succ]
  refine takeH (i := 2) (v := ?_) rfl (by kernel_rfl) (by kernel_rfl) (by kernel_rfl) (fun _ _ _ h => h) (by rfl) ?_ HC.out ?_
  rotate_left
  · intro W hW; obtain ⟨g1, g3, g4⟩ := hW; go_simp <;> with_reducible rfl
  simp only [Act.put, List.setIfInBounds_toArray, List.set_cons_zero, List.set_cons_succ]
  refine takeH (i := 3) (v := ?_) rfl (by kernel_rfl) (by kernel_rfl) (by kernel_rfl) (fun _ _ _ h => h) (by rfl) ?_ HC.out ?_
  rotate_left
  · intro W hW; obtain ⟨g1, g3, g4⟩ := hW; go_simp <;> with_reducible rfl
  simp only [Act.put, List.setIfInBounds_toArray, List.set_cons_zero, List.set_cons_succ]
  refine takeH (i := 4) (v := ?_) rfl (by kernel_rfl) (by kernel_rfl) (by kernel_rfl) (fun _ _ _ h => h) (by rfl) ?_ HC.out ?_
  rotate_left
  · intro W hW; obtain ⟨g1, g3, g4⟩ := hW; go_simp <;> with_reducible rfl
  simp only [Act.put, List.setIfInBounds_toArray, List.set_cons_zero, List.set_cons_succ]
  refine takeH (i := 5) (v := ?_) rfl (by kernel_rfl) (by kernel_rfl) (by kernel_rfl) (fun _ _ _ h => h) (by rfl) ?_ HC.out ?_
  rotate_left
  · intro W hW; obtain ⟨g1, g3, g4⟩ := hW; go_simp <;> with_reducible rfl
  simp only [Act.put, List.setIfInBounds_toArray, List.set_cons_zero, List.set_cons_succ]
  refine takeH (i := 6) (v := ?_) rfl (by kernel_rfl) (by kernel_rfl) (by kernel_rfl) (fun _ _ _ h => h) (by rfl) ?_ HC.out ?_
  rotate_left
  · intro W hW; obtain ⟨g1, g3, g4⟩ := hW; go_simp <;> with_reducible rfl
  simp only [Act.put, List.setIfInBounds_toArray, List.set_cons_zero, List.set_cons_succ]
  refine takeH (i := 7) (v := ?_) rfl (by kernel_rfl) (by kernel_rfl) (by kernel_rfl) (fun _ _ _ h => h) (by rfl) ?_ HC.out ?_
  rotate_left
  · intro W hW; obtain ⟨g1, g3, g4⟩ := hW; go_simp <;> with_reducible rfl
  simp only [Act.put, List.setIfInBounds_toArray, List.set_cons_zero, List.set_cons_succ]
  refine takeH (i := 8) (v := ?_) rfl (by kernel_rfl) (by kernel_rfl) (by kernel_rfl) (fun _ _ _ h => h) (by rfl) ?_ HC.out ?_
  rotate_left
  · intro W hW; obtain ⟨g1, g3, g4⟩ := hW; go_simp <;> with_reducible rfl
  simp only [Act.put, List.setIfInBounds_toArray, List.set_cons_zero, List.set_cons_succ]
  refine takeH (i := 9) (v := ?_) rfl (by kernel_rfl) (by kernel_rfl) (by kernel_rfl) (fun _ _ _ h => h) (by rfl) ?_ HC.out ?_
  rotate_left
  · intro W hW; obtain ⟨g1, g3, g4⟩ := hW; go_simp <;> with_reducible rfl
  simp only [Act.put, List.setIfInBounds_toArray, List.set_cons_zero, List.set_cons_succ]
  refine oneH (i := 10) rfl (by kernel_rfl) (by rfl) (fun K hK => ?_)
  go_simp
  clear HC
  have HC := S1
  clear S1
  refine hK.out _ _ HC.out (fun _ => ?_)
  clear hK K
  refine takeH (i := 11) (v := ?_) rfl (by kernel_rfl) (by kernel_rfl) (by kernel_rfl) (fun _ _ _ h => h) (by rfl) ?_ HC.out ?_
  rotate_left
  · intro W hW; obtain ⟨g1, g3, g4⟩ := hW; go_simp <;> with_reducible rfl
  simp only [Act.put, List.setIfInBounds_toArray, List.set_cons_zero, List.set_cons_succ]
  refine oneH (i := 12) rfl (by kernel_rfl) (by rfl) (fun K hK => ?_)
  go_simp
  clear HC
  have HC := S2
  clear S2
  refine hK.out _ _ HC.out (fun _ => ?_)
  clear hK K
  refine takeH (i := 13) (v := ?_) rfl (by kernel_rfl) (by kernel_rfl) (by kernel_rfl) (fun _ _ _ h => h) (by rfl) ?_ HC.out ?_
  rotate_left
  · intro W hW; obtain ⟨g1, g3, g4⟩ := hW; go_simp <;> with_reducible rfl
  simp only [Act.put, List.setIfInBounds_toArray, List.set_cons_zero, List.set_cons_succ]
  refine oneH (i := 14) rfl (by kernel_rfl) (by rfl) (fun K hK => ?_)
  go_simp
  clear HC
  have HC := S3
  clear S3
  refine hK.out _ _ HC.out (fun _ => ?_)
  clear hK K
  refine wpAnyH_done (by kernel_rfl) ?_ _
  clear k1 k3 k4 f1 f3 f4 HC ew1 ew2 hF hNw
  obtain ⟨y7, hz⟩ : ∃ z, (((y6.setCell ⟨y5.heap.size, 1, none⟩ (.int .i64 F)).setCell ⟨y5.heap.size, 3, none⟩ (.int .i64 N)).setCell ⟨y5.heap.size, 4, none⟩ (.bool (!x.tg))).drew = z := ⟨_, rfl⟩
  rw [hz]
  rw [hz] at D6 BY6
  clear hz
  have D := D6
  have BY := BY6
  clear D6 BY6
  have w0 := (D.out.at_ HX.out.2.2.2.2).c0
  have D6 := D
  have BY6 := BY
  clear D BY
  have C_ := Lib.hid (C.out.under BY6.out)
  have R_ := Lib.hid (R.out.up BY6.out)
  have B_ := Lib.hid (B.out.trans (BY6.out.mono B.out.size))
  have RL_ := Lib.hid (RL.out.up BY6.out)
  clear C R B RL
  have C := C_
  have R := R_
  have B := B_
  have RL := RL_
  clear C_ R_ B_ RL_
  clear BY6
  have DB := Lib.hid D6.out.box
  have RD := Lib.hid D6.out.rd
  clear D6
  have vDB_0 := DB.out.cell 0
  have vDB_1 := DB.out.cell 1
  have vDB_2 := DB.out.cell 2
  have vDB_3 := DB.out.cell 3
  have vDB_4 := DB.out.cell 4
  simp only [List.getElem?_toArray, List.getElem?_cons_zero, List.getElem?_cons_succ] at vDB_0 vDB_1 vDB_2 vDB_3 vDB_4
  go_wp2_with fail
  clear w0
  refine (HOf2.out _ _ _ RD.out).mono ?_
  rintro e y8 ⟨A5, c5, rfl, r, b⟩
  clear vDB_0 vDB_1 vDB_2 vDB_3 vDB_4
  have C_ := Lib.hid (C.out.under b)
  have R_ := Lib.hid (R.out.up b)
  have B_ := Lib.hid (B.out.trans (b.mono B.out.size))
  have RL_ := Lib.hid (RL.out.up b)
  have DB_ := Lib.hid (DB.out.under b)
  have RD_ := Lib.hid (RD.out.up b)
  clear C R B RL DB RD
  have C := C_
  have R := R_
  have B := B_
  have RL := RL_
  have DB := DB_
  have RD := RD_
  clear C_ R_ B_ RL_ DB_ RD_
  have RK := Lib.hid r
  clear r b HOf2
  go_wp2_with fail
  go_loopw [12] (fun i wr => ∃ q : Nat, i = .int .i64 (q : Int) ∧ q ≤ k ∧ wr = y8) (fun i _ => k - (intOf i).toNat)
  case atStart => exact ⟨0, rfl, Nat.zero_le _, rfl⟩
  case round =>
    obtain ⟨q, rfl, hq, rfl⟩ := hrel
    have hk3 := HX.out.2.1
    rcases Nat.eq_or_lt_of_le hq with rfl | hlt
    · clear hq
      go_wp2_with fail
      refine (sameSL rfl (by omega) _ _ _ _ _ RK.out RL.out).mono ?_
      rintro e y9 ⟨rfl, b⟩
      have B_ := Lib.hid (B.out.trans (b.mono B.out.size))
      have RL_ := Lib.hid (RL.out.up b)
      have RK_ := Lib.hid (RK.out.up b)
      clear B RL RK
      have B := B_
      have RL := RL_
      have RK := RK_
      clear B_ RL_ RK_
      clear b
      go_wp2_with fail
      refine (wakes_any _).mono ?_
      rintro e y10 ⟨rfl, b⟩
      have B_ := Lib.hid (B.out.trans (b.mono B.out.size))
      have RL_ := Lib.hid (RL.out.up b)
      have RK_ := Lib.hid (RK.out.up b)
      clear B RL RK
      have B := B_
      have RL := RL_
      have RK := RK_
      clear B_ RL_ RK_
      clear b
      go_wp2_with fail
      go_ret
      exact ⟨rfl, B.out⟩
    · have hqI : (q : Int) < (k : Int) := by omega
      obtain ⟨s, hs⟩ : ∃ s, P[q]? = some s := ⟨_, List.getElem?_eq_getElem (by have := HX.out.1; omega)⟩
      obtain ⟨pb, off, e3, hbl, hc⟩ := RL.out.2 (by omega)
      subst e3
      obtain ⟨s0, s1, s2, s3, s4, s5, s6⟩ := hc q s hs
      have dgt : decide (s.id ≤ b) = false := decide_eq_false (by have := HX.out.2.2.1 s (List.mem_of_getElem? hs); omega)
      have HLt := Lib.hid hlt
      clear hc hs hlt hq hbl s1 s2 s3 s4 s5 s6
      go_wp2_with fail
      go_roundw
      case rel => exact ⟨q + 1, by simp, HLt.out, trivial⟩
      case measure => have := HLt.out; simp [intOf]; omega

theorem pageBehind_any (x : Cw) (b a : Int) (A : Option Addr) (n c : Nat) (w : World) (hr : RdX w w.heap.size A n x.l) :
    Calls Try.prog 4 #[.agg #[.slice A n c, .int .i64 x.fl, .int .i64 x.dr, .int .i64 x.nw, .bool x.tg], .int .i64 b, .int .i64 a] w (TruePost w) := by
  by_cases hm : (60 : Int) < (n : Int)
  · exact pgbeh_long x b a A n c w hr hm
  · cases h : right x with
    | false => exact pgbeh_wrong x b a A n c w hr hm h
    | true =>
      rcases Nat.eq_zero_or_pos n with h0 | h0
      · exact pgbeh_none x b a A n c w hr hm h h0
      · obtain ⟨j, hj, hjn⟩ := mod_atG a n h0
        obtain ⟨y, hy⟩ : ∃ y, x.l[j]? = some y := ⟨_, List.getElem?_eq_getElem (by rw [hr.1]; exact hjn)⟩
        by_cases hyb : y.id ≤ b
        · exact pgbeh_low x b a A n c w hr hm h h0 j hj hjn y hy hyb
        · exact pgbeh_high x b a A n c w hr hm h h0 j hj hjn y hy hyb


end Go.Proofs.Ytdoaakohgmohkaa
