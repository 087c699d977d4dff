/-
  The walk of the statement PageGone: of a box that is gone all is shown as it was, but it. Conditions: those that each theorem names.
-/
import Derived.Test.YtdoaakohgmohkaaPgGoneKit
namespace Go.Proofs.Ytdoaakohgmohkaa
open Go.RowKit Go.Shelf

set_option maxRecDepth 100000 in
set_option maxHeartbeats 8000000 in
theorem pggone_long (x : Cw) (a : Int) (A : Option Addr) (n c : Nat) (w : World) (hr : RdX w w.heap.size A n x.l) (hm : (60 : Int) < (n : Int)) :
    Calls Try.prog 5 #[.agg #[.slice A n c, .int .i64 x.fl, .int .i64 x.dr, .int .i64 x.nw, .bool x.tg], .int .i64 a] w (TruePost w) := by
  have one := whole_one (W := w) (t := 24) (x := #[.slice A n c, .int .i64 x.fl, .int .i64 x.dr, .int .i64 x.nw, .bool x.tg])
  have C := Lib.hid one.1
  have R := Lib.hid (hr.up one.2)
  have B := Lib.hid one.2
  clear one hr
  have HGr := Lib.hid (greatL (n := n) (decide_eq_true hm) x.fl x.dr x.nw x.tg)
  clear hm
  go_enter Try.func5, Try.ntmps5
  go_wp2_with fail
  refine (HGr.out _ _ _).mono ?_
  rintro e y1 ⟨rfl, b⟩
  have C_ := Lib.hid (C.out.under b)
  have R_ := Lib.hid (R.out.up b)
  have B_ := Lib.hid (B.out.trans (b.mono B.out.size))
  clear C R B
  have C := C_
  have R := R_
  have B := B_
  clear C_ R_ B_
  clear b HGr
  go_wp2_with fail
  refine (wakes_any _).mono ?_
  rintro e y2 ⟨rfl, b⟩
  have C_ := Lib.hid (C.out.under b)
  have R_ := Lib.hid (R.out.up b)
  have B_ := Lib.hid (B.out.trans (b.mono B.out.size))
  clear C R B
  have C := C_
  have R := R_
  have B := B_
  clear C_ R_ B_
  clear b
  go_wp2_with fail
  go_ret
  exact ⟨rfl, B.out⟩

set_option maxRecDepth 100000 in
set_option maxHeartbeats 8000000 in
theorem pggone_wrong (x : Cw) (a : Int) (A : Option Addr) (n c : Nat) (w : World) (hr : RdX w w.heap.size A n x.l) (hm : ¬ (60 : Int) < (n : Int)) (h : right x = false) :
    Calls Try.prog 5 #[.agg #[.slice A n c, .int .i64 x.fl, .int .i64 x.dr, .int .i64 x.nw, .bool x.tg], .int .i64 a] w (TruePost w) := by
  have one := whole_one (W := w) (t := 24) (x := #[.slice A n c, .int .i64 x.fl, .int .i64 x.dr, .int .i64 x.nw, .bool x.tg])
  have C := Lib.hid one.1
  have R := Lib.hid (hr.up one.2)
  have B := Lib.hid one.2
  clear one hr
  have HRt := Lib.hid (rightL (l := x.l) (fl := x.fl) (dr := x.dr) (nw := x.nw) (tg := x.tg) (n := n) h)
  clear h
  have HGr := Lib.hid (greatL (n := n) (decide_eq_false hm) x.fl x.dr x.nw x.tg)
  clear hm
  go_enter Try.func5, Try.ntmps5
  go_wp2_with fail
  refine (HGr.out _ _ _).mono ?_
  rintro e y1 ⟨rfl, b⟩
  have C_ := Lib.hid (C.out.under b)
  have R_ := Lib.hid (R.out.up b)
  have B_ := Lib.hid (B.out.trans (b.mono B.out.size))
  clear C R B
  have C := C_
  have R := R_
  have B := B_
  clear C_ R_ B_
  clear b HGr
  have vC_0 := C.out.cell 0
  have vC_1 := C.out.cell 1
  have vC_2 := C.out.cell 2
  have vC_3 := C.out.cell 3
  have vC_4 := C.out.cell 4
  simp only [List.getElem?_toArray, List.getElem?_cons_zero, List.getElem?_cons_succ] at vC_0 vC_1 vC_2 vC_3 vC_4
  go_wp2_with fail
  refine (HRt.out _ _ _ R.out).mono ?_
  rintro e y2 ⟨rfl, b⟩
  clear vC_0 vC_1 vC_2 vC_3 vC_4
  have C_ := Lib.hid (C.out.under b)
  have R_ := Lib.hid (R.out.up b)
  have B_ := Lib.hid (B.out.trans (b.mono B.out.size))
  clear C R B
  have C := C_
  have R := R_
  have B := B_
  clear C_ R_ B_
  clear b HRt
  go_wp2_with fail
  refine (wakes_any _).mono ?_
  rintro e y3 ⟨rfl, b⟩
  have C_ := Lib.hid (C.out.under b)
  have R_ := Lib.hid (R.out.up b)
  have B_ := Lib.hid (B.out.trans (b.mono B.out.size))
  clear C R B
  have C := C_
  have R := R_
  have B := B_
  clear C_ R_ B_
  clear b
  go_wp2_with fail
  go_ret
  exact ⟨rfl, B.out⟩

set_option maxRecDepth 100000 in
set_option maxHeartbeats 8000000 in
theorem pggone_none (x : Cw) (a : Int) (A : Option Addr) (n c : Nat) (w : World) (hr : RdX w w.heap.size A n x.l) (hm : ¬ (60 : Int) < (n : Int)) (h : right x = true) (h0 : n = 0) :
    Calls Try.prog 5 #[.agg #[.slice A n c, .int .i64 x.fl, .int .i64 x.dr, .int .i64 x.nw, .bool x.tg], .int .i64 a] w (TruePost w) := by
  have one := whole_one (W := w) (t := 24) (x := #[.slice A n c, .int .i64 x.fl, .int .i64 x.dr, .int .i64 x.nw, .bool x.tg])
  have C := Lib.hid one.1
  have R := Lib.hid (hr.up one.2)
  have B := Lib.hid one.2
  clear one hr
  have HRt := Lib.hid (rightL (l := x.l) (fl := x.fl) (dr := x.dr) (nw := x.nw) (tg := x.tg) (n := n) h)
  clear h
  have e0 : ((n : Int) == 0) = true := by simp; omega
  clear h0
  have HGr := Lib.hid (greatL (n := n) (decide_eq_false hm) x.fl x.dr x.nw x.tg)
  clear hm
  go_enter Try.func5, Try.ntmps5
  go_wp2_with fail
  refine (HGr.out _ _ _).mono ?_
  rintro e y1 ⟨rfl, b⟩
  have C_ := Lib.hid (C.out.under b)
  have R_ := Lib.hid (R.out.up b)
  have B_ := Lib.hid (B.out.trans (b.mono B.out.size))
  clear C R B
  have C := C_
  have R := R_
  have B := B_
  clear C_ R_ B_
  clear b HGr
  have vC_0 := C.out.cell 0
  have vC_1 := C.out.cell 1
  have vC_2 := C.out.cell 2
  have vC_3 := C.out.cell 3
  have vC_4 := C.out.cell 4
  simp only [List.getElem?_toArray, List.getElem?_cons_zero, List.getElem?_cons_succ] at vC_0 vC_1 vC_2 vC_3 vC_4
  go_wp2_with fail
  refine (HRt.out _ _ _ R.out).mono ?_
  rintro e y2 ⟨rfl, b⟩
  clear vC_0 vC_1 vC_2 vC_3 vC_4
  have C_ := Lib.hid (C.out.under b)
  have R_ := Lib.hid (R.out.up b)
  have B_ := Lib.hid (B.out.trans (b.mono B.out.size))
  clear C R B
  have C := C_
  have R := R_
  have B := B_
  clear C_ R_ B_
  clear b HRt
  have vC_0 := C.out.cell 0
  have vC_1 := C.out.cell 1
  have vC_2 := C.out.cell 2
  have vC_3 := C.out.cell 3
  have vC_4 := C.out.cell 4
  simp only [List.getElem?_toArray, List.getElem?_cons_zero, List.getElem?_cons_succ] at vC_0 vC_1 vC_2 vC_3 vC_4
  go_wp2_with fail
  refine (wakes_any _).mono ?_
  rintro e y3 ⟨rfl, b⟩
  clear vC_0 vC_1 vC_2 vC_3 vC_4
  have C_ := Lib.hid (C.out.under b)
  have R_ := Lib.hid (R.out.up b)
  have B_ := Lib.hid (B.out.trans (b.mono B.out.size))
  clear C R B
  have C := C_
  have R := R_
  have B := B_
  clear C_ R_ B_
  clear b
  go_wp2_with fail
  go_ret
  exact ⟨rfl, B.out⟩

set_option maxRecDepth 100000 in
set_option maxHeartbeats 8000000 in
theorem pggone_right (x : Cw) (a : Int) (A : Option Addr) (n c : Nat) (w : World) (hr : RdX w w.heap.size A n x.l) (hm : ¬ (60 : Int) < (n : Int)) (h : right x = true) (h0 : 0 < n) :
    Calls Try.prog 5 #[.agg #[.slice A n c, .int .i64 x.fl, .int .i64 x.dr, .int .i64 x.nw, .bool x.tg], .int .i64 a] w (TruePost w) := by
  obtain ⟨S, hS⟩ : ∃ S, shown x.l = S := ⟨_, rfl⟩
  obtain ⟨m, hl⟩ : ∃ m, S.length = m := ⟨_, rfl⟩
  obtain ⟨j, hj, hjn⟩ := mod_atG a n h0
  obtain ⟨y, hy⟩ : ∃ y, x.l[j]? = some y := ⟨_, List.getElem?_eq_getElem (by rw [hr.1]; exact hjn)⟩
  have hn : n ≤ 60 := by omega
  have hm6 : m ≤ 60 := by rw [← hl, ← hS]; exact Nat.le_trans (shown_le _) (by rw [hr.1]; exact hn)
  have hgr := right_gone h hy
  have hsg := shown_gone h hy
  rw [hS] at hsg
  obtain ⟨T, hT⟩ : ∃ T, dropId S y.id = T := ⟨_, rfl⟩
  obtain ⟨k, hk⟩ : ∃ k, T.length = k := ⟨_, rfl⟩
  rw [hT] at hsg
  have hk6 : k ≤ 60 := by rw [← hk, ← hT]; exact Nat.le_trans (dropId_le _ _) (by omega)
  have e0 : ((n : Int) == 0) = false := by rw [beq_eq_false_iff_ne]; omega
  have e1 := mod_wrapG a n h0 (by omega)
  have i0 : (0 : Int) ≤ (j : Int) := by omega
  have i1 : (j : Int) < (n : Int) := by omega
  have HRt := Lib.hid (rightL (l := x.l) (fl := x.fl) (dr := x.dr) (nw := x.nw) (tg := x.tg) (n := n) h)
  have HAl := Lib.hid (allL (n := n) h hS hl (by omega))
  have HAg := Lib.hid (allL (n := n) hgr hsg hk (by omega))
  have HOw := Lib.hid (rownL (x := x) (n := n) (by omega) h0)
  have HX := Lib.hid (And.intro hl (And.intro hm6 (And.intro hT (And.intro hk (And.intro hk6 hy)))))
  have HN := Lib.hid (And.intro h0 (And.intro hjn hn))
  clear h hS hl hm6 hT hk hk6 hgr hsg hn h0 hy hjn
  have one := whole_one (W := w) (t := 24) (x := #[.slice A n c, .int .i64 x.fl, .int .i64 x.dr, .int .i64 x.nw, .bool x.tg])
  have C := Lib.hid one.1
  have R := Lib.hid (hr.up one.2)
  have B := Lib.hid one.2
  clear one hr
  have HGr := Lib.hid (greatL (n := n) (decide_eq_false hm) x.fl x.dr x.nw x.tg)
  clear hm
  go_enter Try.func5, Try.ntmps5
  go_wp2_with fail
  refine (HGr.out _ _ _).mono ?_
  rintro e y1 ⟨rfl, b⟩
  have C_ := Lib.hid (C.out.under b)
  have R_ := Lib.hid (R.out.up b)
  have B_ := Lib.hid (B.out.trans (b.mono B.out.size))
  clear C R B
  have C := C_
  have R := R_
  have B := B_
  clear C_ R_ B_
  clear b HGr
  have vC_0 := C.out.cell 0
  have vC_1 := C.out.cell 1
  have vC_2 := C.out.cell 2
  have vC_3 := C.out.cell 3
  have vC_4 := C.out.cell 4
  simp only [List.getElem?_toArray, List.getElem?_cons_zero, List.getElem?_cons_succ] at vC_0 vC_1 vC_2 vC_3 vC_4
  go_wp2_with fail
  refine (HRt.out _ _ _ R.out).mono ?_
  rintro e y2 ⟨rfl, b⟩
  clear vC_0 vC_1 vC_2 vC_3 vC_4
  have C_ := Lib.hid (C.out.under b)
  have R_ := Lib.hid (R.out.up b)
  have B_ := Lib.hid (B.out.trans (b.mono B.out.size))
  clear C R B
  have C := C_
  have R := R_
  have B := B_
  clear C_ R_ B_
  clear b HRt
  have vC_0 := C.out.cell 0
  have vC_1 := C.out.cell 1
  have vC_2 := C.out.cell 2
  have vC_3 := C.out.cell 3
  have vC_4 := C.out.cell 4
  simp only [List.getElem?_toArray, List.getElem?_cons_zero, List.getElem?_cons_succ] at vC_0 vC_1 vC_2 vC_3 vC_4
  go_wp2_with fail
  go_quiet (fail)
  clear vC_0 vC_1 vC_2 vC_3 vC_4
  have C_ := Lib.hid (C.out.under (below_drewN (Below.refl y2.heap.size y2) nq))
  have R_ := Lib.hid (R.out.up (below_drewN (Below.refl y2.heap.size y2) nq))
  have B_ := Lib.hid (B.out.trans ((below_drewN (Below.refl y2.heap.size y2) nq).mono B.out.size))
  clear C R B
  have C := C_
  have R := R_
  have B := B_
  clear C_ R_ B_
  obtain ⟨y3, hy3⟩ : ∃ y3, y2.drewN nq = y3 := ⟨_, rfl⟩
  rw [hy3]
  rw [hy3] at C R B
  clear hy3 hj e1
  have vC_0 := C.out.cell 0
  have vC_1 := C.out.cell 1
  have vC_2 := C.out.cell 2
  have vC_3 := C.out.cell 3
  have vC_4 := C.out.cell 4
  simp only [List.getElem?_toArray, List.getElem?_cons_zero, List.getElem?_cons_succ] at vC_0 vC_1 vC_2 vC_3 vC_4
  go_wp2_with fail
  clear vC_0 vC_1 vC_2 vC_3 vC_4
  refine (HOw.out _ _ _ R.out).mono ?_
  rintro e y4 ⟨g, c4, rfl, hg1, hg2, ho, b4⟩
  clear HOw
  have one := whole_one (W := y4) (t := 24) (x := #[.slice (some ⟨g, 0, none⟩) n c4, .int .i64 x.fl, .int .i64 x.dr, .int .i64 x.nw, .bool x.tg])
  obtain ⟨y5, hy5⟩ : ∃ y5, y4.alloc (.cells #[.slice (some ⟨g, 0, none⟩) n c4, .int .i64 x.fl, .int .i64 x.dr, .int .i64 x.nw, .bool x.tg] 24) = y5 := ⟨_, rfl⟩
  have d0 : DIn y5 y3.heap.size y4.heap.size g n c4 x := ⟨by rw [← hy5]; exact one.1, by rw [← hy5]; exact own_under ho one.2, by omega, hg1, HN.out.1⟩
  have b5 : Below y3.heap.size y3 y5 := by rw [← hy5]; exact b4.trans (one.2.mono b4.size)
  have D := Lib.hid d0
  have BY := Lib.hid b5
  have h0 := hy5
  clear one ho b4 d0 b5 hg1 hg2 hy5
  have v0 := D.out.box.cell 0
  simp only [List.getElem?_toArray, List.getElem?_cons_zero] at v0
  go_wp2_with fail
  have D0 : DIn y5 y3.heap.size y4.heap.size g n c4 x := D.out
  have D1 := D0.set HX.out.2.2.2.2.2 (i := 6) (by omega) (u := .bool true) (y' := { y with gone := true }) rfl
  have D2 := D1.set (set_at HX.out.2.2.2.2.2) (i := 5) (by omega) (u := .bool false) (y' := { y with gone := true, on := false }) rfl
  simp only [List.set_set] at D2
  have D3 := D2.set (set_at HX.out.2.2.2.2.2) (i := 8) (by omega) (u := .int .u8 0) (y' := { y with gone := true, on := false, lb := 0 }) rfl
  simp only [List.set_set] at D3
  have E0 := D0.under (Below.refl _ _).drew
  have E1 := D1.under (Below.refl _ _).drew
  have E2 := D2.under (Below.refl _ _).drew
  have E3 := D3.under (Below.refl _ _).drew
  have q1 := (E0.at_ HX.out.2.2.2.2.2).c6
  have q2 := (E1.at_ (set_at HX.out.2.2.2.2.2)).c5
  have q3 := (E2.at_ (set_at HX.out.2.2.2.2.2)).c8
  have f1 := E0.frz (j * 11 + 6)
  have f2 := E1.frz (j * 11 + 5)
  have f3 := E2.frz (j * 11 + 8)
  have HC := Lib.hid E0.cell0
  have S1 := Lib.hid E1.cell0
  have S2 := Lib.hid E2.cell0
  have S3 := Lib.hid E3.cell0
  have D6 := Lib.hid E3
  have hlb := D0.lb
  have BY6 := Lib.hid (((BY.out.setCell (p := ⟨g, j * 11 + 6, none⟩) hlb (.bool true)).setCell (p := ⟨g, j * 11 + 5, none⟩) hlb (.bool false)).setCell (p := ⟨g, j * 11 + 8, none⟩) hlb (.int .u8 0)).drew
  clear D0 D1 D2 D3 E0 E1 E2 E3 D BY v0 h0 hlb
  simp only at q1 q2 q3
  refine wp_region_held_drew (S := fun W => W.cell? ⟨y4.heap.size, 0, none⟩ = some (.slice (some ⟨g, 0, none⟩) n c4)) (by kernel_rfl) HC.out (fun _ => ?_)
  refine takeH (i := 0) (v := ?_) rfl (by kernel_rfl) (by kernel_rfl) (by kernel_rfl) (fun _ _ _ h => h) (by rfl) ?_ HC.out ?_
  rotate_left
  · intro W hW; go_simp <;> with_reducible rfl
  simp only [Act.put, List.setIfInBounds_toArray, List.set_cons_zero, List.set_cons_succ]
  refine takeH (i := 1) (v := ?_) rfl (by kernel_rfl) (by kernel_rfl) (by kernel_rfl) (fun _ _ _ h => h) (by rfl) ?_ HC.out ?_
  rotate_left
  · intro W hW; go_simp <;> with_reducible rfl
  simp only [Act.put, List.setIfInBounds_toArray, List.set_cons_zero, List.set_cons_succ]
  refine takeH (i := 2) (v := ?_) rfl (by kernel_rfl) (by kernel_rfl) (by kernel_rfl) (fun _ _ _ h => h) (by rfl) ?_ HC.out ?_
  rotate_left
  · intro W hW; go_simp <;> with_reducible rfl
  simp only [Act.put, List.setIfInBounds_toArray, List.set_cons_zero, List.set_cons_succ]
  refine takeH (i := 3) (v := ?_) rfl (by kernel_rfl) (by kernel_rfl) (by kernel_rfl) (fun _ _ _ h => h) (by rfl) ?_ HC.out ?_
  rotate_left
  · intro W hW; go_simp <;> with_reducible rfl
  simp only [Act.put, List.setIfInBounds_toArray, List.set_cons_zero, List.set_cons_succ]
  refine takeH (i := 4) (v := ?_) rfl (by kernel_rfl) (by kernel_rfl) (by kernel_rfl) (fun _ _ _ h => h) (by rfl) ?_ HC.out ?_
  rotate_left
  · intro W hW; go_simp <;> with_reducible rfl
  simp only [Act.put, List.setIfInBounds_toArray, List.set_cons_zero, List.set_cons_succ]
  refine takeH (i := 5) (v := ?_) rfl (by kernel_rfl) (by kernel_rfl) (by kernel_rfl) (fun _ _ _ h => h) (by rfl) ?_ HC.out ?_
  rotate_left
  · intro W hW; go_simp <;> with_reducible rfl
  simp only [Act.put, List.setIfInBounds_toArray, List.set_cons_zero, List.set_cons_succ]
  refine takeH (i := 6) (v := ?_) rfl (by kernel_rfl) (by kernel_rfl) (by kernel_rfl) (fun _ _ _ h => h) (by rfl) ?_ HC.out ?_
  rotate_left
  · intro W hW; go_simp <;> with_reducible rfl
  simp only [Act.put, List.setIfInBounds_toArray, List.set_cons_zero, List.set_cons_succ]
  refine takeH (i := 7) (v := ?_) rfl (by kernel_rfl) (by kernel_rfl) (by kernel_rfl) (fun _ _ _ h => h) (by rfl) ?_ HC.out ?_
  rotate_left
  · intro W hW; go_simp <;> with_reducible rfl
  simp only [Act.put, List.setIfInBounds_toArray, List.set_cons_zero, List.set_cons_succ]
  refine takeH (i := 8) (v := ?_) rfl (by kernel_rfl) (by kernel_rfl) (by kernel_rfl) (fun _ _ _ h => h) (by rfl) ?_ HC.out ?_
  rotate_left
  · intro W hW; go_simp <;> with_reducible rfl
  simp only [Act.put, List.setIfInBounds_toArray, List.set_cons_zero, List.set_cons_succ]
  refine takeH (i := 9) (v := ?_) rfl (by kernel_rfl) (by kernel_rfl) (by kernel_rfl) (fun _ _ _ h => h) (by rfl) ?_ HC.out ?_
  rotate_left
  · intro W hW; go_simp <;> with_reducible rfl
  simp only [Act.put, List.setIfInBounds_toArray, List.set_cons_zero, List.set_cons_succ]
  refine takeH (i := 10) (v := ?_) rfl (by kernel_rfl) (by kernel_rfl) (by kernel_rfl) (fun _ _ _ h => h) (by rfl) ?_ HC.out ?_
  rotate_left
  · intro W hW; go_simp <;> with_reducible rfl
  simp only [Act.put, List.setIfInBounds_toArray, List.set_cons_zero, List.set_cons_succ]
  refine oneH (i := 11) rfl (by kernel_rfl) (by rfl) (fun K hK => ?_)
  go_simp
  clear HC
  have HC := S1
  clear S1
  refine hK.out _ _ HC.out (fun _ => ?_)
  clear hK K
  refine takeH (i := 12) (v := ?_) rfl (by kernel_rfl) (by kernel_rfl) (by kernel_rfl) (fun _ _ _ h => h) (by rfl) ?_ HC.out ?_
  rotate_left
  · intro W hW; go_simp <;> with_reducible rfl
  simp only [Act.put, List.setIfInBounds_toArray, List.set_cons_zero, List.set_cons_succ]
  refine takeH (i := 13) (v := ?_) rfl (by kernel_rfl) (by kernel_rfl) (by kernel_rfl) (fun _ _ _ h => h) (by rfl) ?_ HC.out ?_
  rotate_left
  · intro W hW; go_simp <;> with_reducible rfl
  simp only [Act.put, List.setIfInBounds_toArray, List.set_cons_zero, List.set_cons_succ]
  refine oneH (i := 14) rfl (by kernel_rfl) (by rfl) (fun K hK => ?_)
  go_simp
  clear HC
  have HC := S2
  clear S2
  refine hK.out _ _ HC.out (fun _ => ?_)
  clear hK K
  refine takeH (i := 15) (v := ?_) rfl (by kernel_rfl) (by kernel_rfl) (by kernel_rfl) (fun _ _ _ h => h) (by rfl) ?_ HC.out ?_
  rotate_left
  · intro W hW; go_simp <;> with_reducible rfl
  simp only [Act.put, List.setIfInBounds_toArray, List.set_cons_zero, List.set_cons_succ]
  refine takeH (i := 16) (v := ?_) rfl (by kernel_rfl) (by kernel_rfl) (by kernel_rfl) (fun _ _ _ h => h) (by rfl) ?_ HC.out ?_
  rotate_left
  · intro W hW; go_simp <;> with_reducible rfl
  simp only [Act.put, List.setIfInBounds_toArray, List.set_cons_zero, List.set_cons_succ]
  refine oneH (i := 17) rfl (by kernel_rfl) (by rfl) (fun K hK => ?_)
  go_simp
  clear HC
  have HC := S3
  clear S3
  refine hK.out _ _ HC.out (fun _ => ?_)
  clear hK K
  refine wpAnyH_done (by kernel_rfl) ?_ _
  clear q1 q2 q3 f1 f2 f3 HC
  obtain ⟨y6, hy6⟩ : ∃ y6, (((y5.setCell ⟨g, j * 11 + 6, none⟩ (.bool true)).setCell ⟨g, j * 11 + 5, none⟩ (.bool false)).setCell ⟨g, j * 11 + 8, none⟩ (.int .u8 0)).drew = y6 := ⟨_, rfl⟩
  rw [hy6]
  rw [hy6] at D6 BY6
  clear hy6
  have C_ := Lib.hid (C.out.under BY6.out)
  have R_ := Lib.hid (R.out.up BY6.out)
  have B_ := Lib.hid (B.out.trans (BY6.out.mono B.out.size))
  clear C R B
  have C := C_
  have R := R_
  have B := B_
  clear C_ R_ B_
  clear BY6
  have DB := Lib.hid D6.out.box
  have RD := Lib.hid D6.out.rd
  clear D6
  have vC_0 := C.out.cell 0
  have vC_1 := C.out.cell 1
  have vC_2 := C.out.cell 2
  have vC_3 := C.out.cell 3
  have vC_4 := C.out.cell 4
  simp only [List.getElem?_toArray, List.getElem?_cons_zero, List.getElem?_cons_succ] at vC_0 vC_1 vC_2 vC_3 vC_4
  go_wp2_with fail
  refine (HAl.out _ _ _ R.out).mono ?_
  rintro e y7 ⟨A3, c3, rfl, r, b⟩
  clear vC_0 vC_1 vC_2 vC_3 vC_4
  have C_ := Lib.hid (C.out.under b)
  have R_ := Lib.hid (R.out.up b)
  have B_ := Lib.hid (B.out.trans (b.mono B.out.size))
  have DB_ := Lib.hid (DB.out.under b)
  have RD_ := Lib.hid (RD.out.up b)
  clear C R B DB RD
  have C := C_
  have R := R_
  have B := B_
  have DB := DB_
  have RD := RD_
  clear C_ R_ B_ DB_ RD_
  have RA := Lib.hid r
  clear r b HAl
  go_wp2_with fail
  go_loopw [6, 8] (fun r i wr => ∃ (q : Nat) (A' : Option Addr) (N c' : Nat), i = .int .i64 (q : Int) ∧ q ≤ m ∧ r = .slice A' N c' ∧ (dropId (S.take q) y.id).length = N ∧ wr.ownsRow y7.heap.size 35 7 (.slice A' N c') N (flatN (dropId (S.take q) y.id)) ∧ Below y7.heap.size y7 wr) (fun _ i _ => m - (intOf i).toNat)
  case atStart => exact ⟨0, none, 0, 0, rfl, Nat.zero_le _, rfl, rfl, World.ownsRow_nil _ _ _ _, Below.refl _ _⟩
  case round =>
    obtain ⟨q, A', N, c', rfl, hq, rfl, hN, hO, hb⟩ := hrel
    have hl60 : m ≤ 60 := HX.out.2.1
    have hN60 : N ≤ m := by have h1 := dropId_le (S.take q) y.id; rw [List.length_take] at h1; omega
    rcases Nat.eq_or_lt_of_le hq with rfl | hlt
    · have hT : S.take q = S := List.take_of_length_le (by have := HX.out.1; omega)
      rw [hT, HX.out.2.2.1] at hN hO
      rw [HX.out.2.2.2.1] at hN
      subst hN
      have b := hb
      clear hT hq
      have C_ := Lib.hid (C.out.under b)
      have R_ := Lib.hid (R.out.up b)
      have B_ := Lib.hid (B.out.trans (b.mono B.out.size))
      have DB_ := Lib.hid (DB.out.under b)
      have RD_ := Lib.hid (RD.out.up b)
      have RA_ := Lib.hid (RA.out.up b)
      clear C R B DB RD RA
      have C := C_
      have R := R_
      have B := B_
      have DB := DB_
      have RD := RD_
      have RA := RA_
      clear C_ R_ B_ DB_ RD_ RA_
      clear b hb
      have RW := Lib.hid (RdSn.of_own hO)
      clear hO
      have vDB_0 := DB.out.cell 0
      have vDB_1 := DB.out.cell 1
      have vDB_2 := DB.out.cell 2
      have vDB_3 := DB.out.cell 3
      have vDB_4 := DB.out.cell 4
      simp only [List.getElem?_toArray, List.getElem?_cons_zero, List.getElem?_cons_succ] at vDB_0 vDB_1 vDB_2 vDB_3 vDB_4
      go_wp2_with fail
      refine (HAg.out _ _ _ RD.out).mono ?_
      rintro e y8 ⟨A5, c5, rfl, r, b⟩
      clear vDB_0 vDB_1 vDB_2 vDB_3 vDB_4
      have C_ := Lib.hid (C.out.under b)
      have R_ := Lib.hid (R.out.up b)
      have B_ := Lib.hid (B.out.trans (b.mono B.out.size))
      have DB_ := Lib.hid (DB.out.under b)
      have RD_ := Lib.hid (RD.out.up b)
      have RA_ := Lib.hid (RA.out.up b)
      have RW_ := Lib.hid (RW.out.up b)
      clear C R B DB RD RA RW
      have C := C_
      have R := R_
      have B := B_
      have DB := DB_
      have RD := RD_
      have RA := RA_
      have RW := RW_
      clear C_ R_ B_ DB_ RD_ RA_ RW_
      have RT := Lib.hid r
      clear r HAg b
      go_wp2_with fail
      refine (sameSL rfl (by have := HX.out.2.2.2.2.1; omega) _ _ _ _ _ RT.out RW.out).mono ?_
      rintro e y9 ⟨rfl, b⟩
      have C_ := Lib.hid (C.out.under b)
      have R_ := Lib.hid (R.out.up b)
      have B_ := Lib.hid (B.out.trans (b.mono B.out.size))
      have DB_ := Lib.hid (DB.out.under b)
      have RD_ := Lib.hid (RD.out.up b)
      have RA_ := Lib.hid (RA.out.up b)
      have RW_ := Lib.hid (RW.out.up b)
      have RT_ := Lib.hid (RT.out.up b)
      clear C R B DB RD RA RW RT
      have C := C_
      have R := R_
      have B := B_
      have DB := DB_
      have RD := RD_
      have RA := RA_
      have RW := RW_
      have RT := RT_
      clear C_ R_ B_ DB_ RD_ RA_ RW_ RT_
      clear b
      go_wp2_with fail
      refine (wakes_any _).mono ?_
      rintro e y10 ⟨rfl, b⟩
      have C_ := Lib.hid (C.out.under b)
      have R_ := Lib.hid (R.out.up b)
      have B_ := Lib.hid (B.out.trans (b.mono B.out.size))
      have DB_ := Lib.hid (DB.out.under b)
      have RD_ := Lib.hid (RD.out.up b)
      have RA_ := Lib.hid (RA.out.up b)
      have RW_ := Lib.hid (RW.out.up b)
      have RT_ := Lib.hid (RT.out.up b)
      clear C R B DB RD RA RW RT
      have C := C_
      have R := R_
      have B := B_
      have DB := DB_
      have RD := RD_
      have RA := RA_
      have RW := RW_
      have RT := RT_
      clear C_ R_ B_ DB_ RD_ RA_ RW_ RT_
      clear b
      go_wp2_with fail
      go_ret
      exact ⟨rfl, B.out⟩
    · have hqI : (q : Int) < (m : Int) := by omega
      have ra := RA.out.up hb
      obtain ⟨s, hs⟩ : ∃ s, S[q]? = some s := ⟨_, List.getElem?_eq_getElem (by have := HX.out.1; omega)⟩
      obtain ⟨pb, off, e3, hbl, hc⟩ := ra.2 (by omega)
      subst e3
      obtain ⟨s0, s1, s2, s3, s4, s5, s6⟩ := hc q s hs
      have cc := (C.out.under hb).cell 0
      simp only [List.getElem?_toArray, List.getElem?_cons_zero] at cc
      obtain ⟨xb, xo, e4, hxl, hxc⟩ := (R.out.up hb).2 HN.out.1
      subst e4
      have x0 := (hxc j y HX.out.2.2.2.2.2).c0
      have hj60 : j ≤ 60 := by have := HN.out; omega
      have HR := Lib.hid (dropId_take hs y.id)
      have HLt := Lib.hid hlt
      have HOw := Lib.hid hO
      have HN2 := Lib.hid hN
      have Hb := Lib.hid hb
      have HBl := Lib.hid hbl
      clear hc ra hxc hs hlt hO hN hb hbl hxl hq
      by_cases hne : (s.id != y.id) = true
      · have HSn : Hid (SnAt wr pb (off + q * 7) s) := Lib.hid ⟨s0, s1, s2, s3, s4, s5, s6⟩
        have e6 : dropId (S.take (q + 1)) y.id = dropId (S.take q) y.id ++ [s] := by rw [HR.out, if_pos hne]
        have HE6 := Lib.hid e6
        clear e6 HR
        go_wp2_with fail
        go_quiet (fail)
        obtain ⟨z1, hz1⟩ : ∃ z1, wr.drewN nq = z1 := ⟨_, rfl⟩
        rw [hz1]
        have hbz : Below wr.heap.size wr z1 := by rw [← hz1]; exact below_drewN (Below.refl wr.heap.size wr) nq
        have hsz : z1.heap.size = wr.heap.size := by rw [← hz1]; rfl
        obtain ⟨t0, t1, t2, t3, t4, t5, t6⟩ : SnAt z1 pb (off + q * 7) s := snAt_of fun i hi => (hbz.cell (p := ⟨pb, off + q * 7 + i, none⟩) HBl.out).trans (HSn.out.all i hi)
        clear hz1 s0 s1 s2 s3 s4 s5 s6 cc x0 HSn
        obtain ⟨A6, c6, w6, hrun, ho6, hb6⟩ := run_moreN z1 y7.heap.size A' N c' (dropId (S.take q) y.id) (own_under HOw.out hbz) s (by omega) (by rw [hsz]; exact Hb.out.size)
        have HRun := Lib.hid hrun
        rw [← HE6.out] at ho6
        have eN : (dropId (S.take (q + 1)) y.id).length = N + 1 := by rw [HE6.out, List.length_append, HN2.out]; rfl
        have HO6 := Lib.hid (And.intro ho6 (And.intro eN ((Hb.out.trans (hbz.mono Hb.out.size)).trans hb6)))
        clear hrun ho6 hb6 eN hbz hsz hne
        go_wp2_with (refine wpList_app (by rfl) _ _ 28 rfl _ _ _ w6 (by rfl) (by rfl) HRun.out ?_)
        go_roundw
        case rel => exact ⟨q + 1, A6, N + 1, c6, by simp, HLt.out, rfl, HO6.out.2.1, HO6.out.1, HO6.out.2.2⟩
        case measure => have := HLt.out; simp [intOf]; omega
      · have hnf : (s.id != y.id) = false := by simpa using hne
        have e6 : dropId (S.take (q + 1)) y.id = dropId (S.take q) y.id := by rw [HR.out, if_neg hne, List.append_nil]
        have HE6 := Lib.hid e6
        clear e6 hne HR
        go_wp2_with fail
        go_quiet (fail)
        go_wp2_with fail
        go_roundw
        case rel => exact ⟨q + 1, A', N, c', by simp, HLt.out, rfl, by rw [HE6.out]; exact HN2.out, by rw [HE6.out]; exact own_under HOw.out (below_drewN (Below.refl wr.heap.size wr) nq), Hb.out.trans ((below_drewN (Below.refl wr.heap.size wr) nq).mono Hb.out.size)⟩
        case measure => have := HLt.out; simp [intOf]; omega

theorem pageGone_any (x : Cw) (a : Int) (A : Option Addr) (n c : Nat) (w : World) (hr : RdX w w.heap.size A n x.l) :
    Calls Try.prog 5 #[.agg #[.slice A n c, .int .i64 x.fl, .int .i64 x.dr, .int .i64 x.nw, .bool x.tg], .int .i64 a] w (TruePost w) := by
  by_cases hm : (60 : Int) < (n : Int)
  · exact pggone_long x a A n c w hr hm
  · cases h : right x with
    | false => exact pggone_wrong x a A n c w hr hm h
    | true =>
      rcases Nat.eq_zero_or_pos n with h0 | h0
      · exact pggone_none x a A n c w hr hm h h0
      · exact pggone_right x a A n c w hr hm h h0

end Go.Proofs.Ytdoaakohgmohkaa
