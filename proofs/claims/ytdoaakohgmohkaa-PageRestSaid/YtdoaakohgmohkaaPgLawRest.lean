/-
  The walk of the statement PageRest: a page is what is shown of all behind an id, as far as it has room. Conditions: those that each theorem names.
-/
import Derived.Test.YtdoaakohgmohkaaPgLawKit
namespace Go.Proofs.Ytdoaakohgmohkaa
open Go.RowKit Go.Shelf

set_option maxRecDepth 100000 in
set_option maxHeartbeats 8000000 in
theorem pgrest_long (x : Cw) (b call : Int) (A : Option Addr) (n c : Nat) (w : World) (hr : RdX w w.heap.size A n x.l) (hm : (60 : Int) < (n : Int)) :
    Calls Try.prog 6 #[.agg #[.slice A n c, .int .i64 x.fl, .int .i64 x.dr, .int .i64 x.nw, .bool x.tg], .int .i64 b, .int .i64 call] w (TruePost w) := by
  have one := whole_one (W := w) (t := 24) (x := #[.slice A n c, .int .i64 x.fl, .int .i64 x.dr, .int .i64 x.nw, .bool x.tg])
  have C := Lib.hid one.1
  have R := Lib.hid (hr.up one.2)
  have B := Lib.hid one.2
  clear one hr
  have HGr := Lib.hid (greatL (n := n) (decide_eq_true hm) x.fl x.dr x.nw x.tg)
  clear hm
  go_enter Try.func6, Try.ntmps6
  go_wp2_with fail
  refine (HGr.out _ _ _).mono ?_
  rintro e y1 ⟨rfl, b⟩
  have C_ := Lib.hid (C.out.under b)
  have R_ := Lib.hid (R.out.up b)
  have B_ := Lib.hid (B.out.trans (b.mono B.out.size))
  clear C R B
  have C := C_
  have R := R_
  have B := B_
  clear C_ R_ B_
  clear b HGr
  go_wp2_with fail
  refine (wakes_any _).mono ?_
  rintro e y2 ⟨rfl, b⟩
  have C_ := Lib.hid (C.out.under b)
  have R_ := Lib.hid (R.out.up b)
  have B_ := Lib.hid (B.out.trans (b.mono B.out.size))
  clear C R B
  have C := C_
  have R := R_
  have B := B_
  clear C_ R_ B_
  clear b
  go_wp2_with fail
  go_ret
  exact ⟨rfl, B.out⟩

set_option maxRecDepth 100000 in
set_option maxHeartbeats 8000000 in
theorem pgrest_wrong (x : Cw) (b call : Int) (A : Option Addr) (n c : Nat) (w : World) (hr : RdX w w.heap.size A n x.l) (hm : ¬ (60 : Int) < (n : Int)) (h : right x = false) :
    Calls Try.prog 6 #[.agg #[.slice A n c, .int .i64 x.fl, .int .i64 x.dr, .int .i64 x.nw, .bool x.tg], .int .i64 b, .int .i64 call] w (TruePost w) := by
  have one := whole_one (W := w) (t := 24) (x := #[.slice A n c, .int .i64 x.fl, .int .i64 x.dr, .int .i64 x.nw, .bool x.tg])
  have C := Lib.hid one.1
  have R := Lib.hid (hr.up one.2)
  have B := Lib.hid one.2
  clear one hr
  have HRt := Lib.hid (rightL (l := x.l) (fl := x.fl) (dr := x.dr) (nw := x.nw) (tg := x.tg) (n := n) h)
  clear h
  have HGr := Lib.hid (greatL (n := n) (decide_eq_false hm) x.fl x.dr x.nw x.tg)
  clear hm
  go_enter Try.func6, Try.ntmps6
  go_wp2_with fail
  refine (HGr.out _ _ _).mono ?_
  rintro e y1 ⟨rfl, b⟩
  have C_ := Lib.hid (C.out.under b)
  have R_ := Lib.hid (R.out.up b)
  have B_ := Lib.hid (B.out.trans (b.mono B.out.size))
  clear C R B
  have C := C_
  have R := R_
  have B := B_
  clear C_ R_ B_
  clear b HGr
  have vC_0 := C.out.cell 0
  have vC_1 := C.out.cell 1
  have vC_2 := C.out.cell 2
  have vC_3 := C.out.cell 3
  have vC_4 := C.out.cell 4
  simp only [List.getElem?_toArray, List.getElem?_cons_zero, List.getElem?_cons_succ] at vC_0 vC_1 vC_2 vC_3 vC_4
  go_wp2_with fail
  refine (HRt.out _ _ _ R.out).mono ?_
  rintro e y2 ⟨rfl, b⟩
  clear vC_0 vC_1 vC_2 vC_3 vC_4
  have C_ := Lib.hid (C.out.under b)
  have R_ := Lib.hid (R.out.up b)
  have B_ := Lib.hid (B.out.trans (b.mono B.out.size))
  clear C R B
  have C := C_
  have R := R_
  have B := B_
  clear C_ R_ B_
  clear b HRt
  go_wp2_with fail
  refine (wakes_any _).mono ?_
  rintro e y3 ⟨rfl, b⟩
  have C_ := Lib.hid (C.out.under b)
  have R_ := Lib.hid (R.out.up b)
  have B_ := Lib.hid (B.out.trans (b.mono B.out.size))
  clear C R B
  have C := C_
  have R := R_
  have B := B_
  clear C_ R_ B_
  clear b
  go_wp2_with fail
  go_ret
  exact ⟨rfl, B.out⟩

set_option maxRecDepth 100000 in
set_option maxHeartbeats 8000000 in
theorem pgrest_right (x : Cw) (b call : Int) (A : Option Addr) (n c : Nat) (w : World) (hr : RdX w w.heap.size A n x.l) (hm : ¬ (60 : Int) < (n : Int)) (h : right x = true) :
    Calls Try.prog 6 #[.agg #[.slice A n c, .int .i64 x.fl, .int .i64 x.dr, .int .i64 x.nw, .bool x.tg], .int .i64 b, .int .i64 call] w (TruePost w) := by
  obtain ⟨S, hS⟩ : ∃ S, shown x.l = S := ⟨_, rfl⟩
  obtain ⟨P, hP⟩ : ∃ P, pageOf (shown x.l) b = P := ⟨_, rfl⟩
  obtain ⟨M, hM⟩ : ∃ M, moreOf (shown x.l) b = M := ⟨_, rfl⟩
  obtain ⟨k, hk⟩ : ∃ k, P.length = k := ⟨_, rfl⟩
  obtain ⟨m, hl⟩ : ∃ m, S.length = m := ⟨_, rfl⟩
  have hn : n ≤ 60 := by omega
  have hm6 : m ≤ 60 := by rw [← hl, ← hS]; exact Nat.le_trans (shown_le _) (by rw [hr.1]; exact hn)
  have hPt : P = (restOf S b).take 3 := by rw [← hP, hS]; rfl
  have hMt : M = decide (3 < (restOf S b).length) := by rw [← hM, hS]; rfl
  have HRt := Lib.hid (rightL (l := x.l) (fl := x.fl) (dr := x.dr) (nw := x.nw) (tg := x.tg) (n := n) h)
  have HOf := Lib.hid (ofL (n := n) h hP hM hk (by omega))
  have HAl := Lib.hid (allL (n := n) h hS hl (by omega))
  have HAn := Lib.hid (answerL (n := n) h hP hM hk (by omega) call)
  have HX := Lib.hid (And.intro hk (And.intro hl (And.intro hm6 (And.intro hPt hMt))))
  clear h hS hP hM hk hl hm6 hPt hMt hn
  have one := whole_one (W := w) (t := 24) (x := #[.slice A n c, .int .i64 x.fl, .int .i64 x.dr, .int .i64 x.nw, .bool x.tg])
  have C := Lib.hid one.1
  have R := Lib.hid (hr.up one.2)
  have B := Lib.hid one.2
  clear one hr
  have HGr := Lib.hid (greatL (n := n) (decide_eq_false hm) x.fl x.dr x.nw x.tg)
  clear hm
  go_enter Try.func6, Try.ntmps6
  go_wp2_with fail
  refine (HGr.out _ _ _).mono ?_
  rintro e y1 ⟨rfl, b⟩
  have C_ := Lib.hid (C.out.under b)
  have R_ := Lib.hid (R.out.up b)
  have B_ := Lib.hid (B.out.trans (b.mono B.out.size))
  clear C R B
  have C := C_
  have R := R_
  have B := B_
  clear C_ R_ B_
  clear b HGr
  have vC_0 := C.out.cell 0
  have vC_1 := C.out.cell 1
  have vC_2 := C.out.cell 2
  have vC_3 := C.out.cell 3
  have vC_4 := C.out.cell 4
  simp only [List.getElem?_toArray, List.getElem?_cons_zero, List.getElem?_cons_succ] at vC_0 vC_1 vC_2 vC_3 vC_4
  go_wp2_with fail
  refine (HRt.out _ _ _ R.out).mono ?_
  rintro e y2 ⟨rfl, b⟩
  clear vC_0 vC_1 vC_2 vC_3 vC_4
  have C_ := Lib.hid (C.out.under b)
  have R_ := Lib.hid (R.out.up b)
  have B_ := Lib.hid (B.out.trans (b.mono B.out.size))
  clear C R B
  have C := C_
  have R := R_
  have B := B_
  clear C_ R_ B_
  clear b HRt
  have vC_0 := C.out.cell 0
  have vC_1 := C.out.cell 1
  have vC_2 := C.out.cell 2
  have vC_3 := C.out.cell 3
  have vC_4 := C.out.cell 4
  simp only [List.getElem?_toArray, List.getElem?_cons_zero, List.getElem?_cons_succ] at vC_0 vC_1 vC_2 vC_3 vC_4
  go_wp2_with fail
  refine (HOf.out _ _ _ R.out).mono ?_
  rintro e y3 ⟨A3, c3, rfl, r, b⟩
  clear vC_0 vC_1 vC_2 vC_3 vC_4
  have C_ := Lib.hid (C.out.under b)
  have R_ := Lib.hid (R.out.up b)
  have B_ := Lib.hid (B.out.trans (b.mono B.out.size))
  clear C R B
  have C := C_
  have R := R_
  have B := B_
  clear C_ R_ B_
  have RL := Lib.hid r
  clear r b HOf
  have vC_0 := C.out.cell 0
  have vC_1 := C.out.cell 1
  have vC_2 := C.out.cell 2
  have vC_3 := C.out.cell 3
  have vC_4 := C.out.cell 4
  simp only [List.getElem?_toArray, List.getElem?_cons_zero, List.getElem?_cons_succ] at vC_0 vC_1 vC_2 vC_3 vC_4
  go_wp2_with fail
  refine (HAl.out _ _ _ R.out).mono ?_
  rintro e y4 ⟨A4, c4, rfl, r, b⟩
  clear vC_0 vC_1 vC_2 vC_3 vC_4
  have C_ := Lib.hid (C.out.under b)
  have R_ := Lib.hid (R.out.up b)
  have B_ := Lib.hid (B.out.trans (b.mono B.out.size))
  have RL_ := Lib.hid (RL.out.up b)
  clear C R B RL
  have C := C_
  have R := R_
  have B := B_
  have RL := RL_
  clear C_ R_ B_ RL_
  have RA := Lib.hid r
  clear r b HAl
  go_wp2_with fail
  go_loopw [10, 11] (fun r i wr => ∃ (j : Nat) (A' : Option Addr) (N c' : Nat), i = .int .i64 (j : Int) ∧ j ≤ m ∧ r = .slice A' N c' ∧ (restOf (S.take j) b).length = N ∧ wr.ownsRow y4.heap.size 35 7 (.slice A' N c') N (flatN (restOf (S.take j) b)) ∧ Below y4.heap.size y4 wr) (fun _ i _ => m - (intOf i).toNat)
  case atStart => exact ⟨0, none, 0, 0, rfl, Nat.zero_le _, rfl, rfl, World.ownsRow_nil _ _ _ _, Below.refl _ _⟩
  case round =>
    obtain ⟨j, A', N, c', rfl, hj, rfl, hN, hO, hb⟩ := hrel
    have hl60 : m ≤ 60 := HX.out.2.2.1
    have hN60 : N ≤ m := by have h1 := restOf_le (S.take j) b; rw [List.length_take] at h1; omega
    rcases Nat.eq_or_lt_of_le hj with rfl | hlt
    · have HO := Lib.hid hO
      have hT : S.take j = S := List.take_of_length_le (by have := HX.out.2.1; omega)
      rw [hT] at hN hO
      have HO := Lib.hid hO
      have HN := Lib.hid hN
      have b := hb
      clear hO hN hT hj
      have C_ := Lib.hid (C.out.under b)
      have R_ := Lib.hid (R.out.up b)
      have B_ := Lib.hid (B.out.trans (b.mono B.out.size))
      have RL_ := Lib.hid (RL.out.up b)
      have RA_ := Lib.hid (RA.out.up b)
      clear C R B RL RA
      have C := C_
      have R := R_
      have B := B_
      have RL := RL_
      have RA := RA_
      clear C_ R_ B_ RL_ RA_
      have ek : k = min N 3 := by have h1 := HX.out.1; have h2 := HX.out.2.2.2.1; have h3 := HN.out; rw [h2, List.length_take] at h1; omega
      have hkc : k ≤ c' := by have := own_capN HO.out; omega
      have hsl := fun W => run_headN A' N c' k hkc W
      have emin : (if (3 : Int) < (N : Int) then (3 : Int) else (N : Int)) = (k : Int) := by rw [ek]; split <;> omega
      have eM : decide (k < N) = M := by have h4 := HX.out.2.2.2.2; rw [HN.out] at h4; rw [h4, ek]; by_cases h5 : 3 < N <;> simp [h5] <;> omega
      have HE := Lib.hid ek
      clear ek b hb
      have ROw := Lib.hid (RdSn.of_own HO.out)
      have hp : RdSn wr wr.heap.size A' k P := by have h1 := ROw.out.take (k := k) (by have := HE.out; omega); have e : (restOf S b).take k = P := (take_min3 HN.out HE.out).trans HX.out.2.2.2.1.symm; rwa [e] at h1
      have RP := Lib.hid hp
      clear hp ROw HO
      have vC_0 := C.out.cell 0
      have vC_1 := C.out.cell 1
      have vC_2 := C.out.cell 2
      have vC_3 := C.out.cell 3
      have vC_4 := C.out.cell 4
      simp only [List.getElem?_toArray, List.getElem?_cons_zero, List.getElem?_cons_succ] at vC_0 vC_1 vC_2 vC_3 vC_4
      go_wp2_with fail
      refine (HAn.out _ _ _ R.out).mono ?_
      rintro e y5 ⟨A5, c5, rfl, r, b⟩
      clear vC_0 vC_1 vC_2 vC_3 vC_4
      have C_ := Lib.hid (C.out.under b)
      have R_ := Lib.hid (R.out.up b)
      have B_ := Lib.hid (B.out.trans (b.mono B.out.size))
      have RL_ := Lib.hid (RL.out.up b)
      have RA_ := Lib.hid (RA.out.up b)
      have RP_ := Lib.hid (RP.out.up b)
      clear C R B RL RA RP
      have C := C_
      have R := R_
      have B := B_
      have RL := RL_
      have RA := RA_
      have RP := RP_
      clear C_ R_ B_ RL_ RA_ RP_
      have RT := Lib.hid r
      clear r HAn b
      have one := whole_one (W := y5) (t := 43) (x := #[.int .i64 call, .int .u8 7, .int .u8 1, .int .i64 b, .slice A5 k c5, .bool M])
      have C_ := Lib.hid (C.out.under one.2)
      have R_ := Lib.hid (R.out.up one.2)
      have B_ := Lib.hid (B.out.trans (one.2.mono B.out.size))
      have RL_ := Lib.hid (RL.out.up one.2)
      have RA_ := Lib.hid (RA.out.up one.2)
      have RP_ := Lib.hid (RP.out.up one.2)
      have RT_ := Lib.hid (RT.out.up one.2)
      clear C R B RL RA RP RT
      have C := C_
      have R := R_
      have B := B_
      have RL := RL_
      have RA := RA_
      have RP := RP_
      have RT := RT_
      clear C_ R_ B_ RL_ RA_ RP_ RT_
      have T := Lib.hid one.1
      clear one
      have vT_0 := T.out.cell 0
      have vT_1 := T.out.cell 1
      have vT_2 := T.out.cell 2
      have vT_3 := T.out.cell 3
      have vT_4 := T.out.cell 4
      have vT_5 := T.out.cell 5
      simp only [List.getElem?_toArray, List.getElem?_cons_zero, List.getElem?_cons_succ] at vT_0 vT_1 vT_2 vT_3 vT_4 vT_5
      go_wp2_with fail
      have hk3 : k ≤ 1000 := by have := HE.out; omega
      refine (sameSL rfl hk3 _ _ _ _ _ RL.out RP.out).mono ?_
      rintro e y6 ⟨rfl, b⟩
      clear vT_0 vT_1 vT_2 vT_3 vT_4 vT_5
      have C_ := Lib.hid (C.out.under b)
      have R_ := Lib.hid (R.out.up b)
      have B_ := Lib.hid (B.out.trans (b.mono B.out.size))
      have RL_ := Lib.hid (RL.out.up b)
      have RA_ := Lib.hid (RA.out.up b)
      have RP_ := Lib.hid (RP.out.up b)
      have RT_ := Lib.hid (RT.out.up b)
      have T_ := Lib.hid (T.out.under b)
      clear C R B RL RA RP RT T
      have C := C_
      have R := R_
      have B := B_
      have RL := RL_
      have RA := RA_
      have RP := RP_
      have RT := RT_
      have T := T_
      clear C_ R_ B_ RL_ RA_ RP_ RT_ T_
      clear b
      have vT_0 := T.out.cell 0
      have vT_1 := T.out.cell 1
      have vT_2 := T.out.cell 2
      have vT_3 := T.out.cell 3
      have vT_4 := T.out.cell 4
      have vT_5 := T.out.cell 5
      simp only [List.getElem?_toArray, List.getElem?_cons_zero, List.getElem?_cons_succ] at vT_0 vT_1 vT_2 vT_3 vT_4 vT_5
      go_wp2_with fail
      refine (sameSL rfl hk3 _ _ _ _ _ RT.out RL.out).mono ?_
      rintro e y7 ⟨rfl, b⟩
      clear vT_0 vT_1 vT_2 vT_3 vT_4 vT_5
      have C_ := Lib.hid (C.out.under b)
      have R_ := Lib.hid (R.out.up b)
      have B_ := Lib.hid (B.out.trans (b.mono B.out.size))
      have RL_ := Lib.hid (RL.out.up b)
      have RA_ := Lib.hid (RA.out.up b)
      have RP_ := Lib.hid (RP.out.up b)
      have RT_ := Lib.hid (RT.out.up b)
      have T_ := Lib.hid (T.out.under b)
      clear C R B RL RA RP RT T
      have C := C_
      have R := R_
      have B := B_
      have RL := RL_
      have RA := RA_
      have RP := RP_
      have RT := RT_
      have T := T_
      clear C_ R_ B_ RL_ RA_ RP_ RT_ T_
      clear b
      have vT_0 := T.out.cell 0
      have vT_1 := T.out.cell 1
      have vT_2 := T.out.cell 2
      have vT_3 := T.out.cell 3
      have vT_4 := T.out.cell 4
      have vT_5 := T.out.cell 5
      simp only [List.getElem?_toArray, List.getElem?_cons_zero, List.getElem?_cons_succ] at vT_0 vT_1 vT_2 vT_3 vT_4 vT_5
      go_wp2_with fail
      refine (wakes_any _).mono ?_
      rintro e y8 ⟨rfl, b⟩
      clear vT_0 vT_1 vT_2 vT_3 vT_4 vT_5
      have C_ := Lib.hid (C.out.under b)
      have R_ := Lib.hid (R.out.up b)
      have B_ := Lib.hid (B.out.trans (b.mono B.out.size))
      have RL_ := Lib.hid (RL.out.up b)
      have RA_ := Lib.hid (RA.out.up b)
      have RP_ := Lib.hid (RP.out.up b)
      have RT_ := Lib.hid (RT.out.up b)
      have T_ := Lib.hid (T.out.under b)
      clear C R B RL RA RP RT T
      have C := C_
      have R := R_
      have B := B_
      have RL := RL_
      have RA := RA_
      have RP := RP_
      have RT := RT_
      have T := T_
      clear C_ R_ B_ RL_ RA_ RP_ RT_ T_
      clear b
      go_wp2_with fail
      go_ret
      exact ⟨rfl, B.out⟩
    · have hjI : (j : Int) < (m : Int) := by omega
      have ra := RA.out.up hb
      obtain ⟨s, hs⟩ : ∃ s, S[j]? = some s := ⟨_, List.getElem?_eq_getElem (by have := HX.out.2.1; omega)⟩
      obtain ⟨pb, off, e3, hbl, hc⟩ := ra.2 (by omega)
      subst e3
      obtain ⟨s0, s1, s2, s3, s4, s5, s6⟩ := hc j s hs
      have HR := Lib.hid (restOf_take hs b)
      have HLt := Lib.hid hlt
      have HOw := Lib.hid hO
      have HN := Lib.hid hN
      have Hb := Lib.hid hb
      clear hc ra hs hlt hO hN hb hbl hj
      by_cases hgt : b < s.id
      · have dgt : decide (b < s.id) = true := decide_eq_true hgt
        obtain ⟨A6, c6, w6, hrun, ho6, hb6⟩ := run_moreN wr y4.heap.size A' N c' (restOf (S.take j) b) HOw.out s (by omega) Hb.out.size
        have HRun := Lib.hid hrun
        have e6 : restOf (S.take (j + 1)) b = restOf (S.take j) b ++ [s] := by rw [HR.out, if_pos hgt]
        rw [← e6] at ho6
        have eN : (restOf (S.take (j + 1)) b).length = N + 1 := by rw [e6, List.length_append, HN.out]; rfl
        have HO6 := Lib.hid (And.intro ho6 (And.intro eN (Hb.out.trans hb6)))
        clear hrun ho6 hb6 e6 eN hgt HR
        go_wp2_with (refine wpList_app (by rfl) _ _ 28 rfl _ _ _ w6 (by rfl) (by rfl) HRun.out ?_)
        go_roundw
        case rel => exact ⟨j + 1, A6, N + 1, c6, by simp, HLt.out, rfl, HO6.out.2.1, HO6.out.1, HO6.out.2.2⟩
        case measure => have := HLt.out; simp [intOf]; omega
      · have dgt : decide (b < s.id) = false := decide_eq_false hgt
        have e6 : restOf (S.take (j + 1)) b = restOf (S.take j) b := by rw [HR.out, if_neg hgt, List.append_nil]
        have HE6 := Lib.hid e6
        clear e6 hgt HR
        go_wp2_with fail
        go_roundw
        case rel => exact ⟨j + 1, A', N, c', by simp, HLt.out, rfl, by rw [HE6.out]; exact HN.out, by rw [HE6.out]; exact HOw.out, Hb.out⟩
        case measure => have := HLt.out; simp [intOf]; omega

theorem pageRest_any (x : Cw) (b call : Int) (A : Option Addr) (n c : Nat) (w : World) (hr : RdX w w.heap.size A n x.l) :
    Calls Try.prog 6 #[.agg #[.slice A n c, .int .i64 x.fl, .int .i64 x.dr, .int .i64 x.nw, .bool x.tg], .int .i64 b, .int .i64 call] w (TruePost w) := by
  by_cases hm : (60 : Int) < (n : Int)
  · exact pgrest_long x b call A n c w hr hm
  · cases h : right x with
    | false => exact pgrest_wrong x b call A n c w hr hm h
    | true => exact pgrest_right x b call A n c w hr hm h

end Go.Proofs.Ytdoaakohgmohkaa
