/-
  The walk of the statement PageWhole: pages, each behind the one ahead, show all that is to be shown, each once, in order. Conditions: those that each theorem names.
-/
import Derived.Test.YtdoaakohgmohkaaPgPages
import Derived.Test.YtdoaakohgmohkaaHand
import Derived.BigQuiet
import Derived.Deep.DeepCutAuto
namespace Go.Proofs.Ytdoaakohgmohkaa
open Go.RowKit Go.Shelf

/-- The pages that have come up, and what stands on them. -/
structure PgAt (V W : World) (S : List Sn) (Ap : Option Addr) (j cp : Nat) (Aa : Option Addr) (N ca : Nat) (b : Int) (es : List PE) (acc : List Sn) : Prop where
  mem : PwIn W V.heap.size (.slice Ap j cp) (.slice Aa N ca) es acc
  many : es.length = j
  long : acc.length = N
  join : joinP es = acc
  full : ∀ x ∈ es, x.n = 3
  rest : acc ++ restOf S b = S
  below : Below V.heap.size V W
theorem join_full {es : List PE} (h : ∀ x ∈ es, x.ps.length = 3) : (joinP es).length = 3 * es.length := by
  induction es with
  | nil => rfl
  | cons x es ih =>
    have h1 := ih fun y hy => h y (List.mem_cons_of_mem _ hy)
    have h2 := h x (by simp)
    have e : joinP (x :: es) = x.ps ++ joinP es := rfl
    rw [e, List.length_append, List.length_cons, h1, h2]; omega
theorem PgAt.few {V W : World} {S : List Sn} {Ap : Option Addr} {j cp : Nat} {Aa : Option Addr} {N ca : Nat} {b : Int} {es : List PE} {acc : List Sn} (h : PgAt V W S Ap j cp Aa N ca b es acc) (hS : S.length ≤ 60) : N = 3 * j ∧ j ≤ 20 := by
  have h1 : ∀ x ∈ es, x.ps.length = 3 := fun x hx => by rw [(RdSn.of_own (h.mem.each x hx)).1]; exact h.full x hx
  have h2 := join_full h1
  rw [h.join, h.long, h.many] at h2
  have h3 := congrArg List.length h.rest
  rw [List.length_append, h.long] at h3
  omega

set_option maxRecDepth 100000 in
set_option maxHeartbeats 8000000 in
theorem pgwhole_long (x : Cw) (A : Option Addr) (n c : Nat) (w : World) (hr : RdX w w.heap.size A n x.l) (hm : (60 : Int) < (n : Int)) :
    Calls Try.prog 3 #[.agg #[.slice A n c, .int .i64 x.fl, .int .i64 x.dr, .int .i64 x.nw, .bool x.tg]] w (TruePost w) := by
  have one := whole_one (W := w) (t := 24) (x := #[.slice A n c, .int .i64 x.fl, .int .i64 x.dr, .int .i64 x.nw, .bool x.tg])
  have C := Lib.hid one.1
  have R := Lib.hid (hr.up one.2)
  have B := Lib.hid one.2
  clear one hr
  have HGr := Lib.hid (greatL (n := n) (decide_eq_true hm) x.fl x.dr x.nw x.tg)
  clear hm
  go_enter Try.func3, Try.ntmps3
  go_wp2_with fail
  refine (HGr.out _ _ _).mono ?_
  rintro e y1 ⟨rfl, b⟩
  have C_ := Lib.hid (C.out.under b)
  have R_ := Lib.hid (R.out.up b)
  have B_ := Lib.hid (B.out.trans (b.mono B.out.size))
  clear C R B
  have C := C_
  have R := R_
  have B := B_
  clear C_ R_ B_
  clear b HGr
  go_wp2_with fail
  refine (wakes_any _).mono ?_
  rintro e y2 ⟨rfl, b⟩
  have C_ := Lib.hid (C.out.under b)
  have R_ := Lib.hid (R.out.up b)
  have B_ := Lib.hid (B.out.trans (b.mono B.out.size))
  clear C R B
  have C := C_
  have R := R_
  have B := B_
  clear C_ R_ B_
  clear b
  go_wp2_with fail
  go_ret
  exact ⟨rfl, B.out⟩

set_option maxRecDepth 100000 in
set_option maxHeartbeats 8000000 in
theorem pgwhole_wrong (x : Cw) (A : Option Addr) (n c : Nat) (w : World) (hr : RdX w w.heap.size A n x.l) (hm : ¬ (60 : Int) < (n : Int)) (h : right x = false) :
    Calls Try.prog 3 #[.agg #[.slice A n c, .int .i64 x.fl, .int .i64 x.dr, .int .i64 x.nw, .bool x.tg]] w (TruePost w) := by
  have one := whole_one (W := w) (t := 24) (x := #[.slice A n c, .int .i64 x.fl, .int .i64 x.dr, .int .i64 x.nw, .bool x.tg])
  have C := Lib.hid one.1
  have R := Lib.hid (hr.up one.2)
  have B := Lib.hid one.2
  clear one hr
  have HRt := Lib.hid (rightL (l := x.l) (fl := x.fl) (dr := x.dr) (nw := x.nw) (tg := x.tg) (n := n) h)
  clear h
  have HGr := Lib.hid (greatL (n := n) (decide_eq_false hm) x.fl x.dr x.nw x.tg)
  clear hm
  go_enter Try.func3, Try.ntmps3
  go_wp2_with fail
  refine (HGr.out _ _ _).mono ?_
  rintro e y1 ⟨rfl, b⟩
  have C_ := Lib.hid (C.out.under b)
  have R_ := Lib.hid (R.out.up b)
  have B_ := Lib.hid (B.out.trans (b.mono B.out.size))
  clear C R B
  have C := C_
  have R := R_
  have B := B_
  clear C_ R_ B_
  clear b HGr
  have vC_0 := C.out.cell 0
  have vC_1 := C.out.cell 1
  have vC_2 := C.out.cell 2
  have vC_3 := C.out.cell 3
  have vC_4 := C.out.cell 4
  simp only [List.getElem?_toArray, List.getElem?_cons_zero, List.getElem?_cons_succ] at vC_0 vC_1 vC_2 vC_3 vC_4
  go_wp2_with fail
  refine (HRt.out _ _ _ R.out).mono ?_
  rintro e y2 ⟨rfl, b⟩
  clear vC_0 vC_1 vC_2 vC_3 vC_4
  have C_ := Lib.hid (C.out.under b)
  have R_ := Lib.hid (R.out.up b)
  have B_ := Lib.hid (B.out.trans (b.mono B.out.size))
  clear C R B
  have C := C_
  have R := R_
  have B := B_
  clear C_ R_ B_
  clear b HRt
  go_wp2_with fail
  refine (wakes_any _).mono ?_
  rintro e y3 ⟨rfl, b⟩
  have C_ := Lib.hid (C.out.under b)
  have R_ := Lib.hid (R.out.up b)
  have B_ := Lib.hid (B.out.trans (b.mono B.out.size))
  clear C R B
  have C := C_
  have R := R_
  have B := B_
  clear C_ R_ B_
  clear b
  go_wp2_with fail
  go_ret
  exact ⟨rfl, B.out⟩

set_option maxRecDepth 100000 in
set_option maxHeartbeats 8000000 in
theorem pgwhole_right (x : Cw) (A : Option Addr) (n c : Nat) (w : World) (hr : RdX w w.heap.size A n x.l) (hm : ¬ (60 : Int) < (n : Int)) (h : right x = true) :
    Calls Try.prog 3 #[.agg #[.slice A n c, .int .i64 x.fl, .int .i64 x.dr, .int .i64 x.nw, .bool x.tg]] w (TruePost w) := by
  obtain ⟨S, hS⟩ : ∃ S, shown x.l = S := ⟨_, rfl⟩
  obtain ⟨m, hl⟩ : ∃ m, S.length = m := ⟨_, rfl⟩
  have hn : n ≤ 60 := by omega
  have hm6 : m ≤ 60 := by rw [← hl, ← hS]; exact Nat.le_trans (shown_le _) (by rw [hr.1]; exact hn)
  have hri := rising_right h
  have hpo := restOf_all (shown_pos h)
  rw [hS] at hri hpo
  have HRt := Lib.hid (rightL (l := x.l) (fl := x.fl) (dr := x.dr) (nw := x.nw) (tg := x.tg) (n := n) h)
  have HOf := Lib.hid (fun (b : Int) (P : List Sn) (M : Bool) (k : Nat) (hP : pageOf S b = P) (hM : moreOf S b = M) (hk : P.length = k) => ofLo (n := n) (b := b) (P := P) (M := M) (k := k) h (by rw [hS]; exact hP) (by rw [hS]; exact hM) hk (by omega))
  have HAl := Lib.hid (allL (n := n) h hS hl (by omega))
  have HX := Lib.hid (And.intro hl (And.intro hm6 (And.intro hri (And.intro hpo hS))))
  have HN := Lib.hid hn
  clear h hS hl hm6 hri hpo hn
  have one := whole_one (W := w) (t := 24) (x := #[.slice A n c, .int .i64 x.fl, .int .i64 x.dr, .int .i64 x.nw, .bool x.tg])
  have C := Lib.hid one.1
  have R := Lib.hid (hr.up one.2)
  have B := Lib.hid one.2
  clear one hr
  have HGr := Lib.hid (greatL (n := n) (decide_eq_false hm) x.fl x.dr x.nw x.tg)
  clear hm
  go_enter Try.func3, Try.ntmps3
  go_wp2_with fail
  refine (HGr.out _ _ _).mono ?_
  rintro e y1 ⟨rfl, b⟩
  have C_ := Lib.hid (C.out.under b)
  have R_ := Lib.hid (R.out.up b)
  have B_ := Lib.hid (B.out.trans (b.mono B.out.size))
  clear C R B
  have C := C_
  have R := R_
  have B := B_
  clear C_ R_ B_
  clear b HGr
  have vC_0 := C.out.cell 0
  have vC_1 := C.out.cell 1
  have vC_2 := C.out.cell 2
  have vC_3 := C.out.cell 3
  have vC_4 := C.out.cell 4
  simp only [List.getElem?_toArray, List.getElem?_cons_zero, List.getElem?_cons_succ] at vC_0 vC_1 vC_2 vC_3 vC_4
  go_wp2_with fail
  refine (HRt.out _ _ _ R.out).mono ?_
  rintro e y2 ⟨rfl, b⟩
  clear vC_0 vC_1 vC_2 vC_3 vC_4
  have C_ := Lib.hid (C.out.under b)
  have R_ := Lib.hid (R.out.up b)
  have B_ := Lib.hid (B.out.trans (b.mono B.out.size))
  clear C R B
  have C := C_
  have R := R_
  have B := B_
  clear C_ R_ B_
  clear b HRt
  have vC_0 := C.out.cell 0
  have vC_1 := C.out.cell 1
  have vC_2 := C.out.cell 2
  have vC_3 := C.out.cell 3
  have vC_4 := C.out.cell 4
  simp only [List.getElem?_toArray, List.getElem?_cons_zero, List.getElem?_cons_succ] at vC_0 vC_1 vC_2 vC_3 vC_4
  go_wp2_with fail
  clear vC_0 vC_1 vC_2 vC_3 vC_4
  go_loopw [3, 4, 5, 6] (fun p a v i wr => ∃ (j : Nat) (Ap : Option Addr) (cp : Nat) (Aa : Option Addr) (N ca : Nat) (b : Int) (es : List PE) (acc : List Sn), p = .slice Ap j cp ∧ a = .slice Aa N ca ∧ v = .int .i64 b ∧ i = .int .i64 (j : Int) ∧ PgAt y2 wr S Ap j cp Aa N ca b es acc) (fun _ _ _ i _ => 61 - (intOf i).toNat)
  case atStart => exact ⟨0, none, 0, none, 0, 0, 0, [], [], rfl, rfl, rfl, rfl, ⟨World.ownsRow_nil _ _ _ _, fun x hx => by simp at hx, World.ownsRow_nil _ _ _ _, fun x hx => by simp at hx⟩, rfl, rfl, rfl, fun x hx => by simp at hx, HX.out.2.2.2.1, Below.refl _ _⟩
  case round =>
    obtain ⟨j, Ap, cp, Aa, N, ca, b, es, acc, rfl, rfl, rfl, rfl, hI⟩ := hrel
    have hji : (j : Int) ≤ 60 := by have := (hI.few (by rw [HX.out.1]; exact HX.out.2.1)).2; omega
    have hN60 : N ≤ 60 := by have := hI.few (by rw [HX.out.1]; exact HX.out.2.1); omega
    obtain ⟨P, hP⟩ : ∃ P, pageOf S b = P := ⟨_, rfl⟩
    obtain ⟨M, hM⟩ : ∃ M, moreOf S b = M := ⟨_, rfl⟩
    obtain ⟨k, hk⟩ : ∃ k, P.length = k := ⟨_, rfl⟩
    obtain ⟨pl, pm, pn, pe⟩ := page_step HX.out.2.2.1 hI.rest
    rw [hP] at pl pm pn pe
    rw [hM] at pm pe
    rw [hk] at pl pm
    have HOf2 := Lib.hid (HOf.out b P M k hP hM hk)
    have bW := hI.below
    have HI := Lib.hid hI
    have HP := Lib.hid (And.intro hk (And.intro pl (And.intro pm (And.intro pn pe))))
    clear hI pl pm pn pe hP hM hk HOf
    have Cw := Lib.hid (C.out.under bW)
    have Rw := Lib.hid (R.out.up bW)
    clear bW
    have vCw_0 := Cw.out.cell 0
    have vCw_1 := Cw.out.cell 1
    have vCw_2 := Cw.out.cell 2
    have vCw_3 := Cw.out.cell 3
    have vCw_4 := Cw.out.cell 4
    simp only [List.getElem?_toArray, List.getElem?_cons_zero, List.getElem?_cons_succ] at vCw_0 vCw_1 vCw_2 vCw_3 vCw_4
    go_wp2_with fail
    clear vCw_0 vCw_1 vCw_2 vCw_3 vCw_4
    refine (HOf2.out _ _ _ Rw.out).mono ?_
    rintro e z1 ⟨A5, c5, rfl, ho, b1⟩
    clear HOf2 Cw Rw
    have hmem := HI.out.mem.under b1
    have hbs : y2.heap.size ≤ wr.heap.size := HI.out.below.size
    obtain ⟨Ap2, cp2, z2, hr1, hm2, hb2⟩ := hmem.page (x := ⟨A5, k, c5, P⟩) ho hbs (fun g hg => (HI.out.mem.all.lt g hg).2) (Nat.le_trans hbs b1.size) (by have := HI.out.many; omega)
    rw [HI.out.many] at hr1 hm2
    obtain ⟨Aa3, ca3, z3, hr2, hm3, hb3⟩ := hm2.more (x := ⟨A5, k, c5, P⟩) (by simp) (Nat.le_trans hbs (Nat.le_trans b1.size hb2.size)) (by have := HI.out.long; have := HP.out.2.1; simp only; omega)
    rw [HI.out.long] at hr2 hm3
    simp only at hr1 hr2 hm3
    have bV := (HI.out.below.trans (b1.mono hbs)).trans (hb2.trans hb3)
    have HRun1 := Lib.hid hr1
    have HRun2 := Lib.hid hr2
    have HM3 := Lib.hid hm3
    have HBV := Lib.hid bV
    have RP := Lib.hid (RdSn.of_own (hm3.each ⟨A5, k, c5, P⟩ (by simp)))
    simp only at RP
    have HNx := Lib.hid (next_any A5 k c5 P b z3 RP.out (by have := HP.out.2.1; omega))
    clear hmem hr1 hr2 hm2 hm3 ho hb2 hb3 b1 hbs bV RP
    cases M with
    | true =>
      have hk3 : k = 3 := HP.out.2.2.1 rfl
      subst hk3
      go_upto_region 11 with (refine wpList_app (by rfl) _ _ 27 rfl _ _ _ z2 (by rfl) (by rfl) HRun1.out ?_)
      clear HRun1
      go_wp2_with (refine wpList_app (by rfl) _ _ 28 rfl _ _ _ z3 (by rfl) (by rfl) HRun2.out ?_)
      clear HRun2
      refine HNx.out.mono ?_
      rintro e z4 ⟨rfl, b4⟩
      clear HNx
      have hI2 : PgAt y2 z4 S Ap2 (j + 1) cp2 Aa3 (N + 3) ca3 (nextOf P b) (es ++ [⟨A5, 3, c5, P⟩]) (acc ++ P) :=
        ⟨HM3.out.under b4, by rw [List.length_append, HI.out.many]; rfl, by rw [List.length_append, HI.out.long, HP.out.1], by rw [joinP_snoc, HI.out.join], fun z hz => by
          simp only [List.mem_append, List.mem_singleton] at hz
          rcases hz with hz | rfl
          · exact HI.out.full z hz
          · rfl, HP.out.2.2.2.1, HBV.out.trans (b4.mono HBV.out.size)⟩
      have HI2 := Lib.hid hI2
      clear hI2 b4
      go_wp2_with fail
      go_roundw
      case rel => exact ⟨j + 1, Ap2, cp2, Aa3, N + 3, ca3, nextOf P b, _, _, rfl, rfl, rfl, by simp, HI2.out⟩
      case measure => simp [intOf]; omega
    | false =>
      have hk3 : k ≤ 3 := HP.out.2.1
      have d3 : decide ((3 : Int) < (k : Int)) = false := decide_eq_false (by omega)
      go_upto_region 11 with (refine wpList_app (by rfl) _ _ 27 rfl _ _ _ z2 (by rfl) (by rfl) HRun1.out ?_)
      clear HRun1
      go_wp2_with (refine wpList_app (by rfl) _ _ 28 rfl _ _ _ z3 (by rfl) (by rfl) HRun2.out ?_)
      clear HRun2
      refine HNx.out.mono ?_
      rintro e z4 ⟨rfl, b4⟩
      clear HNx d3
      have hS := HP.out.2.2.2.2 (by first | rfl | trivial)
      have eNm : N + k = m := by have h1 := congrArg List.length hS; rw [List.length_append, HI.out.long, HP.out.1, HX.out.1] at h1; exact h1
      have hm4 := HM3.out.under b4
      rw [hS, eNm] at hm4
      have RS := Lib.hid (RdSn.of_own (by have h1 := hm4.all; rw [HX.out.1] at h1; exact h1))
      have hP4 := hm4.read (by rw [List.length_append, HI.out.many]; rfl)
      have HP4 := Lib.hid hP4
      have hok : ∀ (i : Nat) (z : PE), (es ++ [⟨A5, k, c5, P⟩])[i]? = some z → z.n ≤ 3 ∧ (i + 1 < j + 1 → 1 ≤ z.n) := by
        intro i z hz
        by_cases hij : i < es.length
        · rw [List.getElem?_append_left hij] at hz
          have := HI.out.full z (List.mem_of_getElem? hz)
          omega
        · rw [List.getElem?_append_right (by omega)] at hz
          have hmy := HI.out.many
          have hz1 := List.mem_of_getElem? hz
          simp only [List.mem_singleton] at hz1
          subst hz1
          exact ⟨hk3, fun hi => by omega⟩
      have hrj : Rising (joinP (es ++ [⟨A5, k, c5, P⟩])) := by rw [joinP_snoc, HI.out.join]; show Rising (acc ++ P); rw [hS]; exact HX.out.2.2.1
      have HOk := Lib.hid (And.intro hok hrj)
      have bz := HBV.out.trans (b4.mono HBV.out.size)
      rw [eNm]
      clear hS hm4 hP4 hok hrj b4 HM3 HBV HI
      have C_ := Lib.hid (C.out.under bz)
      have R_ := Lib.hid (R.out.up bz)
      have B_ := Lib.hid (B.out.trans (bz.mono B.out.size))
      clear C R B
      have C := C_
      have R := R_
      have B := B_
      clear C_ R_ B_
      clear bz
      go_wp2_with fail
      go_loopw [9, 10] (fun p i wr => ∃ (q z : Nat), p = .int .i64 (z : Int) ∧ i = .int .i64 (q : Int) ∧ q ≤ n ∧ (shown (x.l.take q)).length = z ∧ Below z4.heap.size z4 wr) (fun _ i _ => n - (intOf i).toNat)
      case atStart => exact ⟨0, 0, rfl, rfl, Nat.zero_le _, rfl, Below.refl _ _⟩
      case round =>
        obtain ⟨q, z, rfl, rfl, hq, hz, hb⟩ := hrel
        have hn60 := HN.out
        have cc := (C.out.under hb).cell 0
        simp only [List.getElem?_toArray, List.getElem?_cons_zero] at cc
        rcases Nat.eq_or_lt_of_le hq with rfl | hlt
        · have hzm : z = m := by rw [← hz, List.take_of_length_le (by rw [R.out.1]; exact Nat.le_refl _), HX.out.2.2.2.2]; exact HX.out.1
          subst hzm
          clear hz hq cc
          have HPw := Lib.hid (HP4.out.under hb)
          have b := hb
          have C_ := Lib.hid (C.out.under b)
          have R_ := Lib.hid (R.out.up b)
          have B_ := Lib.hid (B.out.trans (b.mono B.out.size))
          have RS_ := Lib.hid (RS.out.up b)
          clear C R B RS
          have C := C_
          have R := R_
          have B := B_
          have RS := RS_
          clear C_ R_ B_ RS_
          clear b hb
          have vC_0 := C.out.cell 0
          have vC_1 := C.out.cell 1
          have vC_2 := C.out.cell 2
          have vC_3 := C.out.cell 3
          have vC_4 := C.out.cell 4
          simp only [List.getElem?_toArray, List.getElem?_cons_zero, List.getElem?_cons_succ] at vC_0 vC_1 vC_2 vC_3 vC_4
          go_wp2_with fail
          refine (whole_yes _ _ _ _ _ HPw.out (by omega) HOk.out.1 HOk.out.2).mono ?_
          rintro e y21 ⟨rfl, b⟩
          clear vC_0 vC_1 vC_2 vC_3 vC_4
          have C_ := Lib.hid (C.out.under b)
          have R_ := Lib.hid (R.out.up b)
          have B_ := Lib.hid (B.out.trans (b.mono B.out.size))
          have RS_ := Lib.hid (RS.out.up b)
          clear C R B RS
          have C := C_
          have R := R_
          have B := B_
          have RS := RS_
          clear C_ R_ B_ RS_
          clear b HPw
          have vC_0 := C.out.cell 0
          have vC_1 := C.out.cell 1
          have vC_2 := C.out.cell 2
          have vC_3 := C.out.cell 3
          have vC_4 := C.out.cell 4
          simp only [List.getElem?_toArray, List.getElem?_cons_zero, List.getElem?_cons_succ] at vC_0 vC_1 vC_2 vC_3 vC_4
          go_wp2_with fail
          refine (HAl.out _ _ _ R.out).mono ?_
          rintro e y22 ⟨A7, c7, rfl, r, b⟩
          clear vC_0 vC_1 vC_2 vC_3 vC_4
          have C_ := Lib.hid (C.out.under b)
          have R_ := Lib.hid (R.out.up b)
          have B_ := Lib.hid (B.out.trans (b.mono B.out.size))
          have RS_ := Lib.hid (RS.out.up b)
          clear C R B RS
          have C := C_
          have R := R_
          have B := B_
          have RS := RS_
          clear C_ R_ B_ RS_
          have RA := Lib.hid r
          clear r b HAl
          go_wp2_with fail
          refine (sameSL rfl (by have := HX.out.2.1; omega) _ _ _ _ _ RA.out RS.out).mono ?_
          rintro e y23 ⟨rfl, b⟩
          have C_ := Lib.hid (C.out.under b)
          have R_ := Lib.hid (R.out.up b)
          have B_ := Lib.hid (B.out.trans (b.mono B.out.size))
          have RS_ := Lib.hid (RS.out.up b)
          have RA_ := Lib.hid (RA.out.up b)
          clear C R B RS RA
          have C := C_
          have R := R_
          have B := B_
          have RS := RS_
          have RA := RA_
          clear C_ R_ B_ RS_ RA_
          clear b
          go_wp2_with fail
          refine (wakes_any _).mono ?_
          rintro e y24 ⟨rfl, b⟩
          have C_ := Lib.hid (C.out.under b)
          have R_ := Lib.hid (R.out.up b)
          have B_ := Lib.hid (B.out.trans (b.mono B.out.size))
          have RS_ := Lib.hid (RS.out.up b)
          have RA_ := Lib.hid (RA.out.up b)
          clear C R B RS RA
          have C := C_
          have R := R_
          have B := B_
          have RS := RS_
          have RA := RA_
          clear C_ R_ B_ RS_ RA_
          clear b
          go_wp2_with fail
          go_ret
          exact ⟨rfl, B.out⟩
        · have hqI : (q : Int) < (n : Int) := by omega
          obtain ⟨y, hy⟩ : ∃ y, x.l[q]? = some y := ⟨_, List.getElem?_eq_getElem (by rw [R.out.1]; exact hlt)⟩
          obtain ⟨xb, xo, e4, hxl, hxc⟩ := (R.out.up hb).2 (by omega)
          subst e4
          obtain ⟨b0, b1, b2, b3, b4, b5, b6, b7, b8, b9, b10⟩ := hxc q y hy
          have HT := Lib.hid (shown_take hy)
          have HLt := Lib.hid hlt
          have Hz := Lib.hid hz
          have hpre := shown_prefix x.l (q + 1)
          rw [HX.out.2.2.2.2, shown_take hy] at hpre
          have HPre := Lib.hid hpre
          obtain ⟨id, tok, ver, zone, tag, on, gone, well, lb, unt, fen⟩ := y
          simp only at b0 b1 b2 b3 b4 b5 b6 b7 b8 b9 b10
          have hbu : Below wr.heap.size wr (wr.alloc (.cells #[.int .i64 id, .int .i64 tok, .int .i64 ver, .int .i64 zone, .bool tag, .bool on, .bool gone, .bool well, .int .u8 lb, .int .i64 unt, .int .i64 fen] 33)) := (Below.refl _ _).alloc (Nat.le_refl _) _
          have Hb := Lib.hid (hb.trans (hbu.mono hb.size))
          have rs := RS.out.up (hb.trans (hbu.mono hb.size))
          clear hxc hy hlt hz hpre hb hbu hxl hq
          cases tag with
          | false =>
            clear rs
            go_wp2_with fail
            go_roundw
            case rel => exact ⟨q + 1, z, rfl, by simp, HLt.out, by have := HT.out; simp [showB] at this; rw [this]; exact Hz.out, Hb.out⟩
            case measure => have := HLt.out; simp [intOf]; omega
          | true =>
            cases gone with
            | true =>
              clear rs
              go_wp2_with fail
              go_roundw
              case rel => exact ⟨q + 1, z, rfl, by simp, HLt.out, by have := HT.out; simp [showB] at this; rw [this]; exact Hz.out, Hb.out⟩
              case measure => have := HLt.out; simp [intOf]; omega
            | false =>
              obtain ⟨t, ht⟩ := HPre.out
              have hSz : S[z]? = some (seenB ⟨id, tok, ver, zone, true, on, false, well, lb, unt, fen⟩) := by
                rw [← ht]
                simp only [showB, Bool.not_false, Bool.and_self, if_true]
                rw [List.append_assoc, List.getElem?_append_right (by rw [Hz.out]; exact Nat.le_refl _), Hz.out, Nat.sub_self]
                rfl
              have hzm : z < m := by rw [← HX.out.1]; exact (List.getElem?_eq_some_iff.1 hSz).1
              have dge : decide (m ≤ z) = false := decide_eq_false (by omega)
              have hzI : (z : Int) < (m : Int) := by omega
              have hz60 : z ≤ 60 := by have := HX.out.2.1; omega
              obtain ⟨sb, so, e5, _, hsc⟩ := rs.2 (by omega)
              subst e5
              obtain ⟨s0, s1, s2, s3, s4, s5, s6⟩ := hsc z _ hSz
              simp only [seenB] at s0 s1 s2 s3 s4 s5 s6
              have HT2 : Hid ((shown (x.l.take (q + 1))).length = z + 1) := Lib.hid (by have := HT.out; simp [showB] at this; rw [this, List.length_append, Hz.out]; rfl)
              clear hsc hSz rs ht HT HPre
              go_wp2_with fail
              go_quiet (fail)
              go_wp2_with fail
              go_roundw
              case rel => exact ⟨q + 1, z + 1, by simp, by simp, HLt.out, HT2.out, Hb.out.trans ((below_drewN (Below.refl _ _) nq).mono Hb.out.size)⟩
              case measure => have := HLt.out; simp [intOf]; omega

theorem pageWhole_any (x : Cw) (A : Option Addr) (n c : Nat) (w : World) (hr : RdX w w.heap.size A n x.l) :
    Calls Try.prog 3 #[.agg #[.slice A n c, .int .i64 x.fl, .int .i64 x.dr, .int .i64 x.nw, .bool x.tg]] w (TruePost w) := by
  by_cases hm : (60 : Int) < (n : Int)
  · exact pgwhole_long x A n c w hr hm
  · cases h : right x with
    | false => exact pgwhole_wrong x A n c w hr hm h
    | true => exact pgwhole_right x A n c w hr hm h

end Go.Proofs.Ytdoaakohgmohkaa
