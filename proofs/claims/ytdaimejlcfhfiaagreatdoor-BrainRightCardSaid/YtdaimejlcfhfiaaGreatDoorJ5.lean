/-
  Texts that the walks of the statements over logs lean on, joined (BrSmall, BrRefOwn, BrFind). Conditions: those that each theorem names.
-/
import Derived.Test.YtdaimejlcfhfiaaGreatDoorJ3
import Derived.Test.YtdaimejlcfhfiaaGreatDoorJ4

/-
  The walks of 'numbers', 'phased', 'refreshed', 'grouped' of package brain. Conditions: those that each theorem names.
-/
namespace Go.Proofs.YtdaimejlcfhfiaaGreatDoor
open Go.RowKit Go.Shelf

def numsF (least : Int) (l : List Int) : Bool := l.all fun n => decide (least ≤ n) && decide (n ≤ brMax)

set_option maxRecDepth 100000 in
set_option maxHeartbeats 1000000 in
theorem bnumbers_any (least : Int) (A : Option Addr) (n c : Nat) (l : List Int) (Z : Nat) (w : World) (hr : Rd w Z A n (iv l)) (hn : n ≤ 1000) :
    Calls Tryz.prog 43 #[.int .i64 least, .slice A n c] w fun e w' => e = .returned (.bool (numsF least l)) ∧ w' = w := by
  have HR := Lib.hid hr
  have HL := Lib.hid (show l.length = n by have := hr.1; rwa [iv_length] at this)
  obtain ⟨v, hv⟩ : ∃ v, numsF least l = v := ⟨_, rfl⟩
  rw [hv]
  have HV := Lib.hid hv
  clear hr hv
  go_enter Tryz.func43, Tryz.ntmps43
  go_wp2_with fail
  go_loopw [9] (fun i wr => ∃ j : Nat, i = .int .i64 (j : Int) ∧ j ≤ n ∧ (∀ x ∈ l.take j, (decide (least ≤ x) && decide (x ≤ brMax)) = true) ∧ wr = w) (fun i _ => n - (intOf i).toNat)
  case atStart => exact ⟨0, rfl, Nat.zero_le _, by simp, rfl⟩
  case round =>
    obtain ⟨j, rfl, hj, hT, rfl⟩ := hrel
    have HT := Lib.hid hT
    clear hT
    by_cases hlt : j < n
    · have hr2 := HR.out
      obtain ⟨b, off, hA, _, hc⟩ := hr2.2 (by omega)
      subst hA
      obtain ⟨x, hx⟩ : ∃ x, l[j]? = some x := ⟨_, List.getElem?_eq_getElem (by rw [HL.out]; exact hlt)⟩
      have hcell : wr.cell? ⟨b, off + j, none⟩ = some (.int .i64 x) := by
        rw [hc j hlt]
        simp [iv, hx]
      have hI : (j : Int) < (n : Int) := by omega
      have HX := Lib.hid hx
      clear hc hx hr2
      have hfalse : (decide (least ≤ x) && decide (x ≤ brMax)) = false → numsF least l = false := fun e => by
        rw [numsF, List.all_eq_false]
        exact ⟨x, List.mem_of_getElem? HX.out, by rw [e]; simp⟩
      by_cases h0 : x < least
      · have q0 : decide (x < least) = true := decide_eq_true h0
        have HF := Lib.hid (show v = false by rw [← HV.out]; exact hfalse (by simp [show ¬ least ≤ x by omega]))
        clear h0 hfalse
        go_wp2_with fail
        go_ret
        exact ⟨by rw [HF.out]; rfl, rfl⟩
      by_cases h1 : 1099511627776 < x
      · have q0 : decide (x < least) = false := decide_eq_false h0
        have q1 : decide ((1099511627776 : Int) < x) = true := decide_eq_true h1
        have HF := Lib.hid (show v = false by rw [← HV.out]; exact hfalse (by simp [brMax, show ¬ x ≤ 1099511627776 by omega]))
        clear h0 h1 hfalse
        go_wp2_with fail
        go_ret
        exact ⟨by rw [HF.out]; rfl, rfl⟩
      have q0 : decide (x < least) = false := decide_eq_false h0
      have q1 : decide ((1099511627776 : Int) < x) = false := decide_eq_false h1
      have HN : Hid (∀ y ∈ l.take (j + 1), (decide (least ≤ y) && decide (y ≤ brMax)) = true) := Lib.hid (fun y hy => by
        rw [List.take_succ_eq_append_getElem (List.getElem?_eq_some_iff.1 HX.out).1, (List.getElem?_eq_some_iff.1 HX.out).2, List.mem_append, List.mem_singleton] at hy
        rcases hy with hy | rfl
        · exact HT.out y hy
        · rw [decide_eq_true (by omega), decide_eq_true (by unfold brMax; omega)]; rfl)
      clear h0 h1 hfalse
      go_wp2_with fail
      go_roundw
      case rel => exact ⟨j + 1, by go_num, by omega, HN.out, by first | rfl | trivial⟩
      case measure => simp [intOf]; omega
    · have HF := Lib.hid (show v = true by
        rw [← HV.out, numsF, List.all_eq_true]
        intro x hx
        exact HT.out x (by rw [List.take_of_length_le (by have := HL.out; omega)]; exact hx))
      go_wp2_with fail
      go_ret
      exact ⟨by rw [HF.out]; rfl, by first | rfl | trivial⟩

set_option maxRecDepth 100000 in
set_option maxHeartbeats 1000000 in
theorem phased_any (A : Option Addr) (n c : Nat) (l : List Kp) (Z : Nat) (w : World) (hr : RdK w Z A n l) (hZ : Z ≤ w.heap.size) (hn : n ≤ 1000) :
    Calls Tryz.prog 45 #[.slice A n c] w (BoolPost (phOk l) w) := by
  have HR := Lib.hid (hr.more hZ)
  have HL := Lib.hid (show l.length = n from hr.1)
  obtain ⟨v, hv⟩ : ∃ v, phOk l = v := ⟨_, rfl⟩
  rw [hv]
  have HV := Lib.hid hv
  clear hr hv hZ
  go_enter Tryz.func45, Tryz.ntmps45
  go_wp2_with fail
  go_loopw [7] (fun i wr => ∃ j : Nat, i = .int .i64 (j : Int) ∧ j ≤ n ∧ (∀ x ∈ l.take j, (decide (1 ≤ x.phase) && decide (x.phase ≤ 10)) = true) ∧ Below w.heap.size w wr) (fun i _ => n - (intOf i).toNat)
  case atStart => exact ⟨0, rfl, Nat.zero_le _, by simp, Below.refl _ _⟩
  case round =>
    obtain ⟨j, rfl, hj, hT, hb⟩ := hrel
    have HT := Lib.hid hT
    have HB := Lib.hid hb
    clear hT hb
    by_cases hlt : j < n
    · obtain ⟨b, off, hA, hbl, hc⟩ := RdK.at_ (HR.out.below HB.out) (by omega)
      subst hA
      obtain ⟨x, hx⟩ : ∃ x, l[j]? = some x := ⟨_, List.getElem?_eq_getElem (by rw [HL.out]; exact hlt)⟩
      obtain ⟨c0, c1, c2, c3, c4, c5, c6, c7⟩ := hc j x hx
      have hI : (j : Int) < (n : Int) := by omega
      have HX := Lib.hid hx
      clear hc hx hbl
      have hfalse : (decide (1 ≤ x.phase) && decide (x.phase ≤ 10)) = false → phOk l = false := fun e => by
        rw [phOk, List.all_eq_false]
        exact ⟨x, List.mem_of_getElem? HX.out, by rw [e]; simp⟩
      have hB1 : Below w.heap.size w (wr.alloc (.cells #[.int .i64 x.id, .int .i64 x.tok, .int .i64 x.ver, .int .i64 x.zone, .int .u8 x.phase, .int .i64 x.since, .bool x.guard, .bool x.done] 47)) := HB.out.alloc HB.out.size _
      have HB1 := Lib.hid hB1
      clear hB1
      by_cases h0 : x.phase < 1
      · have q0 : decide (x.phase < 1) = true := decide_eq_true h0
        have HF := Lib.hid (show v = false by rw [← HV.out]; exact hfalse (by simp [show ¬ 1 ≤ x.phase by omega]))
        clear h0 hfalse
        go_wp2_with fail
        go_ret
        exact ⟨by rw [HF.out]; rfl, HB1.out⟩
      by_cases h1 : 10 < x.phase
      · have q0 : decide (x.phase < 1) = false := decide_eq_false h0
        have q1 : decide (10 < x.phase) = true := decide_eq_true h1
        have HF := Lib.hid (show v = false by rw [← HV.out]; exact hfalse (by simp [show ¬ x.phase ≤ 10 by omega]))
        clear h0 h1 hfalse
        go_wp2_with fail
        go_ret
        exact ⟨by rw [HF.out]; rfl, HB1.out⟩
      have q0 : decide (x.phase < 1) = false := decide_eq_false h0
      have q1 : decide (10 < x.phase) = false := decide_eq_false h1
      have HN : Hid (∀ y ∈ l.take (j + 1), (decide (1 ≤ y.phase) && decide (y.phase ≤ 10)) = true) := Lib.hid (fun y hy => by
        rw [List.take_succ_eq_append_getElem (List.getElem?_eq_some_iff.1 HX.out).1, (List.getElem?_eq_some_iff.1 HX.out).2, List.mem_append, List.mem_singleton] at hy
        rcases hy with hy | rfl
        · exact HT.out y hy
        · simp; omega)
      clear h0 h1 hfalse
      go_wp2_with fail
      go_roundw
      case rel => exact ⟨j + 1, by go_num, by omega, HN.out, HB1.out⟩
      case measure => simp [intOf]; omega
    · have HF := Lib.hid (show v = true by
        rw [← HV.out, phOk, List.all_eq_true]
        intro x hx
        exact HT.out x (by rw [List.take_of_length_le (by have := HL.out; omega)]; exact hx))
      go_wp2_with fail
      go_ret
      exact ⟨by rw [HF.out]; rfl, HB.out⟩

theorem numsF2 (m x y : Int) : numsF m [x, y] = ((decide (m ≤ x) && decide (x ≤ brMax)) && (decide (m ≤ y) && decide (y ≤ brMax))) := by simp [numsF]
theorem numsF0 (x y : Int) : numsF 0 [x, y] = (isNum x && isNum y) := by
  rw [Bool.eq_iff_iff]
  simp only [numsF, isNum, List.all_cons, List.all_nil, Bool.and_true, Bool.and_eq_true, decide_eq_true_eq]
  exact Iff.rfl
set_option maxRecDepth 100000 in
set_option maxHeartbeats 1000000 in
theorem refreshed_any (r : Rf) (w : World) : Calls Tryz.prog 46 #[.agg #[.int .u8 r.st, .int .i64 r.fr, .int .i64 r.to_, .int .i64 r.step, .bool r.paused, .int .i64 r.since, .int .i64 r.fails]] w (BoolPost (rfOk r) w) := by
  by_cases h : r.st = 1
  · have hv : rfOk r = numsF 1 [r.fr, r.to_] := by rw [numsF2]; simp [rfOk, h]
    rw [hv, h]
    have b0 : ((1 : Int) != 1) = false := by simp
    clear hv h
    go_enter Tryz.func46, Tryz.ntmps46
    go_wp2_with fail
    obtain ⟨hb0, w0, w1⟩ := two_new w 28 3 #[.int .u8 1, .int .i64 r.fr, .int .i64 r.to_, .int .i64 r.step, .bool r.paused, .int .i64 r.since, .int .i64 r.fails] #[.int .i64 r.fr, .int .i64 r.to_]
    have hR := rd_lit_at (w.alloc (.cells #[.int .u8 1, .int .i64 r.fr, .int .i64 r.to_, .int .i64 r.step, .bool r.paused, .int .i64 r.since, .int .i64 r.fails] 28)) [.int .i64 r.fr, .int .i64 r.to_] 3 2 (w.heap.size + 1) rfl (by simp)
    have HB := Lib.hid hb0
    refine (bnumbers_any 1 _ 2 2 [r.fr, r.to_] _ _ hR (by omega)).mono ?_
    rintro e w2 ⟨rfl, rfl⟩
    clear hR hb0 w0 w1
    go_wp2_with fail
    go_ret
    exact ⟨rfl, HB.out⟩
  · have hv : rfOk r = true := by simp [rfOk, h]
    rw [hv]
    have b0 : (r.st != 1) = true := by simp [h]
    clear hv h
    go_enter Tryz.func46, Tryz.ntmps46
    go_wp2_with fail
    go_ret
    exact ⟨rfl, (Below.refl _ w).alloc (Nat.le_refl _) _⟩

set_option maxRecDepth 100000 in
set_option maxHeartbeats 1000000 in
theorem grouped_any (p : Br) (a : Ad) (Z : Nat) (w : World) (hr : RdB_ w Z p a) (hZ : Z ≤ w.heap.size) (hT : Tab w) : Calls Tryz.prog 47 #[brV p a] w (BoolPost (setOk p) w) := by
  obtain ⟨V, hV⟩ : ∃ V, w.alloc (.cells (brC p a) 30) = V := ⟨_, rfl⟩
  have hw : Whole V w.heap.size 30 (brC p a) := by rw [← hV]; exact Whole.new _ _ _
  have hb : Below w.heap.size w V := by rw [← hV]; exact (Below.refl _ _).alloc (Nat.le_refl _) _
  have HV := Lib.hid hV
  have hH : Has (cfM p a) V := ⟨((hr.more hZ).up hb).lies, hT.under hb⟩
  have hck := check_any (cfM p a) V hH
  have hme : may (cfM p a) = may p.cf := rfl
  rw [hme] at hck
  obtain ⟨m, hm⟩ : ∃ m, may p.cf = m := ⟨_, rfl⟩
  rw [hm] at hck
  have HCk := Lib.hid hck
  have HB := Lib.hid hb
  have HX := Lib.hid hw
  obtain ⟨v, hv⟩ : ∃ v, setOk p = v := ⟨_, rfl⟩
  rw [hv]
  unfold setOk at hv
  rw [hm] at hv
  have HV2 := Lib.hid hv
  clear hr hZ hT hV hw hb hH hck hme hm hv
  cases hs : p.set with
  | true =>
    have HF := Lib.hid (show v = m by rw [← HV2.out, hs]; rfl)
    have HS := Lib.hid hs
    clear hs
    go_enter Tryz.func47, Tryz.ntmps47
    go_upto_region 1 with fail
    refine wpV (fun V2 hV2 => ?_)
    obtain rfl : V = V2 := HV.out.symm.trans hV2
    clear HV hV2
    obtain ⟨c0, c1, c2, c3, c4, c5, c6, c7, c8, c9, c10, c11, c12, c13, c14, c15, c16, c17, c18, c19, c20, c21, c22, c23, c24, c25, c26⟩ := cells27 HX.out
    rw [HS.out] at c2
    go_wp2_with fail
    refine HCk.out.mono ?_
    rintro e w2 ⟨rfl, hb2⟩
    have HB2 := Lib.hid (HB.out.trans (hb2.mono HB.out.size))
    clear hb2 HB c0 c1 c2 c3 c4 c5 c6 c7 c8 c9 c10 c11 c12 c13 c14 c15 c16 c17 c18 c19 c20 c21 c22 c23 c24 c25 c26
    cases m with
    | true =>
      have b0 : (er true == 0) = true := rfl
      go_wp2_with fail
      go_ret
      exact ⟨by rw [HF.out]; rfl, HB2.out⟩
    | false =>
      have b0 : (er false == 0) = false := rfl
      go_wp2_with fail
      go_ret
      exact ⟨by rw [HF.out]; rfl, HB2.out⟩
  | false =>
    have HS := Lib.hid hs
    by_cases h1 : p.its.length = 0
    · have hi : p.its = [] := List.length_eq_zero_iff.1 h1
      by_cases h2 : p.rf.st = 0
      · have HF := Lib.hid (show v = true by rw [← HV2.out, hs, hi]; simp [h2])
        have b1 : ((p.its.length : Int) == 0) = true := by simp [h1]
        have b2 : (p.rf.st == 0) = true := by simp [h2]
        clear hs h1 h2 hi
        go_enter Tryz.func47, Tryz.ntmps47
        go_upto_region 1 with fail
        refine wpV (fun V2 hV2 => ?_)
        obtain rfl : V = V2 := HV.out.symm.trans hV2
        clear HV hV2
        obtain ⟨c0, c1, c2, c3, c4, c5, c6, c7, c8, c9, c10, c11, c12, c13, c14, c15, c16, c17, c18, c19, c20, c21, c22, c23, c24, c25, c26⟩ := cells27 HX.out
        rw [HS.out] at c2
        go_wp2_with fail
        go_ret
        exact ⟨by rw [HF.out]; rfl, HB.out⟩
      · have HF := Lib.hid (show v = false by rw [← HV2.out, hs, hi]; simp [h2])
        have b1 : ((p.its.length : Int) == 0) = true := by simp [h1]
        have b2 : (p.rf.st == 0) = false := by simp [h2]
        clear hs h1 h2 hi
        go_enter Tryz.func47, Tryz.ntmps47
        go_upto_region 1 with fail
        refine wpV (fun V2 hV2 => ?_)
        obtain rfl : V = V2 := HV.out.symm.trans hV2
        clear HV hV2
        obtain ⟨c0, c1, c2, c3, c4, c5, c6, c7, c8, c9, c10, c11, c12, c13, c14, c15, c16, c17, c18, c19, c20, c21, c22, c23, c24, c25, c26⟩ := cells27 HX.out
        rw [HS.out] at c2
        go_wp2_with fail
        go_ret
        exact ⟨by rw [HF.out]; rfl, HB.out⟩
    · have hi : p.its ≠ [] := fun e => h1 (by rw [e]; rfl)
      have HF := Lib.hid (show v = false by rw [← HV2.out, hs]; simp [hi])
      have b1 : ((p.its.length : Int) == 0) = false := by rw [beq_eq_false_iff_ne]; omega
      clear hs h1 hi
      go_enter Tryz.func47, Tryz.ntmps47
      go_upto_region 1 with fail
      refine wpV (fun V2 hV2 => ?_)
      obtain rfl : V = V2 := HV.out.symm.trans hV2
      clear HV hV2
      obtain ⟨c0, c1, c2, c3, c4, c5, c6, c7, c8, c9, c10, c11, c12, c13, c14, c15, c16, c17, c18, c19, c20, c21, c22, c23, c24, c25, c26⟩ := cells27 HX.out
      rw [HS.out] at c2
      go_wp2_with fail
      go_ret
      exact ⟨by rw [HF.out]; rfl, HB.out⟩

end Go.Proofs.YtdaimejlcfhfiaaGreatDoor

/-
  The walk of the document's own 'Own' of brains. Conditions: those that each theorem names.
-/
namespace Go.Proofs.YtdaimejlcfhfiaaGreatDoor
open Go.RowKit Go.Shelf

set_option maxRecDepth 100000 in
set_option maxHeartbeats 4000000 in
theorem rownB_any (p : Br) (a : Ad) (Z : Nat) (w : World) (hr : RdB_ w Z p a) (hZ : Z ≤ w.heap.size) (hm : p.cf.ms.length ≤ 1000) (hi : p.its.length ≤ 1000) (hk : p.kps.length ≤ 1000) :
    Calls Tryz.prog 24 #[brV p a] w (BrPost w.heap.size p w) := by
  obtain ⟨hb, w0, w1⟩ := two_new w 30 30 (brC p a) (brC br0 ad0)
  obtain ⟨V, hV⟩ : ∃ V, (w.alloc (.cells (brC p a) 30)).alloc (.cells (brC br0 ad0) 30) = V := ⟨_, rfl⟩
  rw [hV] at hb w0 w1
  have HR := Lib.hid (hr.below (hb.mono hZ))
  have HB := Lib.hid hb
  have X0 := Lib.hid w0
  have X1 := Lib.hid w1
  have HV := Lib.hid hV
  have HZ := Lib.hid (show Z ≤ V.heap.size from Nat.le_trans hZ hb.size)
  have HZw := Lib.hid hZ
  clear hb w0 w1 hr hZ hV
  go_enter Tryz.func24, Tryz.ntmps24
  go_upto_region 1 with fail
  refine wpV (fun V2 hV2 => ?_)
  obtain rfl : V = V2 := HV.out.symm.trans hV2
  clear HV hV2
  have b3 := (Below.refl V.heap.size V).alloc (Nat.le_refl _) (.cells #[] 3)
  obtain ⟨C1, e1, W1, hrun, ho, hb⟩ := fresh_ms V Z a.C p.cf.ms.length a.e p.cf.ms HR.out.ms HZ.out hm
  have s0 : (V.alloc (.cells #[] 3)).cell? ⟨w.heap.size, 17, none⟩ = some (.slice a.C p.cf.ms.length a.e) := (X0.out.under b3).cell 17
  have g0 := X0.out.under hb
  have x0 : W1.cell? ⟨w.heap.size, 17, none⟩ = some (.slice a.C p.cf.ms.length a.e) := g0.cell 17
  have y0 := g0.frozen 17
  have HRun := Lib.hid hrun
  have G0 := Lib.hid g0
  have O1 := Lib.hid ho
  have X1_ := Lib.hid (X1.out.under hb)
  have HB_ := Lib.hid (HB.out.trans (hb.mono HB.out.size))
  have HR_ := Lib.hid (HR.out.below (hb.mono HZ.out))
  have HZ_ := Lib.hid (Nat.le_trans HZ.out hb.size)
  have Sz1 := Lib.hid HB.out.size
  clear hrun g0 ho hb b3 X0 X1 HB HR HZ 
  go_upto_region 2 with (at_builtin; refine wpList_app (by rfl) _ _ 22 rfl _ _ _ W1 (by rfl) (by rfl) HRun.out ?_)
  refine wpV (fun V1 hV1 => ?_)
  have k := Only.set W1 w.heap.size 17 (.slice C1 p.cf.ms.length e1)
  have e0 := set17 G0.out C1 e1
  rw [hV1] at k e0
  have X0 := Lib.hid e0
  have X1 := Lib.hid (k.far X1_.out (by omega))
  have HB := Lib.hid (k.bel HB_.out (Nat.le_refl _))
  have HR := Lib.hid (show RdB_ V1 Z p a from HR_.out.below (k.bel (Below.refl Z _) HZw.out))
  have HZ := Lib.hid (show Z ≤ V1.heap.size by rw [k.size]; exact HZ_.out)
  have O1' := Lib.hid (k.own O1.out G0.out (by decide))
  clear k e0 hV1 s0 x0 y0 HRun G0 X1_ HB_ HR_ HZ_  O1
  have O1 := O1'
  clear O1'
  have b3 := (Below.refl V1.heap.size V1).alloc (Nat.le_refl _) (.cells #[] 45)
  obtain ⟨A1, c1, W2, hrun, ho, hb⟩ := fresh_its V1 Z a.A a.c p.its HR.out.its HZ.out hi
  have s0 : (V1.alloc (.cells #[] 45)).cell? ⟨w.heap.size, 18, none⟩ = some (.slice a.A p.its.length a.c) := (X0.out.under b3).cell 18
  have g0 := X0.out.under hb
  have x0 : W2.cell? ⟨w.heap.size, 18, none⟩ = some (.slice a.A p.its.length a.c) := g0.cell 18
  have y0 := g0.frozen 18
  have HRun := Lib.hid hrun
  have G0 := Lib.hid g0
  have O2 := Lib.hid ho
  have X1_ := Lib.hid (X1.out.under hb)
  have HB_ := Lib.hid (HB.out.trans (hb.mono HB.out.size))
  have HR_ := Lib.hid (HR.out.below (hb.mono HZ.out))
  have HZ_ := Lib.hid (Nat.le_trans HZ.out hb.size)
  have Sz2 := Lib.hid HB.out.size
  have O1_ := Lib.hid (own_under O1.out hb)
  clear hrun g0 ho hb b3 X0 X1 HB HR HZ O1
  go_upto_region 3 with (at_builtin; refine wpList_app (by rfl) _ _ 25 rfl _ _ _ W2 (by rfl) (by rfl) HRun.out ?_)
  refine wpV (fun V2 hV2 => ?_)
  have k := Only.set W2 w.heap.size 18 (.slice A1 p.its.length c1)
  have e0 := set18 G0.out A1 c1
  rw [hV2] at k e0
  have X0 := Lib.hid e0
  have X1 := Lib.hid (k.far X1_.out (by omega))
  have HB := Lib.hid (k.bel HB_.out (Nat.le_refl _))
  have HR := Lib.hid (show RdB_ V2 Z p a from HR_.out.below (k.bel (Below.refl Z _) HZw.out))
  have HZ := Lib.hid (show Z ≤ V2.heap.size by rw [k.size]; exact HZ_.out)
  have O1' := Lib.hid (k.own O1_.out G0.out (by decide))
  have O2' := Lib.hid (O2.out.only k G0.out (by decide))
  clear k e0 hV2 s0 x0 y0 HRun G0 X1_ HB_ HR_ HZ_ O1_ O2
  have O1 := O1'
  clear O1'
  have O2 := O2'
  clear O2'
  have b3 := (Below.refl V2.heap.size V2).alloc (Nat.le_refl _) (.cells #[] 47)
  obtain ⟨B1, d1, W3, hrun, ho, hb⟩ := fresh_kps V2 Z a.B a.d p.kps HR.out.kps HZ.out hk
  have s0 : (V2.alloc (.cells #[] 47)).cell? ⟨w.heap.size, 19, none⟩ = some (.slice a.B p.kps.length a.d) := (X0.out.under b3).cell 19
  have g0 := X0.out.under hb
  have x0 : W3.cell? ⟨w.heap.size, 19, none⟩ = some (.slice a.B p.kps.length a.d) := g0.cell 19
  have y0 := g0.frozen 19
  have HRun := Lib.hid hrun
  have G0 := Lib.hid g0
  have O3 := Lib.hid ho
  have X1_ := Lib.hid (X1.out.under hb)
  have HB_ := Lib.hid (HB.out.trans (hb.mono HB.out.size))
  have HR_ := Lib.hid (HR.out.below (hb.mono HZ.out))
  have HZ_ := Lib.hid (Nat.le_trans HZ.out hb.size)
  have Sz3 := Lib.hid HB.out.size
  have O1_ := Lib.hid (own_under O1.out hb)
  have O2_ := Lib.hid (O2.out.under hb)
  clear hrun g0 ho hb b3 X0 X1 HB HR HZ O1 O2
  go_upto_region 4 with (at_builtin; refine wpList_app (by rfl) _ _ 26 rfl _ _ _ W3 (by rfl) (by rfl) HRun.out ?_)
  refine wpV (fun V3 hV3 => ?_)
  have k := Only.set W3 w.heap.size 19 (.slice B1 p.kps.length d1)
  have e0 := set19 G0.out B1 d1
  rw [hV3] at k e0
  have X0 := Lib.hid e0
  have X1 := Lib.hid (k.far X1_.out (by omega))
  have HB := Lib.hid (k.bel HB_.out (Nat.le_refl _))
  have HR := Lib.hid (show RdB_ V3 Z p a from HR_.out.below (k.bel (Below.refl Z _) HZw.out))
  have HZ := Lib.hid (show Z ≤ V3.heap.size by rw [k.size]; exact HZ_.out)
  have O1' := Lib.hid (k.own O1_.out G0.out (by decide))
  have O2' := Lib.hid (O2_.out.only k G0.out (by decide))
  have O3' := Lib.hid (O3.out.only k G0.out (by decide))
  clear k e0 hV3 s0 x0 y0 HRun G0 X1_ HB_ HR_ HZ_ O1_ O2_ O3
  have O1 := O1'
  clear O1'
  have O2 := O2'
  clear O2'
  have O3 := O3'
  clear O3'
  have HA : Hid ((brC p ⟨C1, e1, A1, c1, B1, d1⟩).all (·.oneCell') = true) := Lib.hid (brC_one _ _)
  go_wp2_with (first | refine wpList_load_row (by rfl) 30 _ rfl w.heap.size (by rfl) 30 _ (0, 0) _ X0.out Tryz.underlying30 rfl (by kernel_rfl) ?_ | refine wpList_store_row (by rfl) 30 _ _ rfl (w.heap.size + 1) (brC p ⟨C1, e1, A1, c1, B1, d1⟩) (by rfl) (by rfl) 30 _ X1.out (by kernel_rfl) rfl HA.out ?_)
  have hown : OwB w.heap.size V3 p ⟨C1, e1, A1, c1, B1, d1⟩ := ⟨own_weaker O1.out Sz1.out, O2.out.weaker Sz2.out, O3.out.weaker Sz3.out⟩
  exact brain_end (k := 2) rfl (by rfl) (setRow_heap _ _ _ _ _ _ X1.out) rfl ⟨⟨C1, e1, A1, c1, B1, d1⟩, rfl, hown.rowset X1.out (by decide) (by decide) (by decide) _, below_rowsetB HB.out (by omega) _⟩

end Go.Proofs.YtdaimejlcfhfiaaGreatDoor

/-
  The walks of 'Find' and 'Token' of package brain. Conditions: those that each theorem names.
-/
namespace Go.Proofs.YtdaimejlcfhfiaaGreatDoor
open Go.RowKit Go.Shelf

theorem findB_place (p : Br) (id : Int) : placeF (fun n => n == id) (p.kps.map Kp.id) = findB p id := by
  have e : (fun x : Kp => x.id == id) = fun x => decide (x.id = id) := by funext x; by_cases h : x.id = id <;> simp [h]
  unfold placeF findB
  rw [List.findIdx?_map]
  show (match p.kps.findIdx? (fun x => x.id == id) with | some i => (i : Int) | none => -1) = _
  rw [e]
  cases p.kps.findIdx? (fun x => decide (x.id = id)) <;> rfl
theorem tokenB_place (p : Br) (t : Int) : placeF (fun n => n == t) (p.its.map It.tok) = tokenB p t := by
  have e : (fun x : It => x.tok == t) = fun x => decide (x.tok = t) := by funext x; by_cases h : x.tok = t <;> simp [h]
  unfold placeF tokenB
  rw [List.findIdx?_map]
  show (match p.its.findIdx? (fun x => x.tok == t) with | some i => (i : Int) | none => -1) = _
  rw [e]
  cases p.its.findIdx? (fun x => decide (x.tok = t)) <;> rfl

theorem find1_any (n id : Int) (cb : Nat) (w : World) (hc : w.cell? ⟨cb, 0, none⟩ = some (.int .i64 id)) : Calls Tryz.prog 40 #[.int .i64 n, .pointer (some ⟨cb, 0, none⟩)] w (BoolPost (n == id) w) := by
  go_enter Tryz.func40, Tryz.ntmps40
  go_wp2_with fail
  go_ret
  exact ⟨rfl, Below.refl _ _⟩
theorem token1_any (n id : Int) (cb : Nat) (w : World) (hc : w.cell? ⟨cb, 0, none⟩ = some (.int .i64 id)) : Calls Tryz.prog 42 #[.int .i64 n, .pointer (some ⟨cb, 0, none⟩)] w (BoolPost (n == id) w) := by
  go_enter Tryz.func42, Tryz.ntmps42
  go_wp2_with fail
  go_ret
  exact ⟨rfl, Below.refl _ _⟩

/-- The iterator over the ids of a brain's Kept, in a world in which its post holds. -/
theorem kpSeq {A : Option Addr} {n c : Nat} {l : List Kp} {w : World} {b1 b2 : Nat} (hn : n ≤ 1000) (h1 : b1 < w.heap.size) (h2 : b2 < w.heap.size) (h3 : w.cell? ⟨b1, 0, none⟩ = some (.slice A n c)) (h4 : w.cell? ⟨b2, 0, none⟩ = some (.func (.func 63) #[] #[])) (hr : RdK w w.heap.size A n l) :
    SeqI 113 b1 b2 (l.map Kp.id) w :=
  ⟨h1, h2, fun m W hm hb => kpEach_stops m b1 b2 w.heap.size A n c l (by omega) hm h1 h2 W hb.size ((hb.cell (p := ⟨b1, 0, none⟩) h1).trans h3) ((hb.cell (p := ⟨b2, 0, none⟩) h2).trans h4) (hr.below hb)⟩
theorem itSeq {A : Option Addr} {n c : Nat} {l : List It} {w : World} {b1 b2 : Nat} (hn : n ≤ 1000) (h1 : b1 < w.heap.size) (h2 : b2 < w.heap.size) (h3 : w.cell? ⟨b1, 0, none⟩ = some (.slice A n c)) (h4 : w.cell? ⟨b2, 0, none⟩ = some (.func (.func 65) #[] #[])) (hr : RdI w w.heap.size A n l) :
    SeqI 114 b1 b2 (l.map It.tok) w :=
  ⟨h1, h2, fun m W hm hb => itEach_stops m b1 b2 w.heap.size A n c l (by omega) hm h1 h2 W hb.size ((hb.cell (p := ⟨b1, 0, none⟩) h1).trans h3) ((hb.cell (p := ⟨b2, 0, none⟩) h2).trans h4) (hr.below hb)⟩

set_option maxRecDepth 100000 in
set_option maxHeartbeats 1000000 in
theorem bfind_any (p : Br) (a : Ad) (id : Int) (Z : Nat) (w : World) (hr : RdB_ w Z p a) (hZ : Z ≤ w.heap.size) (hn : p.kps.length ≤ 1000) :
    Calls Tryz.prog 17 #[brV p a, .int .i64 id] w (IntPost (findB p id) w) := by
  have hmf : ∀ (fn : Fn) (first cap : Array Value) (w : World), (Instr.makeFunc fn first cap).run Tryz.prog w = .ok (.func fn first cap) w := fun _ _ _ _ => rfl
  obtain ⟨hb, w0, w1⟩ := two_new w 30 3 (brC p a) #[.int .i64 id]
  obtain ⟨V, hV⟩ : ∃ V, (w.alloc (.cells (brC p a) 30)).alloc (.cells #[.int .i64 id] 3) = V := ⟨_, rfl⟩
  rw [hV] at hb w0 w1
  have HR := Lib.hid ((hr.more hZ).up hb)
  have HB := Lib.hid hb
  have X0 := Lib.hid w0
  have X1 := Lib.hid (w1.cell 0)
  have L1 := Lib.hid w1.lt
  clear hb w0 w1 hr hZ
  go_enter Tryz.func17, Tryz.ntmps17
  go_wp2_with (refine wpList_load_row (by rfl) 30 _ rfl w.heap.size (by rfl) 30 _ (0, 0) _ X0.out Tryz.underlying30 rfl (by kernel_rfl) ?_)
  refine (ids_any p a V).mono ?_
  rintro e w2 ⟨b1, b2, rfl, h1, h2, h3, h4, hb2⟩
  have HS := Lib.hid (kpSeq (l := p.kps) hn h1 h2 h3 h4 ((HR.out.kps.below hb2).more hb2.size))
  have HB2 := Lib.hid (HB.out.trans (hb2.mono HB.out.size))
  have Hb2 := Lib.hid hb2
  clear h1 h2 h3 h4 hb2
  go_wp2_with fail
  refine (place_any 113 b1 b2 40 (w.heap.size + 1) (p.kps.map Kp.id) (fun n => n == id) w2 (enters_of Tryz.func113 (by kernel_rfl) rfl) (enters_of Tryz.func40 (by kernel_rfl) rfl) HS.out (by rw [List.length_map]; omega)
    (fun n W hW => find1_any n id _ W (((hW.mono Hb2.out.size).cell (p := ⟨w.heap.size + 1, 0, none⟩) L1.out).trans ((Hb2.out.cell (p := ⟨w.heap.size + 1, 0, none⟩) L1.out).trans X1.out)))).mono ?_
  rintro e w3 ⟨rfl, hb3⟩
  have HB3 := Lib.hid (HB2.out.trans (hb3.mono HB2.out.size))
  clear hb3
  rw [findB_place]
  go_wp2_with fail
  go_ret
  exact ⟨rfl, HB3.out⟩
set_option maxRecDepth 100000 in
set_option maxHeartbeats 1000000 in
theorem btoken_any (p : Br) (a : Ad) (id : Int) (Z : Nat) (w : World) (hr : RdB_ w Z p a) (hZ : Z ≤ w.heap.size) (hn : p.its.length ≤ 1000) :
    Calls Tryz.prog 19 #[brV p a, .int .i64 id] w (IntPost (tokenB p id) w) := by
  have hmf : ∀ (fn : Fn) (first cap : Array Value) (w : World), (Instr.makeFunc fn first cap).run Tryz.prog w = .ok (.func fn first cap) w := fun _ _ _ _ => rfl
  obtain ⟨hb, w0, w1⟩ := two_new w 30 3 (brC p a) #[.int .i64 id]
  obtain ⟨V, hV⟩ : ∃ V, (w.alloc (.cells (brC p a) 30)).alloc (.cells #[.int .i64 id] 3) = V := ⟨_, rfl⟩
  rw [hV] at hb w0 w1
  have HR := Lib.hid ((hr.more hZ).up hb)
  have HB := Lib.hid hb
  have X0 := Lib.hid w0
  have X1 := Lib.hid (w1.cell 0)
  have L1 := Lib.hid w1.lt
  clear hb w0 w1 hr hZ
  go_enter Tryz.func19, Tryz.ntmps19
  go_wp2_with (refine wpList_load_row (by rfl) 30 _ rfl w.heap.size (by rfl) 30 _ (0, 0) _ X0.out Tryz.underlying30 rfl (by kernel_rfl) ?_)
  refine (tokens_any p a V).mono ?_
  rintro e w2 ⟨b1, b2, rfl, h1, h2, h3, h4, hb2⟩
  have HS := Lib.hid (itSeq (l := p.its) hn h1 h2 h3 h4 ((HR.out.its.below hb2).more hb2.size))
  have HB2 := Lib.hid (HB.out.trans (hb2.mono HB.out.size))
  have Hb2 := Lib.hid hb2
  clear h1 h2 h3 h4 hb2
  go_wp2_with fail
  refine (place_any 114 b1 b2 42 (w.heap.size + 1) (p.its.map It.tok) (fun n => n == id) w2 (enters_of Tryz.func114 (by kernel_rfl) rfl) (enters_of Tryz.func42 (by kernel_rfl) rfl) HS.out (by rw [List.length_map]; omega)
    (fun n W hW => token1_any n id _ W (((hW.mono Hb2.out.size).cell (p := ⟨w.heap.size + 1, 0, none⟩) L1.out).trans ((Hb2.out.cell (p := ⟨w.heap.size + 1, 0, none⟩) L1.out).trans X1.out)))).mono ?_
  rintro e w3 ⟨rfl, hb3⟩
  have HB3 := Lib.hid (HB2.out.trans (hb3.mono HB2.out.size))
  clear hb3
  rw [tokenB_place]
  go_wp2_with fail
  go_ret
  exact ⟨rfl, HB3.out⟩

end Go.Proofs.YtdaimejlcfhfiaaGreatDoor
