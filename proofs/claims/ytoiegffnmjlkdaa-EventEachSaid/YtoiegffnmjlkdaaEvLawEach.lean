/-
  The walk of the statement EventEach: an event of one box changes no other one; all events one behind the other are as each. Conditions: those that each theorem names.
-/
import Derived.Test.YtoiegffnmjlkdaaEvWakes
import Derived.Test.YtoiegffnmjlkdaaEvPlain
import Derived.Test.YtoiegffnmjlkdaaEvDoReg
import Derived.Test.YtoiegffnmjlkdaaCdKit2
import Derived.Test.YtoiegffnmjlkdaaCdNeq
import Derived.BigQuiet
import Derived.Deep.DeepCutAuto
namespace Go.Proofs.Ytoiegffnmjlkdaa
open Go.RowKit Go.Shelf

set_option maxRecDepth 100000 in
set_option maxHeartbeats 8000000 in
theorem each_long (x : Cw) (A : Option Addr) (n c : Nat) (A2 : Option Addr) (m c2 : Nat) (w : World) (hr : RdX w w.heap.size A n x.l) (hm : (20 : Int) < (m : Int)) :
    Calls Try.prog 7 #[.agg #[.slice A n c, .int .i64 x.fl, .int .i64 x.dr, .int .i64 x.nw, .bool x.tg], .slice A2 m c2] w (TruePost w) := by
  have one := whole_one (W := w) (t := 24) (x := #[.slice A n c, .int .i64 x.fl, .int .i64 x.dr, .int .i64 x.nw, .bool x.tg])
  have C := Lib.hid one.1
  have R := Lib.hid (hr.up one.2)
  have B := Lib.hid one.2
  clear one hr
  have d0 : decide ((20 : Int) < (m : Int)) = true := decide_eq_true hm
  clear hm
  go_enter Try.func7, Try.ntmps7
  go_wp2_with fail
  refine (evWakes_any _).mono ?_
  rintro e y1 ⟨rfl, b⟩
  have C_ := Lib.hid (C.out.under b)
  have R_ := Lib.hid (R.out.up b)
  have B_ := Lib.hid (B.out.trans (b.mono B.out.size))
  clear C R B
  have C := C_
  have R := R_
  have B := B_
  clear C_ R_ B_
  clear b
  go_wp2_with fail
  go_ret
  exact ⟨rfl, B.out⟩

set_option maxRecDepth 100000 in
set_option maxHeartbeats 8000000 in
theorem each_wrong (x : Cw) (A : Option Addr) (n c : Nat) (A2 : Option Addr) (m c2 : Nat) (w : World) (hr : RdX w w.heap.size A n x.l) (hm : ¬ (20 : Int) < (m : Int)) (h : right x = false) :
    Calls Try.prog 7 #[.agg #[.slice A n c, .int .i64 x.fl, .int .i64 x.dr, .int .i64 x.nw, .bool x.tg], .slice A2 m c2] w (TruePost w) := by
  have one := whole_one (W := w) (t := 24) (x := #[.slice A n c, .int .i64 x.fl, .int .i64 x.dr, .int .i64 x.nw, .bool x.tg])
  have C := Lib.hid one.1
  have R := Lib.hid (hr.up one.2)
  have B := Lib.hid one.2
  clear one hr
  have d0 : decide ((20 : Int) < (m : Int)) = false := decide_eq_false hm
  clear hm
  have HRt := Lib.hid (rightL (l := x.l) (fl := x.fl) (dr := x.dr) (nw := x.nw) (tg := x.tg) (n := n) h)
  clear h
  go_enter Try.func7, Try.ntmps7
  have vC_0 := C.out.cell 0
  have vC_1 := C.out.cell 1
  have vC_2 := C.out.cell 2
  have vC_3 := C.out.cell 3
  have vC_4 := C.out.cell 4
  simp only [List.getElem?_toArray, List.getElem?_cons_zero, List.getElem?_cons_succ] at vC_0 vC_1 vC_2 vC_3 vC_4
  go_wp2_with fail
  refine (HRt.out _ _ _ R.out).mono ?_
  rintro e y1 ⟨rfl, b⟩
  clear vC_0 vC_1 vC_2 vC_3 vC_4
  have C_ := Lib.hid (C.out.under b)
  have R_ := Lib.hid (R.out.up b)
  have B_ := Lib.hid (B.out.trans (b.mono B.out.size))
  clear C R B
  have C := C_
  have R := R_
  have B := B_
  clear C_ R_ B_
  clear b HRt
  go_wp2_with fail
  refine (evWakes_any _).mono ?_
  rintro e y2 ⟨rfl, b⟩
  have C_ := Lib.hid (C.out.under b)
  have R_ := Lib.hid (R.out.up b)
  have B_ := Lib.hid (B.out.trans (b.mono B.out.size))
  clear C R B
  have C := C_
  have R := R_
  have B := B_
  clear C_ R_ B_
  clear b
  go_wp2_with fail
  go_ret
  exact ⟨rfl, B.out⟩

set_option maxRecDepth 100000 in
set_option maxHeartbeats 8000000 in
theorem each_on (x : Cw) (ls : List Ev) (A : Option Addr) (n c : Nat) (A2 : Option Addr) (m c2 : Nat) (w : World) (hr : RdX w w.heap.size A n x.l) (hq : RdE w w.heap.size A2 m ls) (hk : ∀ e ∈ ls, (Lit.int .u8 e.kind).wf = true) (hm : ¬ (20 : Int) < (m : Int)) (h : right x = true) :
    Calls Try.prog 7 #[.agg #[.slice A n c, .int .i64 x.fl, .int .i64 x.dr, .int .i64 x.nw, .bool x.tg], .slice A2 m c2] w (TruePost w) := by
  have one := whole_one (W := w) (t := 24) (x := #[.slice A n c, .int .i64 x.fl, .int .i64 x.dr, .int .i64 x.nw, .bool x.tg])
  have C := Lib.hid one.1
  have R := Lib.hid (hr.up one.2)
  have QQ := Lib.hid ((hq.below one.2).more one.2.size)
  have B := Lib.hid one.2
  have HQ0 := Lib.hid hq
  clear one hr hq
  have d0 : decide ((20 : Int) < (m : Int)) = false := decide_eq_false hm
  have hm20 : m ≤ 20 := by omega
  have HK := Lib.hid (And.intro hk (And.intro hm h))
  obtain ⟨a, ha⟩ : ∃ a, evsC x ls = a := ⟨_, rfl⟩
  obtain ⟨M, hM⟩ : ∃ M, a.l.length = M := ⟨_, rfl⟩
  have hn60 : n ≤ 60 := by have := right_few h; have := R.out.len; omega
  have hM60 : M ≤ 60 := by have := right_few (right_evs h ls); rw [ha] at this; omega
  have HAll := Lib.hid (fun W A c B cl hr hl => evAllL (l := x.l) (fl := x.fl) (dr := x.dr) (nw := x.nw) (tg := x.tg) (n := n) (L := a.l) (fl' := a.fl) (dr' := a.dr) (nw' := a.nw) (tg' := a.tg) (N := M) (m := m) (es := ls) ha hM hk (by omega) (by omega) W A c B cl hr hl)
  have HAx := Lib.hid (And.intro ha (And.intro hM hM60))
  clear hm hk ha hM hn60 hM60
  have HRt := Lib.hid (rightL (l := x.l) (fl := x.fl) (dr := x.dr) (nw := x.nw) (tg := x.tg) (n := n) (b := true) h)
  clear h
  go_enter Try.func7, Try.ntmps7
  have vC_0 := C.out.cell 0
  have vC_1 := C.out.cell 1
  have vC_2 := C.out.cell 2
  have vC_3 := C.out.cell 3
  have vC_4 := C.out.cell 4
  simp only [List.getElem?_toArray, List.getElem?_cons_zero, List.getElem?_cons_succ] at vC_0 vC_1 vC_2 vC_3 vC_4
  go_wp2_with fail
  refine (HRt.out _ _ _ R.out).mono ?_
  rintro e y1 ⟨rfl, b⟩
  clear vC_0 vC_1 vC_2 vC_3 vC_4
  have C_ := Lib.hid (C.out.under b)
  have R_ := Lib.hid (R.out.up b)
  have QQ_ := Lib.hid ((QQ.out.below b).more b.size)
  have B_ := Lib.hid (B.out.trans (b.mono B.out.size))
  clear C R QQ B
  have C := C_
  have R := R_
  have QQ := QQ_
  have B := B_
  clear C_ R_ QQ_ B_
  clear b HRt
  have vC_0 := C.out.cell 0
  have vC_1 := C.out.cell 1
  have vC_2 := C.out.cell 2
  have vC_3 := C.out.cell 3
  have vC_4 := C.out.cell 4
  simp only [List.getElem?_toArray, List.getElem?_cons_zero, List.getElem?_cons_succ] at vC_0 vC_1 vC_2 vC_3 vC_4
  go_wp2_with fail
  refine (HAll.out _ _ _ _ _ R.out QQ.out).mono ?_
  rintro e y2 ⟨A5, c5, rfl, r5, b⟩
  clear vC_0 vC_1 vC_2 vC_3 vC_4
  have C_ := Lib.hid (C.out.under b)
  have R_ := Lib.hid (R.out.up b)
  have QQ_ := Lib.hid ((QQ.out.below b).more b.size)
  have B_ := Lib.hid (B.out.trans (b.mono B.out.size))
  clear C R QQ B
  have C := C_
  have R := R_
  have QQ := QQ_
  have B := B_
  clear C_ R_ QQ_ B_
  clear b HAll
  have r5_ := Lib.hid r5
  clear r5
  have r5 := r5_
  clear r5_
  have hgC := Lib.hid C.out.lt
  have one := whole_one (W := y2) (t := 24) (x := #[.slice A5 M c5, .int .i64 a.fl, .int .i64 a.dr, .int .i64 a.nw, .bool a.tg])
  have C_ := Lib.hid (C.out.under one.2)
  have R_ := Lib.hid (R.out.up one.2)
  have QQ_ := Lib.hid ((QQ.out.below one.2).more one.2.size)
  have B_ := Lib.hid (B.out.trans (one.2.mono B.out.size))
  have r5_ := Lib.hid (r5.out.up one.2)
  clear C R QQ B r5
  have C := C_
  have R := R_
  have QQ := QQ_
  have B := B_
  have r5 := r5_
  clear C_ R_ QQ_ B_ r5_
  have E := Lib.hid one.1
  clear one
  obtain ⟨ga, hga⟩ : ∃ ga, y2.heap.size = ga := ⟨_, rfl⟩
  rw [hga] at hgC E
  go_wp2_with fail
  go_loopw [6] (fun i wr => ∃ (j N : Nat) (A' : Option Addr) (c' : Nat) (y : Cw), i = .int .i64 (j : Int) ∧ j ≤ m ∧ evsC x (ls.take j) = y ∧ Whole wr w.heap.size 24 #[.slice A' N c', .int .i64 y.fl, .int .i64 y.dr, .int .i64 y.nw, .bool y.tg] ∧ Whole wr ga 24 #[.slice A5 M c5, .int .i64 a.fl, .int .i64 a.dr, .int .i64 a.nw, .bool a.tg] ∧ RdX wr wr.heap.size A' N y.l ∧ RdX wr wr.heap.size A5 M a.l ∧ RdE wr wr.heap.size A2 m ls ∧ Below w.heap.size w wr) (fun i _ => m - (intOf i).toNat)
  case atStart => exact ⟨0, n, A, c, x, rfl, Nat.zero_le _, rfl, C.out, E.out, R.out, r5.out, QQ.out, B.out⟩
  case round =>
    clear C E R r5 QQ B hga
    obtain ⟨j, N, A', c', y, rfl, hj, hy, C, E, R, r5, QQ, B⟩ := hrel
    have C_ := Lib.hid C
    clear C
    have C := C_
    clear C_
    have E_ := Lib.hid E
    clear E
    have E := E_
    clear E_
    have R_ := Lib.hid R
    clear R
    have R := R_
    clear R_
    have r5_ := Lib.hid r5
    clear r5
    have r5 := r5_
    clear r5_
    have QQ_ := Lib.hid QQ
    clear QQ
    have QQ := QQ_
    clear QQ_
    have B_ := Lib.hid B
    clear B
    have B := B_
    clear B_
    have hR : right y = true := by rw [← hy]; exact right_evs HK.out.2.2 _
    rcases Nat.lt_or_eq_of_le hj with hlt | hjm
    ·
      have hji : (j : Int) < (m : Int) := by omega
      have hj40 : (j : Int) ≤ 40 := by omega
      obtain ⟨e, he⟩ : ∃ e, ls[j]? = some e := ⟨_, List.getElem?_eq_getElem (by have := QQ.out.len; omega)⟩
      have hke := HK.out.1 e (List.mem_of_getElem? he)
      obtain ⟨bb, off, e3, hbl, hc⟩ := QQ.out.2 (by omega)
      subst e3
      have QA := Lib.hid (show EvB wr bb (off + j * 3) e from ⟨hbl, hc j e he⟩)
      obtain ⟨z, hdo⟩ : ∃ z, evC y e = z := ⟨_, rfl⟩
      have hy2 : evsC x (ls.take (j + 1)) = z := by rw [evsC_take he, hy, hdo]
      have hD := evd hR e
      have hRz := right_ev hR e
      rw [hdo] at hD hRz
      obtain ⟨N', hN'⟩ : ∃ N', z.l.length = N' := ⟨_, rfl⟩
      have hyl := R.out.len
      have hN60 : N ≤ 60 := by have := right_few hR; omega
      have hN60' : N' ≤ 60 := by have := right_few hRz; omega
      have hgl := evd_len hD
      have HD1 := Lib.hid (fun W A c hr => evDoL (l := y.l) (fl := y.fl) (dr := y.dr) (nw := y.nw) (tg := y.tg) (n := N) (L := z.l) (fl' := z.fl) (dr' := z.dr) (nw' := z.nw) (tg' := z.tg) hdo hN' hke (by omega) W A c hr)
      have HF := Lib.hid (And.intro hlt (And.intro hN60 (And.intro hN60' (And.intro hgl (And.intro hyl (And.intro hN' hy2))))))
      have HDd := Lib.hid hD
      have dA : decide (N' < N) = false := decide_eq_false (by omega)
      clear hRz hR hdo hN60 hN60' hN' hD hgl hyl he hke hc hbl hlt hj hy hy2
      have vC_0 := C.out.cell 0
      have vC_1 := C.out.cell 1
      have vC_2 := C.out.cell 2
      have vC_3 := C.out.cell 3
      have vC_4 := C.out.cell 4
      simp only [List.getElem?_toArray, List.getElem?_cons_zero, List.getElem?_cons_succ] at vC_0 vC_1 vC_2 vC_3 vC_4
      go_wp2_with fail
      clear vC_0 vC_1 vC_2 vC_3 vC_4
      refine de_region rfl (by kernel_rfl) ⟨_, rfl, rfl, rfl, rfl, rfl, by kernel_rfl⟩ ⟨_, rfl, rfl, rfl, rfl, rfl, by kernel_rfl⟩ ⟨_, rfl, rfl, rfl, rfl, rfl, by kernel_rfl⟩ ⟨_, rfl, rfl, rfl, rfl, rfl, by kernel_rfl⟩ ⟨_, rfl, rfl, rfl, rfl, rfl, by kernel_rfl⟩ ⟨_, rfl, rfl, rfl, rfl, rfl, by kernel_rfl⟩ ⟨_, rfl, rfl, rfl, rfl, rfl, by kernel_rfl⟩ ⟨_, rfl, rfl, rfl, rfl, rfl, by kernel_rfl⟩ _ _ A' N c' y.fl y.dr y.nw y.tg bb off m c2 j e N' z.l z.fl z.dr z.nw z.tg w.heap.size ?ds rfl rfl rfl C.out QA.out hji (fun W hW => HD1.out W _ _ (R.out.up hW)) ?fin
      case ds =>
        intro d hd
        simp only [deDs, List.mem_cons, List.not_mem_nil, or_false] at hd
        rcases hd with rfl | rfl | rfl | rfl | rfl | rfl | rfl <;> simp
      case fin =>
        rintro σ y3 A3 c3 g s7 hg RD D b
        simp only [deDs, lay, List.foldl_cons, List.foldl_nil, Act.put, List.setIfInBounds_toArray, List.set_cons_zero, List.set_cons_succ]
        rw [s7]
        clear s7 HD1
        have hgt := Lib.hid (And.intro (Nat.lt_of_lt_of_le C.out.lt hg) (Nat.lt_of_lt_of_le E.out.lt hg))
        clear hg
        have C_ := Lib.hid (C.out.under b)
        have E_ := Lib.hid (E.out.under b)
        have R_ := Lib.hid (R.out.up b)
        have r5_ := Lib.hid (r5.out.up b)
        have QQ_ := Lib.hid ((QQ.out.below b).more b.size)
        have B_ := Lib.hid (B.out.trans (b.mono B.out.size))
        have QA_ := Lib.hid (QA.out.under b)
        clear C E R r5 QQ B QA
        have C := C_
        have E := E_
        have R := R_
        have r5 := r5_
        have QQ := QQ_
        have B := B_
        have QA := QA_
        clear C_ E_ R_ r5_ QQ_ B_ QA_
        clear b
        have D_ := Lib.hid D
        clear D
        have D := D_
        clear D_
        have RD_ := Lib.hid RD
        clear RD
        have RD := RD_
        clear RD_
        go_upto_region 8 with fail
        go_cut [91] (fun s wx => s = .bool false ∧ Below y3.heap.size y3 wx)
        case first =>
          have vD_0 := D.out.cell 0
          have vD_1 := D.out.cell 1
          have vD_2 := D.out.cell 2
          have vD_3 := D.out.cell 3
          have vD_4 := D.out.cell 4
          simp only [List.getElem?_toArray, List.getElem?_cons_zero, List.getElem?_cons_succ] at vD_0 vD_1 vD_2 vD_3 vD_4
          have vC_0 := C.out.cell 0
          have vC_1 := C.out.cell 1
          have vC_2 := C.out.cell 2
          have vC_3 := C.out.cell 3
          have vC_4 := C.out.cell 4
          simp only [List.getElem?_toArray, List.getElem?_cons_zero, List.getElem?_cons_succ] at vC_0 vC_1 vC_2 vC_3 vC_4
          obtain ⟨v0, v1, v2⟩ := QA.out.2
          clear v1 v2 HAx
          have htg := evd_tg HDd.out
          have hfl := evd_fl HDd.out
          have hnw := evd_nw HDd.out
          clear HDd
          rcases (by omega : e.kind = 4 ∨ e.kind = 5 ∨ e.kind = 6 ∨ (e.kind ≠ 4 ∧ e.kind ≠ 5 ∧ e.kind ≠ 6)) with k | k | k | k
          ·
            have t1 : (z.tg == y.tg) = false := by rw [htg, if_pos k]; cases y.tg <;> rfl
            have t2 : (z.tg != y.tg) = true := by rw [htg, if_pos k]; cases y.tg <;> rfl
            have k4 : (e.kind == 4) = true := by rw [k]; rfl
            obtain ⟨f1, f2⟩ := hfl (by omega)
            have p1 : (z.fl != y.fl) = false := by simp [f1]
            have p2 : (z.dr != y.dr) = false := by simp [f2]
            have p3 : (z.nw != y.nw) = false := by have := hnw.2.2 (by omega); simp [this]
            clear htg hfl hnw f1 f2 k
            go_quiet (fail)
            go_wp2_with fail
            go_meet
            exact ⟨rfl, below_drewN (Below.refl _ _) nq⟩
          ·
            have t1 : (z.tg == y.tg) = true := by rw [htg, if_neg (by omega)]; simp
            have t2 : (z.tg != y.tg) = false := by rw [htg, if_neg (by omega)]; simp
            have k4 : (e.kind == 4) = false := by rw [beq_eq_false_iff_ne]; omega
            obtain ⟨f1, f2⟩ := hfl (by omega)
            have p1 : (z.fl != y.fl) = false := by simp [f1]
            have p2 : (z.dr != y.dr) = false := by simp [f2]
            have k5 : (e.kind != 5) = false := by rw [k]; rfl
            clear htg hfl hnw f1 f2 k
            cases p3 : (z.nw != y.nw)
            ·
              skip
              go_quiet (fail)
              go_wp2_with fail
              go_meet
              exact ⟨rfl, below_drewN (Below.refl _ _) nq⟩
            ·
              skip
              go_quiet (fail)
              go_wp2_with fail
              go_meet
              exact ⟨rfl, below_drewN (Below.refl _ _) nq⟩
          ·
            have t1 : (z.tg == y.tg) = true := by rw [htg, if_neg (by omega)]; simp
            have t2 : (z.tg != y.tg) = false := by rw [htg, if_neg (by omega)]; simp
            have k4 : (e.kind == 4) = false := by rw [beq_eq_false_iff_ne]; omega
            have p3 : (z.nw != y.nw) = false := by have := hnw.2.2 (by omega); simp [this]
            have k6 : (e.kind != 6) = false := by rw [k]; rfl
            clear htg hfl hnw k
            cases p1 : (z.fl != y.fl)
            ·
              cases p2 : (z.dr != y.dr)
              ·
                skip
                go_quiet (fail)
                go_wp2_with fail
                go_meet
                exact ⟨rfl, below_drewN (Below.refl _ _) nq⟩
              ·
                skip
                go_quiet (fail)
                go_wp2_with fail
                go_meet
                exact ⟨rfl, below_drewN (Below.refl _ _) nq⟩
            ·
              skip
              go_quiet (fail)
              go_wp2_with fail
              go_meet
              exact ⟨rfl, below_drewN (Below.refl _ _) nq⟩
          ·
            have t1 : (z.tg == y.tg) = true := by rw [htg, if_neg (by omega)]; simp
            have t2 : (z.tg != y.tg) = false := by rw [htg, if_neg (by omega)]; simp
            have k4 : (e.kind == 4) = false := by rw [beq_eq_false_iff_ne]; omega
            obtain ⟨f1, f2⟩ := hfl (by omega)
            have p1 : (z.fl != y.fl) = false := by simp [f1]
            have p2 : (z.dr != y.dr) = false := by simp [f2]
            have p3 : (z.nw != y.nw) = false := by have := hnw.2.2 (by omega); simp [this]
            clear htg hfl hnw f1 f2 k
            go_quiet (fail)
            go_wp2_with fail
            go_meet
            exact ⟨rfl, below_drewN (Below.refl _ _) nq⟩
        case rest =>
          obtain ⟨rfl, b⟩ := hcut
          have C_ := Lib.hid (C.out.under b)
          have E_ := Lib.hid (E.out.under b)
          have R_ := Lib.hid (R.out.up b)
          have r5_ := Lib.hid (r5.out.up b)
          have QQ_ := Lib.hid ((QQ.out.below b).more b.size)
          have B_ := Lib.hid (B.out.trans (b.mono B.out.size))
          have QA_ := Lib.hid (QA.out.under b)
          have D_ := Lib.hid (D.out.under b)
          have RD_ := Lib.hid (RD.out.up b)
          clear C E R r5 QQ B QA D RD
          have C := C_
          have E := E_
          have R := R_
          have r5 := r5_
          have QQ := QQ_
          have B := B_
          have QA := QA_
          have D := D_
          have RD := RD_
          clear C_ E_ R_ r5_ QQ_ B_ QA_ D_ RD_
          clear b dA
          go_wp2_with fail
          go_loopw [8] (fun i wr => ∃ k : Nat, i = .int .i64 (k : Int) ∧ k ≤ N ∧ Whole wr w.heap.size 24 #[.slice A' N c', .int .i64 y.fl, .int .i64 y.dr, .int .i64 y.nw, .bool y.tg] ∧ Whole wr g 24 #[.slice A3 N' c3, .int .i64 z.fl, .int .i64 z.dr, .int .i64 z.nw, .bool z.tg] ∧ Whole wr ga 24 #[.slice A5 M c5, .int .i64 a.fl, .int .i64 a.dr, .int .i64 a.nw, .bool a.tg] ∧ RdX wr wr.heap.size A' N y.l ∧ RdX wr wr.heap.size A3 N' z.l ∧ RdX wr wr.heap.size A5 M a.l ∧ RdE wr wr.heap.size (some ⟨bb, off, none⟩) m ls ∧ EvB wr bb (off + j * 3) e ∧ Below w.heap.size w wr) (fun i _ => N - (intOf i).toNat)
          case atStart => exact ⟨0, rfl, Nat.zero_le _, C.out, D.out, E.out, R.out, RD.out, r5.out, QQ.out, QA.out, B.out⟩
          case round =>
            clear C D E R RD r5 QQ QA B
            obtain ⟨k, rfl, hk, C, D, E, R, RD, r5, QQ, QA, B⟩ := hrel
            have C_ := Lib.hid C
            clear C
            have C := C_
            clear C_
            have D_ := Lib.hid D
            clear D
            have D := D_
            clear D_
            have E_ := Lib.hid E
            clear E
            have E := E_
            clear E_
            have R_ := Lib.hid R
            clear R
            have R := R_
            clear R_
            have RD_ := Lib.hid RD
            clear RD
            have RD := RD_
            clear RD_
            have r5_ := Lib.hid r5
            clear r5
            have r5 := r5_
            clear r5_
            have QQ_ := Lib.hid QQ
            clear QQ
            have QQ := QQ_
            clear QQ_
            have QA_ := Lib.hid QA
            clear QA
            have QA := QA_
            clear QA_
            have B_ := Lib.hid B
            clear B
            have B := B_
            clear B_
            rcases Nat.lt_or_eq_of_le hk with hlt | hkn
            ·
              have hki : (k : Int) < (N : Int) := by omega
              obtain ⟨hlt2, hN60, hN60', hgl, hyl, hN', hy3⟩ := HF.out
              have hkN : (k : Int) < (N' : Int) := by omega
              have hk60 : (k : Int) ≤ 60 := by omega
              obtain ⟨u, hu⟩ : ∃ u, y.l[k]? = some u := ⟨_, List.getElem?_eq_getElem (by omega)⟩
              obtain ⟨v, hv, hor⟩ : ∃ v, z.l[k]? = some v ∧ (v = u ∨ e.kind = 5 ∨ ((e.kind = 1 ∨ e.kind = 2) ∧ u.id = e.a)) := (evd_at HDd.out hu).elim fun v h => ⟨v, h.1, h.2.2.2.2.2.2.2⟩
              obtain ⟨b1, o1, rfl, hb1, hc1⟩ := R.out.2 (by omega)
              obtain ⟨b2, o2, rfl, hb2, hc2⟩ := RD.out.2 (by omega)
              have hu11 := Lib.hid (hc1 k u hu)
              have hv11 := Lib.hid (hc2 k v hv)
              have HLt := Lib.hid hlt
              have HOr := Lib.hid hor
              obtain ⟨on, hon⟩ : ∃ on, ((e.kind == 1) || (e.kind == 2)) = on := ⟨_, rfl⟩
              have HOn : Hid (e.kind = 1 ∨ e.kind = 2 → on = true) := Lib.hid (by rw [← hon]; rintro (h | h) <;> simp [h])
              clear hlt2 hN60 hN60' hgl hyl hN' hy3 hu hv hor hc1 hc2 hb1 hb2 hlt hk
              have vC_0 := C.out.cell 0
              simp only [List.getElem?_toArray, List.getElem?_cons_zero] at vC_0
              go_upto_region 13 with fail
              clear vC_0
              go_cut [9] (fun s wx => s = .bool on ∧ wx = wr)
              case first =>
                obtain ⟨v0, v1, v2⟩ := QA.out.2
                clear v1 v2 HOr HOn HDd HAx
                cases k1 : (e.kind == 1)
                ·
                  rw [k1, Bool.false_or] at hon
                  go_wp2_with fail
                  go_meet
                  exact ⟨rfl, rfl⟩
                ·
                  rw [k1, Bool.true_or] at hon
                  subst hon
                  go_wp2_with fail
                  go_meet
                  exact ⟨rfl, rfl⟩
              case rest =>
                obtain ⟨rfl, hwx⟩ := hcut
                have hwy := hwx.symm
                subst hwy
                clear hwx hon
                go_upto_region 14 with fail
                go_cut [149] (fun s wx => s = .bool false ∧ Below wr.heap.size wr wx)
                case first =>
                  have vC_0 := C.out.cell 0
                  simp only [List.getElem?_toArray, List.getElem?_cons_zero] at vC_0
                  have vD_0 := D.out.cell 0
                  simp only [List.getElem?_toArray, List.getElem?_cons_zero] at vD_0
                  obtain ⟨b0, b1_, b2_, b3, b4, b5, b6, b7, b8, b9, b10⟩ := hu11.out
                  obtain ⟨k0, k1, k2, k3, k4, k5, k6, k7, k8, k9, k10⟩ := hv11.out
                  obtain ⟨v0, v1, v2⟩ := QA.out.2
                  clear v2 HDd HAx
                  by_cases huv : u = v
                  ·
                    clear HOr HOn
                    subst huv
                    go_quiet (fail)
                    go_wp2_with fail
                    go_meet
                    exact ⟨rfl, below_drewN (Below.refl _ _) nq⟩
                  ·
                    have HNe := Lib.hid (show (!decide (u = v)) = true by rw [decide_eq_false huv]; rfl)
                    rcases HOr.out.resolve_left (fun h => huv h.symm) with k5_ | ⟨k12, kid⟩
                    ·
                      have e5 : (e.kind != 5) = false := by rw [k5_]; rfl
                      clear HOr HOn k5_ huv
                      refine wp_region_quiet_lit (by kernel_rfl) (by kernel_rfl) ?_
                      repeat (go_big_quiet_step (fail))
                      refine wpQuiet_neqBx u v true (by rfl) rfl (by rfl) (by rfl) HNe.out ?_
                      simp only [Act.put, List.setIfInBounds_toArray, List.set_cons_zero, List.set_cons_succ]
                      repeat (go_big_quiet_step (fail))
                      refine wpQuiet_nil ?_
                      intro _ hw9
                      obtain ⟨nq, hw8⟩ := hw9
                      subst hw8
                      go_wp2_with fail
                      go_meet
                      exact ⟨rfl, below_drewN (Below.refl _ _) nq⟩
                    ·
                      have e5 : (e.kind != 5) = true := by rw [bne_iff_ne]; omega
                      have ed : (u.id != e.a) = false := by simp [kid]
                      have eon := HOn.out k12
                      subst eon
                      clear HOr HOn k12 kid huv
                      refine wp_region_quiet_lit (by kernel_rfl) (by kernel_rfl) ?_
                      repeat (go_big_quiet_step (fail))
                      refine wpQuiet_neqBx u v true (by rfl) rfl (by rfl) (by rfl) HNe.out ?_
                      simp only [Act.put, List.setIfInBounds_toArray, List.set_cons_zero, List.set_cons_succ]
                      repeat (go_big_quiet_step (fail))
                      refine wpQuiet_nil ?_
                      intro _ hw9
                      obtain ⟨nq, hw8⟩ := hw9
                      subst hw8
                      go_wp2_with fail
                      go_meet
                      exact ⟨rfl, below_drewN (Below.refl _ _) nq⟩
                case rest =>
                  obtain ⟨rfl, b⟩ := hcut
                  clear hu11 hv11 HOr HOn
                  have C_ := Lib.hid (C.out.under b)
                  have D_ := Lib.hid (D.out.under b)
                  have E_ := Lib.hid (E.out.under b)
                  have R_ := Lib.hid (R.out.up b)
                  have RD_ := Lib.hid (RD.out.up b)
                  have r5_ := Lib.hid (r5.out.up b)
                  have QQ_ := Lib.hid ((QQ.out.below b).more b.size)
                  have QA_ := Lib.hid (QA.out.under b)
                  have B_ := Lib.hid (B.out.trans (b.mono B.out.size))
                  clear C D E R RD r5 QQ QA B
                  have C := C_
                  have D := D_
                  have E := E_
                  have R := R_
                  have RD := RD_
                  have r5 := r5_
                  have QQ := QQ_
                  have QA := QA_
                  have B := B_
                  clear C_ D_ E_ R_ RD_ r5_ QQ_ QA_ B_
                  clear b
                  go_wp2_with fail
                  go_roundw
                  case rel => exact ⟨k + 1, by go_num, HLt.out, C.out, D.out, E.out, R.out, RD.out, r5.out, QQ.out, QA.out, B.out⟩
                  case measure => have := HLt.out; simp [intOf]; omega
            ·
              subst hkn
              clear hk HDd
              have vC_0 := C.out.cell 0
              have vC_1 := C.out.cell 1
              have vC_2 := C.out.cell 2
              have vC_3 := C.out.cell 3
              have vC_4 := C.out.cell 4
              simp only [List.getElem?_toArray, List.getElem?_cons_zero, List.getElem?_cons_succ] at vC_0 vC_1 vC_2 vC_3 vC_4
              have vD_0 := D.out.cell 0
              have vD_1 := D.out.cell 1
              have vD_2 := D.out.cell 2
              have vD_3 := D.out.cell 3
              have vD_4 := D.out.cell 4
              simp only [List.getElem?_toArray, List.getElem?_cons_zero, List.getElem?_cons_succ] at vD_0 vD_1 vD_2 vD_3 vD_4
              have g0 := C.out.frozen 0
              have g1 := C.out.frozen 1
              have g2 := C.out.frozen 2
              have g3 := C.out.frozen 3
              have g4 := C.out.frozen 4
              have hlt := HF.out.1
              have hy2 := HF.out.2.2.2.2.2.2
              have HLt := Lib.hid hlt
              have HY := Lib.hid hy2
              clear HF hlt hy2
              go_wp2_with fail
              go_roundw
              case rel =>
                have kp := kept5 C.out (.slice A3 N' c3) (.int .i64 z.fl) (.int .i64 z.dr) (.int .i64 z.nw) (.bool z.tg)
                have bel := kp.2.bel _ _ (Nat.le_refl _) B.out
                exact ⟨j + 1, N', A3, c3, z, by go_num, HLt.out, HY.out, kp.1, kp.2.far _ _ _ (by have := hgC.out; omega) E.out, kp.2.rows _ _ _ RD.out, kp.2.rows _ _ _ r5.out, (HQ0.out.below bel).more bel.size, bel⟩
              case measure => have := HLt.out; simp [intOf]; omega
    ·
      subst hjm
      have hya : y = a := by rw [← hy, ← HAx.out.1, List.take_of_length_le (by rw [QQ.out.len]; exact Nat.le_refl _)]
      subst hya
      obtain rfl : N = M := by rw [← HAx.out.2.1]; exact R.out.len.symm
      have HSa := Lib.hid (fun W A c A' c' hr hr' => sameL2 (l := y.l) (l' := y.l) (fl := y.fl) (dr := y.dr) (nw := y.nw) (tg := y.tg) (fl' := y.fl) (dr' := y.dr) (nw' := y.nw) (tg' := y.tg) (n := N) (N := N) (b := true) (sameCw_refl (x := y)) (by have := HAx.out.2.2; omega) W A c A' c' hr hr')
      clear hj hR hy
      have vC_0 := C.out.cell 0
      have vC_1 := C.out.cell 1
      have vC_2 := C.out.cell 2
      have vC_3 := C.out.cell 3
      have vC_4 := C.out.cell 4
      simp only [List.getElem?_toArray, List.getElem?_cons_zero, List.getElem?_cons_succ] at vC_0 vC_1 vC_2 vC_3 vC_4
      have vE_0 := E.out.cell 0
      have vE_1 := E.out.cell 1
      have vE_2 := E.out.cell 2
      have vE_3 := E.out.cell 3
      have vE_4 := E.out.cell 4
      simp only [List.getElem?_toArray, List.getElem?_cons_zero, List.getElem?_cons_succ] at vE_0 vE_1 vE_2 vE_3 vE_4
      go_wp2_with fail
      refine (HSa.out _ _ _ _ _ r5.out R.out).mono ?_
      rintro e y3 ⟨rfl, b⟩
      clear vC_0 vC_1 vC_2 vC_3 vC_4 vE_0 vE_1 vE_2 vE_3 vE_4
      have C_ := Lib.hid (C.out.under b)
      have E_ := Lib.hid (E.out.under b)
      have R_ := Lib.hid (R.out.up b)
      have r5_ := Lib.hid (r5.out.up b)
      have QQ_ := Lib.hid ((QQ.out.below b).more b.size)
      have B_ := Lib.hid (B.out.trans (b.mono B.out.size))
      clear C E R r5 QQ B
      have C := C_
      have E := E_
      have R := R_
      have r5 := r5_
      have QQ := QQ_
      have B := B_
      clear C_ E_ R_ r5_ QQ_ B_
      clear b HSa
      go_wp2_with fail
      refine (evWakes_any _).mono ?_
      rintro e y4 ⟨rfl, b⟩
      have C_ := Lib.hid (C.out.under b)
      have E_ := Lib.hid (E.out.under b)
      have R_ := Lib.hid (R.out.up b)
      have r5_ := Lib.hid (r5.out.up b)
      have QQ_ := Lib.hid ((QQ.out.below b).more b.size)
      have B_ := Lib.hid (B.out.trans (b.mono B.out.size))
      clear C E R r5 QQ B
      have C := C_
      have E := E_
      have R := R_
      have r5 := r5_
      have QQ := QQ_
      have B := B_
      clear C_ E_ R_ r5_ QQ_ B_
      clear b
      go_wp2_with fail
      go_ret
      exact ⟨rfl, B.out⟩

theorem eventEach_any (x : Cw) (ls : List Ev) (A : Option Addr) (n c : Nat) (A2 : Option Addr) (m c2 : Nat) (w : World) (hr : RdX w w.heap.size A n x.l) (hq : RdE w w.heap.size A2 m ls) (hk : ∀ e ∈ ls, (Lit.int .u8 e.kind).wf = true) :
    Calls Try.prog 7 #[.agg #[.slice A n c, .int .i64 x.fl, .int .i64 x.dr, .int .i64 x.nw, .bool x.tg], .slice A2 m c2] w (TruePost w) := by
  by_cases hm : (20 : Int) < (m : Int)
  · exact each_long x A n c A2 m c2 w hr hm
  · cases h : right x with
    | false => exact each_wrong x A n c A2 m c2 w hr hm h
    | true => exact each_on x ls A n c A2 m c2 w hr hq hk hm h

end Go.Proofs.Ytoiegffnmjlkdaa
