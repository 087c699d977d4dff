/-
  The walk of the statement EventRight: a cloud that may be may be behind whatever happens; H falls by what may let it fall alone, and by at most one. Conditions: those that each theorem names.
-/
import Derived.Test.YtoiegffnmjlkdaaEvWakes
import Derived.Test.YtoiegffnmjlkdaaEvPlain
import Derived.Test.YtoiegffnmjlkdaaEvDoReg
import Derived.Test.YtoiegffnmjlkdaaEvRightReg
import Derived.Test.YtoiegffnmjlkdaaCdKit2
import Derived.BigQuiet
import Derived.Deep.DeepCutAuto
namespace Go.Proofs.Ytoiegffnmjlkdaa
open Go.RowKit Go.Shelf

set_option maxRecDepth 100000 in
set_option maxHeartbeats 8000000 in
theorem right_long (x : Cw) (A : Option Addr) (n c : Nat) (A2 : Option Addr) (m c2 : Nat) (w : World) (hr : RdX w w.heap.size A n x.l) (hm : (40 : Int) < (m : Int)) :
    Calls Try.prog 4 #[.agg #[.slice A n c, .int .i64 x.fl, .int .i64 x.dr, .int .i64 x.nw, .bool x.tg], .slice A2 m c2] w (TruePost w) := by
  have one := whole_one (W := w) (t := 24) (x := #[.slice A n c, .int .i64 x.fl, .int .i64 x.dr, .int .i64 x.nw, .bool x.tg])
  have C := Lib.hid one.1
  have R := Lib.hid (hr.up one.2)
  have B := Lib.hid one.2
  clear one hr
  have d0 : decide ((40 : Int) < (m : Int)) = true := decide_eq_true hm
  clear hm
  go_enter Try.func4, Try.ntmps4
  go_wp2_with fail
  refine (evWakes_any _).mono ?_
  rintro e y1 ⟨rfl, b⟩
  have C_ := Lib.hid (C.out.under b)
  have R_ := Lib.hid (R.out.up b)
  have B_ := Lib.hid (B.out.trans (b.mono B.out.size))
  clear C R B
  have C := C_
  have R := R_
  have B := B_
  clear C_ R_ B_
  clear b
  go_wp2_with fail
  go_ret
  exact ⟨rfl, B.out⟩

set_option maxRecDepth 100000 in
set_option maxHeartbeats 8000000 in
theorem right_wrong (x : Cw) (A : Option Addr) (n c : Nat) (A2 : Option Addr) (m c2 : Nat) (w : World) (hr : RdX w w.heap.size A n x.l) (hm : ¬ (40 : Int) < (m : Int)) (h : right x = false) :
    Calls Try.prog 4 #[.agg #[.slice A n c, .int .i64 x.fl, .int .i64 x.dr, .int .i64 x.nw, .bool x.tg], .slice A2 m c2] w (TruePost w) := by
  have one := whole_one (W := w) (t := 24) (x := #[.slice A n c, .int .i64 x.fl, .int .i64 x.dr, .int .i64 x.nw, .bool x.tg])
  have C := Lib.hid one.1
  have R := Lib.hid (hr.up one.2)
  have B := Lib.hid one.2
  clear one hr
  have d0 : decide ((40 : Int) < (m : Int)) = false := decide_eq_false hm
  clear hm
  have HRt := Lib.hid (rightL (l := x.l) (fl := x.fl) (dr := x.dr) (nw := x.nw) (tg := x.tg) (n := n) h)
  clear h
  go_enter Try.func4, Try.ntmps4
  have vC_0 := C.out.cell 0
  have vC_1 := C.out.cell 1
  have vC_2 := C.out.cell 2
  have vC_3 := C.out.cell 3
  have vC_4 := C.out.cell 4
  simp only [List.getElem?_toArray, List.getElem?_cons_zero, List.getElem?_cons_succ] at vC_0 vC_1 vC_2 vC_3 vC_4
  go_wp2_with fail
  refine (HRt.out _ _ _ R.out).mono ?_
  rintro e y1 ⟨rfl, b⟩
  clear vC_0 vC_1 vC_2 vC_3 vC_4
  have C_ := Lib.hid (C.out.under b)
  have R_ := Lib.hid (R.out.up b)
  have B_ := Lib.hid (B.out.trans (b.mono B.out.size))
  clear C R B
  have C := C_
  have R := R_
  have B := B_
  clear C_ R_ B_
  clear b HRt
  go_wp2_with fail
  refine (evWakes_any _).mono ?_
  rintro e y2 ⟨rfl, b⟩
  have C_ := Lib.hid (C.out.under b)
  have R_ := Lib.hid (R.out.up b)
  have B_ := Lib.hid (B.out.trans (b.mono B.out.size))
  clear C R B
  have C := C_
  have R := R_
  have B := B_
  clear C_ R_ B_
  clear b
  go_wp2_with fail
  go_ret
  exact ⟨rfl, B.out⟩

set_option maxRecDepth 100000 in
set_option maxHeartbeats 8000000 in
theorem right_on (x : Cw) (ls : List Ev) (A : Option Addr) (n c : Nat) (A2 : Option Addr) (m c2 : Nat) (w : World) (hr : RdX w w.heap.size A n x.l) (hq : RdE w w.heap.size A2 m ls) (hk : ∀ e ∈ ls, (Lit.int .u8 e.kind).wf = true) (hm : ¬ (40 : Int) < (m : Int)) (h : right x = true) :
    Calls Try.prog 4 #[.agg #[.slice A n c, .int .i64 x.fl, .int .i64 x.dr, .int .i64 x.nw, .bool x.tg], .slice A2 m c2] w (TruePost w) := by
  have one := whole_one (W := w) (t := 24) (x := #[.slice A n c, .int .i64 x.fl, .int .i64 x.dr, .int .i64 x.nw, .bool x.tg])
  have C := Lib.hid one.1
  have R := Lib.hid (hr.up one.2)
  have QQ := Lib.hid ((hq.below one.2).more one.2.size)
  have B := Lib.hid one.2
  have HQ0 := Lib.hid hq
  clear one hr hq
  have d0 : decide ((40 : Int) < (m : Int)) = false := decide_eq_false hm
  have HK := Lib.hid (And.intro hk (And.intro hm h))
  clear hm hk
  have HRt := Lib.hid (rightL (l := x.l) (fl := x.fl) (dr := x.dr) (nw := x.nw) (tg := x.tg) (n := n) (b := true) h)
  clear h
  go_enter Try.func4, Try.ntmps4
  have vC_0 := C.out.cell 0
  have vC_1 := C.out.cell 1
  have vC_2 := C.out.cell 2
  have vC_3 := C.out.cell 3
  have vC_4 := C.out.cell 4
  simp only [List.getElem?_toArray, List.getElem?_cons_zero, List.getElem?_cons_succ] at vC_0 vC_1 vC_2 vC_3 vC_4
  go_wp2_with fail
  refine (HRt.out _ _ _ R.out).mono ?_
  rintro e y1 ⟨rfl, b⟩
  clear vC_0 vC_1 vC_2 vC_3 vC_4
  have C_ := Lib.hid (C.out.under b)
  have R_ := Lib.hid (R.out.up b)
  have QQ_ := Lib.hid ((QQ.out.below b).more b.size)
  have B_ := Lib.hid (B.out.trans (b.mono B.out.size))
  clear C R QQ B
  have C := C_
  have R := R_
  have QQ := QQ_
  have B := B_
  clear C_ R_ QQ_ B_
  clear b HRt
  go_wp2_with fail
  go_loopw [5] (fun i wr => ∃ (j N : Nat) (A' : Option Addr) (c' : Nat) (y : Cw), i = .int .i64 (j : Int) ∧ j ≤ m ∧ right y = true ∧ Whole wr w.heap.size 24 #[.slice A' N c', .int .i64 y.fl, .int .i64 y.dr, .int .i64 y.nw, .bool y.tg] ∧ RdX wr wr.heap.size A' N y.l ∧ RdE wr wr.heap.size A2 m ls ∧ Below w.heap.size w wr) (fun i _ => m - (intOf i).toNat)
  case atStart => exact ⟨0, n, A, c, x, rfl, Nat.zero_le _, HK.out.2.2, C.out, R.out, QQ.out, B.out⟩
  case round =>
    clear C R QQ B
    obtain ⟨j, N, A', c', y, rfl, hj, hR, C, R, QQ, B⟩ := hrel
    have C_ := Lib.hid C
    clear C
    have C := C_
    clear C_
    have R_ := Lib.hid R
    clear R
    have R := R_
    clear R_
    have QQ_ := Lib.hid QQ
    clear QQ
    have QQ := QQ_
    clear QQ_
    have B_ := Lib.hid B
    clear B
    have B := B_
    clear B_
    rcases Nat.lt_or_eq_of_le hj with hlt | hjm
    ·
      have hji : (j : Int) < (m : Int) := by omega
      have hj40 : (j : Int) ≤ 40 := by have := HK.out.2.1; omega
      obtain ⟨e, he⟩ : ∃ e, ls[j]? = some e := ⟨_, List.getElem?_eq_getElem (by have := QQ.out.len; omega)⟩
      have hke := HK.out.1 e (List.mem_of_getElem? he)
      obtain ⟨bb, off, e3, hbl, hc⟩ := QQ.out.2 (by omega)
      subst e3
      have QA := Lib.hid (show EvB wr bb (off + j * 3) e from ⟨hbl, hc j e he⟩)
      obtain ⟨z, hdo⟩ : ∃ z, evC y e = z := ⟨_, rfl⟩
      have hD := evd hR e
      have hRz := right_ev hR e
      rw [hdo] at hD hRz
      obtain ⟨N', hN'⟩ : ∃ N', z.l.length = N' := ⟨_, rfl⟩
      have hyl := R.out.len
      have hN60 : N ≤ 60 := by have := right_few hR; omega
      have hN60' : N' ≤ 60 := by have := right_few hRz; omega
      have hgl := evd_len hD
      have hnw := evd_nw hD
      have hny := isNum_iff.1 (right_nums hR).2.2
      have hfl := evd_fall hD
      obtain ⟨h0, hh0⟩ : ∃ h0 : Int, (hN y.l : Int) = h0 := ⟨_, rfl⟩
      obtain ⟨h1, hh1⟩ : ∃ h1 : Int, (hN z.l : Int) = h1 := ⟨_, rfl⟩
      have hp0 : 0 ≤ h0 := by omega
      have hp1 : 0 ≤ h1 := by omega
      have hq0 : h0 ≤ 60 := by have := hN_le y.l; omega
      have hq1 : h1 ≤ 60 := by have := hN_le z.l; omega
      rw [hh0, hh1] at hfl
      have HH0 := Lib.hid (fun W A c hr => rhL (l := y.l) (fl := y.fl) (dr := y.dr) (nw := y.nw) (tg := y.tg) (n := N) hh0 (by omega) W A c hr)
      have HH1 := Lib.hid (fun W A c hr => rhL (l := z.l) (fl := z.fl) (dr := z.dr) (nw := z.nw) (tg := z.tg) (n := N') hh1 (by omega) W A c hr)
      have HR1 := Lib.hid (rightL (l := z.l) (fl := z.fl) (dr := z.dr) (nw := z.nw) (tg := z.tg) (n := N') hRz)
      have HD1 := Lib.hid (fun W A c hr => evDoL (l := y.l) (fl := y.fl) (dr := y.dr) (nw := y.nw) (tg := y.tg) (n := N) (L := z.l) (fl' := z.fl) (dr' := z.dr) (nw' := z.nw) (tg' := z.tg) hdo hN' hke (by omega) W A c hr)
      have HFa := Lib.hid (fun W => fallsL (k := e.kind) (a := e.a) (b := e.b) (f := fallsB e) rfl W)
      have HF := Lib.hid (And.intro hfl (And.intro hp0 (And.intro hp1 (And.intro hq0 (And.intro hq1 (And.intro hRz (And.intro hlt (And.intro hN60 (And.intro hN60' (And.intro hgl (And.intro hyl hN')))))))))))
      have HDd := Lib.hid hD
      have dA : decide (N' < N) = false := decide_eq_false (by omega)
      have dB : decide ((N : Int) + 1 < (N' : Int)) = false := decide_eq_false (by omega)
      have dC : decide (z.nw < y.nw) = false := decide_eq_false (by omega)
      have dD : decide (y.nw + 1 < z.nw) = false := decide_eq_false (by omega)
      have ew1 : IntKind.i64.wrap ((N : Int) + 1) = (N : Int) + 1 := IntWalk.i64_in _ ⟨by omega, by omega⟩
      have ew2 : IntKind.i64.wrap (y.nw + 1) = y.nw + 1 := IntWalk.i64_in _ ⟨by omega, by omega⟩
      clear hfl hp0 hp1 hq0 hq1 hR hRz hdo hN60 hN60' hN' hD hgl hnw hny hyl hh0 hh1 he hke hc hbl hlt hj
      have vC_0 := C.out.cell 0
      have vC_1 := C.out.cell 1
      have vC_2 := C.out.cell 2
      have vC_3 := C.out.cell 3
      have vC_4 := C.out.cell 4
      simp only [List.getElem?_toArray, List.getElem?_cons_zero, List.getElem?_cons_succ] at vC_0 vC_1 vC_2 vC_3 vC_4
      go_wp2_with fail
      clear vC_0 vC_1 vC_2 vC_3 vC_4
      refine dr_region rfl (by kernel_rfl) ⟨_, rfl, rfl, rfl, rfl, rfl, by kernel_rfl⟩ ⟨_, rfl, rfl, rfl, rfl, rfl, by kernel_rfl⟩ ⟨_, rfl, rfl, rfl, rfl, rfl, by kernel_rfl⟩ ⟨_, rfl, rfl, rfl, rfl, rfl, by kernel_rfl⟩ ⟨_, rfl, rfl, rfl, rfl, rfl, by kernel_rfl⟩ ⟨_, rfl, rfl, rfl, rfl, rfl, by kernel_rfl⟩ ⟨_, rfl, rfl, rfl, rfl, rfl, by kernel_rfl⟩ ⟨_, rfl, rfl, rfl, rfl, rfl, by kernel_rfl⟩ _ _ A' N c' y.fl y.dr y.nw y.tg bb off m c2 j e N' z.l z.fl z.dr z.nw z.tg w.heap.size ?ds rfl rfl rfl C.out QA.out hji (fun W hW => HD1.out W _ _ (R.out.up hW)) ?fin
      case ds =>
        intro d hd
        simp only [drDs, List.mem_cons, List.not_mem_nil, or_false] at hd
        rcases hd with rfl | rfl | rfl | rfl | rfl | rfl | rfl <;> simp
      case fin =>
        rintro σ y3 A3 c3 g s6 hg RD D b
        simp only [drDs, lay, List.foldl_cons, List.foldl_nil, Act.put, List.setIfInBounds_toArray, List.set_cons_zero, List.set_cons_succ]
        rw [s6]
        clear s6 HD1
        have hgt := Lib.hid (Nat.lt_of_lt_of_le C.out.lt hg)
        clear hg
        have C_ := Lib.hid (C.out.under b)
        have R_ := Lib.hid (R.out.up b)
        have QQ_ := Lib.hid ((QQ.out.below b).more b.size)
        have B_ := Lib.hid (B.out.trans (b.mono B.out.size))
        have QA_ := Lib.hid (QA.out.under b)
        clear C R QQ B QA
        have C := C_
        have R := R_
        have QQ := QQ_
        have B := B_
        have QA := QA_
        clear C_ R_ QQ_ B_ QA_
        clear b
        have D_ := Lib.hid D
        clear D
        have D := D_
        clear D_
        have RD_ := Lib.hid RD
        clear RD
        have RD := RD_
        clear RD_
        have vD_0 := D.out.cell 0
        have vD_1 := D.out.cell 1
        have vD_2 := D.out.cell 2
        have vD_3 := D.out.cell 3
        have vD_4 := D.out.cell 4
        simp only [List.getElem?_toArray, List.getElem?_cons_zero, List.getElem?_cons_succ] at vD_0 vD_1 vD_2 vD_3 vD_4
        have vC_0 := C.out.cell 0
        have vC_1 := C.out.cell 1
        have vC_2 := C.out.cell 2
        have vC_3 := C.out.cell 3
        have vC_4 := C.out.cell 4
        simp only [List.getElem?_toArray, List.getElem?_cons_zero, List.getElem?_cons_succ] at vC_0 vC_1 vC_2 vC_3 vC_4
        go_wp2_with fail
        refine (HR1.out _ _ _ RD.out).mono ?_
        rintro e y4 ⟨rfl, b⟩
        clear vD_0 vD_1 vD_2 vD_3 vD_4 vC_0 vC_1 vC_2 vC_3 vC_4
        have C_ := Lib.hid (C.out.under b)
        have R_ := Lib.hid (R.out.up b)
        have QQ_ := Lib.hid ((QQ.out.below b).more b.size)
        have B_ := Lib.hid (B.out.trans (b.mono B.out.size))
        have QA_ := Lib.hid (QA.out.under b)
        have D_ := Lib.hid (D.out.under b)
        have RD_ := Lib.hid (RD.out.up b)
        clear C R QQ B QA D RD
        have C := C_
        have R := R_
        have QQ := QQ_
        have B := B_
        have QA := QA_
        have D := D_
        have RD := RD_
        clear C_ R_ QQ_ B_ QA_ D_ RD_
        clear b HR1
        have vD_0 := D.out.cell 0
        have vD_1 := D.out.cell 1
        have vD_2 := D.out.cell 2
        have vD_3 := D.out.cell 3
        have vD_4 := D.out.cell 4
        simp only [List.getElem?_toArray, List.getElem?_cons_zero, List.getElem?_cons_succ] at vD_0 vD_1 vD_2 vD_3 vD_4
        have vC_0 := C.out.cell 0
        have vC_1 := C.out.cell 1
        have vC_2 := C.out.cell 2
        have vC_3 := C.out.cell 3
        have vC_4 := C.out.cell 4
        simp only [List.getElem?_toArray, List.getElem?_cons_zero, List.getElem?_cons_succ] at vC_0 vC_1 vC_2 vC_3 vC_4
        go_wp2_with fail
        clear vD_0 vD_1 vD_2 vD_3 vD_4 vC_0 vC_1 vC_2 vC_3 vC_4
        clear dA dB dC dD ew1 ew2
        go_loopw [7] (fun i wr => ∃ k : Nat, i = .int .i64 (k : Int) ∧ k ≤ N ∧ Whole wr w.heap.size 24 #[.slice A' N c', .int .i64 y.fl, .int .i64 y.dr, .int .i64 y.nw, .bool y.tg] ∧ Whole wr g 24 #[.slice A3 N' c3, .int .i64 z.fl, .int .i64 z.dr, .int .i64 z.nw, .bool z.tg] ∧ RdX wr wr.heap.size A' N y.l ∧ RdX wr wr.heap.size A3 N' z.l ∧ RdE wr wr.heap.size (some ⟨bb, off, none⟩) m ls ∧ EvB wr bb (off + j * 3) e ∧ Below w.heap.size w wr) (fun i _ => N - (intOf i).toNat)
        case atStart => exact ⟨0, rfl, Nat.zero_le _, C.out, D.out, R.out, RD.out, QQ.out, QA.out, B.out⟩
        case round =>
          clear C D R RD QQ QA B
          obtain ⟨k, rfl, hk, C, D, R, RD, QQ, QA, B⟩ := hrel
          have C_ := Lib.hid C
          clear C
          have C := C_
          clear C_
          have D_ := Lib.hid D
          clear D
          have D := D_
          clear D_
          have R_ := Lib.hid R
          clear R
          have R := R_
          clear R_
          have RD_ := Lib.hid RD
          clear RD
          have RD := RD_
          clear RD_
          have QQ_ := Lib.hid QQ
          clear QQ
          have QQ := QQ_
          clear QQ_
          have QA_ := Lib.hid QA
          clear QA
          have QA := QA_
          clear QA_
          have B_ := Lib.hid B
          clear B
          have B := B_
          clear B_
          rcases Nat.lt_or_eq_of_le hk with hlt | hkn
          ·
            have hki : (k : Int) < (N : Int) := by omega
            obtain ⟨_, _, _, _, _, _, hlt2, hN60, hN60', hgl, hyl, hN'⟩ := HF.out
            have hkN : (k : Int) < (N' : Int) := by omega
            have hk60 : (k : Int) ≤ 60 := by omega
            obtain ⟨u, hu⟩ : ∃ u, y.l[k]? = some u := ⟨_, List.getElem?_eq_getElem (by omega)⟩
            obtain ⟨v, hv, e0, e1, e2, e10, eg, eo, _⟩ := evd_at HDd.out hu
            obtain ⟨b1, o1, rfl, hb1, hc1⟩ := R.out.2 (by omega)
            obtain ⟨b2, o2, rfl, hb2, hc2⟩ := RD.out.2 (by omega)
            have hu11 := Lib.hid (hc1 k u hu)
            have hv11 := Lib.hid (hc2 k v hv)
            have HBl := Lib.hid (And.intro hb1 hb2)
            have HLt := Lib.hid hlt
            have HG := Lib.hid (And.intro eg eo)
            have q0 : (u.id != v.id) = false := by simp [e0]
            have q1 : (u.tok != v.tok) = false := by simp [e1]
            have q2 : (u.ver != v.ver) = false := by simp [e2]
            have q3 : (u.fen != v.fen) = false := by simp [e10]
            clear hlt2 hN60 hN60' hgl hyl hN' hu hv e0 e1 e2 e10 eg eo hc1 hc2 hb1 hb2 hlt hk
            have vC_0 := C.out.cell 0
            simp only [List.getElem?_toArray, List.getElem?_cons_zero] at vC_0
            go_wp2_with fail
            clear vC_0
            refine er_region rfl (by kernel_rfl) ⟨_, rfl, rfl, rfl, rfl, rfl, by kernel_rfl⟩ ⟨_, rfl, rfl, rfl, rfl, rfl, by kernel_rfl⟩ ⟨_, rfl, rfl, rfl, rfl, rfl, by kernel_rfl⟩ ⟨_, rfl, rfl, rfl, rfl, rfl, by kernel_rfl⟩ ⟨_, rfl, rfl, rfl, rfl, rfl, by kernel_rfl⟩ ⟨_, rfl, rfl, rfl, rfl, rfl, by kernel_rfl⟩ ⟨_, rfl, rfl, rfl, rfl, rfl, by kernel_rfl⟩ ⟨_, rfl, rfl, rfl, rfl, rfl, by kernel_rfl⟩ ⟨_, rfl, rfl, rfl, rfl, rfl, by kernel_rfl⟩ ⟨_, rfl, rfl, rfl, rfl, rfl, by kernel_rfl⟩ ⟨_, rfl, rfl, rfl, rfl, rfl, by kernel_rfl⟩ ⟨_, rfl, rfl, rfl, rfl, rfl, by kernel_rfl⟩ ⟨_, rfl, rfl, rfl, rfl, rfl, by kernel_rfl⟩ ⟨_, rfl, rfl, rfl, rfl, rfl, by kernel_rfl⟩ _ _ b1 o1 N c' b2 o2 N' c3 k w.heap.size g u v y.fl y.dr y.nw z.fl z.dr z.nw y.tg z.tg ?ds rfl rfl rfl C.out D.out hu11.out hv11.out HBl.out.1 HBl.out.2 hki hkN ?fin
            case ds =>
              intro d hd
              simp only [erDs, List.mem_cons, List.not_mem_nil, or_false] at hd
              rcases hd with rfl | rfl | rfl | rfl | rfl | rfl | rfl | rfl | rfl | rfl | rfl | rfl <;> simp
            case fin =>
              rintro σ y5 g8 g9 s8 s9 X Y b
              simp only [erDs, lay, List.foldl_cons, List.foldl_nil, Act.put, List.setIfInBounds_toArray, List.set_cons_zero, List.set_cons_succ]
              rw [s8, s9]
              clear s8 s9 hki hkN HBl hu11 hv11
              have C_ := Lib.hid (C.out.under b)
              have D_ := Lib.hid (D.out.under b)
              have R_ := Lib.hid (R.out.up b)
              have RD_ := Lib.hid (RD.out.up b)
              have QQ_ := Lib.hid ((QQ.out.below b).more b.size)
              have QA_ := Lib.hid (QA.out.under b)
              have B_ := Lib.hid (B.out.trans (b.mono B.out.size))
              clear C D R RD QQ QA B
              have C := C_
              have D := D_
              have R := R_
              have RD := RD_
              have QQ := QQ_
              have QA := QA_
              have B := B_
              clear C_ D_ R_ RD_ QQ_ QA_ B_
              clear b
              have X_ := Lib.hid X
              clear X
              have X := X_
              clear X_
              have Y_ := Lib.hid Y
              clear Y
              have Y := Y_
              clear Y_
              have vX_0 := X.out.cell 0
              have vX_1 := X.out.cell 1
              have vX_2 := X.out.cell 2
              have vX_5 := X.out.cell 5
              have vX_6 := X.out.cell 6
              have vX_10 := X.out.cell 10
              simp only [List.getElem?_toArray, List.getElem?_cons_zero, List.getElem?_cons_succ] at vX_0 vX_1 vX_2 vX_5 vX_6 vX_10
              have vY_0 := Y.out.cell 0
              have vY_1 := Y.out.cell 1
              have vY_2 := Y.out.cell 2
              have vY_5 := Y.out.cell 5
              have vY_6 := Y.out.cell 6
              have vY_10 := Y.out.cell 10
              simp only [List.getElem?_toArray, List.getElem?_cons_zero, List.getElem?_cons_succ] at vY_0 vY_1 vY_2 vY_5 vY_6 vY_10
              clear HDd HFa HH0 HH1
              cases hug : u.gone
              ·
                rw [hug] at vX_6
                cases hvo : v.on
                ·
                  rw [hvo] at vY_5
                  clear hvo hug HG
                  go_wp2_with fail
                  go_roundw
                  case rel => exact ⟨k + 1, by go_num, HLt.out, C.out, D.out, R.out, RD.out, QQ.out, QA.out, B.out⟩
                  case measure => have := HLt.out; simp [intOf]; omega
                ·
                  have huo := HG.out.2 hvo
                  rw [huo] at vX_5
                  rw [hvo] at vY_5
                  clear huo
                  clear hvo hug HG
                  go_wp2_with fail
                  go_roundw
                  case rel => exact ⟨k + 1, by go_num, HLt.out, C.out, D.out, R.out, RD.out, QQ.out, QA.out, B.out⟩
                  case measure => have := HLt.out; simp [intOf]; omega
              ·
                have hvg := HG.out.1 hug
                rw [hug] at vX_6
                rw [hvg] at vY_6
                clear hvg
                cases hvo : v.on
                ·
                  rw [hvo] at vY_5
                  clear hvo hug HG
                  go_wp2_with fail
                  go_roundw
                  case rel => exact ⟨k + 1, by go_num, HLt.out, C.out, D.out, R.out, RD.out, QQ.out, QA.out, B.out⟩
                  case measure => have := HLt.out; simp [intOf]; omega
                ·
                  have huo := HG.out.2 hvo
                  rw [huo] at vX_5
                  rw [hvo] at vY_5
                  clear huo
                  clear hvo hug HG
                  go_wp2_with fail
                  go_roundw
                  case rel => exact ⟨k + 1, by go_num, HLt.out, C.out, D.out, R.out, RD.out, QQ.out, QA.out, B.out⟩
                  case measure => have := HLt.out; simp [intOf]; omega
          ·
            subst hkn
            clear hk HDd
            have vC_0 := C.out.cell 0
            have vC_1 := C.out.cell 1
            have vC_2 := C.out.cell 2
            have vC_3 := C.out.cell 3
            have vC_4 := C.out.cell 4
            simp only [List.getElem?_toArray, List.getElem?_cons_zero, List.getElem?_cons_succ] at vC_0 vC_1 vC_2 vC_3 vC_4
            go_wp2_with fail
            obtain ⟨⟨hf1, hf2⟩, hp0, hp1, hq0, hq1, hRz, hlt, _⟩ := HF.out
            have HRz := Lib.hid hRz
            have HLt := Lib.hid hlt
            clear HF hlt hRz
            clear vC_0 vC_1 vC_2 vC_3 vC_4
            have HC := Lib.hid ((Below.refl wr.heap.size wr).drew)
            have HLz := Lib.hid (fun W (hW : Below wr.heap.size wr W) => And.intro (cells5 (C.out.under hW)) (cells5 (D.out.under hW)))
            refine wp_region_held_drew (S := fun W => Below wr.heap.size wr W) (by kernel_rfl) HC.out (fun _ => ?_)
            refine takeH (i := 0) (v := ?_) rfl (by kernel_rfl) (by kernel_rfl) (by kernel_rfl) (fun _ _ _ h => h) (by rfl) ?_ HC.out ?_
            rotate_left
            · intro W hW; obtain ⟨⟨c0, c1, c3, c4, c5⟩, d0, d1, d3, d4, d5⟩ := HLz.out W hW; go_simp <;> with_reducible rfl
            simp only [Act.put, List.setIfInBounds_toArray, List.set_cons_zero, List.set_cons_succ]
            refine takeH (i := 2) (v := ?_) rfl (by kernel_rfl) (by kernel_rfl) (by kernel_rfl) (fun _ _ _ h => h) (by rfl) ?_ HC.out ?_
            rotate_left
            · intro W hW; obtain ⟨⟨c0, c1, c3, c4, c5⟩, d0, d1, d3, d4, d5⟩ := HLz.out W hW; go_simp <;> with_reducible rfl
            simp only [Act.put, List.setIfInBounds_toArray, List.set_cons_zero, List.set_cons_succ]
            refine oneH (i := 1) rfl (by kernel_rfl) (by rfl) (fun K hK => ?_)
            go_simp
            go_at_call 17
            refine (HH0.out _ _ _ (R.out.up HC.out)).mono ?_
            rintro e y1 ⟨rfl, b9⟩
            have HC2 := Lib.hid (HC.out.trans (b9.mono HC.out.size))
            clear HC b9
            have HC := HC2
            clear HC2
            refine hK.out _ _ HC.out (fun _ => ?_)
            clear hK K
            refine oneH (i := 3) rfl (by kernel_rfl) (by rfl) (fun K hK => ?_)
            go_simp
            go_at_call 17
            refine (HH1.out _ _ _ (RD.out.up HC.out)).mono ?_
            rintro e y2 ⟨rfl, b9⟩
            have HC2 := Lib.hid (HC.out.trans (b9.mono HC.out.size))
            clear HC b9
            have HC := HC2
            clear HC2
            refine hK.out _ _ HC.out (fun _ => ?_)
            clear hK K
            have ew0 : IntKind.i64.wrap (h0 - h1) = h0 - h1 := IntWalk.i64_in _ ⟨by omega, by omega⟩
            refine takeH (i := 4) (v := ?_) rfl (by kernel_rfl) (by kernel_rfl) (by kernel_rfl) (fun _ _ _ h => h) (by rfl) ?_ HC.out ?_
            rotate_left
            · intro W hW; go_simp <;> with_reducible rfl
            simp only [Act.put, List.setIfInBounds_toArray, List.set_cons_zero, List.set_cons_succ]
            refine takeH (i := 5) (v := ?_) rfl (by kernel_rfl) (by kernel_rfl) (by kernel_rfl) (fun _ _ _ h => h) (by rfl) ?_ HC.out ?_
            rotate_left
            · intro W hW; go_simp <;> with_reducible rfl
            simp only [Act.put, List.setIfInBounds_toArray, List.set_cons_zero, List.set_cons_succ]
            refine wpAnyH_done (by kernel_rfl) ?_ _
            clear ew0 HLz HH0 HH1
            have C_ := Lib.hid (C.out.under HC.out)
            have D_ := Lib.hid (D.out.under HC.out)
            have R_ := Lib.hid (R.out.up HC.out)
            have RD_ := Lib.hid (RD.out.up HC.out)
            have QQ_ := Lib.hid ((QQ.out.below HC.out).more HC.out.size)
            have QA_ := Lib.hid (QA.out.under HC.out)
            have B_ := Lib.hid (B.out.trans (HC.out.mono B.out.size))
            clear C D R RD QQ QA B
            have C := C_
            have D := D_
            have R := R_
            have RD := RD_
            have QQ := QQ_
            have QA := QA_
            have B := B_
            clear C_ D_ R_ RD_ QQ_ QA_ B_
            clear HC
            obtain ⟨f, hf⟩ : ∃ f, h0 - h1 = f := ⟨_, rfl⟩
            rw [hf] at hf1 hf2 ⊢
            clear hf hp0 hp1 hq0 hq1
            have d1 : decide ((1 : Int) < f) = false := decide_eq_false (by omega)
            by_cases hf0 : 0 < f
            ·
              have hfb := hf2 hf0
              have d2 : decide ((0 : Int) < f) = true := decide_eq_true hf0
              rw [hfb] at HFa
              obtain ⟨v0, v1, v2⟩ := QA.out.2
              clear hf1 hf2 hf0 hfb
              go_wp2_with fail
              clear v0 v1 v2
              refine (HFa.out _).mono ?_
              rintro e y5 ⟨rfl, b⟩
              have C_ := Lib.hid (C.out.under b)
              have D_ := Lib.hid (D.out.under b)
              have R_ := Lib.hid (R.out.up b)
              have RD_ := Lib.hid (RD.out.up b)
              have QQ_ := Lib.hid ((QQ.out.below b).more b.size)
              have QA_ := Lib.hid (QA.out.under b)
              have B_ := Lib.hid (B.out.trans (b.mono B.out.size))
              clear C D R RD QQ QA B
              have C := C_
              have D := D_
              have R := R_
              have RD := RD_
              have QQ := QQ_
              have QA := QA_
              have B := B_
              clear C_ D_ R_ RD_ QQ_ QA_ B_
              clear b HFa d1 d2
              have vD_0 := D.out.cell 0
              have vD_1 := D.out.cell 1
              have vD_2 := D.out.cell 2
              have vD_3 := D.out.cell 3
              have vD_4 := D.out.cell 4
              simp only [List.getElem?_toArray, List.getElem?_cons_zero, List.getElem?_cons_succ] at vD_0 vD_1 vD_2 vD_3 vD_4
              have vC_0 := C.out.cell 0
              have vC_1 := C.out.cell 1
              have vC_2 := C.out.cell 2
              have vC_3 := C.out.cell 3
              have vC_4 := C.out.cell 4
              simp only [List.getElem?_toArray, List.getElem?_cons_zero, List.getElem?_cons_succ] at vC_0 vC_1 vC_2 vC_3 vC_4
              have g0 := C.out.frozen 0
              have g1 := C.out.frozen 1
              have g2 := C.out.frozen 2
              have g3 := C.out.frozen 3
              have g4 := C.out.frozen 4
              go_wp2_with fail
              go_roundw
              case rel =>
                have kp := kept5 C.out (.slice A3 N' c3) (.int .i64 z.fl) (.int .i64 z.dr) (.int .i64 z.nw) (.bool z.tg)
                have bel := kp.2.bel _ _ (Nat.le_refl _) B.out
                exact ⟨j + 1, N', A3, c3, z, by go_num, HLt.out, HRz.out, kp.1, kp.2.rows _ _ _ RD.out, (HQ0.out.below bel).more bel.size, bel⟩
              case measure => have := HLt.out; simp [intOf]; omega
            ·
              have d2 : decide ((0 : Int) < f) = false := decide_eq_false hf0
              clear hf1 hf2 hf0 HFa
              have vD_0 := D.out.cell 0
              have vD_1 := D.out.cell 1
              have vD_2 := D.out.cell 2
              have vD_3 := D.out.cell 3
              have vD_4 := D.out.cell 4
              simp only [List.getElem?_toArray, List.getElem?_cons_zero, List.getElem?_cons_succ] at vD_0 vD_1 vD_2 vD_3 vD_4
              have vC_0 := C.out.cell 0
              have vC_1 := C.out.cell 1
              have vC_2 := C.out.cell 2
              have vC_3 := C.out.cell 3
              have vC_4 := C.out.cell 4
              simp only [List.getElem?_toArray, List.getElem?_cons_zero, List.getElem?_cons_succ] at vC_0 vC_1 vC_2 vC_3 vC_4
              have g0 := C.out.frozen 0
              have g1 := C.out.frozen 1
              have g2 := C.out.frozen 2
              have g3 := C.out.frozen 3
              have g4 := C.out.frozen 4
              go_wp2_with fail
              go_roundw
              case rel =>
                have kp := kept5 C.out (.slice A3 N' c3) (.int .i64 z.fl) (.int .i64 z.dr) (.int .i64 z.nw) (.bool z.tg)
                have bel := kp.2.bel _ _ (Nat.le_refl _) B.out
                exact ⟨j + 1, N', A3, c3, z, by go_num, HLt.out, HRz.out, kp.1, kp.2.rows _ _ _ RD.out, (HQ0.out.below bel).more bel.size, bel⟩
              case measure => have := HLt.out; simp [intOf]; omega
    ·
      subst hjm
      clear hj hR
      go_wp2_with fail
      refine (evWakes_any _).mono ?_
      rintro e y2 ⟨rfl, b⟩
      have C_ := Lib.hid (C.out.under b)
      have R_ := Lib.hid (R.out.up b)
      have QQ_ := Lib.hid ((QQ.out.below b).more b.size)
      have B_ := Lib.hid (B.out.trans (b.mono B.out.size))
      clear C R QQ B
      have C := C_
      have R := R_
      have QQ := QQ_
      have B := B_
      clear C_ R_ QQ_ B_
      clear b
      go_wp2_with fail
      go_ret
      exact ⟨rfl, B.out⟩

theorem eventRight_any (x : Cw) (ls : List Ev) (A : Option Addr) (n c : Nat) (A2 : Option Addr) (m c2 : Nat) (w : World) (hr : RdX w w.heap.size A n x.l) (hq : RdE w w.heap.size A2 m ls) (hk : ∀ e ∈ ls, (Lit.int .u8 e.kind).wf = true) :
    Calls Try.prog 4 #[.agg #[.slice A n c, .int .i64 x.fl, .int .i64 x.dr, .int .i64 x.nw, .bool x.tg], .slice A2 m c2] w (TruePost w) := by
  by_cases hm : (40 : Int) < (m : Int)
  · exact right_long x A n c A2 m c2 w hr hm
  · cases h : right x with
    | false => exact right_wrong x A n c A2 m c2 w hr hm h
    | true => exact right_on x ls A n c A2 m c2 w hr hq hk hm h

end Go.Proofs.Ytoiegffnmjlkdaa
