/-
  The walk of the statement CloudFloor: what is asked never takes H from at least the floor below it. Conditions: those that each theorem names.
-/
import Derived.Test.YtphkleecodoplaaCdFloorReg
import Derived.Test.YtphkleecodoplaaHand
import Derived.BigQuiet
namespace Go.Proofs.Ytphkleecodoplaa
open Go.RowKit Go.Shelf

set_option maxRecDepth 100000 in
set_option maxHeartbeats 8000000 in
theorem floor_long (x : Cw) (A : Option Addr) (n c : Nat) (A2 : Option Addr) (m c2 : Nat) (w : World) (hr : RdX w w.heap.size A n x.l) (hm : (40 : Int) < (m : Int)) :
    Calls Try.prog 4 #[.agg #[.slice A n c, .int .i64 x.fl, .int .i64 x.dr, .int .i64 x.nw, .bool x.tg], .slice A2 m c2] w (TruePost w) := by
  have one := whole_one (W := w) (t := 24) (x := #[.slice A n c, .int .i64 x.fl, .int .i64 x.dr, .int .i64 x.nw, .bool x.tg])
  have C := Lib.hid one.1
  have R := Lib.hid (hr.up one.2)
  have B := Lib.hid one.2
  clear one hr
  go_enter Try.func4, Try.ntmps4
  go_wp2_with fail
  refine (wakes_any _).mono ?_
  rintro e y1 ⟨rfl, b⟩
  have C_ := Lib.hid (C.out.under b)
  have R_ := Lib.hid (R.out.up b)
  have B_ := Lib.hid (B.out.trans (b.mono B.out.size))
  clear C R B
  have C := C_
  have R := R_
  have B := B_
  clear C_ R_ B_
  clear b
  go_wp2_with fail
  go_ret
  exact ⟨rfl, B.out⟩

set_option maxRecDepth 100000 in
set_option maxHeartbeats 8000000 in
theorem floor_wrong (x : Cw) (A : Option Addr) (n c : Nat) (A2 : Option Addr) (m c2 : Nat) (w : World) (hr : RdX w w.heap.size A n x.l) (h40 : ¬ (40 : Int) < (m : Int)) (h : right x = false) :
    Calls Try.prog 4 #[.agg #[.slice A n c, .int .i64 x.fl, .int .i64 x.dr, .int .i64 x.nw, .bool x.tg], .slice A2 m c2] w (TruePost w) := by
  have one := whole_one (W := w) (t := 24) (x := #[.slice A n c, .int .i64 x.fl, .int .i64 x.dr, .int .i64 x.nw, .bool x.tg])
  have C := Lib.hid one.1
  have R := Lib.hid (hr.up one.2)
  have B := Lib.hid one.2
  clear one hr
  have d40 : decide ((40 : Int) < (m : Int)) = false := decide_eq_false h40
  have HRt := Lib.hid (rightL (l := x.l) (fl := x.fl) (dr := x.dr) (nw := x.nw) (tg := x.tg) (n := n) h)
  clear h
  go_enter Try.func4, Try.ntmps4
  go_wp2_with fail
  refine (HRt.out _ _ _ R.out).mono ?_
  rintro e y1 ⟨rfl, b⟩
  have C_ := Lib.hid (C.out.under b)
  have R_ := Lib.hid (R.out.up b)
  have B_ := Lib.hid (B.out.trans (b.mono B.out.size))
  clear C R B
  have C := C_
  have R := R_
  have B := B_
  clear C_ R_ B_
  clear b HRt
  go_wp2_with fail
  refine (wakes_any _).mono ?_
  rintro e y2 ⟨rfl, b⟩
  have C_ := Lib.hid (C.out.under b)
  have R_ := Lib.hid (R.out.up b)
  have B_ := Lib.hid (B.out.trans (b.mono B.out.size))
  clear C R B
  have C := C_
  have R := R_
  have B := B_
  clear C_ R_ B_
  clear b
  go_wp2_with fail
  go_ret
  exact ⟨rfl, B.out⟩

set_option maxRecDepth 100000 in
set_option maxHeartbeats 8000000 in
theorem floor_right (x : Cw) (ls : List Ak) (A : Option Addr) (n c : Nat) (A2 : Option Addr) (m c2 : Nat) (w : World) (hr : RdX w w.heap.size A n x.l) (hq : RdK w w.heap.size A2 m ls) (hk : ∀ q ∈ ls, (Lit.int .u8 q.kind).wf = true) (h40 : ¬ (40 : Int) < (m : Int)) (h : right x = true) :
    Calls Try.prog 4 #[.agg #[.slice A n c, .int .i64 x.fl, .int .i64 x.dr, .int .i64 x.nw, .bool x.tg], .slice A2 m c2] w (TruePost w) := by
  have one := whole_one (W := w) (t := 24) (x := #[.slice A n c, .int .i64 x.fl, .int .i64 x.dr, .int .i64 x.nw, .bool x.tg])
  have HQ0 := Lib.hid hq
  have C := Lib.hid one.1
  have R := Lib.hid (hr.up one.2)
  have QQ := Lib.hid ((hq.below one.2).more one.2.size)
  have B := Lib.hid one.2
  clear one hr hq
  have d40 : decide ((40 : Int) < (m : Int)) = false := decide_eq_false h40
  have HRt := Lib.hid (rightL (l := x.l) (fl := x.fl) (dr := x.dr) (nw := x.nw) (tg := x.tg) (n := n) h)
  have HX := Lib.hid (And.intro h hk)
  clear h hk
  go_enter Try.func4, Try.ntmps4
  go_wp2_with fail
  refine (HRt.out _ _ _ R.out).mono ?_
  rintro e y1 ⟨rfl, b⟩
  have C_ := Lib.hid (C.out.under b)
  have R_ := Lib.hid (R.out.up b)
  have QQ_ := Lib.hid ((QQ.out.below b).more b.size)
  have B_ := Lib.hid (B.out.trans (b.mono B.out.size))
  clear C R QQ B
  have C := C_
  have R := R_
  have QQ := QQ_
  have B := B_
  clear C_ R_ QQ_ B_
  clear b HRt
  go_wp2_with fail
  go_loopw [5] (fun i wr => ∃ (j N : Nat) (A' : Option Addr) (c' : Nat) (L : List Bx), i = .int .i64 (j : Int) ∧ j ≤ m ∧ right ⟨L, x.fl, x.dr, x.nw, x.tg⟩ = true ∧ Whole wr w.heap.size 24 #[.slice A' N c', .int .i64 x.fl, .int .i64 x.dr, .int .i64 x.nw, .bool x.tg] ∧ RdX wr wr.heap.size A' N L ∧ RdK wr wr.heap.size A2 m ls ∧ Below w.heap.size w wr) (fun i _ => m - (intOf i).toNat)
  case atStart => exact ⟨0, n, A, c, x.l, rfl, Nat.zero_le _, HX.out.1, C.out, R.out, QQ.out, B.out⟩
  case round =>
    clear C R QQ B
    obtain ⟨j, N, A', c', L, rfl, hj, hR, C, R, QQ, B⟩ := hrel
    rcases Nat.eq_or_lt_of_le hj with rfl | hlt
    · have HB := Lib.hid B
      have B := HB
      clear C R QQ HB hR hj HX
      go_wp2_with fail
      refine (wakes_any _).mono ?_
      rintro e y2 ⟨rfl, b⟩
      have B_ := Lib.hid (B.out.trans (b.mono B.out.size))
      clear B
      have B := B_
      clear B_
      clear b
      go_wp2_with fail
      go_ret
      exact ⟨rfl, B.out⟩
    · have C_ := Lib.hid C
      have R_ := Lib.hid R
      have QQ_ := Lib.hid QQ
      have B_ := Lib.hid B
      clear C R QQ B
      have C := C_
      have R := R_
      have QQ := QQ_
      have B := B_
      clear C_ R_ QQ_ B_
      have hjI : (j : Int) < (m : Int) := by omega
      obtain ⟨q, hq⟩ : ∃ q, ls[j]? = some q := ⟨_, List.getElem?_eq_getElem (by have := QQ.out.len; omega)⟩
      have hkq := HX.out.2 q (List.mem_of_getElem? hq)
      obtain ⟨bb, off, e3, hbl, hc⟩ := QQ.out.2 (by omega)
      subst e3
      have hq6 := hc j q hq
      clear hc
      have hNn : N ≤ 60 := by have h1 := right_few hR; have h2 := R.out.len; dsimp only at h1; omega
      obtain ⟨L', K, I, hdo⟩ : ∃ L' K I, doP ⟨L, x.fl, x.dr, x.nw, x.tg⟩ q = (L', K, I) := ⟨_, _, _, rfl⟩
      obtain ⟨N', hN'⟩ : ∃ N', L'.length = N' := ⟨_, rfl⟩
      have hR' : right ⟨L', x.fl, x.dr, x.nw, x.tg⟩ = true := by have := right_do (q := q) hR; unfold doC at this; rw [hdo] at this; exact this
      have hN60 : N' ≤ 60 := by have := right_few hR'; exact hN' ▸ this
      have hD := did ⟨L, x.fl, x.dr, x.nw, x.tg⟩ q
      rw [hdo] at hD
      have hfl := floor_did hD
      have hnd := not_done hD
      dsimp only at hfl hnd
      have h60 : (hN L : Int) ≤ 60 := by have := hN_le L; have := R.out.len; omega
      obtain ⟨z0, hz0⟩ : ∃ z0 : Int, (hN L : Int) = z0 := ⟨_, rfl⟩
      obtain ⟨z1, hz1⟩ : ∃ z1 : Int, (hN L' : Int) = z1 := ⟨_, rfl⟩
      have hp0 : 0 ≤ z0 := by omega
      have hp1 : 0 ≤ z1 := by omega
      rw [hz0, hz1] at hfl
      rw [hz0] at h60
      have HH0 := Lib.hid (fun W A c hr => rhL (l := L) (fl := x.fl) (dr := x.dr) (nw := x.nw) (tg := x.tg) (n := N) hz0 (by omega) W A c hr)
      have HH1 := Lib.hid (fun W A c hr => rhL (l := L') (fl := x.fl) (dr := x.dr) (nw := x.nw) (tg := x.tg) (n := N') hz1 (by omega) W A c hr)
      have HR1 := Lib.hid (rightL (l := L') (fl := x.fl) (dr := x.dr) (nw := x.nw) (tg := x.tg) (n := N') hR')
      have HD1 := Lib.hid (fun W A c hr => doL (l := L) (fl := x.fl) (dr := x.dr) (nw := x.nw) (tg := x.tg) (n := N) hdo hN' hkq (by omega) W A c hr)
      have HS1 := Lib.hid (fun (hK : K ≠ 1) W A c A' c' hr hr' => sameL (l := L) (l' := L') (fl := x.fl) (dr := x.dr) (nw := x.nw) (tg := x.tg) (n := N) (N := N') (sameCw_eq (hnd hK).symm) (by omega) W A c A' c' hr hr')
      have QA := Lib.hid (show AkB wr bb (off + j * 6) q from ⟨hbl, hq6⟩)
      have HF := Lib.hid (And.intro hfl (And.intro h60 (And.intro hp0 (And.intro hp1 (And.intro hR' hlt)))))
      clear hfl h60 hp0 hp1 hR hR' hdo hNn hN' hN60 hD hnd hz0 hz1 hq hkq HX hj hlt hq6 hbl
      have vC_0 := C.out.cell 0
      have vC_1 := C.out.cell 1
      have vC_2 := C.out.cell 2
      have vC_3 := C.out.cell 3
      have vC_4 := C.out.cell 4
      simp only [List.getElem?_toArray, List.getElem?_cons_zero, List.getElem?_cons_succ] at vC_0 vC_1 vC_2 vC_3 vC_4
      go_wp2_with fail
      refine (HH0.out _ _ _ R.out).mono ?_
      rintro e y3 ⟨rfl, b⟩
      clear vC_0 vC_1 vC_2 vC_3 vC_4
      have C_ := Lib.hid (C.out.under b)
      have R_ := Lib.hid (R.out.up b)
      have QQ_ := Lib.hid ((QQ.out.below b).more b.size)
      have B_ := Lib.hid (B.out.trans (b.mono B.out.size))
      have QA_ := Lib.hid (QA.out.under b)
      clear C R QQ B QA
      have C := C_
      have R := R_
      have QQ := QQ_
      have B := B_
      have QA := QA_
      clear C_ R_ QQ_ B_ QA_
      clear b HH0
      have vC_0 := C.out.cell 0
      have vC_1 := C.out.cell 1
      have vC_2 := C.out.cell 2
      have vC_3 := C.out.cell 3
      have vC_4 := C.out.cell 4
      simp only [List.getElem?_toArray, List.getElem?_cons_zero, List.getElem?_cons_succ] at vC_0 vC_1 vC_2 vC_3 vC_4
      go_wp2_with fail
      clear vC_0 vC_1 vC_2 vC_3 vC_4
      refine fl_region rfl (by kernel_rfl) ⟨_, rfl, rfl, rfl, rfl, rfl, by kernel_rfl⟩ ⟨_, rfl, rfl, rfl, rfl, rfl, by kernel_rfl⟩ ⟨_, rfl, rfl, rfl, rfl, rfl, by kernel_rfl⟩ ⟨_, rfl, rfl, rfl, rfl, rfl, by kernel_rfl⟩ ⟨_, rfl, rfl, rfl, rfl, rfl, by kernel_rfl⟩ ⟨_, rfl, rfl, rfl, rfl, rfl, by kernel_rfl⟩ ⟨_, rfl, rfl, rfl, rfl, rfl, by kernel_rfl⟩ ⟨_, rfl, rfl, rfl, rfl, rfl, by kernel_rfl⟩ ⟨_, rfl, rfl, rfl, rfl, rfl, by kernel_rfl⟩ ⟨_, rfl, rfl, rfl, rfl, rfl, by kernel_rfl⟩ ⟨_, rfl, rfl, rfl, rfl, rfl, by kernel_rfl⟩ ⟨_, rfl, rfl, rfl, rfl, rfl, by kernel_rfl⟩ ⟨_, rfl, rfl, rfl, rfl, rfl, by kernel_rfl⟩ _ _ A' N c' x.fl x.dr x.nw x.tg bb off m c2 j q N' L' K I ?ds w.heap.size rfl rfl rfl C.out QA.out.2 QA.out.1 hjI (fun W hW => HD1.out W _ _ (R.out.up hW)) ?fin
      case ds =>
        intro d hd
        simp only [flDs, List.mem_cons, List.not_mem_nil, or_false] at hd
        rcases hd with rfl | rfl | rfl | rfl | rfl | rfl | rfl | rfl | rfl | rfl | rfl <;> simp
      case fin =>
        rintro σ y3 A3 c3 g1 g2 s7 s8 RD D T b
        simp only [flDs, lay, List.foldl_cons, List.foldl_nil, Act.put, List.setIfInBounds_toArray, List.set_cons_zero, List.set_cons_succ]
        rw [s7, s8]
        clear s7 s8 HD1
        have C_ := Lib.hid (C.out.under b)
        have R_ := Lib.hid (R.out.up b)
        have QQ_ := Lib.hid ((QQ.out.below b).more b.size)
        have B_ := Lib.hid (B.out.trans (b.mono B.out.size))
        have QA_ := Lib.hid (QA.out.under b)
        clear C R QQ B QA
        have C := C_
        have R := R_
        have QQ := QQ_
        have B := B_
        have QA := QA_
        clear C_ R_ QQ_ B_ QA_
        clear b
        have D_ := Lib.hid D
        clear D
        have D := D_
        clear D_
        have T_ := Lib.hid T
        clear T
        have T := T_
        clear T_
        have RD_ := Lib.hid RD
        clear RD
        have RD := RD_
        clear RD_
        have vD_0 := D.out.cell 0
        have vD_1 := D.out.cell 1
        have vD_2 := D.out.cell 2
        have vD_3 := D.out.cell 3
        have vD_4 := D.out.cell 4
        simp only [List.getElem?_toArray, List.getElem?_cons_zero, List.getElem?_cons_succ] at vD_0 vD_1 vD_2 vD_3 vD_4
        go_wp2_with fail
        refine (HH1.out _ _ _ RD.out).mono ?_
        rintro e y4 ⟨rfl, b⟩
        clear vD_0 vD_1 vD_2 vD_3 vD_4
        have C_ := Lib.hid (C.out.under b)
        have R_ := Lib.hid (R.out.up b)
        have QQ_ := Lib.hid ((QQ.out.below b).more b.size)
        have B_ := Lib.hid (B.out.trans (b.mono B.out.size))
        have QA_ := Lib.hid (QA.out.under b)
        have D_ := Lib.hid (D.out.under b)
        have T_ := Lib.hid (T.out.under b)
        have RD_ := Lib.hid (RD.out.up b)
        clear C R QQ B QA D T RD
        have C := C_
        have R := R_
        have QQ := QQ_
        have B := B_
        have QA := QA_
        have D := D_
        have T := T_
        have RD := RD_
        clear C_ R_ QQ_ B_ QA_ D_ T_ RD_
        clear b HH1
        obtain ⟨⟨f1, f2, f3⟩, f4, f5, f6, f7, f8⟩ := HF.out
        have dC : decide (z0 + 1 < z1) = false := decide_eq_false (by omega)
        have dD : decide (z1 < z0 - 1) = false := decide_eq_false (by omega)
        have ew1 : IntKind.i64.wrap (z0 + 1) = z0 + 1 := IntWalk.i64_in _ ⟨by omega, by omega⟩
        have ew2 : IntKind.i64.wrap (z0 - 1) = z0 - 1 := IntWalk.i64_in _ ⟨by omega, by omega⟩
        have e1 : (x.fl != x.fl) = false := by simp
        have e2 : (x.nw != x.nw) = false := by simp
        have e3 : (q.call != q.call) = false := by simp
        have e4 : (q.kind != q.kind) = false := by simp
        by_cases hA : z1 < z0
        · have dA : decide (z1 < z0) = true := decide_eq_true hA
          have dB : decide (z1 < x.fl) = false := decide_eq_false (by omega)
          clear f1 hA HF
          have HX2 := Lib.hid (And.intro f7 f8)
          clear f7 f8
          go_wp2_with fail
          have HC := Lib.hid ((Below.refl y4.heap.size y4).drew)
          have HL := Lib.hid (fun W (hW : Below y4.heap.size y4 W) => And.intro (cells5 (C.out.under hW)) (And.intro (cells5 (D.out.under hW)) (And.intro (cells6 (T.out.under hW)) (QA.out.under hW).2)))
          refine wp_region_held_drew (S := fun W => Below y4.heap.size y4 W) (by kernel_rfl) HC.out (fun _ => ?_)
          refine takeH (i := 0) (v := ?_) rfl (by kernel_rfl) (by kernel_rfl) (by kernel_rfl) (fun _ _ _ h => h) (by rfl) ?_ HC.out ?_
          rotate_left
          · intro W hW; obtain ⟨⟨c0, c1, c2, c3, c4⟩, ⟨d0, d1, d2, d3, d4⟩, ⟨t0, t1, t2, t3, t4, t5⟩, ⟨q0, q1, q2, q3, q4, q5⟩⟩ := HL.out W hW; go_simp <;> with_reducible rfl
          simp only [Act.put, List.setIfInBounds_toArray, List.set_cons_zero, List.set_cons_succ]
          refine oneH (i := 1) rfl (by kernel_rfl) (by rfl) (fun K hK => ?_)
          go_simp
          go_at_call 14
          refine (HR1.out _ _ _ (RD.out.up HC.out)).mono ?_
          rintro e y5 ⟨rfl, b9⟩
          have HC2 := Lib.hid (HC.out.trans (b9.mono HC.out.size))
          clear HC b9
          have HC := HC2
          clear HC2
          refine hK.out _ _ HC.out (fun _ => ?_)
          clear hK K
          refine takeH (i := 2) (v := ?_) rfl (by kernel_rfl) (by kernel_rfl) (by kernel_rfl) (fun _ _ _ h => h) (by rfl) ?_ HC.out ?_
          rotate_left
          · intro W hW; obtain ⟨⟨c0, c1, c2, c3, c4⟩, ⟨d0, d1, d2, d3, d4⟩, ⟨t0, t1, t2, t3, t4, t5⟩, ⟨q0, q1, q2, q3, q4, q5⟩⟩ := HL.out W hW; go_simp <;> with_reducible rfl
          simp only [Act.put, List.setIfInBounds_toArray, List.set_cons_zero, List.set_cons_succ]
          refine takeH (i := 3) (v := ?_) rfl (by kernel_rfl) (by kernel_rfl) (by kernel_rfl) (fun _ _ _ h => h) (by rfl) ?_ HC.out ?_
          rotate_left
          · intro W hW; obtain ⟨⟨c0, c1, c2, c3, c4⟩, ⟨d0, d1, d2, d3, d4⟩, ⟨t0, t1, t2, t3, t4, t5⟩, ⟨q0, q1, q2, q3, q4, q5⟩⟩ := HL.out W hW; go_simp <;> with_reducible rfl
          simp only [Act.put, List.setIfInBounds_toArray, List.set_cons_zero, List.set_cons_succ]
          refine takeH (i := 4) (v := ?_) rfl (by kernel_rfl) (by kernel_rfl) (by kernel_rfl) (fun _ _ _ h => h) (by rfl) ?_ HC.out ?_
          rotate_left
          · intro W hW; obtain ⟨⟨c0, c1, c2, c3, c4⟩, ⟨d0, d1, d2, d3, d4⟩, ⟨t0, t1, t2, t3, t4, t5⟩, ⟨q0, q1, q2, q3, q4, q5⟩⟩ := HL.out W hW; go_simp <;> with_reducible rfl
          simp only [Act.put, List.setIfInBounds_toArray, List.set_cons_zero, List.set_cons_succ]
          refine takeH (i := 5) (v := ?_) rfl (by kernel_rfl) (by kernel_rfl) (by kernel_rfl) (fun _ _ _ h => h) (by rfl) ?_ HC.out ?_
          rotate_left
          · intro W hW; obtain ⟨⟨c0, c1, c2, c3, c4⟩, ⟨d0, d1, d2, d3, d4⟩, ⟨t0, t1, t2, t3, t4, t5⟩, ⟨q0, q1, q2, q3, q4, q5⟩⟩ := HL.out W hW; go_simp <;> with_reducible rfl
          simp only [Act.put, List.setIfInBounds_toArray, List.set_cons_zero, List.set_cons_succ]
          refine takeH (i := 6) (v := ?_) rfl (by kernel_rfl) (by kernel_rfl) (by kernel_rfl) (fun _ _ _ h => h) (by rfl) ?_ HC.out ?_
          rotate_left
          · intro W hW; obtain ⟨⟨c0, c1, c2, c3, c4⟩, ⟨d0, d1, d2, d3, d4⟩, ⟨t0, t1, t2, t3, t4, t5⟩, ⟨q0, q1, q2, q3, q4, q5⟩⟩ := HL.out W hW; go_simp <;> with_reducible rfl
          simp only [Act.put, List.setIfInBounds_toArray, List.set_cons_zero, List.set_cons_succ]
          refine takeH (i := 7) (v := ?_) rfl (by kernel_rfl) (by kernel_rfl) (by kernel_rfl) (fun _ _ _ h => h) (by rfl) ?_ HC.out ?_
          rotate_left
          · intro W hW; obtain ⟨⟨c0, c1, c2, c3, c4⟩, ⟨d0, d1, d2, d3, d4⟩, ⟨t0, t1, t2, t3, t4, t5⟩, ⟨q0, q1, q2, q3, q4, q5⟩⟩ := HL.out W hW; go_simp <;> with_reducible rfl
          simp only [Act.put, List.setIfInBounds_toArray, List.set_cons_zero, List.set_cons_succ]
          refine takeH (i := 8) (v := ?_) rfl (by kernel_rfl) (by kernel_rfl) (by kernel_rfl) (fun _ _ _ h => h) (by rfl) ?_ HC.out ?_
          rotate_left
          · intro W hW; obtain ⟨⟨c0, c1, c2, c3, c4⟩, ⟨d0, d1, d2, d3, d4⟩, ⟨t0, t1, t2, t3, t4, t5⟩, ⟨q0, q1, q2, q3, q4, q5⟩⟩ := HL.out W hW; go_simp <;> with_reducible rfl
          simp only [Act.put, List.setIfInBounds_toArray, List.set_cons_zero, List.set_cons_succ]
          refine takeH (i := 9) (v := ?_) rfl (by kernel_rfl) (by kernel_rfl) (by kernel_rfl) (fun _ _ _ h => h) (by rfl) ?_ HC.out ?_
          rotate_left
          · intro W hW; obtain ⟨⟨c0, c1, c2, c3, c4⟩, ⟨d0, d1, d2, d3, d4⟩, ⟨t0, t1, t2, t3, t4, t5⟩, ⟨q0, q1, q2, q3, q4, q5⟩⟩ := HL.out W hW; go_simp <;> with_reducible rfl
          simp only [Act.put, List.setIfInBounds_toArray, List.set_cons_zero, List.set_cons_succ]
          refine takeH (i := 10) (v := ?_) rfl (by kernel_rfl) (by kernel_rfl) (by kernel_rfl) (fun _ _ _ h => h) (by rfl) ?_ HC.out ?_
          rotate_left
          · intro W hW; obtain ⟨⟨c0, c1, c2, c3, c4⟩, ⟨d0, d1, d2, d3, d4⟩, ⟨t0, t1, t2, t3, t4, t5⟩, ⟨q0, q1, q2, q3, q4, q5⟩⟩ := HL.out W hW; go_simp <;> with_reducible rfl
          simp only [Act.put, List.setIfInBounds_toArray, List.set_cons_zero, List.set_cons_succ]
          refine takeH (i := 11) (v := ?_) rfl (by kernel_rfl) (by kernel_rfl) (by kernel_rfl) (fun _ _ _ h => h) (by rfl) ?_ HC.out ?_
          rotate_left
          · intro W hW; obtain ⟨⟨c0, c1, c2, c3, c4⟩, ⟨d0, d1, d2, d3, d4⟩, ⟨t0, t1, t2, t3, t4, t5⟩, ⟨q0, q1, q2, q3, q4, q5⟩⟩ := HL.out W hW; go_simp <;> with_reducible rfl
          simp only [Act.put, List.setIfInBounds_toArray, List.set_cons_zero, List.set_cons_succ]
          refine takeH (i := 12) (v := ?_) rfl (by kernel_rfl) (by kernel_rfl) (by kernel_rfl) (fun _ _ _ h => h) (by rfl) ?_ HC.out ?_
          rotate_left
          · intro W hW; obtain ⟨⟨c0, c1, c2, c3, c4⟩, ⟨d0, d1, d2, d3, d4⟩, ⟨t0, t1, t2, t3, t4, t5⟩, ⟨q0, q1, q2, q3, q4, q5⟩⟩ := HL.out W hW; go_simp <;> with_reducible rfl
          simp only [Act.put, List.setIfInBounds_toArray, List.set_cons_zero, List.set_cons_succ]
          refine takeH (i := 13) (v := ?_) rfl (by kernel_rfl) (by kernel_rfl) (by kernel_rfl) (fun _ _ _ h => h) (by rfl) ?_ HC.out ?_
          rotate_left
          · intro W hW; obtain ⟨⟨c0, c1, c2, c3, c4⟩, ⟨d0, d1, d2, d3, d4⟩, ⟨t0, t1, t2, t3, t4, t5⟩, ⟨q0, q1, q2, q3, q4, q5⟩⟩ := HL.out W hW; go_simp <;> with_reducible rfl
          simp only [Act.put, List.setIfInBounds_toArray, List.set_cons_zero, List.set_cons_succ]
          refine takeH (i := 14) (v := ?_) rfl (by kernel_rfl) (by kernel_rfl) (by kernel_rfl) (fun _ _ _ h => h) (by rfl) ?_ HC.out ?_
          rotate_left
          · intro W hW; obtain ⟨⟨c0, c1, c2, c3, c4⟩, ⟨d0, d1, d2, d3, d4⟩, ⟨t0, t1, t2, t3, t4, t5⟩, ⟨q0, q1, q2, q3, q4, q5⟩⟩ := HL.out W hW; go_simp <;> with_reducible rfl
          simp only [Act.put, List.setIfInBounds_toArray, List.set_cons_zero, List.set_cons_succ]
          refine takeH (i := 15) (v := ?_) rfl (by kernel_rfl) (by kernel_rfl) (by kernel_rfl) (fun _ _ _ h => h) (by rfl) ?_ HC.out ?_
          rotate_left
          · intro W hW; obtain ⟨⟨c0, c1, c2, c3, c4⟩, ⟨d0, d1, d2, d3, d4⟩, ⟨t0, t1, t2, t3, t4, t5⟩, ⟨q0, q1, q2, q3, q4, q5⟩⟩ := HL.out W hW; go_simp <;> with_reducible rfl
          simp only [Act.put, List.setIfInBounds_toArray, List.set_cons_zero, List.set_cons_succ]
          refine takeH (i := 16) (v := ?_) rfl (by kernel_rfl) (by kernel_rfl) (by kernel_rfl) (fun _ _ _ h => h) (by rfl) ?_ HC.out ?_
          rotate_left
          · intro W hW; obtain ⟨⟨c0, c1, c2, c3, c4⟩, ⟨d0, d1, d2, d3, d4⟩, ⟨t0, t1, t2, t3, t4, t5⟩, ⟨q0, q1, q2, q3, q4, q5⟩⟩ := HL.out W hW; go_simp <;> with_reducible rfl
          simp only [Act.put, List.setIfInBounds_toArray, List.set_cons_zero, List.set_cons_succ]
          refine takeH (i := 17) (v := ?_) rfl (by kernel_rfl) (by kernel_rfl) (by kernel_rfl) (fun _ _ _ h => h) (by rfl) ?_ HC.out ?_
          rotate_left
          · intro W hW; obtain ⟨⟨c0, c1, c2, c3, c4⟩, ⟨d0, d1, d2, d3, d4⟩, ⟨t0, t1, t2, t3, t4, t5⟩, ⟨q0, q1, q2, q3, q4, q5⟩⟩ := HL.out W hW; go_simp <;> with_reducible rfl
          simp only [Act.put, List.setIfInBounds_toArray, List.set_cons_zero, List.set_cons_succ]
          refine takeH (i := 18) (v := ?_) rfl (by kernel_rfl) (by kernel_rfl) (by kernel_rfl) (fun _ _ _ h => h) (by rfl) ?_ HC.out ?_
          rotate_left
          · intro W hW; obtain ⟨⟨c0, c1, c2, c3, c4⟩, ⟨d0, d1, d2, d3, d4⟩, ⟨t0, t1, t2, t3, t4, t5⟩, ⟨q0, q1, q2, q3, q4, q5⟩⟩ := HL.out W hW; go_simp <;> with_reducible rfl
          simp only [Act.put, List.setIfInBounds_toArray, List.set_cons_zero, List.set_cons_succ]
          refine takeH (i := 19) (v := ?_) rfl (by kernel_rfl) (by kernel_rfl) (by kernel_rfl) (fun _ _ _ h => h) (by rfl) ?_ HC.out ?_
          rotate_left
          · intro W hW; obtain ⟨⟨c0, c1, c2, c3, c4⟩, ⟨d0, d1, d2, d3, d4⟩, ⟨t0, t1, t2, t3, t4, t5⟩, ⟨q0, q1, q2, q3, q4, q5⟩⟩ := HL.out W hW; go_simp <;> with_reducible rfl
          simp only [Act.put, List.setIfInBounds_toArray, List.set_cons_zero, List.set_cons_succ]
          refine takeH (i := 20) (v := ?_) rfl (by kernel_rfl) (by kernel_rfl) (by kernel_rfl) (fun _ _ _ h => h) (by rfl) ?_ HC.out ?_
          rotate_left
          · intro W hW; obtain ⟨⟨c0, c1, c2, c3, c4⟩, ⟨d0, d1, d2, d3, d4⟩, ⟨t0, t1, t2, t3, t4, t5⟩, ⟨q0, q1, q2, q3, q4, q5⟩⟩ := HL.out W hW; go_simp <;> with_reducible rfl
          simp only [Act.put, List.setIfInBounds_toArray, List.set_cons_zero, List.set_cons_succ]
          refine takeH (i := 21) (v := ?_) rfl (by kernel_rfl) (by kernel_rfl) (by kernel_rfl) (fun _ _ _ h => h) (by rfl) ?_ HC.out ?_
          rotate_left
          · intro W hW; obtain ⟨⟨c0, c1, c2, c3, c4⟩, ⟨d0, d1, d2, d3, d4⟩, ⟨t0, t1, t2, t3, t4, t5⟩, ⟨q0, q1, q2, q3, q4, q5⟩⟩ := HL.out W hW; go_simp <;> with_reducible rfl
          simp only [Act.put, List.setIfInBounds_toArray, List.set_cons_zero, List.set_cons_succ]
          refine takeH (i := 22) (v := ?_) rfl (by kernel_rfl) (by kernel_rfl) (by kernel_rfl) (fun _ _ _ h => h) (by rfl) ?_ HC.out ?_
          rotate_left
          · intro W hW; obtain ⟨⟨c0, c1, c2, c3, c4⟩, ⟨d0, d1, d2, d3, d4⟩, ⟨t0, t1, t2, t3, t4, t5⟩, ⟨q0, q1, q2, q3, q4, q5⟩⟩ := HL.out W hW; go_simp <;> with_reducible rfl
          simp only [Act.put, List.setIfInBounds_toArray, List.set_cons_zero, List.set_cons_succ]
          refine takeH (i := 23) (v := ?_) rfl (by kernel_rfl) (by kernel_rfl) (by kernel_rfl) (fun _ _ _ h => h) (by rfl) ?_ HC.out ?_
          rotate_left
          · intro W hW; obtain ⟨⟨c0, c1, c2, c3, c4⟩, ⟨d0, d1, d2, d3, d4⟩, ⟨t0, t1, t2, t3, t4, t5⟩, ⟨q0, q1, q2, q3, q4, q5⟩⟩ := HL.out W hW; go_simp <;> with_reducible rfl
          simp only [Act.put, List.setIfInBounds_toArray, List.set_cons_zero, List.set_cons_succ]
          refine takeH (i := 24) (v := ?_) rfl (by kernel_rfl) (by kernel_rfl) (by kernel_rfl) (fun _ _ _ h => h) (by rfl) ?_ HC.out ?_
          rotate_left
          · intro W hW; obtain ⟨⟨c0, c1, c2, c3, c4⟩, ⟨d0, d1, d2, d3, d4⟩, ⟨t0, t1, t2, t3, t4, t5⟩, ⟨q0, q1, q2, q3, q4, q5⟩⟩ := HL.out W hW; go_simp <;> with_reducible rfl
          simp only [Act.put, List.setIfInBounds_toArray, List.set_cons_zero, List.set_cons_succ]
          refine takeH (i := 25) (v := ?_) rfl (by kernel_rfl) (by kernel_rfl) (by kernel_rfl) (fun _ _ _ h => h) (by rfl) ?_ HC.out ?_
          rotate_left
          · intro W hW; obtain ⟨⟨c0, c1, c2, c3, c4⟩, ⟨d0, d1, d2, d3, d4⟩, ⟨t0, t1, t2, t3, t4, t5⟩, ⟨q0, q1, q2, q3, q4, q5⟩⟩ := HL.out W hW; go_simp <;> with_reducible rfl
          simp only [Act.put, List.setIfInBounds_toArray, List.set_cons_zero, List.set_cons_succ]
          refine takeH (i := 26) (v := ?_) rfl (by kernel_rfl) (by kernel_rfl) (by kernel_rfl) (fun _ _ _ h => h) (by rfl) ?_ HC.out ?_
          rotate_left
          · intro W hW; obtain ⟨⟨c0, c1, c2, c3, c4⟩, ⟨d0, d1, d2, d3, d4⟩, ⟨t0, t1, t2, t3, t4, t5⟩, ⟨q0, q1, q2, q3, q4, q5⟩⟩ := HL.out W hW; go_simp <;> with_reducible rfl
          simp only [Act.put, List.setIfInBounds_toArray, List.set_cons_zero, List.set_cons_succ]
          refine takeH (i := 27) (v := ?_) rfl (by kernel_rfl) (by kernel_rfl) (by kernel_rfl) (fun _ _ _ h => h) (by rfl) ?_ HC.out ?_
          rotate_left
          · intro W hW; obtain ⟨⟨c0, c1, c2, c3, c4⟩, ⟨d0, d1, d2, d3, d4⟩, ⟨t0, t1, t2, t3, t4, t5⟩, ⟨q0, q1, q2, q3, q4, q5⟩⟩ := HL.out W hW; go_simp <;> with_reducible rfl
          simp only [Act.put, List.setIfInBounds_toArray, List.set_cons_zero, List.set_cons_succ]
          refine takeH (i := 28) (v := ?_) rfl (by kernel_rfl) (by kernel_rfl) (by kernel_rfl) (fun _ _ _ h => h) (by rfl) ?_ HC.out ?_
          rotate_left
          · intro W hW; obtain ⟨⟨c0, c1, c2, c3, c4⟩, ⟨d0, d1, d2, d3, d4⟩, ⟨t0, t1, t2, t3, t4, t5⟩, ⟨q0, q1, q2, q3, q4, q5⟩⟩ := HL.out W hW; go_simp <;> with_reducible rfl
          simp only [Act.put, List.setIfInBounds_toArray, List.set_cons_zero, List.set_cons_succ]
          refine takeH (i := 29) (v := ?_) rfl (by kernel_rfl) (by kernel_rfl) (by kernel_rfl) (fun _ _ _ h => h) (by rfl) ?_ HC.out ?_
          rotate_left
          · intro W hW; obtain ⟨⟨c0, c1, c2, c3, c4⟩, ⟨d0, d1, d2, d3, d4⟩, ⟨t0, t1, t2, t3, t4, t5⟩, ⟨q0, q1, q2, q3, q4, q5⟩⟩ := HL.out W hW; go_simp <;> with_reducible rfl
          simp only [Act.put, List.setIfInBounds_toArray, List.set_cons_zero, List.set_cons_succ]
          refine takeH (i := 30) (v := ?_) rfl (by kernel_rfl) (by kernel_rfl) (by kernel_rfl) (fun _ _ _ h => h) (by rfl) ?_ HC.out ?_
          rotate_left
          · intro W hW; obtain ⟨⟨c0, c1, c2, c3, c4⟩, ⟨d0, d1, d2, d3, d4⟩, ⟨t0, t1, t2, t3, t4, t5⟩, ⟨q0, q1, q2, q3, q4, q5⟩⟩ := HL.out W hW; go_simp <;> with_reducible rfl
          simp only [Act.put, List.setIfInBounds_toArray, List.set_cons_zero, List.set_cons_succ]
          refine takeH (i := 31) (v := ?_) rfl (by kernel_rfl) (by kernel_rfl) (by kernel_rfl) (fun _ _ _ h => h) (by rfl) ?_ HC.out ?_
          rotate_left
          · intro W hW; obtain ⟨⟨c0, c1, c2, c3, c4⟩, ⟨d0, d1, d2, d3, d4⟩, ⟨t0, t1, t2, t3, t4, t5⟩, ⟨q0, q1, q2, q3, q4, q5⟩⟩ := HL.out W hW; go_simp <;> with_reducible rfl
          simp only [Act.put, List.setIfInBounds_toArray, List.set_cons_zero, List.set_cons_succ]
          refine takeH (i := 32) (v := ?_) rfl (by kernel_rfl) (by kernel_rfl) (by kernel_rfl) (fun _ _ _ h => h) (by rfl) ?_ HC.out ?_
          rotate_left
          · intro W hW; obtain ⟨⟨c0, c1, c2, c3, c4⟩, ⟨d0, d1, d2, d3, d4⟩, ⟨t0, t1, t2, t3, t4, t5⟩, ⟨q0, q1, q2, q3, q4, q5⟩⟩ := HL.out W hW; go_simp <;> with_reducible rfl
          simp only [Act.put, List.setIfInBounds_toArray, List.set_cons_zero, List.set_cons_succ]
          refine takeH (i := 33) (v := ?_) rfl (by kernel_rfl) (by kernel_rfl) (by kernel_rfl) (fun _ _ _ h => h) (by rfl) ?_ HC.out ?_
          rotate_left
          · intro W hW; obtain ⟨⟨c0, c1, c2, c3, c4⟩, ⟨d0, d1, d2, d3, d4⟩, ⟨t0, t1, t2, t3, t4, t5⟩, ⟨q0, q1, q2, q3, q4, q5⟩⟩ := HL.out W hW; go_simp <;> with_reducible rfl
          simp only [Act.put, List.setIfInBounds_toArray, List.set_cons_zero, List.set_cons_succ]
          refine takeH (i := 34) (v := ?_) rfl (by kernel_rfl) (by kernel_rfl) (by kernel_rfl) (fun _ _ _ h => h) (by rfl) ?_ HC.out ?_
          rotate_left
          · intro W hW; obtain ⟨⟨c0, c1, c2, c3, c4⟩, ⟨d0, d1, d2, d3, d4⟩, ⟨t0, t1, t2, t3, t4, t5⟩, ⟨q0, q1, q2, q3, q4, q5⟩⟩ := HL.out W hW; go_simp <;> with_reducible rfl
          simp only [Act.put, List.setIfInBounds_toArray, List.set_cons_zero, List.set_cons_succ]
          refine takeH (i := 35) (v := ?_) rfl (by kernel_rfl) (by kernel_rfl) (by kernel_rfl) (fun _ _ _ h => h) (by rfl) ?_ HC.out ?_
          rotate_left
          · intro W hW; obtain ⟨⟨c0, c1, c2, c3, c4⟩, ⟨d0, d1, d2, d3, d4⟩, ⟨t0, t1, t2, t3, t4, t5⟩, ⟨q0, q1, q2, q3, q4, q5⟩⟩ := HL.out W hW; go_simp <;> with_reducible rfl
          simp only [Act.put, List.setIfInBounds_toArray, List.set_cons_zero, List.set_cons_succ]
          refine takeH (i := 36) (v := ?_) rfl (by kernel_rfl) (by kernel_rfl) (by kernel_rfl) (fun _ _ _ h => h) (by rfl) ?_ HC.out ?_
          rotate_left
          · intro W hW; obtain ⟨⟨c0, c1, c2, c3, c4⟩, ⟨d0, d1, d2, d3, d4⟩, ⟨t0, t1, t2, t3, t4, t5⟩, ⟨q0, q1, q2, q3, q4, q5⟩⟩ := HL.out W hW; go_simp <;> with_reducible rfl
          simp only [Act.put, List.setIfInBounds_toArray, List.set_cons_zero, List.set_cons_succ]
          refine takeH (i := 37) (v := ?_) rfl (by kernel_rfl) (by kernel_rfl) (by kernel_rfl) (fun _ _ _ h => h) (by rfl) ?_ HC.out ?_
          rotate_left
          · intro W hW; obtain ⟨⟨c0, c1, c2, c3, c4⟩, ⟨d0, d1, d2, d3, d4⟩, ⟨t0, t1, t2, t3, t4, t5⟩, ⟨q0, q1, q2, q3, q4, q5⟩⟩ := HL.out W hW; go_simp <;> with_reducible rfl
          simp only [Act.put, List.setIfInBounds_toArray, List.set_cons_zero, List.set_cons_succ]
          refine takeH (i := 38) (v := ?_) rfl (by kernel_rfl) (by kernel_rfl) (by kernel_rfl) (fun _ _ _ h => h) (by rfl) ?_ HC.out ?_
          rotate_left
          · intro W hW; obtain ⟨⟨c0, c1, c2, c3, c4⟩, ⟨d0, d1, d2, d3, d4⟩, ⟨t0, t1, t2, t3, t4, t5⟩, ⟨q0, q1, q2, q3, q4, q5⟩⟩ := HL.out W hW; go_simp <;> with_reducible rfl
          simp only [Act.put, List.setIfInBounds_toArray, List.set_cons_zero, List.set_cons_succ]
          refine takeH (i := 39) (v := ?_) rfl (by kernel_rfl) (by kernel_rfl) (by kernel_rfl) (fun _ _ _ h => h) (by rfl) ?_ HC.out ?_
          rotate_left
          · intro W hW; obtain ⟨⟨c0, c1, c2, c3, c4⟩, ⟨d0, d1, d2, d3, d4⟩, ⟨t0, t1, t2, t3, t4, t5⟩, ⟨q0, q1, q2, q3, q4, q5⟩⟩ := HL.out W hW; go_simp <;> with_reducible rfl
          simp only [Act.put, List.setIfInBounds_toArray, List.set_cons_zero, List.set_cons_succ]
          refine takeH (i := 40) (v := ?_) rfl (by kernel_rfl) (by kernel_rfl) (by kernel_rfl) (fun _ _ _ h => h) (by rfl) ?_ HC.out ?_
          rotate_left
          · intro W hW; obtain ⟨⟨c0, c1, c2, c3, c4⟩, ⟨d0, d1, d2, d3, d4⟩, ⟨t0, t1, t2, t3, t4, t5⟩, ⟨q0, q1, q2, q3, q4, q5⟩⟩ := HL.out W hW; go_simp <;> with_reducible rfl
          simp only [Act.put, List.setIfInBounds_toArray, List.set_cons_zero, List.set_cons_succ]
          refine takeH (i := 41) (v := ?_) rfl (by kernel_rfl) (by kernel_rfl) (by kernel_rfl) (fun _ _ _ h => h) (by rfl) ?_ HC.out ?_
          rotate_left
          · intro W hW; obtain ⟨⟨c0, c1, c2, c3, c4⟩, ⟨d0, d1, d2, d3, d4⟩, ⟨t0, t1, t2, t3, t4, t5⟩, ⟨q0, q1, q2, q3, q4, q5⟩⟩ := HL.out W hW; go_simp <;> with_reducible rfl
          simp only [Act.put, List.setIfInBounds_toArray, List.set_cons_zero, List.set_cons_succ]
          refine takeH (i := 42) (v := ?_) rfl (by kernel_rfl) (by kernel_rfl) (by kernel_rfl) (fun _ _ _ h => h) (by rfl) ?_ HC.out ?_
          rotate_left
          · intro W hW; obtain ⟨⟨c0, c1, c2, c3, c4⟩, ⟨d0, d1, d2, d3, d4⟩, ⟨t0, t1, t2, t3, t4, t5⟩, ⟨q0, q1, q2, q3, q4, q5⟩⟩ := HL.out W hW; go_simp <;> with_reducible rfl
          simp only [Act.put, List.setIfInBounds_toArray, List.set_cons_zero, List.set_cons_succ]
          refine takeH (i := 43) (v := ?_) rfl (by kernel_rfl) (by kernel_rfl) (by kernel_rfl) (fun _ _ _ h => h) (by rfl) ?_ HC.out ?_
          rotate_left
          · intro W hW; obtain ⟨⟨c0, c1, c2, c3, c4⟩, ⟨d0, d1, d2, d3, d4⟩, ⟨t0, t1, t2, t3, t4, t5⟩, ⟨q0, q1, q2, q3, q4, q5⟩⟩ := HL.out W hW; go_simp <;> with_reducible rfl
          simp only [Act.put, List.setIfInBounds_toArray, List.set_cons_zero, List.set_cons_succ]
          refine takeH (i := 44) (v := ?_) rfl (by kernel_rfl) (by kernel_rfl) (by kernel_rfl) (fun _ _ _ h => h) (by rfl) ?_ HC.out ?_
          rotate_left
          · intro W hW; obtain ⟨⟨c0, c1, c2, c3, c4⟩, ⟨d0, d1, d2, d3, d4⟩, ⟨t0, t1, t2, t3, t4, t5⟩, ⟨q0, q1, q2, q3, q4, q5⟩⟩ := HL.out W hW; go_simp <;> with_reducible rfl
          simp only [Act.put, List.setIfInBounds_toArray, List.set_cons_zero, List.set_cons_succ]
          refine takeH (i := 45) (v := ?_) rfl (by kernel_rfl) (by kernel_rfl) (by kernel_rfl) (fun _ _ _ h => h) (by rfl) ?_ HC.out ?_
          rotate_left
          · intro W hW; obtain ⟨⟨c0, c1, c2, c3, c4⟩, ⟨d0, d1, d2, d3, d4⟩, ⟨t0, t1, t2, t3, t4, t5⟩, ⟨q0, q1, q2, q3, q4, q5⟩⟩ := HL.out W hW; go_simp <;> with_reducible rfl
          simp only [Act.put, List.setIfInBounds_toArray, List.set_cons_zero, List.set_cons_succ]
          refine takeH (i := 46) (v := ?_) rfl (by kernel_rfl) (by kernel_rfl) (by kernel_rfl) (fun _ _ _ h => h) (by rfl) ?_ HC.out ?_
          rotate_left
          · intro W hW; obtain ⟨⟨c0, c1, c2, c3, c4⟩, ⟨d0, d1, d2, d3, d4⟩, ⟨t0, t1, t2, t3, t4, t5⟩, ⟨q0, q1, q2, q3, q4, q5⟩⟩ := HL.out W hW; go_simp <;> with_reducible rfl
          simp only [Act.put, List.setIfInBounds_toArray, List.set_cons_zero, List.set_cons_succ]
          refine takeH (i := 47) (v := ?_) rfl (by kernel_rfl) (by kernel_rfl) (by kernel_rfl) (fun _ _ _ h => h) (by rfl) ?_ HC.out ?_
          rotate_left
          · intro W hW; obtain ⟨⟨c0, c1, c2, c3, c4⟩, ⟨d0, d1, d2, d3, d4⟩, ⟨t0, t1, t2, t3, t4, t5⟩, ⟨q0, q1, q2, q3, q4, q5⟩⟩ := HL.out W hW; go_simp <;> with_reducible rfl
          simp only [Act.put, List.setIfInBounds_toArray, List.set_cons_zero, List.set_cons_succ]
          refine takeH (i := 48) (v := ?_) rfl (by kernel_rfl) (by kernel_rfl) (by kernel_rfl) (fun _ _ _ h => h) (by rfl) ?_ HC.out ?_
          rotate_left
          · intro W hW; obtain ⟨⟨c0, c1, c2, c3, c4⟩, ⟨d0, d1, d2, d3, d4⟩, ⟨t0, t1, t2, t3, t4, t5⟩, ⟨q0, q1, q2, q3, q4, q5⟩⟩ := HL.out W hW; go_simp <;> with_reducible rfl
          simp only [Act.put, List.setIfInBounds_toArray, List.set_cons_zero, List.set_cons_succ]
          refine takeH (i := 49) (v := ?_) rfl (by kernel_rfl) (by kernel_rfl) (by kernel_rfl) (fun _ _ _ h => h) (by rfl) ?_ HC.out ?_
          rotate_left
          · intro W hW; obtain ⟨⟨c0, c1, c2, c3, c4⟩, ⟨d0, d1, d2, d3, d4⟩, ⟨t0, t1, t2, t3, t4, t5⟩, ⟨q0, q1, q2, q3, q4, q5⟩⟩ := HL.out W hW; go_simp <;> with_reducible rfl
          simp only [Act.put, List.setIfInBounds_toArray, List.set_cons_zero, List.set_cons_succ]
          refine takeH (i := 50) (v := ?_) rfl (by kernel_rfl) (by kernel_rfl) (by kernel_rfl) (fun _ _ _ h => h) (by rfl) ?_ HC.out ?_
          rotate_left
          · intro W hW; obtain ⟨⟨c0, c1, c2, c3, c4⟩, ⟨d0, d1, d2, d3, d4⟩, ⟨t0, t1, t2, t3, t4, t5⟩, ⟨q0, q1, q2, q3, q4, q5⟩⟩ := HL.out W hW; go_simp <;> with_reducible rfl
          simp only [Act.put, List.setIfInBounds_toArray, List.set_cons_zero, List.set_cons_succ]
          refine takeH (i := 51) (v := ?_) rfl (by kernel_rfl) (by kernel_rfl) (by kernel_rfl) (fun _ _ _ h => h) (by rfl) ?_ HC.out ?_
          rotate_left
          · intro W hW; obtain ⟨⟨c0, c1, c2, c3, c4⟩, ⟨d0, d1, d2, d3, d4⟩, ⟨t0, t1, t2, t3, t4, t5⟩, ⟨q0, q1, q2, q3, q4, q5⟩⟩ := HL.out W hW; go_simp <;> with_reducible rfl
          simp only [Act.put, List.setIfInBounds_toArray, List.set_cons_zero, List.set_cons_succ]
          refine takeH (i := 52) (v := ?_) rfl (by kernel_rfl) (by kernel_rfl) (by kernel_rfl) (fun _ _ _ h => h) (by rfl) ?_ HC.out ?_
          rotate_left
          · intro W hW; obtain ⟨⟨c0, c1, c2, c3, c4⟩, ⟨d0, d1, d2, d3, d4⟩, ⟨t0, t1, t2, t3, t4, t5⟩, ⟨q0, q1, q2, q3, q4, q5⟩⟩ := HL.out W hW; go_simp <;> with_reducible rfl
          simp only [Act.put, List.setIfInBounds_toArray, List.set_cons_zero, List.set_cons_succ]
          refine takeH (i := 53) (v := ?_) rfl (by kernel_rfl) (by kernel_rfl) (by kernel_rfl) (fun _ _ _ h => h) (by rfl) ?_ HC.out ?_
          rotate_left
          · intro W hW; obtain ⟨⟨c0, c1, c2, c3, c4⟩, ⟨d0, d1, d2, d3, d4⟩, ⟨t0, t1, t2, t3, t4, t5⟩, ⟨q0, q1, q2, q3, q4, q5⟩⟩ := HL.out W hW; go_simp <;> with_reducible rfl
          simp only [Act.put, List.setIfInBounds_toArray, List.set_cons_zero, List.set_cons_succ]
          refine takeH (i := 54) (v := ?_) rfl (by kernel_rfl) (by kernel_rfl) (by kernel_rfl) (fun _ _ _ h => h) (by rfl) ?_ HC.out ?_
          rotate_left
          · intro W hW; obtain ⟨⟨c0, c1, c2, c3, c4⟩, ⟨d0, d1, d2, d3, d4⟩, ⟨t0, t1, t2, t3, t4, t5⟩, ⟨q0, q1, q2, q3, q4, q5⟩⟩ := HL.out W hW; go_simp <;> with_reducible rfl
          simp only [Act.put, List.setIfInBounds_toArray, List.set_cons_zero, List.set_cons_succ]
          refine takeH (i := 55) (v := ?_) rfl (by kernel_rfl) (by kernel_rfl) (by kernel_rfl) (fun _ _ _ h => h) (by rfl) ?_ HC.out ?_
          rotate_left
          · intro W hW; obtain ⟨⟨c0, c1, c2, c3, c4⟩, ⟨d0, d1, d2, d3, d4⟩, ⟨t0, t1, t2, t3, t4, t5⟩, ⟨q0, q1, q2, q3, q4, q5⟩⟩ := HL.out W hW; go_simp <;> with_reducible rfl
          simp only [Act.put, List.setIfInBounds_toArray, List.set_cons_zero, List.set_cons_succ]
          refine takeH (i := 56) (v := ?_) rfl (by kernel_rfl) (by kernel_rfl) (by kernel_rfl) (fun _ _ _ h => h) (by rfl) ?_ HC.out ?_
          rotate_left
          · intro W hW; obtain ⟨⟨c0, c1, c2, c3, c4⟩, ⟨d0, d1, d2, d3, d4⟩, ⟨t0, t1, t2, t3, t4, t5⟩, ⟨q0, q1, q2, q3, q4, q5⟩⟩ := HL.out W hW; go_simp <;> with_reducible rfl
          simp only [Act.put, List.setIfInBounds_toArray, List.set_cons_zero, List.set_cons_succ]
          refine takeH (i := 57) (v := ?_) rfl (by kernel_rfl) (by kernel_rfl) (by kernel_rfl) (fun _ _ _ h => h) (by rfl) ?_ HC.out ?_
          rotate_left
          · intro W hW; obtain ⟨⟨c0, c1, c2, c3, c4⟩, ⟨d0, d1, d2, d3, d4⟩, ⟨t0, t1, t2, t3, t4, t5⟩, ⟨q0, q1, q2, q3, q4, q5⟩⟩ := HL.out W hW; go_simp <;> with_reducible rfl
          simp only [Act.put, List.setIfInBounds_toArray, List.set_cons_zero, List.set_cons_succ]
          refine takeH (i := 58) (v := ?_) rfl (by kernel_rfl) (by kernel_rfl) (by kernel_rfl) (fun _ _ _ h => h) (by rfl) ?_ HC.out ?_
          rotate_left
          · intro W hW; obtain ⟨⟨c0, c1, c2, c3, c4⟩, ⟨d0, d1, d2, d3, d4⟩, ⟨t0, t1, t2, t3, t4, t5⟩, ⟨q0, q1, q2, q3, q4, q5⟩⟩ := HL.out W hW; go_simp <;> with_reducible rfl
          simp only [Act.put, List.setIfInBounds_toArray, List.set_cons_zero, List.set_cons_succ]
          refine takeH (i := 59) (v := ?_) rfl (by kernel_rfl) (by kernel_rfl) (by kernel_rfl) (fun _ _ _ h => h) (by rfl) ?_ HC.out ?_
          rotate_left
          · intro W hW; obtain ⟨⟨c0, c1, c2, c3, c4⟩, ⟨d0, d1, d2, d3, d4⟩, ⟨t0, t1, t2, t3, t4, t5⟩, ⟨q0, q1, q2, q3, q4, q5⟩⟩ := HL.out W hW; go_simp <;> with_reducible rfl
          simp only [Act.put, List.setIfInBounds_toArray, List.set_cons_zero, List.set_cons_succ]
          refine wpAnyH_done (by kernel_rfl) ?_ _
          have b := HC.out
          have C_ := Lib.hid (C.out.under b)
          have R_ := Lib.hid (R.out.up b)
          have QQ_ := Lib.hid ((QQ.out.below b).more b.size)
          have B_ := Lib.hid (B.out.trans (b.mono B.out.size))
          have QA_ := Lib.hid (QA.out.under b)
          have D_ := Lib.hid (D.out.under b)
          have T_ := Lib.hid (T.out.under b)
          have RD_ := Lib.hid (RD.out.up b)
          clear C R QQ B QA D T RD
          have C := C_
          have R := R_
          have QQ := QQ_
          have B := B_
          have QA := QA_
          have D := D_
          have T := T_
          have RD := RD_
          clear C_ R_ QQ_ B_ QA_ D_ T_ RD_
          clear b HC HL
          clear dB dA dC dD e1 e2 e3 e4 ew1 ew2 f2 f3 f4 f5 f6
          by_cases hK1 : K = 1
          · have dK : (K != 1) = false := by simp [hK1]
            clear HS1 hK1
            have vT_2 := T.out.cell 2
            simp only [List.getElem?_toArray, List.getElem?_cons_zero, List.getElem?_cons_succ] at vT_2
            have vC_0 := C.out.cell 0
            have vC_1 := C.out.cell 1
            have vC_2 := C.out.cell 2
            have vC_3 := C.out.cell 3
            have vC_4 := C.out.cell 4
            simp only [List.getElem?_toArray, List.getElem?_cons_zero, List.getElem?_cons_succ] at vC_0 vC_1 vC_2 vC_3 vC_4
            have vD_0 := D.out.cell 0
            have vD_1 := D.out.cell 1
            have vD_2 := D.out.cell 2
            have vD_3 := D.out.cell 3
            have vD_4 := D.out.cell 4
            simp only [List.getElem?_toArray, List.getElem?_cons_zero, List.getElem?_cons_succ] at vD_0 vD_1 vD_2 vD_3 vD_4
            have g0 := C.out.frozen 0
            have g1 := C.out.frozen 1
            have g2 := C.out.frozen 2
            have g3 := C.out.frozen 3
            have g4 := C.out.frozen 4
            go_wp2_with fail
            go_roundw
            case rel =>
              have kp := kept5 C.out (.slice A3 N' c3) (.int .i64 x.fl) (.int .i64 x.dr) (.int .i64 x.nw) (.bool x.tg)
              have bel := kp.2.bel _ _ (Nat.le_refl _) B.out
              exact ⟨j + 1, N', A3, c3, L', by go_num, by have := HX2.out.2; omega, HX2.out.1, kp.1, kp.2.rows _ _ _ RD.out, (HQ0.out.below bel).more bel.size, bel⟩
            case measure => have := HX2.out.2; simp [intOf]; omega
          · have dK : (K != 1) = true := by simp [hK1]
            have HS := Lib.hid (HS1.out hK1)
            clear HS1 hK1
            have vC_0 := C.out.cell 0
            have vC_1 := C.out.cell 1
            have vC_2 := C.out.cell 2
            have vC_3 := C.out.cell 3
            have vC_4 := C.out.cell 4
            simp only [List.getElem?_toArray, List.getElem?_cons_zero, List.getElem?_cons_succ] at vC_0 vC_1 vC_2 vC_3 vC_4
            have vD_0 := D.out.cell 0
            have vD_1 := D.out.cell 1
            have vD_2 := D.out.cell 2
            have vD_3 := D.out.cell 3
            have vD_4 := D.out.cell 4
            simp only [List.getElem?_toArray, List.getElem?_cons_zero, List.getElem?_cons_succ] at vD_0 vD_1 vD_2 vD_3 vD_4
            have vT_2 := T.out.cell 2
            simp only [List.getElem?_toArray, List.getElem?_cons_zero, List.getElem?_cons_succ] at vT_2
            go_wp2_with fail
            refine (HS.out _ _ _ _ _ R.out RD.out).mono ?_
            rintro e y6 ⟨rfl, b⟩
            clear vC_0 vC_1 vC_2 vC_3 vC_4 vD_0 vD_1 vD_2 vD_3 vD_4 vT_2
            have C_ := Lib.hid (C.out.under b)
            have R_ := Lib.hid (R.out.up b)
            have QQ_ := Lib.hid ((QQ.out.below b).more b.size)
            have B_ := Lib.hid (B.out.trans (b.mono B.out.size))
            have QA_ := Lib.hid (QA.out.under b)
            have D_ := Lib.hid (D.out.under b)
            have T_ := Lib.hid (T.out.under b)
            have RD_ := Lib.hid (RD.out.up b)
            clear C R QQ B QA D T RD
            have C := C_
            have R := R_
            have QQ := QQ_
            have B := B_
            have QA := QA_
            have D := D_
            have T := T_
            have RD := RD_
            clear C_ R_ QQ_ B_ QA_ D_ T_ RD_
            clear HS b
            have vC_0 := C.out.cell 0
            have vC_1 := C.out.cell 1
            have vC_2 := C.out.cell 2
            have vC_3 := C.out.cell 3
            have vC_4 := C.out.cell 4
            simp only [List.getElem?_toArray, List.getElem?_cons_zero, List.getElem?_cons_succ] at vC_0 vC_1 vC_2 vC_3 vC_4
            have vD_0 := D.out.cell 0
            have vD_1 := D.out.cell 1
            have vD_2 := D.out.cell 2
            have vD_3 := D.out.cell 3
            have vD_4 := D.out.cell 4
            simp only [List.getElem?_toArray, List.getElem?_cons_zero, List.getElem?_cons_succ] at vD_0 vD_1 vD_2 vD_3 vD_4
            have g0 := C.out.frozen 0
            have g1 := C.out.frozen 1
            have g2 := C.out.frozen 2
            have g3 := C.out.frozen 3
            have g4 := C.out.frozen 4
            go_wp2_with fail
            go_roundw
            case rel =>
              have kp := kept5 C.out (.slice A3 N' c3) (.int .i64 x.fl) (.int .i64 x.dr) (.int .i64 x.nw) (.bool x.tg)
              have bel := kp.2.bel _ _ (Nat.le_refl _) B.out
              exact ⟨j + 1, N', A3, c3, L', by go_num, by have := HX2.out.2; omega, HX2.out.1, kp.1, kp.2.rows _ _ _ RD.out, (HQ0.out.below bel).more bel.size, bel⟩
            case measure => have := HX2.out.2; simp [intOf]; omega
        · have dA : decide (z1 < z0) = false := decide_eq_false hA
          clear f1 hA HF
          have HX2 := Lib.hid (And.intro f7 f8)
          clear f7 f8
          go_wp2_with fail
          have HC := Lib.hid ((Below.refl y4.heap.size y4).drew)
          have HL := Lib.hid (fun W (hW : Below y4.heap.size y4 W) => And.intro (cells5 (C.out.under hW)) (And.intro (cells5 (D.out.under hW)) (And.intro (cells6 (T.out.under hW)) (QA.out.under hW).2)))
          refine wp_region_held_drew (S := fun W => Below y4.heap.size y4 W) (by kernel_rfl) HC.out (fun _ => ?_)
          refine takeH (i := 0) (v := ?_) rfl (by kernel_rfl) (by kernel_rfl) (by kernel_rfl) (fun _ _ _ h => h) (by rfl) ?_ HC.out ?_
          rotate_left
          · intro W hW; obtain ⟨⟨c0, c1, c2, c3, c4⟩, ⟨d0, d1, d2, d3, d4⟩, ⟨t0, t1, t2, t3, t4, t5⟩, ⟨q0, q1, q2, q3, q4, q5⟩⟩ := HL.out W hW; go_simp <;> with_reducible rfl
          simp only [Act.put, List.setIfInBounds_toArray, List.set_cons_zero, List.set_cons_succ]
          refine oneH (i := 1) rfl (by kernel_rfl) (by rfl) (fun K hK => ?_)
          go_simp
          go_at_call 14
          refine (HR1.out _ _ _ (RD.out.up HC.out)).mono ?_
          rintro e y5 ⟨rfl, b9⟩
          have HC2 := Lib.hid (HC.out.trans (b9.mono HC.out.size))
          clear HC b9
          have HC := HC2
          clear HC2
          refine hK.out _ _ HC.out (fun _ => ?_)
          clear hK K
          refine takeH (i := 2) (v := ?_) rfl (by kernel_rfl) (by kernel_rfl) (by kernel_rfl) (fun _ _ _ h => h) (by rfl) ?_ HC.out ?_
          rotate_left
          · intro W hW; obtain ⟨⟨c0, c1, c2, c3, c4⟩, ⟨d0, d1, d2, d3, d4⟩, ⟨t0, t1, t2, t3, t4, t5⟩, ⟨q0, q1, q2, q3, q4, q5⟩⟩ := HL.out W hW; go_simp <;> with_reducible rfl
          simp only [Act.put, List.setIfInBounds_toArray, List.set_cons_zero, List.set_cons_succ]
          refine takeH (i := 3) (v := ?_) rfl (by kernel_rfl) (by kernel_rfl) (by kernel_rfl) (fun _ _ _ h => h) (by rfl) ?_ HC.out ?_
          rotate_left
          · intro W hW; obtain ⟨⟨c0, c1, c2, c3, c4⟩, ⟨d0, d1, d2, d3, d4⟩, ⟨t0, t1, t2, t3, t4, t5⟩, ⟨q0, q1, q2, q3, q4, q5⟩⟩ := HL.out W hW; go_simp <;> with_reducible rfl
          simp only [Act.put, List.setIfInBounds_toArray, List.set_cons_zero, List.set_cons_succ]
          refine takeH (i := 4) (v := ?_) rfl (by kernel_rfl) (by kernel_rfl) (by kernel_rfl) (fun _ _ _ h => h) (by rfl) ?_ HC.out ?_
          rotate_left
          · intro W hW; obtain ⟨⟨c0, c1, c2, c3, c4⟩, ⟨d0, d1, d2, d3, d4⟩, ⟨t0, t1, t2, t3, t4, t5⟩, ⟨q0, q1, q2, q3, q4, q5⟩⟩ := HL.out W hW; go_simp <;> with_reducible rfl
          simp only [Act.put, List.setIfInBounds_toArray, List.set_cons_zero, List.set_cons_succ]
          refine takeH (i := 5) (v := ?_) rfl (by kernel_rfl) (by kernel_rfl) (by kernel_rfl) (fun _ _ _ h => h) (by rfl) ?_ HC.out ?_
          rotate_left
          · intro W hW; obtain ⟨⟨c0, c1, c2, c3, c4⟩, ⟨d0, d1, d2, d3, d4⟩, ⟨t0, t1, t2, t3, t4, t5⟩, ⟨q0, q1, q2, q3, q4, q5⟩⟩ := HL.out W hW; go_simp <;> with_reducible rfl
          simp only [Act.put, List.setIfInBounds_toArray, List.set_cons_zero, List.set_cons_succ]
          refine takeH (i := 6) (v := ?_) rfl (by kernel_rfl) (by kernel_rfl) (by kernel_rfl) (fun _ _ _ h => h) (by rfl) ?_ HC.out ?_
          rotate_left
          · intro W hW; obtain ⟨⟨c0, c1, c2, c3, c4⟩, ⟨d0, d1, d2, d3, d4⟩, ⟨t0, t1, t2, t3, t4, t5⟩, ⟨q0, q1, q2, q3, q4, q5⟩⟩ := HL.out W hW; go_simp <;> with_reducible rfl
          simp only [Act.put, List.setIfInBounds_toArray, List.set_cons_zero, List.set_cons_succ]
          refine takeH (i := 7) (v := ?_) rfl (by kernel_rfl) (by kernel_rfl) (by kernel_rfl) (fun _ _ _ h => h) (by rfl) ?_ HC.out ?_
          rotate_left
          · intro W hW; obtain ⟨⟨c0, c1, c2, c3, c4⟩, ⟨d0, d1, d2, d3, d4⟩, ⟨t0, t1, t2, t3, t4, t5⟩, ⟨q0, q1, q2, q3, q4, q5⟩⟩ := HL.out W hW; go_simp <;> with_reducible rfl
          simp only [Act.put, List.setIfInBounds_toArray, List.set_cons_zero, List.set_cons_succ]
          refine skipH (i := 8) rfl (by kernel_rfl) (by kernel_rfl) (by kernel_rfl) (fun _ _ _ h => h) (by rfl) HC.out ?_
          simp only [Act.put, List.setIfInBounds_toArray, List.set_cons_zero, List.set_cons_succ]
          refine skipH (i := 9) rfl (by kernel_rfl) (by kernel_rfl) (by kernel_rfl) (fun _ _ _ h => h) (by rfl) HC.out ?_
          simp only [Act.put, List.setIfInBounds_toArray, List.set_cons_zero, List.set_cons_succ]
          refine skipH (i := 10) rfl (by kernel_rfl) (by kernel_rfl) (by kernel_rfl) (fun _ _ _ h => h) (by rfl) HC.out ?_
          simp only [Act.put, List.setIfInBounds_toArray, List.set_cons_zero, List.set_cons_succ]
          refine skipH (i := 11) rfl (by kernel_rfl) (by kernel_rfl) (by kernel_rfl) (fun _ _ _ h => h) (by rfl) HC.out ?_
          simp only [Act.put, List.setIfInBounds_toArray, List.set_cons_zero, List.set_cons_succ]
          refine takeH (i := 12) (v := ?_) rfl (by kernel_rfl) (by kernel_rfl) (by kernel_rfl) (fun _ _ _ h => h) (by rfl) ?_ HC.out ?_
          rotate_left
          · intro W hW; obtain ⟨⟨c0, c1, c2, c3, c4⟩, ⟨d0, d1, d2, d3, d4⟩, ⟨t0, t1, t2, t3, t4, t5⟩, ⟨q0, q1, q2, q3, q4, q5⟩⟩ := HL.out W hW; go_simp <;> with_reducible rfl
          simp only [Act.put, List.setIfInBounds_toArray, List.set_cons_zero, List.set_cons_succ]
          refine takeH (i := 13) (v := ?_) rfl (by kernel_rfl) (by kernel_rfl) (by kernel_rfl) (fun _ _ _ h => h) (by rfl) ?_ HC.out ?_
          rotate_left
          · intro W hW; obtain ⟨⟨c0, c1, c2, c3, c4⟩, ⟨d0, d1, d2, d3, d4⟩, ⟨t0, t1, t2, t3, t4, t5⟩, ⟨q0, q1, q2, q3, q4, q5⟩⟩ := HL.out W hW; go_simp <;> with_reducible rfl
          simp only [Act.put, List.setIfInBounds_toArray, List.set_cons_zero, List.set_cons_succ]
          refine takeH (i := 14) (v := ?_) rfl (by kernel_rfl) (by kernel_rfl) (by kernel_rfl) (fun _ _ _ h => h) (by rfl) ?_ HC.out ?_
          rotate_left
          · intro W hW; obtain ⟨⟨c0, c1, c2, c3, c4⟩, ⟨d0, d1, d2, d3, d4⟩, ⟨t0, t1, t2, t3, t4, t5⟩, ⟨q0, q1, q2, q3, q4, q5⟩⟩ := HL.out W hW; go_simp <;> with_reducible rfl
          simp only [Act.put, List.setIfInBounds_toArray, List.set_cons_zero, List.set_cons_succ]
          refine takeH (i := 15) (v := ?_) rfl (by kernel_rfl) (by kernel_rfl) (by kernel_rfl) (fun _ _ _ h => h) (by rfl) ?_ HC.out ?_
          rotate_left
          · intro W hW; obtain ⟨⟨c0, c1, c2, c3, c4⟩, ⟨d0, d1, d2, d3, d4⟩, ⟨t0, t1, t2, t3, t4, t5⟩, ⟨q0, q1, q2, q3, q4, q5⟩⟩ := HL.out W hW; go_simp <;> with_reducible rfl
          simp only [Act.put, List.setIfInBounds_toArray, List.set_cons_zero, List.set_cons_succ]
          refine takeH (i := 16) (v := ?_) rfl (by kernel_rfl) (by kernel_rfl) (by kernel_rfl) (fun _ _ _ h => h) (by rfl) ?_ HC.out ?_
          rotate_left
          · intro W hW; obtain ⟨⟨c0, c1, c2, c3, c4⟩, ⟨d0, d1, d2, d3, d4⟩, ⟨t0, t1, t2, t3, t4, t5⟩, ⟨q0, q1, q2, q3, q4, q5⟩⟩ := HL.out W hW; go_simp <;> with_reducible rfl
          simp only [Act.put, List.setIfInBounds_toArray, List.set_cons_zero, List.set_cons_succ]
          refine takeH (i := 17) (v := ?_) rfl (by kernel_rfl) (by kernel_rfl) (by kernel_rfl) (fun _ _ _ h => h) (by rfl) ?_ HC.out ?_
          rotate_left
          · intro W hW; obtain ⟨⟨c0, c1, c2, c3, c4⟩, ⟨d0, d1, d2, d3, d4⟩, ⟨t0, t1, t2, t3, t4, t5⟩, ⟨q0, q1, q2, q3, q4, q5⟩⟩ := HL.out W hW; go_simp <;> with_reducible rfl
          simp only [Act.put, List.setIfInBounds_toArray, List.set_cons_zero, List.set_cons_succ]
          refine takeH (i := 18) (v := ?_) rfl (by kernel_rfl) (by kernel_rfl) (by kernel_rfl) (fun _ _ _ h => h) (by rfl) ?_ HC.out ?_
          rotate_left
          · intro W hW; obtain ⟨⟨c0, c1, c2, c3, c4⟩, ⟨d0, d1, d2, d3, d4⟩, ⟨t0, t1, t2, t3, t4, t5⟩, ⟨q0, q1, q2, q3, q4, q5⟩⟩ := HL.out W hW; go_simp <;> with_reducible rfl
          simp only [Act.put, List.setIfInBounds_toArray, List.set_cons_zero, List.set_cons_succ]
          refine takeH (i := 19) (v := ?_) rfl (by kernel_rfl) (by kernel_rfl) (by kernel_rfl) (fun _ _ _ h => h) (by rfl) ?_ HC.out ?_
          rotate_left
          · intro W hW; obtain ⟨⟨c0, c1, c2, c3, c4⟩, ⟨d0, d1, d2, d3, d4⟩, ⟨t0, t1, t2, t3, t4, t5⟩, ⟨q0, q1, q2, q3, q4, q5⟩⟩ := HL.out W hW; go_simp <;> with_reducible rfl
          simp only [Act.put, List.setIfInBounds_toArray, List.set_cons_zero, List.set_cons_succ]
          refine takeH (i := 20) (v := ?_) rfl (by kernel_rfl) (by kernel_rfl) (by kernel_rfl) (fun _ _ _ h => h) (by rfl) ?_ HC.out ?_
          rotate_left
          · intro W hW; obtain ⟨⟨c0, c1, c2, c3, c4⟩, ⟨d0, d1, d2, d3, d4⟩, ⟨t0, t1, t2, t3, t4, t5⟩, ⟨q0, q1, q2, q3, q4, q5⟩⟩ := HL.out W hW; go_simp <;> with_reducible rfl
          simp only [Act.put, List.setIfInBounds_toArray, List.set_cons_zero, List.set_cons_succ]
          refine takeH (i := 21) (v := ?_) rfl (by kernel_rfl) (by kernel_rfl) (by kernel_rfl) (fun _ _ _ h => h) (by rfl) ?_ HC.out ?_
          rotate_left
          · intro W hW; obtain ⟨⟨c0, c1, c2, c3, c4⟩, ⟨d0, d1, d2, d3, d4⟩, ⟨t0, t1, t2, t3, t4, t5⟩, ⟨q0, q1, q2, q3, q4, q5⟩⟩ := HL.out W hW; go_simp <;> with_reducible rfl
          simp only [Act.put, List.setIfInBounds_toArray, List.set_cons_zero, List.set_cons_succ]
          refine takeH (i := 22) (v := ?_) rfl (by kernel_rfl) (by kernel_rfl) (by kernel_rfl) (fun _ _ _ h => h) (by rfl) ?_ HC.out ?_
          rotate_left
          · intro W hW; obtain ⟨⟨c0, c1, c2, c3, c4⟩, ⟨d0, d1, d2, d3, d4⟩, ⟨t0, t1, t2, t3, t4, t5⟩, ⟨q0, q1, q2, q3, q4, q5⟩⟩ := HL.out W hW; go_simp <;> with_reducible rfl
          simp only [Act.put, List.setIfInBounds_toArray, List.set_cons_zero, List.set_cons_succ]
          refine takeH (i := 23) (v := ?_) rfl (by kernel_rfl) (by kernel_rfl) (by kernel_rfl) (fun _ _ _ h => h) (by rfl) ?_ HC.out ?_
          rotate_left
          · intro W hW; obtain ⟨⟨c0, c1, c2, c3, c4⟩, ⟨d0, d1, d2, d3, d4⟩, ⟨t0, t1, t2, t3, t4, t5⟩, ⟨q0, q1, q2, q3, q4, q5⟩⟩ := HL.out W hW; go_simp <;> with_reducible rfl
          simp only [Act.put, List.setIfInBounds_toArray, List.set_cons_zero, List.set_cons_succ]
          refine takeH (i := 24) (v := ?_) rfl (by kernel_rfl) (by kernel_rfl) (by kernel_rfl) (fun _ _ _ h => h) (by rfl) ?_ HC.out ?_
          rotate_left
          · intro W hW; obtain ⟨⟨c0, c1, c2, c3, c4⟩, ⟨d0, d1, d2, d3, d4⟩, ⟨t0, t1, t2, t3, t4, t5⟩, ⟨q0, q1, q2, q3, q4, q5⟩⟩ := HL.out W hW; go_simp <;> with_reducible rfl
          simp only [Act.put, List.setIfInBounds_toArray, List.set_cons_zero, List.set_cons_succ]
          refine takeH (i := 25) (v := ?_) rfl (by kernel_rfl) (by kernel_rfl) (by kernel_rfl) (fun _ _ _ h => h) (by rfl) ?_ HC.out ?_
          rotate_left
          · intro W hW; obtain ⟨⟨c0, c1, c2, c3, c4⟩, ⟨d0, d1, d2, d3, d4⟩, ⟨t0, t1, t2, t3, t4, t5⟩, ⟨q0, q1, q2, q3, q4, q5⟩⟩ := HL.out W hW; go_simp <;> with_reducible rfl
          simp only [Act.put, List.setIfInBounds_toArray, List.set_cons_zero, List.set_cons_succ]
          refine takeH (i := 26) (v := ?_) rfl (by kernel_rfl) (by kernel_rfl) (by kernel_rfl) (fun _ _ _ h => h) (by rfl) ?_ HC.out ?_
          rotate_left
          · intro W hW; obtain ⟨⟨c0, c1, c2, c3, c4⟩, ⟨d0, d1, d2, d3, d4⟩, ⟨t0, t1, t2, t3, t4, t5⟩, ⟨q0, q1, q2, q3, q4, q5⟩⟩ := HL.out W hW; go_simp <;> with_reducible rfl
          simp only [Act.put, List.setIfInBounds_toArray, List.set_cons_zero, List.set_cons_succ]
          refine takeH (i := 27) (v := ?_) rfl (by kernel_rfl) (by kernel_rfl) (by kernel_rfl) (fun _ _ _ h => h) (by rfl) ?_ HC.out ?_
          rotate_left
          · intro W hW; obtain ⟨⟨c0, c1, c2, c3, c4⟩, ⟨d0, d1, d2, d3, d4⟩, ⟨t0, t1, t2, t3, t4, t5⟩, ⟨q0, q1, q2, q3, q4, q5⟩⟩ := HL.out W hW; go_simp <;> with_reducible rfl
          simp only [Act.put, List.setIfInBounds_toArray, List.set_cons_zero, List.set_cons_succ]
          refine takeH (i := 28) (v := ?_) rfl (by kernel_rfl) (by kernel_rfl) (by kernel_rfl) (fun _ _ _ h => h) (by rfl) ?_ HC.out ?_
          rotate_left
          · intro W hW; obtain ⟨⟨c0, c1, c2, c3, c4⟩, ⟨d0, d1, d2, d3, d4⟩, ⟨t0, t1, t2, t3, t4, t5⟩, ⟨q0, q1, q2, q3, q4, q5⟩⟩ := HL.out W hW; go_simp <;> with_reducible rfl
          simp only [Act.put, List.setIfInBounds_toArray, List.set_cons_zero, List.set_cons_succ]
          refine takeH (i := 29) (v := ?_) rfl (by kernel_rfl) (by kernel_rfl) (by kernel_rfl) (fun _ _ _ h => h) (by rfl) ?_ HC.out ?_
          rotate_left
          · intro W hW; obtain ⟨⟨c0, c1, c2, c3, c4⟩, ⟨d0, d1, d2, d3, d4⟩, ⟨t0, t1, t2, t3, t4, t5⟩, ⟨q0, q1, q2, q3, q4, q5⟩⟩ := HL.out W hW; go_simp <;> with_reducible rfl
          simp only [Act.put, List.setIfInBounds_toArray, List.set_cons_zero, List.set_cons_succ]
          refine takeH (i := 30) (v := ?_) rfl (by kernel_rfl) (by kernel_rfl) (by kernel_rfl) (fun _ _ _ h => h) (by rfl) ?_ HC.out ?_
          rotate_left
          · intro W hW; obtain ⟨⟨c0, c1, c2, c3, c4⟩, ⟨d0, d1, d2, d3, d4⟩, ⟨t0, t1, t2, t3, t4, t5⟩, ⟨q0, q1, q2, q3, q4, q5⟩⟩ := HL.out W hW; go_simp <;> with_reducible rfl
          simp only [Act.put, List.setIfInBounds_toArray, List.set_cons_zero, List.set_cons_succ]
          refine takeH (i := 31) (v := ?_) rfl (by kernel_rfl) (by kernel_rfl) (by kernel_rfl) (fun _ _ _ h => h) (by rfl) ?_ HC.out ?_
          rotate_left
          · intro W hW; obtain ⟨⟨c0, c1, c2, c3, c4⟩, ⟨d0, d1, d2, d3, d4⟩, ⟨t0, t1, t2, t3, t4, t5⟩, ⟨q0, q1, q2, q3, q4, q5⟩⟩ := HL.out W hW; go_simp <;> with_reducible rfl
          simp only [Act.put, List.setIfInBounds_toArray, List.set_cons_zero, List.set_cons_succ]
          refine takeH (i := 32) (v := ?_) rfl (by kernel_rfl) (by kernel_rfl) (by kernel_rfl) (fun _ _ _ h => h) (by rfl) ?_ HC.out ?_
          rotate_left
          · intro W hW; obtain ⟨⟨c0, c1, c2, c3, c4⟩, ⟨d0, d1, d2, d3, d4⟩, ⟨t0, t1, t2, t3, t4, t5⟩, ⟨q0, q1, q2, q3, q4, q5⟩⟩ := HL.out W hW; go_simp <;> with_reducible rfl
          simp only [Act.put, List.setIfInBounds_toArray, List.set_cons_zero, List.set_cons_succ]
          refine takeH (i := 33) (v := ?_) rfl (by kernel_rfl) (by kernel_rfl) (by kernel_rfl) (fun _ _ _ h => h) (by rfl) ?_ HC.out ?_
          rotate_left
          · intro W hW; obtain ⟨⟨c0, c1, c2, c3, c4⟩, ⟨d0, d1, d2, d3, d4⟩, ⟨t0, t1, t2, t3, t4, t5⟩, ⟨q0, q1, q2, q3, q4, q5⟩⟩ := HL.out W hW; go_simp <;> with_reducible rfl
          simp only [Act.put, List.setIfInBounds_toArray, List.set_cons_zero, List.set_cons_succ]
          refine takeH (i := 34) (v := ?_) rfl (by kernel_rfl) (by kernel_rfl) (by kernel_rfl) (fun _ _ _ h => h) (by rfl) ?_ HC.out ?_
          rotate_left
          · intro W hW; obtain ⟨⟨c0, c1, c2, c3, c4⟩, ⟨d0, d1, d2, d3, d4⟩, ⟨t0, t1, t2, t3, t4, t5⟩, ⟨q0, q1, q2, q3, q4, q5⟩⟩ := HL.out W hW; go_simp <;> with_reducible rfl
          simp only [Act.put, List.setIfInBounds_toArray, List.set_cons_zero, List.set_cons_succ]
          refine takeH (i := 35) (v := ?_) rfl (by kernel_rfl) (by kernel_rfl) (by kernel_rfl) (fun _ _ _ h => h) (by rfl) ?_ HC.out ?_
          rotate_left
          · intro W hW; obtain ⟨⟨c0, c1, c2, c3, c4⟩, ⟨d0, d1, d2, d3, d4⟩, ⟨t0, t1, t2, t3, t4, t5⟩, ⟨q0, q1, q2, q3, q4, q5⟩⟩ := HL.out W hW; go_simp <;> with_reducible rfl
          simp only [Act.put, List.setIfInBounds_toArray, List.set_cons_zero, List.set_cons_succ]
          refine takeH (i := 36) (v := ?_) rfl (by kernel_rfl) (by kernel_rfl) (by kernel_rfl) (fun _ _ _ h => h) (by rfl) ?_ HC.out ?_
          rotate_left
          · intro W hW; obtain ⟨⟨c0, c1, c2, c3, c4⟩, ⟨d0, d1, d2, d3, d4⟩, ⟨t0, t1, t2, t3, t4, t5⟩, ⟨q0, q1, q2, q3, q4, q5⟩⟩ := HL.out W hW; go_simp <;> with_reducible rfl
          simp only [Act.put, List.setIfInBounds_toArray, List.set_cons_zero, List.set_cons_succ]
          refine takeH (i := 37) (v := ?_) rfl (by kernel_rfl) (by kernel_rfl) (by kernel_rfl) (fun _ _ _ h => h) (by rfl) ?_ HC.out ?_
          rotate_left
          · intro W hW; obtain ⟨⟨c0, c1, c2, c3, c4⟩, ⟨d0, d1, d2, d3, d4⟩, ⟨t0, t1, t2, t3, t4, t5⟩, ⟨q0, q1, q2, q3, q4, q5⟩⟩ := HL.out W hW; go_simp <;> with_reducible rfl
          simp only [Act.put, List.setIfInBounds_toArray, List.set_cons_zero, List.set_cons_succ]
          refine takeH (i := 38) (v := ?_) rfl (by kernel_rfl) (by kernel_rfl) (by kernel_rfl) (fun _ _ _ h => h) (by rfl) ?_ HC.out ?_
          rotate_left
          · intro W hW; obtain ⟨⟨c0, c1, c2, c3, c4⟩, ⟨d0, d1, d2, d3, d4⟩, ⟨t0, t1, t2, t3, t4, t5⟩, ⟨q0, q1, q2, q3, q4, q5⟩⟩ := HL.out W hW; go_simp <;> with_reducible rfl
          simp only [Act.put, List.setIfInBounds_toArray, List.set_cons_zero, List.set_cons_succ]
          refine takeH (i := 39) (v := ?_) rfl (by kernel_rfl) (by kernel_rfl) (by kernel_rfl) (fun _ _ _ h => h) (by rfl) ?_ HC.out ?_
          rotate_left
          · intro W hW; obtain ⟨⟨c0, c1, c2, c3, c4⟩, ⟨d0, d1, d2, d3, d4⟩, ⟨t0, t1, t2, t3, t4, t5⟩, ⟨q0, q1, q2, q3, q4, q5⟩⟩ := HL.out W hW; go_simp <;> with_reducible rfl
          simp only [Act.put, List.setIfInBounds_toArray, List.set_cons_zero, List.set_cons_succ]
          refine takeH (i := 40) (v := ?_) rfl (by kernel_rfl) (by kernel_rfl) (by kernel_rfl) (fun _ _ _ h => h) (by rfl) ?_ HC.out ?_
          rotate_left
          · intro W hW; obtain ⟨⟨c0, c1, c2, c3, c4⟩, ⟨d0, d1, d2, d3, d4⟩, ⟨t0, t1, t2, t3, t4, t5⟩, ⟨q0, q1, q2, q3, q4, q5⟩⟩ := HL.out W hW; go_simp <;> with_reducible rfl
          simp only [Act.put, List.setIfInBounds_toArray, List.set_cons_zero, List.set_cons_succ]
          refine takeH (i := 41) (v := ?_) rfl (by kernel_rfl) (by kernel_rfl) (by kernel_rfl) (fun _ _ _ h => h) (by rfl) ?_ HC.out ?_
          rotate_left
          · intro W hW; obtain ⟨⟨c0, c1, c2, c3, c4⟩, ⟨d0, d1, d2, d3, d4⟩, ⟨t0, t1, t2, t3, t4, t5⟩, ⟨q0, q1, q2, q3, q4, q5⟩⟩ := HL.out W hW; go_simp <;> with_reducible rfl
          simp only [Act.put, List.setIfInBounds_toArray, List.set_cons_zero, List.set_cons_succ]
          refine takeH (i := 42) (v := ?_) rfl (by kernel_rfl) (by kernel_rfl) (by kernel_rfl) (fun _ _ _ h => h) (by rfl) ?_ HC.out ?_
          rotate_left
          · intro W hW; obtain ⟨⟨c0, c1, c2, c3, c4⟩, ⟨d0, d1, d2, d3, d4⟩, ⟨t0, t1, t2, t3, t4, t5⟩, ⟨q0, q1, q2, q3, q4, q5⟩⟩ := HL.out W hW; go_simp <;> with_reducible rfl
          simp only [Act.put, List.setIfInBounds_toArray, List.set_cons_zero, List.set_cons_succ]
          refine takeH (i := 43) (v := ?_) rfl (by kernel_rfl) (by kernel_rfl) (by kernel_rfl) (fun _ _ _ h => h) (by rfl) ?_ HC.out ?_
          rotate_left
          · intro W hW; obtain ⟨⟨c0, c1, c2, c3, c4⟩, ⟨d0, d1, d2, d3, d4⟩, ⟨t0, t1, t2, t3, t4, t5⟩, ⟨q0, q1, q2, q3, q4, q5⟩⟩ := HL.out W hW; go_simp <;> with_reducible rfl
          simp only [Act.put, List.setIfInBounds_toArray, List.set_cons_zero, List.set_cons_succ]
          refine takeH (i := 44) (v := ?_) rfl (by kernel_rfl) (by kernel_rfl) (by kernel_rfl) (fun _ _ _ h => h) (by rfl) ?_ HC.out ?_
          rotate_left
          · intro W hW; obtain ⟨⟨c0, c1, c2, c3, c4⟩, ⟨d0, d1, d2, d3, d4⟩, ⟨t0, t1, t2, t3, t4, t5⟩, ⟨q0, q1, q2, q3, q4, q5⟩⟩ := HL.out W hW; go_simp <;> with_reducible rfl
          simp only [Act.put, List.setIfInBounds_toArray, List.set_cons_zero, List.set_cons_succ]
          refine takeH (i := 45) (v := ?_) rfl (by kernel_rfl) (by kernel_rfl) (by kernel_rfl) (fun _ _ _ h => h) (by rfl) ?_ HC.out ?_
          rotate_left
          · intro W hW; obtain ⟨⟨c0, c1, c2, c3, c4⟩, ⟨d0, d1, d2, d3, d4⟩, ⟨t0, t1, t2, t3, t4, t5⟩, ⟨q0, q1, q2, q3, q4, q5⟩⟩ := HL.out W hW; go_simp <;> with_reducible rfl
          simp only [Act.put, List.setIfInBounds_toArray, List.set_cons_zero, List.set_cons_succ]
          refine takeH (i := 46) (v := ?_) rfl (by kernel_rfl) (by kernel_rfl) (by kernel_rfl) (fun _ _ _ h => h) (by rfl) ?_ HC.out ?_
          rotate_left
          · intro W hW; obtain ⟨⟨c0, c1, c2, c3, c4⟩, ⟨d0, d1, d2, d3, d4⟩, ⟨t0, t1, t2, t3, t4, t5⟩, ⟨q0, q1, q2, q3, q4, q5⟩⟩ := HL.out W hW; go_simp <;> with_reducible rfl
          simp only [Act.put, List.setIfInBounds_toArray, List.set_cons_zero, List.set_cons_succ]
          refine takeH (i := 47) (v := ?_) rfl (by kernel_rfl) (by kernel_rfl) (by kernel_rfl) (fun _ _ _ h => h) (by rfl) ?_ HC.out ?_
          rotate_left
          · intro W hW; obtain ⟨⟨c0, c1, c2, c3, c4⟩, ⟨d0, d1, d2, d3, d4⟩, ⟨t0, t1, t2, t3, t4, t5⟩, ⟨q0, q1, q2, q3, q4, q5⟩⟩ := HL.out W hW; go_simp <;> with_reducible rfl
          simp only [Act.put, List.setIfInBounds_toArray, List.set_cons_zero, List.set_cons_succ]
          refine takeH (i := 48) (v := ?_) rfl (by kernel_rfl) (by kernel_rfl) (by kernel_rfl) (fun _ _ _ h => h) (by rfl) ?_ HC.out ?_
          rotate_left
          · intro W hW; obtain ⟨⟨c0, c1, c2, c3, c4⟩, ⟨d0, d1, d2, d3, d4⟩, ⟨t0, t1, t2, t3, t4, t5⟩, ⟨q0, q1, q2, q3, q4, q5⟩⟩ := HL.out W hW; go_simp <;> with_reducible rfl
          simp only [Act.put, List.setIfInBounds_toArray, List.set_cons_zero, List.set_cons_succ]
          refine takeH (i := 49) (v := ?_) rfl (by kernel_rfl) (by kernel_rfl) (by kernel_rfl) (fun _ _ _ h => h) (by rfl) ?_ HC.out ?_
          rotate_left
          · intro W hW; obtain ⟨⟨c0, c1, c2, c3, c4⟩, ⟨d0, d1, d2, d3, d4⟩, ⟨t0, t1, t2, t3, t4, t5⟩, ⟨q0, q1, q2, q3, q4, q5⟩⟩ := HL.out W hW; go_simp <;> with_reducible rfl
          simp only [Act.put, List.setIfInBounds_toArray, List.set_cons_zero, List.set_cons_succ]
          refine takeH (i := 50) (v := ?_) rfl (by kernel_rfl) (by kernel_rfl) (by kernel_rfl) (fun _ _ _ h => h) (by rfl) ?_ HC.out ?_
          rotate_left
          · intro W hW; obtain ⟨⟨c0, c1, c2, c3, c4⟩, ⟨d0, d1, d2, d3, d4⟩, ⟨t0, t1, t2, t3, t4, t5⟩, ⟨q0, q1, q2, q3, q4, q5⟩⟩ := HL.out W hW; go_simp <;> with_reducible rfl
          simp only [Act.put, List.setIfInBounds_toArray, List.set_cons_zero, List.set_cons_succ]
          refine takeH (i := 51) (v := ?_) rfl (by kernel_rfl) (by kernel_rfl) (by kernel_rfl) (fun _ _ _ h => h) (by rfl) ?_ HC.out ?_
          rotate_left
          · intro W hW; obtain ⟨⟨c0, c1, c2, c3, c4⟩, ⟨d0, d1, d2, d3, d4⟩, ⟨t0, t1, t2, t3, t4, t5⟩, ⟨q0, q1, q2, q3, q4, q5⟩⟩ := HL.out W hW; go_simp <;> with_reducible rfl
          simp only [Act.put, List.setIfInBounds_toArray, List.set_cons_zero, List.set_cons_succ]
          refine takeH (i := 52) (v := ?_) rfl (by kernel_rfl) (by kernel_rfl) (by kernel_rfl) (fun _ _ _ h => h) (by rfl) ?_ HC.out ?_
          rotate_left
          · intro W hW; obtain ⟨⟨c0, c1, c2, c3, c4⟩, ⟨d0, d1, d2, d3, d4⟩, ⟨t0, t1, t2, t3, t4, t5⟩, ⟨q0, q1, q2, q3, q4, q5⟩⟩ := HL.out W hW; go_simp <;> with_reducible rfl
          simp only [Act.put, List.setIfInBounds_toArray, List.set_cons_zero, List.set_cons_succ]
          refine takeH (i := 53) (v := ?_) rfl (by kernel_rfl) (by kernel_rfl) (by kernel_rfl) (fun _ _ _ h => h) (by rfl) ?_ HC.out ?_
          rotate_left
          · intro W hW; obtain ⟨⟨c0, c1, c2, c3, c4⟩, ⟨d0, d1, d2, d3, d4⟩, ⟨t0, t1, t2, t3, t4, t5⟩, ⟨q0, q1, q2, q3, q4, q5⟩⟩ := HL.out W hW; go_simp <;> with_reducible rfl
          simp only [Act.put, List.setIfInBounds_toArray, List.set_cons_zero, List.set_cons_succ]
          refine takeH (i := 54) (v := ?_) rfl (by kernel_rfl) (by kernel_rfl) (by kernel_rfl) (fun _ _ _ h => h) (by rfl) ?_ HC.out ?_
          rotate_left
          · intro W hW; obtain ⟨⟨c0, c1, c2, c3, c4⟩, ⟨d0, d1, d2, d3, d4⟩, ⟨t0, t1, t2, t3, t4, t5⟩, ⟨q0, q1, q2, q3, q4, q5⟩⟩ := HL.out W hW; go_simp <;> with_reducible rfl
          simp only [Act.put, List.setIfInBounds_toArray, List.set_cons_zero, List.set_cons_succ]
          refine takeH (i := 55) (v := ?_) rfl (by kernel_rfl) (by kernel_rfl) (by kernel_rfl) (fun _ _ _ h => h) (by rfl) ?_ HC.out ?_
          rotate_left
          · intro W hW; obtain ⟨⟨c0, c1, c2, c3, c4⟩, ⟨d0, d1, d2, d3, d4⟩, ⟨t0, t1, t2, t3, t4, t5⟩, ⟨q0, q1, q2, q3, q4, q5⟩⟩ := HL.out W hW; go_simp <;> with_reducible rfl
          simp only [Act.put, List.setIfInBounds_toArray, List.set_cons_zero, List.set_cons_succ]
          refine takeH (i := 56) (v := ?_) rfl (by kernel_rfl) (by kernel_rfl) (by kernel_rfl) (fun _ _ _ h => h) (by rfl) ?_ HC.out ?_
          rotate_left
          · intro W hW; obtain ⟨⟨c0, c1, c2, c3, c4⟩, ⟨d0, d1, d2, d3, d4⟩, ⟨t0, t1, t2, t3, t4, t5⟩, ⟨q0, q1, q2, q3, q4, q5⟩⟩ := HL.out W hW; go_simp <;> with_reducible rfl
          simp only [Act.put, List.setIfInBounds_toArray, List.set_cons_zero, List.set_cons_succ]
          refine takeH (i := 57) (v := ?_) rfl (by kernel_rfl) (by kernel_rfl) (by kernel_rfl) (fun _ _ _ h => h) (by rfl) ?_ HC.out ?_
          rotate_left
          · intro W hW; obtain ⟨⟨c0, c1, c2, c3, c4⟩, ⟨d0, d1, d2, d3, d4⟩, ⟨t0, t1, t2, t3, t4, t5⟩, ⟨q0, q1, q2, q3, q4, q5⟩⟩ := HL.out W hW; go_simp <;> with_reducible rfl
          simp only [Act.put, List.setIfInBounds_toArray, List.set_cons_zero, List.set_cons_succ]
          refine takeH (i := 58) (v := ?_) rfl (by kernel_rfl) (by kernel_rfl) (by kernel_rfl) (fun _ _ _ h => h) (by rfl) ?_ HC.out ?_
          rotate_left
          · intro W hW; obtain ⟨⟨c0, c1, c2, c3, c4⟩, ⟨d0, d1, d2, d3, d4⟩, ⟨t0, t1, t2, t3, t4, t5⟩, ⟨q0, q1, q2, q3, q4, q5⟩⟩ := HL.out W hW; go_simp <;> with_reducible rfl
          simp only [Act.put, List.setIfInBounds_toArray, List.set_cons_zero, List.set_cons_succ]
          refine takeH (i := 59) (v := ?_) rfl (by kernel_rfl) (by kernel_rfl) (by kernel_rfl) (fun _ _ _ h => h) (by rfl) ?_ HC.out ?_
          rotate_left
          · intro W hW; obtain ⟨⟨c0, c1, c2, c3, c4⟩, ⟨d0, d1, d2, d3, d4⟩, ⟨t0, t1, t2, t3, t4, t5⟩, ⟨q0, q1, q2, q3, q4, q5⟩⟩ := HL.out W hW; go_simp <;> with_reducible rfl
          simp only [Act.put, List.setIfInBounds_toArray, List.set_cons_zero, List.set_cons_succ]
          refine wpAnyH_done (by kernel_rfl) ?_ _
          have b := HC.out
          have C_ := Lib.hid (C.out.under b)
          have R_ := Lib.hid (R.out.up b)
          have QQ_ := Lib.hid ((QQ.out.below b).more b.size)
          have B_ := Lib.hid (B.out.trans (b.mono B.out.size))
          have QA_ := Lib.hid (QA.out.under b)
          have D_ := Lib.hid (D.out.under b)
          have T_ := Lib.hid (T.out.under b)
          have RD_ := Lib.hid (RD.out.up b)
          clear C R QQ B QA D T RD
          have C := C_
          have R := R_
          have QQ := QQ_
          have B := B_
          have QA := QA_
          have D := D_
          have T := T_
          have RD := RD_
          clear C_ R_ QQ_ B_ QA_ D_ T_ RD_
          clear b HC HL
          clear dA dC dD e1 e2 e3 e4 ew1 ew2 f2 f3 f4 f5 f6
          by_cases hK1 : K = 1
          · have dK : (K != 1) = false := by simp [hK1]
            clear HS1 hK1
            have vT_2 := T.out.cell 2
            simp only [List.getElem?_toArray, List.getElem?_cons_zero, List.getElem?_cons_succ] at vT_2
            have vC_0 := C.out.cell 0
            have vC_1 := C.out.cell 1
            have vC_2 := C.out.cell 2
            have vC_3 := C.out.cell 3
            have vC_4 := C.out.cell 4
            simp only [List.getElem?_toArray, List.getElem?_cons_zero, List.getElem?_cons_succ] at vC_0 vC_1 vC_2 vC_3 vC_4
            have vD_0 := D.out.cell 0
            have vD_1 := D.out.cell 1
            have vD_2 := D.out.cell 2
            have vD_3 := D.out.cell 3
            have vD_4 := D.out.cell 4
            simp only [List.getElem?_toArray, List.getElem?_cons_zero, List.getElem?_cons_succ] at vD_0 vD_1 vD_2 vD_3 vD_4
            have g0 := C.out.frozen 0
            have g1 := C.out.frozen 1
            have g2 := C.out.frozen 2
            have g3 := C.out.frozen 3
            have g4 := C.out.frozen 4
            go_wp2_with fail
            go_roundw
            case rel =>
              have kp := kept5 C.out (.slice A3 N' c3) (.int .i64 x.fl) (.int .i64 x.dr) (.int .i64 x.nw) (.bool x.tg)
              have bel := kp.2.bel _ _ (Nat.le_refl _) B.out
              exact ⟨j + 1, N', A3, c3, L', by go_num, by have := HX2.out.2; omega, HX2.out.1, kp.1, kp.2.rows _ _ _ RD.out, (HQ0.out.below bel).more bel.size, bel⟩
            case measure => have := HX2.out.2; simp [intOf]; omega
          · have dK : (K != 1) = true := by simp [hK1]
            have HS := Lib.hid (HS1.out hK1)
            clear HS1 hK1
            have vC_0 := C.out.cell 0
            have vC_1 := C.out.cell 1
            have vC_2 := C.out.cell 2
            have vC_3 := C.out.cell 3
            have vC_4 := C.out.cell 4
            simp only [List.getElem?_toArray, List.getElem?_cons_zero, List.getElem?_cons_succ] at vC_0 vC_1 vC_2 vC_3 vC_4
            have vD_0 := D.out.cell 0
            have vD_1 := D.out.cell 1
            have vD_2 := D.out.cell 2
            have vD_3 := D.out.cell 3
            have vD_4 := D.out.cell 4
            simp only [List.getElem?_toArray, List.getElem?_cons_zero, List.getElem?_cons_succ] at vD_0 vD_1 vD_2 vD_3 vD_4
            have vT_2 := T.out.cell 2
            simp only [List.getElem?_toArray, List.getElem?_cons_zero, List.getElem?_cons_succ] at vT_2
            go_wp2_with fail
            refine (HS.out _ _ _ _ _ R.out RD.out).mono ?_
            rintro e y6 ⟨rfl, b⟩
            clear vC_0 vC_1 vC_2 vC_3 vC_4 vD_0 vD_1 vD_2 vD_3 vD_4 vT_2
            have C_ := Lib.hid (C.out.under b)
            have R_ := Lib.hid (R.out.up b)
            have QQ_ := Lib.hid ((QQ.out.below b).more b.size)
            have B_ := Lib.hid (B.out.trans (b.mono B.out.size))
            have QA_ := Lib.hid (QA.out.under b)
            have D_ := Lib.hid (D.out.under b)
            have T_ := Lib.hid (T.out.under b)
            have RD_ := Lib.hid (RD.out.up b)
            clear C R QQ B QA D T RD
            have C := C_
            have R := R_
            have QQ := QQ_
            have B := B_
            have QA := QA_
            have D := D_
            have T := T_
            have RD := RD_
            clear C_ R_ QQ_ B_ QA_ D_ T_ RD_
            clear HS b
            have vC_0 := C.out.cell 0
            have vC_1 := C.out.cell 1
            have vC_2 := C.out.cell 2
            have vC_3 := C.out.cell 3
            have vC_4 := C.out.cell 4
            simp only [List.getElem?_toArray, List.getElem?_cons_zero, List.getElem?_cons_succ] at vC_0 vC_1 vC_2 vC_3 vC_4
            have vD_0 := D.out.cell 0
            have vD_1 := D.out.cell 1
            have vD_2 := D.out.cell 2
            have vD_3 := D.out.cell 3
            have vD_4 := D.out.cell 4
            simp only [List.getElem?_toArray, List.getElem?_cons_zero, List.getElem?_cons_succ] at vD_0 vD_1 vD_2 vD_3 vD_4
            have g0 := C.out.frozen 0
            have g1 := C.out.frozen 1
            have g2 := C.out.frozen 2
            have g3 := C.out.frozen 3
            have g4 := C.out.frozen 4
            go_wp2_with fail
            go_roundw
            case rel =>
              have kp := kept5 C.out (.slice A3 N' c3) (.int .i64 x.fl) (.int .i64 x.dr) (.int .i64 x.nw) (.bool x.tg)
              have bel := kp.2.bel _ _ (Nat.le_refl _) B.out
              exact ⟨j + 1, N', A3, c3, L', by go_num, by have := HX2.out.2; omega, HX2.out.1, kp.1, kp.2.rows _ _ _ RD.out, (HQ0.out.below bel).more bel.size, bel⟩
            case measure => have := HX2.out.2; simp [intOf]; omega

theorem cloudFloor_any (x : Cw) (ls : List Ak) (A : Option Addr) (n c : Nat) (A2 : Option Addr) (m c2 : Nat) (w : World) (hr : RdX w w.heap.size A n x.l) (hq : RdK w w.heap.size A2 m ls) (hk : ∀ q ∈ ls, (Lit.int .u8 q.kind).wf = true) :
    Calls Try.prog 4 #[.agg #[.slice A n c, .int .i64 x.fl, .int .i64 x.dr, .int .i64 x.nw, .bool x.tg], .slice A2 m c2] w (TruePost w) := by
  by_cases hm : (40 : Int) < (m : Int)
  · exact floor_long x A n c A2 m c2 w hr hm
  · cases h : right x with
    | false => exact floor_wrong x A n c A2 m c2 w hr hm h
    | true => exact floor_right x ls A n c A2 m c2 w hr hq hk hm h

end Go.Proofs.Ytphkleecodoplaa
