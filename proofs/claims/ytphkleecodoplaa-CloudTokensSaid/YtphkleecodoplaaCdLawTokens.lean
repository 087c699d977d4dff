/-
  The walk of the statement CloudTokens: of a token there is one box at most. Conditions: those that each theorem names.
-/
import Derived.Test.YtphkleecodoplaaCdFloorReg
import Derived.BigQuiet
import Derived.Deep.DeepCutAuto
namespace Go.Proofs.Ytphkleecodoplaa
open Go.RowKit Go.Shelf

/-- What was told of the token till now. -/
def IdOk (token : Int) (L : List Bx) (id : Int) : Prop := id = 0 ∨ ∃ (i : Nat) (y : Bx), id = (i : Int) + 1 ∧ L[i]? = some y ∧ y.tok = token ∧ 0 < token
theorem IdOk.step {x : Cw} {q : Ak} {r : List Bx × Int × Int} {token id : Int} (h : IdOk token x.l id) (hd : Did x q r) : IdOk token r.1 id := by
  rcases h with rfl | ⟨i, y, rfl, hy, h1, h2⟩
  · exact .inl rfl
  · obtain ⟨z, hz, _, _, ht, _⟩ := apart hd hy
    exact .inr ⟨i, z, rfl, hz, by omega, h2⟩
/-- A launch that is done tells the id that was told. -/
theorem IdOk.same {L : List Bx} {fl dr nw : Int} {tg : Bool} {token id : Int} {j : Nat} {y : Bx} (h : IdOk token L id) (hR : right ⟨L, fl, dr, nw, tg⟩ = true) (hy : L[j]? = some y) (ht : y.tok = token) (h0 : 0 < token) : id = 0 ∨ id = (j : Int) + 1 := by
  rcases h with rfl | ⟨i, z, rfl, hz, h1, h2⟩
  · exact .inl rfl
  · have := right_tok hR hz hy (by omega) (by omega)
    exact .inr (by omega)
/-- How many were counted: one at most. -/
def Many (token : Int) (L : List Bx) (k mm : Nat) : Prop := mm = 0 ∨ (mm = 1 ∧ ∃ (i : Nat) (y : Bx), i < k ∧ L[i]? = some y ∧ y.tok = token ∧ 0 < token)
theorem Many.next {token : Int} {L : List Bx} {k mm : Nat} (h : Many token L k mm) : Many token L (k + 1) mm := by
  rcases h with rfl | ⟨rfl, i, y, h1, h2⟩
  · exact .inl rfl
  · exact .inr ⟨rfl, i, y, by omega, h2⟩
theorem Many.here {token : Int} {L : List Bx} {fl dr nw : Int} {tg : Bool} {k mm : Nat} {y : Bx} (h : Many token L k mm) (hR : right ⟨L, fl, dr, nw, tg⟩ = true) (hy : L[k]? = some y) (ht : y.tok = token) (h0 : 0 < token) : mm = 0 ∧ Many token L (k + 1) (mm + 1) := by
  rcases h with rfl | ⟨rfl, i, z, h1, hz, h3, h4⟩
  · exact ⟨rfl, .inr ⟨rfl, k, y, by omega, hy, ht, h0⟩⟩
  · have := right_tok hR hz hy (by omega) (by omega)
    omega
theorem Many.few {token : Int} {L : List Bx} {k mm : Nat} (h : Many token L k mm) : mm ≤ 1 := by
  rcases h with rfl | ⟨rfl, _⟩ <;> omega

set_option maxRecDepth 100000 in
set_option maxHeartbeats 8000000 in
theorem tokens_long (x : Cw) (token : Int) (A : Option Addr) (n c : Nat) (A2 : Option Addr) (m c2 : Nat) (w : World) (hr : RdX w w.heap.size A n x.l) (hm : (40 : Int) < (m : Int)) :
    Calls Try.prog 5 #[.agg #[.slice A n c, .int .i64 x.fl, .int .i64 x.dr, .int .i64 x.nw, .bool x.tg], .slice A2 m c2, .int .i64 token] w (TruePost w) := by
  have one := whole_one (W := w) (t := 24) (x := #[.slice A n c, .int .i64 x.fl, .int .i64 x.dr, .int .i64 x.nw, .bool x.tg])
  have C := Lib.hid one.1
  have R := Lib.hid (hr.up one.2)
  have B := Lib.hid one.2
  clear one hr
  go_enter Try.func5, Try.ntmps5
  go_wp2_with fail
  refine (wakes_any _).mono ?_
  rintro e y1 ⟨rfl, b⟩
  have C_ := Lib.hid (C.out.under b)
  have R_ := Lib.hid (R.out.up b)
  have B_ := Lib.hid (B.out.trans (b.mono B.out.size))
  clear C R B
  have C := C_
  have R := R_
  have B := B_
  clear C_ R_ B_
  clear b
  go_wp2_with fail
  go_ret
  exact ⟨rfl, B.out⟩

set_option maxRecDepth 100000 in
set_option maxHeartbeats 8000000 in
theorem tokens_wrong (x : Cw) (token : Int) (A : Option Addr) (n c : Nat) (A2 : Option Addr) (m c2 : Nat) (w : World) (hr : RdX w w.heap.size A n x.l) (h40 : ¬ (40 : Int) < (m : Int)) (h : right x = false) :
    Calls Try.prog 5 #[.agg #[.slice A n c, .int .i64 x.fl, .int .i64 x.dr, .int .i64 x.nw, .bool x.tg], .slice A2 m c2, .int .i64 token] w (TruePost w) := by
  have one := whole_one (W := w) (t := 24) (x := #[.slice A n c, .int .i64 x.fl, .int .i64 x.dr, .int .i64 x.nw, .bool x.tg])
  have C := Lib.hid one.1
  have R := Lib.hid (hr.up one.2)
  have B := Lib.hid one.2
  clear one hr
  have d40 : decide ((40 : Int) < (m : Int)) = false := decide_eq_false h40
  have HRt := Lib.hid (rightL (l := x.l) (fl := x.fl) (dr := x.dr) (nw := x.nw) (tg := x.tg) (n := n) h)
  clear h
  go_enter Try.func5, Try.ntmps5
  go_wp2_with fail
  refine (HRt.out _ _ _ R.out).mono ?_
  rintro e y1 ⟨rfl, b⟩
  have C_ := Lib.hid (C.out.under b)
  have R_ := Lib.hid (R.out.up b)
  have B_ := Lib.hid (B.out.trans (b.mono B.out.size))
  clear C R B
  have C := C_
  have R := R_
  have B := B_
  clear C_ R_ B_
  clear b HRt
  go_wp2_with fail
  refine (wakes_any _).mono ?_
  rintro e y2 ⟨rfl, b⟩
  have C_ := Lib.hid (C.out.under b)
  have R_ := Lib.hid (R.out.up b)
  have B_ := Lib.hid (B.out.trans (b.mono B.out.size))
  clear C R B
  have C := C_
  have R := R_
  have B := B_
  clear C_ R_ B_
  clear b
  go_wp2_with fail
  go_ret
  exact ⟨rfl, B.out⟩

set_option maxRecDepth 100000 in
set_option maxHeartbeats 8000000 in
theorem tokens_right (x : Cw) (ls : List Ak) (token : Int) (A : Option Addr) (n c : Nat) (A2 : Option Addr) (m c2 : Nat) (w : World) (hr : RdX w w.heap.size A n x.l) (hq : RdK w w.heap.size A2 m ls) (hk : ∀ q ∈ ls, (Lit.int .u8 q.kind).wf = true) (h40 : ¬ (40 : Int) < (m : Int)) (h : right x = true) :
    Calls Try.prog 5 #[.agg #[.slice A n c, .int .i64 x.fl, .int .i64 x.dr, .int .i64 x.nw, .bool x.tg], .slice A2 m c2, .int .i64 token] w (TruePost w) := by
  have one := whole_one (W := w) (t := 24) (x := #[.slice A n c, .int .i64 x.fl, .int .i64 x.dr, .int .i64 x.nw, .bool x.tg])
  have HQ0 := Lib.hid hq
  have C := Lib.hid one.1
  have R := Lib.hid (hr.up one.2)
  have B := Lib.hid one.2
  clear one hr hq
  have d40 : decide ((40 : Int) < (m : Int)) = false := decide_eq_false h40
  have HRt := Lib.hid (rightL (l := x.l) (fl := x.fl) (dr := x.dr) (nw := x.nw) (tg := x.tg) (n := n) h)
  have HX := Lib.hid (And.intro h (And.intro hk h40))
  clear h hk
  go_enter Try.func5, Try.ntmps5
  go_wp2_with fail
  refine (HRt.out _ _ _ R.out).mono ?_
  rintro e y1 ⟨rfl, b⟩
  have C_ := Lib.hid (C.out.under b)
  have R_ := Lib.hid (R.out.up b)
  have B_ := Lib.hid (B.out.trans (b.mono B.out.size))
  clear C R B
  have C := C_
  have R := R_
  have B := B_
  clear C_ R_ B_
  clear b HRt
  go_wp2_with fail
  clear d40 h40
  go_loopw [7, 8] (fun v i wr => ∃ (j N : Nat) (A' : Option Addr) (c' : Nat) (L : List Bx) (id : Int), i = .int .i64 (j : Int) ∧ v = .int .i64 id ∧ j ≤ m ∧ IdOk token L id ∧ right ⟨L, x.fl, x.dr, x.nw, x.tg⟩ = true ∧ Whole wr w.heap.size 24 #[.slice A' N c', .int .i64 x.fl, .int .i64 x.dr, .int .i64 x.nw, .bool x.tg] ∧ RdX wr wr.heap.size A' N L ∧ Below w.heap.size w wr) (fun _ i _ => m - (intOf i).toNat)
  case atStart => exact ⟨0, n, A, c, x.l, 0, rfl, rfl, Nat.zero_le _, .inl rfl, HX.out.1, C.out, R.out, B.out⟩
  case round =>
    clear C R B
    obtain ⟨j, N, A', c', L, id, rfl, rfl, hj, hI, hR, C, R, B⟩ := hrel
    rcases Nat.eq_or_lt_of_le hj with rfl | hlt
    · have HB := Lib.hid B
      have B := HB
      clear C R HB hR hj hI HX
      go_wp2_with fail
      refine (wakes_any _).mono ?_
      rintro e y2 ⟨rfl, b⟩
      have B_ := Lib.hid (B.out.trans (b.mono B.out.size))
      clear B
      have B := B_
      clear B_
      clear b
      go_wp2_with fail
      go_ret
      exact ⟨rfl, B.out⟩
    · have C_ := Lib.hid C
      have R_ := Lib.hid R
      have B_ := Lib.hid B
      clear C R B
      have C := C_
      have R := R_
      have B := B_
      clear C_ R_ B_
      have hjI : (j : Int) < (m : Int) := by omega
      have hj40 : (j : Int) ≤ 40 := by have := HX.out.2.2; omega
      obtain ⟨q, hq⟩ : ∃ q, ls[j]? = some q := ⟨_, List.getElem?_eq_getElem (by have := HQ0.out.len; omega)⟩
      have hkq := HX.out.2.1 q (List.mem_of_getElem? hq)
      obtain ⟨bb, off, e3, hbl, hc⟩ := ((HQ0.out.below B.out).more B.out.size).2 (by omega)
      subst e3
      obtain ⟨s0, s1, s2, s3, s4, s5⟩ := hc j q hq
      have hNn : N ≤ 60 := by have h1 := right_few hR; have h2 := R.out.len; dsimp only at h1; omega
      clear hc hq hj
      by_cases h3 : j % 3 = 0
      ·
        have hkp : (Lit.int .u8 (Ak.mk 1 q.call token q.b 0 0).kind).wf = true := rfl
        clear hkq
        obtain ⟨L', K, I, hdo⟩ : ∃ L' K I, doP ⟨L, x.fl, x.dr, x.nw, x.tg⟩ (Ak.mk 1 q.call token q.b 0 0) = (L', K, I) := ⟨_, _, _, rfl⟩
        obtain ⟨N', hN'⟩ : ∃ N', L'.length = N' := ⟨_, rfl⟩
        have hR' : right ⟨L', x.fl, x.dr, x.nw, x.tg⟩ = true := by have := right_do (q := (Ak.mk 1 q.call token q.b 0 0)) hR; unfold doC at this; rw [hdo] at this; exact this
        have hN60 : N' ≤ 60 := by have := right_few hR'; exact hN' ▸ this
        have hD := did ⟨L, x.fl, x.dr, x.nw, x.tg⟩ (Ak.mk 1 q.call token q.b 0 0)
        rw [hdo] at hD
        have hg := grows hD
        dsimp only at hg
        have hLN := R.out.len
        rw [hLN, hN'] at hg
        have hI' : IdOk token L' id := IdOk.step hI hD
        have HD1 : Hid (∀ (W : World) (A : Option Addr) (c : Nat), RdX W W.heap.size A N L → Calls Try.prog 9 #[.agg #[.slice A N c, .int .i64 x.fl, .int .i64 x.dr, .int .i64 x.nw, .bool x.tg], .agg #[.int .u8 1, .int .i64 q.call, .int .i64 token, .int .i64 q.b, .int .i64 0, .int .i64 0]] W fun e w' => ∃ A' c', e = .returned (.tuple #[.agg #[.slice A' N' c', .int .i64 x.fl, .int .i64 x.dr, .int .i64 x.nw, .bool x.tg], .agg #[.int .i64 q.call, .int .u8 1, .int .u8 K, .int .i64 I, .slice none 0 0, .bool false]]) ∧ RdX w' w'.heap.size A' N' L' ∧ Below W.heap.size W w') := Lib.hid (fun W A c hr => doL (l := L) (fl := x.fl) (dr := x.dr) (nw := x.nw) (tg := x.tg) (q := (Ak.mk 1 q.call token q.b 0 0)) (n := N) hdo hN' hkp (by omega) W A c hr)
        have dA : decide (N' < N) = false := decide_eq_false (by omega)
        have dB : decide ((N : Int) + 1 < (N' : Int)) = false := decide_eq_false (by omega)
        have dB' : decide (N + 1 < N') = false := decide_eq_false (by omega)
        have hla : K = 1 → ∃ (j0 : Nat) (y : Bx), L'[j0]? = some y ∧ y.tok = token ∧ I = (j0 : Int) + 1 ∧ 0 < token := by
          intro hK
          obtain ⟨h1, j0, y, h2, h3, h4⟩ := launched hR (q := Ak.mk 1 q.call token q.b 0 0) rfl (by rw [hdo]; exact hK)
          rw [hdo] at h2 h4
          dsimp only at h1 h2 h3 h4
          exact ⟨j0, y, h2, h3, h4, h1⟩
        have HLa := Lib.hid hla
        clear hla
        have HY := Lib.hid (And.intro hR' (And.intro hN' (And.intro hN60 (And.intro hI' hlt))))
        clear hR hR' hdo hD hLN hI' hI hN' hg hkp hlt HX
        have hN60i : (N' : Int) ≤ 60 := by omega
        clear hN60
        have d3 : ((j : Int) % 3 == 0) = true := by rw [beq_iff_eq]; omega
        clear h3
        have one := whole_one (W := wr) (t := 26) (x := #[.int .u8 1, .int .i64 q.call, .int .i64 token, .int .i64 q.b, .int .i64 0, .int .i64 0])
        have C_ := Lib.hid (C.out.under one.2)
        have R_ := Lib.hid (R.out.up one.2)
        have B_ := Lib.hid (B.out.trans (one.2.mono B.out.size))
        clear C R B
        have C := C_
        have R := R_
        have B := B_
        clear C_ R_ B_
        have P := Lib.hid one.1
        clear one
        have vC_0 := C.out.cell 0
        have vC_1 := C.out.cell 1
        have vC_2 := C.out.cell 2
        have vC_3 := C.out.cell 3
        have vC_4 := C.out.cell 4
        simp only [List.getElem?_toArray, List.getElem?_cons_zero, List.getElem?_cons_succ] at vC_0 vC_1 vC_2 vC_3 vC_4
        go_wp2_with fail
        refine (HD1.out _ _ _ R.out).mono ?_
        rintro e y1 ⟨A3, c3, rfl, r2, b⟩
        clear vC_0 vC_1 vC_2 vC_3 vC_4
        have C_ := Lib.hid (C.out.under b)
        have R_ := Lib.hid (R.out.up b)
        have B_ := Lib.hid (B.out.trans (b.mono B.out.size))
        have P_ := Lib.hid (P.out.under b)
        clear C R B P
        have C := C_
        have R := R_
        have B := B_
        have P := P_
        clear C_ R_ B_ P_
        clear HD1 b
        have two := whole_two (W := y1) (t := 24) (u := 30) (x := #[.slice A3 N' c3, .int .i64 x.fl, .int .i64 x.dr, .int .i64 x.nw, .bool x.tg]) (y := #[.int .i64 q.call, .int .u8 1, .int .u8 K, .int .i64 I, .slice none 0 0, .bool false])
        have C_ := Lib.hid (C.out.under two.2.2)
        have R_ := Lib.hid (R.out.up two.2.2)
        have B_ := Lib.hid (B.out.trans (two.2.2.mono B.out.size))
        have P_ := Lib.hid (P.out.under two.2.2)
        clear C R B P
        have C := C_
        have R := R_
        have B := B_
        have P := P_
        clear C_ R_ B_ P_
        have D := Lib.hid two.1
        have T := Lib.hid two.2.1
        have RD := Lib.hid (r2.up two.2.2)
        clear two r2
        have vC_0 := C.out.cell 0
        simp only [List.getElem?_toArray, List.getElem?_cons_zero] at vC_0
        have vD_0 := D.out.cell 0
        simp only [List.getElem?_toArray, List.getElem?_cons_zero] at vD_0
        have vT_2 := T.out.cell 2
        have vT_3 := T.out.cell 3
        simp only [List.getElem?_toArray, List.getElem?_cons_zero, List.getElem?_cons_succ] at vT_2 vT_3
        by_cases hK : K = 1
        ·
          obtain ⟨j0, y, hy, ht, hIj, h0⟩ := HLa.out hK
          have dk : (K == 1) = true := by simp [hK]
          have hj0 : j0 < N' := by have := HY.out.2.1; have := (List.getElem?_eq_some_iff.1 hy).1; omega
          obtain ⟨b3, off3, e4, hbl3, hc3⟩ := RD.out.2 (by omega)
          subst e4
          obtain ⟨_, t1, _, _, _, _, _, _, _, _, _⟩ := hc3 j0 y hy
          have hj0i : (j0 : Int) < (N' : Int) := by omega
          have dtok : (y.tok != token) = false := by simp [ht]
          have hOk := Lib.hid (show IdOk token L' I from .inr ⟨j0, y, hIj, hy, ht, h0⟩)
          have hsame := HY.out.2.2.2.1.same HY.out.1 hy ht h0
          clear hK hc3 hbl3 HLa ht hy
          rcases hsame with e0 | e1
          ·
            subst e0
            have ew : IntKind.i64.wrap (I - 1) = (j0 : Int) := by rw [IntWalk.i64_in _ ⟨by omega, by omega⟩]; omega
            have dl : decide (I < 1) = false := decide_eq_false (by omega)
            have dg : decide ((N' : Int) < I) = false := decide_eq_false (by omega)
            clear hIj h0
            go_upto_region 17 with fail
            clear ew dl dg dtok hj0i t1 dk
            clear vC_0 vD_0 vT_2 vT_3
            clear d3 dA dB dB'
            have vD_0 := D.out.cell 0
            simp only [List.getElem?_toArray, List.getElem?_cons_zero] at vD_0
            go_wp2_with fail
            clear vD_0
            go_loop [12, 13] (fun v i => ∃ k mm : Nat, i = .int .i64 (k : Int) ∧ v = .int .i64 (mm : Int) ∧ k ≤ N' ∧ Many token L' k mm) (fun _ i => N' - (intOf i).toNat)
            case atStart => exact ⟨0, 0, rfl, rfl, Nat.zero_le _, .inl rfl⟩
            case round =>
              obtain ⟨k, mm, rfl, rfl, hk, hM⟩ := hrel
              have hmm := hM.few
              rcases Nat.eq_or_lt_of_le hk with hkN | hlt2
              ·
                have dkN : decide (k < N') = false := decide_eq_false (by omega)
                have dm : decide ((1 : Int) < (mm : Int)) = false := decide_eq_false (by omega)
                have dm2 : decide (1 < mm) = false := decide_eq_false (by omega)
                clear hk hM hkN hmm
                have vC_0 := C.out.cell 0
                have vC_1 := C.out.cell 1
                have vC_2 := C.out.cell 2
                have vC_3 := C.out.cell 3
                have vC_4 := C.out.cell 4
                simp only [List.getElem?_toArray, List.getElem?_cons_zero, List.getElem?_cons_succ] at vC_0 vC_1 vC_2 vC_3 vC_4
                have vD_0 := D.out.cell 0
                have vD_1 := D.out.cell 1
                have vD_2 := D.out.cell 2
                have vD_3 := D.out.cell 3
                have vD_4 := D.out.cell 4
                simp only [List.getElem?_toArray, List.getElem?_cons_zero, List.getElem?_cons_succ] at vD_0 vD_1 vD_2 vD_3 vD_4
                have g0 := C.out.frozen 0
                have g1 := C.out.frozen 1
                have g2 := C.out.frozen 2
                have g3 := C.out.frozen 3
                have g4 := C.out.frozen 4
                go_wp2_with fail
                go_roundw
                case rel =>
                  have kp := kept5 C.out (.slice (some ⟨b3, off3, none⟩) N' c3) (.int .i64 x.fl) (.int .i64 x.dr) (.int .i64 x.nw) (.bool x.tg)
                  have bel := kp.2.bel _ _ (Nat.le_refl _) B.out
                  exact ⟨j + 1, N', _, c3, L', I, by go_num, rfl, by have := HY.out.2.2.2.2; omega, hOk.out, HY.out.1, kp.1, kp.2.rows _ _ _ RD.out, bel⟩
                case measure => have := HY.out.2.2.2.2; simp [intOf]; omega
              ·
                have hkI : (k : Int) < (N' : Int) := by omega
                obtain ⟨z, hz⟩ : ∃ z, L'[k]? = some z := ⟨_, List.getElem?_eq_getElem (by have := HY.out.2.1; omega)⟩
                obtain ⟨b4, off4, e5, _, hc4⟩ := RD.out.2 (by omega)
                rw [Option.some.injEq, Addr.mk.injEq] at e5
                obtain ⟨e6, e7, _⟩ := e5
                subst e6 e7
                obtain ⟨_, t1, _, _, _, _, _, _, _, _, _⟩ := hc4 k z hz
                have HK2 := Lib.hid hlt2
                have HMn := Lib.hid hM.next
                have HMh := Lib.hid (fun ht h0 => (hM.here (token := token) HY.out.1 hz ht h0).2)
                clear hc4 hz hk hlt2 hM
                have vD_0 := D.out.cell 0
                simp only [List.getElem?_toArray, List.getElem?_cons_zero] at vD_0
                by_cases h0 : 0 < token
                rotate_left
                · have d0 : decide (0 < token) = false := decide_eq_false h0
                  clear h0 HMh
                  go_wp2_with fail
                  go_round
                  case rel => exact ⟨k + 1, mm, by go_num, rfl, by have := HK2.out; omega, HMn.out⟩
                  case measure => have := HK2.out; simp [intOf]; omega
                have d0 : decide (0 < token) = true := decide_eq_true h0
                by_cases ht : z.tok = token
                · have dt : (z.tok == token) = true := by simp [ht]
                  have HM2 := Lib.hid (HMh.out ht h0)
                  clear ht h0 HMh HMn
                  go_wp2_with fail
                  go_round
                  case rel => exact ⟨k + 1, mm + 1, by go_num, by go_num, by have := HK2.out; omega, HM2.out⟩
                  case measure => have := HK2.out; simp [intOf]; omega
                have dt : (z.tok == token) = false := by simp [ht]
                clear ht h0 HMh
                go_wp2_with fail
                go_round
                case rel => exact ⟨k + 1, mm, by go_num, rfl, by have := HK2.out; omega, HMn.out⟩
                case measure => have := HK2.out; simp [intOf]; omega
          ·
            have e2 : I = id := by omega
            subst e2
            clear e1
            have d0 : decide ((0 : Int) < I) = true := decide_eq_true (by omega)
            have dne : (I != I) = false := by simp
            have ew : IntKind.i64.wrap (I - 1) = (j0 : Int) := by rw [IntWalk.i64_in _ ⟨by omega, by omega⟩]; omega
            have dl : decide (I < 1) = false := decide_eq_false (by omega)
            have dg : decide ((N' : Int) < I) = false := decide_eq_false (by omega)
            clear hIj h0
            go_upto_region 17 with fail
            clear ew dl dg dtok hj0i t1 dk d0 dne
            clear vC_0 vD_0 vT_2 vT_3
            clear d3 dA dB dB'
            have vD_0 := D.out.cell 0
            simp only [List.getElem?_toArray, List.getElem?_cons_zero] at vD_0
            go_wp2_with fail
            clear vD_0
            go_loop [12, 13] (fun v i => ∃ k mm : Nat, i = .int .i64 (k : Int) ∧ v = .int .i64 (mm : Int) ∧ k ≤ N' ∧ Many token L' k mm) (fun _ i => N' - (intOf i).toNat)
            case atStart => exact ⟨0, 0, rfl, rfl, Nat.zero_le _, .inl rfl⟩
            case round =>
              obtain ⟨k, mm, rfl, rfl, hk, hM⟩ := hrel
              have hmm := hM.few
              rcases Nat.eq_or_lt_of_le hk with hkN | hlt2
              ·
                have dkN : decide (k < N') = false := decide_eq_false (by omega)
                have dm : decide ((1 : Int) < (mm : Int)) = false := decide_eq_false (by omega)
                have dm2 : decide (1 < mm) = false := decide_eq_false (by omega)
                clear hk hM hkN hmm
                have vC_0 := C.out.cell 0
                have vC_1 := C.out.cell 1
                have vC_2 := C.out.cell 2
                have vC_3 := C.out.cell 3
                have vC_4 := C.out.cell 4
                simp only [List.getElem?_toArray, List.getElem?_cons_zero, List.getElem?_cons_succ] at vC_0 vC_1 vC_2 vC_3 vC_4
                have vD_0 := D.out.cell 0
                have vD_1 := D.out.cell 1
                have vD_2 := D.out.cell 2
                have vD_3 := D.out.cell 3
                have vD_4 := D.out.cell 4
                simp only [List.getElem?_toArray, List.getElem?_cons_zero, List.getElem?_cons_succ] at vD_0 vD_1 vD_2 vD_3 vD_4
                have g0 := C.out.frozen 0
                have g1 := C.out.frozen 1
                have g2 := C.out.frozen 2
                have g3 := C.out.frozen 3
                have g4 := C.out.frozen 4
                go_wp2_with fail
                go_roundw
                case rel =>
                  have kp := kept5 C.out (.slice (some ⟨b3, off3, none⟩) N' c3) (.int .i64 x.fl) (.int .i64 x.dr) (.int .i64 x.nw) (.bool x.tg)
                  have bel := kp.2.bel _ _ (Nat.le_refl _) B.out
                  exact ⟨j + 1, N', _, c3, L', I, by go_num, rfl, by have := HY.out.2.2.2.2; omega, hOk.out, HY.out.1, kp.1, kp.2.rows _ _ _ RD.out, bel⟩
                case measure => have := HY.out.2.2.2.2; simp [intOf]; omega
              ·
                have hkI : (k : Int) < (N' : Int) := by omega
                obtain ⟨z, hz⟩ : ∃ z, L'[k]? = some z := ⟨_, List.getElem?_eq_getElem (by have := HY.out.2.1; omega)⟩
                obtain ⟨b4, off4, e5, _, hc4⟩ := RD.out.2 (by omega)
                rw [Option.some.injEq, Addr.mk.injEq] at e5
                obtain ⟨e6, e7, _⟩ := e5
                subst e6 e7
                obtain ⟨_, t1, _, _, _, _, _, _, _, _, _⟩ := hc4 k z hz
                have HK2 := Lib.hid hlt2
                have HMn := Lib.hid hM.next
                have HMh := Lib.hid (fun ht h0 => (hM.here (token := token) HY.out.1 hz ht h0).2)
                clear hc4 hz hk hlt2 hM
                have vD_0 := D.out.cell 0
                simp only [List.getElem?_toArray, List.getElem?_cons_zero] at vD_0
                by_cases h0 : 0 < token
                rotate_left
                · have d0 : decide (0 < token) = false := decide_eq_false h0
                  clear h0 HMh
                  go_wp2_with fail
                  go_round
                  case rel => exact ⟨k + 1, mm, by go_num, rfl, by have := HK2.out; omega, HMn.out⟩
                  case measure => have := HK2.out; simp [intOf]; omega
                have d0 : decide (0 < token) = true := decide_eq_true h0
                by_cases ht : z.tok = token
                · have dt : (z.tok == token) = true := by simp [ht]
                  have HM2 := Lib.hid (HMh.out ht h0)
                  clear ht h0 HMh HMn
                  go_wp2_with fail
                  go_round
                  case rel => exact ⟨k + 1, mm + 1, by go_num, by go_num, by have := HK2.out; omega, HM2.out⟩
                  case measure => have := HK2.out; simp [intOf]; omega
                have dt : (z.tok == token) = false := by simp [ht]
                clear ht h0 HMh
                go_wp2_with fail
                go_round
                case rel => exact ⟨k + 1, mm, by go_num, rfl, by have := HK2.out; omega, HMn.out⟩
                case measure => have := HK2.out; simp [intOf]; omega
        ·
          have dk : (K == 1) = false := by simp [hK]
          clear hK HLa
          go_upto_region 17 with fail
          clear dk
          clear vC_0 vD_0 vT_2 vT_3
          clear d3 dA dB dB'
          have vD_0 := D.out.cell 0
          simp only [List.getElem?_toArray, List.getElem?_cons_zero] at vD_0
          go_wp2_with fail
          clear vD_0
          go_loop [12, 13] (fun v i => ∃ k mm : Nat, i = .int .i64 (k : Int) ∧ v = .int .i64 (mm : Int) ∧ k ≤ N' ∧ Many token L' k mm) (fun _ i => N' - (intOf i).toNat)
          case atStart => exact ⟨0, 0, rfl, rfl, Nat.zero_le _, .inl rfl⟩
          case round =>
            obtain ⟨k, mm, rfl, rfl, hk, hM⟩ := hrel
            have hmm := hM.few
            rcases Nat.eq_or_lt_of_le hk with hkN | hlt2
            ·
              have dkN : decide (k < N') = false := decide_eq_false (by omega)
              have dm : decide ((1 : Int) < (mm : Int)) = false := decide_eq_false (by omega)
              have dm2 : decide (1 < mm) = false := decide_eq_false (by omega)
              clear hk hM hkN hmm
              have vC_0 := C.out.cell 0
              have vC_1 := C.out.cell 1
              have vC_2 := C.out.cell 2
              have vC_3 := C.out.cell 3
              have vC_4 := C.out.cell 4
              simp only [List.getElem?_toArray, List.getElem?_cons_zero, List.getElem?_cons_succ] at vC_0 vC_1 vC_2 vC_3 vC_4
              have vD_0 := D.out.cell 0
              have vD_1 := D.out.cell 1
              have vD_2 := D.out.cell 2
              have vD_3 := D.out.cell 3
              have vD_4 := D.out.cell 4
              simp only [List.getElem?_toArray, List.getElem?_cons_zero, List.getElem?_cons_succ] at vD_0 vD_1 vD_2 vD_3 vD_4
              have g0 := C.out.frozen 0
              have g1 := C.out.frozen 1
              have g2 := C.out.frozen 2
              have g3 := C.out.frozen 3
              have g4 := C.out.frozen 4
              go_wp2_with fail
              go_roundw
              case rel =>
                have kp := kept5 C.out (.slice A3 N' c3) (.int .i64 x.fl) (.int .i64 x.dr) (.int .i64 x.nw) (.bool x.tg)
                have bel := kp.2.bel _ _ (Nat.le_refl _) B.out
                exact ⟨j + 1, N', _, c3, L', id, by go_num, rfl, by have := HY.out.2.2.2.2; omega, HY.out.2.2.2.1, HY.out.1, kp.1, kp.2.rows _ _ _ RD.out, bel⟩
              case measure => have := HY.out.2.2.2.2; simp [intOf]; omega
            ·
              have hkI : (k : Int) < (N' : Int) := by omega
              obtain ⟨z, hz⟩ : ∃ z, L'[k]? = some z := ⟨_, List.getElem?_eq_getElem (by have := HY.out.2.1; omega)⟩
              obtain ⟨b4, off4, e5, _, hc4⟩ := RD.out.2 (by omega)
              subst e5
              obtain ⟨_, t1, _, _, _, _, _, _, _, _, _⟩ := hc4 k z hz
              have HK2 := Lib.hid hlt2
              have HMn := Lib.hid hM.next
              have HMh := Lib.hid (fun ht h0 => (hM.here (token := token) HY.out.1 hz ht h0).2)
              clear hc4 hz hk hlt2 hM
              have vD_0 := D.out.cell 0
              simp only [List.getElem?_toArray, List.getElem?_cons_zero] at vD_0
              by_cases h0 : 0 < token
              rotate_left
              · have d0 : decide (0 < token) = false := decide_eq_false h0
                clear h0 HMh
                go_wp2_with fail
                go_round
                case rel => exact ⟨k + 1, mm, by go_num, rfl, by have := HK2.out; omega, HMn.out⟩
                case measure => have := HK2.out; simp [intOf]; omega
              have d0 : decide (0 < token) = true := decide_eq_true h0
              by_cases ht : z.tok = token
              · have dt : (z.tok == token) = true := by simp [ht]
                have HM2 := Lib.hid (HMh.out ht h0)
                clear ht h0 HMh HMn
                go_wp2_with fail
                go_round
                case rel => exact ⟨k + 1, mm + 1, by go_num, by go_num, by have := HK2.out; omega, HM2.out⟩
                case measure => have := HK2.out; simp [intOf]; omega
              have dt : (z.tok == token) = false := by simp [ht]
              clear ht h0 HMh
              go_wp2_with fail
              go_round
              case rel => exact ⟨k + 1, mm, by go_num, rfl, by have := HK2.out; omega, HMn.out⟩
              case measure => have := HK2.out; simp [intOf]; omega
      ·
        have hkp : (Lit.int .u8 q.kind).wf = true := hkq
        clear hkq
        obtain ⟨L', K, I, hdo⟩ : ∃ L' K I, doP ⟨L, x.fl, x.dr, x.nw, x.tg⟩ q = (L', K, I) := ⟨_, _, _, rfl⟩
        obtain ⟨N', hN'⟩ : ∃ N', L'.length = N' := ⟨_, rfl⟩
        have hR' : right ⟨L', x.fl, x.dr, x.nw, x.tg⟩ = true := by have := right_do (q := q) hR; unfold doC at this; rw [hdo] at this; exact this
        have hN60 : N' ≤ 60 := by have := right_few hR'; exact hN' ▸ this
        have hD := did ⟨L, x.fl, x.dr, x.nw, x.tg⟩ q
        rw [hdo] at hD
        have hg := grows hD
        dsimp only at hg
        have hLN := R.out.len
        rw [hLN, hN'] at hg
        have hI' : IdOk token L' id := IdOk.step hI hD
        have HD1 : Hid (∀ (W : World) (A : Option Addr) (c : Nat), RdX W W.heap.size A N L → Calls Try.prog 9 #[.agg #[.slice A N c, .int .i64 x.fl, .int .i64 x.dr, .int .i64 x.nw, .bool x.tg], .agg #[.int .u8 q.kind, .int .i64 q.call, .int .i64 q.a, .int .i64 q.b, .int .i64 q.c, .int .i64 q.d]] W fun e w' => ∃ A' c', e = .returned (.tuple #[.agg #[.slice A' N' c', .int .i64 x.fl, .int .i64 x.dr, .int .i64 x.nw, .bool x.tg], .agg #[.int .i64 q.call, .int .u8 q.kind, .int .u8 K, .int .i64 I, .slice none 0 0, .bool false]]) ∧ RdX w' w'.heap.size A' N' L' ∧ Below W.heap.size W w') := Lib.hid (fun W A c hr => doL (l := L) (fl := x.fl) (dr := x.dr) (nw := x.nw) (tg := x.tg) (q := q) (n := N) hdo hN' hkp (by omega) W A c hr)
        have dA : decide (N' < N) = false := decide_eq_false (by omega)
        have dB : decide ((N : Int) + 1 < (N' : Int)) = false := decide_eq_false (by omega)
        have dB' : decide (N + 1 < N') = false := decide_eq_false (by omega)
        have HY := Lib.hid (And.intro hR' (And.intro hN' (And.intro hN60 (And.intro hI' hlt))))
        clear hR hR' hdo hD hLN hI' hI hN' hg hkp hlt HX
        have hN60i : (N' : Int) ≤ 60 := by omega
        clear hN60
        have d3 : ((j : Int) % 3 == 0) = false := by rw [beq_eq_false_iff_ne, ne_eq]; omega
        clear h3
        have one := whole_one (W := wr) (t := 26) (x := #[.int .u8 q.kind, .int .i64 q.call, .int .i64 q.a, .int .i64 q.b, .int .i64 q.c, .int .i64 q.d])
        have C_ := Lib.hid (C.out.under one.2)
        have R_ := Lib.hid (R.out.up one.2)
        have B_ := Lib.hid (B.out.trans (one.2.mono B.out.size))
        clear C R B
        have C := C_
        have R := R_
        have B := B_
        clear C_ R_ B_
        have P := Lib.hid one.1
        clear one
        have vC_0 := C.out.cell 0
        have vC_1 := C.out.cell 1
        have vC_2 := C.out.cell 2
        have vC_3 := C.out.cell 3
        have vC_4 := C.out.cell 4
        simp only [List.getElem?_toArray, List.getElem?_cons_zero, List.getElem?_cons_succ] at vC_0 vC_1 vC_2 vC_3 vC_4
        go_wp2_with fail
        refine (HD1.out _ _ _ R.out).mono ?_
        rintro e y1 ⟨A3, c3, rfl, r2, b⟩
        clear vC_0 vC_1 vC_2 vC_3 vC_4
        have C_ := Lib.hid (C.out.under b)
        have R_ := Lib.hid (R.out.up b)
        have B_ := Lib.hid (B.out.trans (b.mono B.out.size))
        have P_ := Lib.hid (P.out.under b)
        clear C R B P
        have C := C_
        have R := R_
        have B := B_
        have P := P_
        clear C_ R_ B_ P_
        clear HD1 b
        have two := whole_two (W := y1) (t := 24) (u := 30) (x := #[.slice A3 N' c3, .int .i64 x.fl, .int .i64 x.dr, .int .i64 x.nw, .bool x.tg]) (y := #[.int .i64 q.call, .int .u8 q.kind, .int .u8 K, .int .i64 I, .slice none 0 0, .bool false])
        have C_ := Lib.hid (C.out.under two.2.2)
        have R_ := Lib.hid (R.out.up two.2.2)
        have B_ := Lib.hid (B.out.trans (two.2.2.mono B.out.size))
        have P_ := Lib.hid (P.out.under two.2.2)
        clear C R B P
        have C := C_
        have R := R_
        have B := B_
        have P := P_
        clear C_ R_ B_ P_
        have D := Lib.hid two.1
        have T := Lib.hid two.2.1
        have RD := Lib.hid (r2.up two.2.2)
        clear two r2
        have vC_0 := C.out.cell 0
        simp only [List.getElem?_toArray, List.getElem?_cons_zero] at vC_0
        have vD_0 := D.out.cell 0
        simp only [List.getElem?_toArray, List.getElem?_cons_zero] at vD_0
        have vT_2 := T.out.cell 2
        have vT_3 := T.out.cell 3
        simp only [List.getElem?_toArray, List.getElem?_cons_zero, List.getElem?_cons_succ] at vT_2 vT_3
        go_upto_region 17 with fail
        clear vC_0 vD_0 vT_2 vT_3
        clear d3 dA dB dB'
        have vD_0 := D.out.cell 0
        simp only [List.getElem?_toArray, List.getElem?_cons_zero] at vD_0
        go_wp2_with fail
        clear vD_0
        go_loop [12, 13] (fun v i => ∃ k mm : Nat, i = .int .i64 (k : Int) ∧ v = .int .i64 (mm : Int) ∧ k ≤ N' ∧ Many token L' k mm) (fun _ i => N' - (intOf i).toNat)
        case atStart => exact ⟨0, 0, rfl, rfl, Nat.zero_le _, .inl rfl⟩
        case round =>
          obtain ⟨k, mm, rfl, rfl, hk, hM⟩ := hrel
          have hmm := hM.few
          rcases Nat.eq_or_lt_of_le hk with hkN | hlt2
          ·
            have dkN : decide (k < N') = false := decide_eq_false (by omega)
            have dm : decide ((1 : Int) < (mm : Int)) = false := decide_eq_false (by omega)
            have dm2 : decide (1 < mm) = false := decide_eq_false (by omega)
            clear hk hM hkN hmm
            have vC_0 := C.out.cell 0
            have vC_1 := C.out.cell 1
            have vC_2 := C.out.cell 2
            have vC_3 := C.out.cell 3
            have vC_4 := C.out.cell 4
            simp only [List.getElem?_toArray, List.getElem?_cons_zero, List.getElem?_cons_succ] at vC_0 vC_1 vC_2 vC_3 vC_4
            have vD_0 := D.out.cell 0
            have vD_1 := D.out.cell 1
            have vD_2 := D.out.cell 2
            have vD_3 := D.out.cell 3
            have vD_4 := D.out.cell 4
            simp only [List.getElem?_toArray, List.getElem?_cons_zero, List.getElem?_cons_succ] at vD_0 vD_1 vD_2 vD_3 vD_4
            have g0 := C.out.frozen 0
            have g1 := C.out.frozen 1
            have g2 := C.out.frozen 2
            have g3 := C.out.frozen 3
            have g4 := C.out.frozen 4
            go_wp2_with fail
            go_roundw
            case rel =>
              have kp := kept5 C.out (.slice A3 N' c3) (.int .i64 x.fl) (.int .i64 x.dr) (.int .i64 x.nw) (.bool x.tg)
              have bel := kp.2.bel _ _ (Nat.le_refl _) B.out
              exact ⟨j + 1, N', _, c3, L', id, by go_num, rfl, by have := HY.out.2.2.2.2; omega, HY.out.2.2.2.1, HY.out.1, kp.1, kp.2.rows _ _ _ RD.out, bel⟩
            case measure => have := HY.out.2.2.2.2; simp [intOf]; omega
          ·
            have hkI : (k : Int) < (N' : Int) := by omega
            obtain ⟨z, hz⟩ : ∃ z, L'[k]? = some z := ⟨_, List.getElem?_eq_getElem (by have := HY.out.2.1; omega)⟩
            obtain ⟨b4, off4, e5, _, hc4⟩ := RD.out.2 (by omega)
            subst e5
            obtain ⟨_, t1, _, _, _, _, _, _, _, _, _⟩ := hc4 k z hz
            have HK2 := Lib.hid hlt2
            have HMn := Lib.hid hM.next
            have HMh := Lib.hid (fun ht h0 => (hM.here (token := token) HY.out.1 hz ht h0).2)
            clear hc4 hz hk hlt2 hM
            have vD_0 := D.out.cell 0
            simp only [List.getElem?_toArray, List.getElem?_cons_zero] at vD_0
            by_cases h0 : 0 < token
            rotate_left
            · have d0 : decide (0 < token) = false := decide_eq_false h0
              clear h0 HMh
              go_wp2_with fail
              go_round
              case rel => exact ⟨k + 1, mm, by go_num, rfl, by have := HK2.out; omega, HMn.out⟩
              case measure => have := HK2.out; simp [intOf]; omega
            have d0 : decide (0 < token) = true := decide_eq_true h0
            by_cases ht : z.tok = token
            · have dt : (z.tok == token) = true := by simp [ht]
              have HM2 := Lib.hid (HMh.out ht h0)
              clear ht h0 HMh HMn
              go_wp2_with fail
              go_round
              case rel => exact ⟨k + 1, mm + 1, by go_num, by go_num, by have := HK2.out; omega, HM2.out⟩
              case measure => have := HK2.out; simp [intOf]; omega
            have dt : (z.tok == token) = false := by simp [ht]
            clear ht h0 HMh
            go_wp2_with fail
            go_round
            case rel => exact ⟨k + 1, mm, by go_num, rfl, by have := HK2.out; omega, HMn.out⟩
            case measure => have := HK2.out; simp [intOf]; omega

theorem cloudTokens_any (x : Cw) (ls : List Ak) (token : Int) (A : Option Addr) (n c : Nat) (A2 : Option Addr) (m c2 : Nat) (w : World) (hr : RdX w w.heap.size A n x.l) (hq : RdK w w.heap.size A2 m ls) (hk : ∀ q ∈ ls, (Lit.int .u8 q.kind).wf = true) :
    Calls Try.prog 5 #[.agg #[.slice A n c, .int .i64 x.fl, .int .i64 x.dr, .int .i64 x.nw, .bool x.tg], .slice A2 m c2, .int .i64 token] w (TruePost w) := by
  by_cases hm : (40 : Int) < (m : Int)
  · exact tokens_long x token A n c A2 m c2 w hr hm
  · cases h : right x with
    | false => exact tokens_wrong x token A n c A2 m c2 w hr hm h
    | true => exact tokens_right x ls token A n c A2 m c2 w hr hq hk hm h

end Go.Proofs.Ytphkleecodoplaa
