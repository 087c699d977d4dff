/-
  The walk of the statement CloudApart: what is done to one box changes no other one. Conditions: those that each theorem names.
-/
import Derived.Test.YtphkleecodoplaaCdApartReg
import Derived.Test.YtphkleecodoplaaCdNeq
import Derived.Test.YtphkleecodoplaaHand
import Derived.BigQuiet
import Derived.Deep.DeepCutAuto
namespace Go.Proofs.Ytphkleecodoplaa
open Go.RowKit Go.Shelf

/-- What lies in memory while the boxes are looked at. -/
structure ApS (w : World) (g : Nat) (x : Cw) (q : Ak) (A : Option Addr) (n c : Nat) (L : List Bx) (A3 : Option Addr) (N c3 : Nat) (K I : Int) (W : World) : Prop where
  C : Whole W w.heap.size 24 #[.slice A n c, .int .i64 x.fl, .int .i64 x.dr, .int .i64 x.nw, .bool x.tg]
  Q : Whole W (w.heap.size + 1) 26 #[.int .u8 q.kind, .int .i64 q.call, .int .i64 q.a, .int .i64 q.b, .int .i64 q.c, .int .i64 q.d]
  D : Whole W g 24 #[.slice A3 N c3, .int .i64 x.fl, .int .i64 x.dr, .int .i64 x.nw, .bool x.tg]
  T : Whole W (g + 1) 30 #[.int .i64 q.call, .int .u8 q.kind, .int .u8 K, .int .i64 I, .slice none 0 0, .bool false]
  R : RdX W W.heap.size A n x.l
  RD : RdX W W.heap.size A3 N L
  B : Below w.heap.size w W
theorem ApS.under {w W W' : World} {g : Nat} {x : Cw} {q : Ak} {A : Option Addr} {n c : Nat} {L : List Bx} {A3 : Option Addr} {N c3 : Nat} {K I : Int} (h : ApS w g x q A n c L A3 N c3 K I W) (b : Below W.heap.size W W') : ApS w g x q A n c L A3 N c3 K I W' :=
  ⟨h.C.under b, h.Q.under b, h.D.under b, h.T.under b, h.R.up b, h.RD.up b, h.B.trans (b.mono h.B.size)⟩
theorem cells11 {w : World} {t : TypeId} {g : Nat} {v0 v1 v2 v3 v4 v5 v6 v7 v8 v9 v10 : Value} (h : Whole w g t #[v0, v1, v2, v3, v4, v5, v6, v7, v8, v9, v10]) : w.cell? ⟨g, 0, none⟩ = some v0 ∧ w.cell? ⟨g, 1, none⟩ = some v1 ∧ w.cell? ⟨g, 2, none⟩ = some v2 ∧ w.cell? ⟨g, 3, none⟩ = some v3 ∧ w.cell? ⟨g, 4, none⟩ = some v4 ∧ w.cell? ⟨g, 5, none⟩ = some v5 ∧ w.cell? ⟨g, 6, none⟩ = some v6 ∧ w.cell? ⟨g, 7, none⟩ = some v7 ∧ w.cell? ⟨g, 8, none⟩ = some v8 ∧ w.cell? ⟨g, 9, none⟩ = some v9 ∧ w.cell? ⟨g, 10, none⟩ = some v10 := ⟨h.cell 0, h.cell 1, h.cell 2, h.cell 3, h.cell 4, h.cell 5, h.cell 6, h.cell 7, h.cell 8, h.cell 9, h.cell 10⟩

set_option maxRecDepth 100000 in
set_option maxHeartbeats 8000000 in
theorem apart_wrong (x : Cw) (q : Ak) (A : Option Addr) (n c : Nat) (w : World) (hr : RdX w w.heap.size A n x.l) (h : right x = false) :
    Calls Try.prog 7 #[.agg #[.slice A n c, .int .i64 x.fl, .int .i64 x.dr, .int .i64 x.nw, .bool x.tg], .agg #[.int .u8 q.kind, .int .i64 q.call, .int .i64 q.a, .int .i64 q.b, .int .i64 q.c, .int .i64 q.d]] w (TruePost w) := by
  have two := whole_two (W := w) (t := 24) (u := 26) (x := #[.slice A n c, .int .i64 x.fl, .int .i64 x.dr, .int .i64 x.nw, .bool x.tg]) (y := #[.int .u8 q.kind, .int .i64 q.call, .int .i64 q.a, .int .i64 q.b, .int .i64 q.c, .int .i64 q.d])
  have C := Lib.hid two.1
  have Q := Lib.hid two.2.1
  have R := Lib.hid (hr.up two.2.2)
  have B := Lib.hid two.2.2
  clear two hr
  have HRt := Lib.hid (rightL (l := x.l) (fl := x.fl) (dr := x.dr) (nw := x.nw) (tg := x.tg) (n := n) h)
  clear h
  go_enter Try.func7, Try.ntmps7
  go_wp2_with fail
  refine (HRt.out _ _ _ R.out).mono ?_
  rintro e y1 ⟨rfl, b⟩
  have C_ := Lib.hid (C.out.under b)
  have Q_ := Lib.hid (Q.out.under b)
  have R_ := Lib.hid (R.out.up b)
  have B_ := Lib.hid (B.out.trans (b.mono B.out.size))
  clear C Q R B
  have C := C_
  have Q := Q_
  have R := R_
  have B := B_
  clear C_ Q_ R_ B_
  clear b HRt
  go_wp2_with fail
  refine (wakes_any _).mono ?_
  rintro e y2 ⟨rfl, b⟩
  have C_ := Lib.hid (C.out.under b)
  have Q_ := Lib.hid (Q.out.under b)
  have R_ := Lib.hid (R.out.up b)
  have B_ := Lib.hid (B.out.trans (b.mono B.out.size))
  clear C Q R B
  have C := C_
  have Q := Q_
  have R := R_
  have B := B_
  clear C_ Q_ R_ B_
  go_wp2_with fail
  go_ret
  exact ⟨rfl, B.out⟩

set_option maxRecDepth 100000 in
set_option maxHeartbeats 8000000 in
theorem apart_right (x : Cw) (q : Ak) (A : Option Addr) (n c : Nat) (w : World) (hr : RdX w w.heap.size A n x.l) (hk : (Lit.int .u8 q.kind).wf = true) (h : right x = true) {L : List Bx} {K I : Int} {N : Nat} (hdo : doP x q = (L, K, I)) (hN : L.length = N) :
    Calls Try.prog 7 #[.agg #[.slice A n c, .int .i64 x.fl, .int .i64 x.dr, .int .i64 x.nw, .bool x.tg], .agg #[.int .u8 q.kind, .int .i64 q.call, .int .i64 q.a, .int .i64 q.b, .int .i64 q.c, .int .i64 q.d]] w (TruePost w) := by
  have two := whole_two (W := w) (t := 24) (u := 26) (x := #[.slice A n c, .int .i64 x.fl, .int .i64 x.dr, .int .i64 x.nw, .bool x.tg]) (y := #[.int .u8 q.kind, .int .i64 q.call, .int .i64 q.a, .int .i64 q.b, .int .i64 q.c, .int .i64 q.d])
  have C := Lib.hid two.1
  have Q := Lib.hid two.2.1
  have R := Lib.hid (hr.up two.2.2)
  have B := Lib.hid two.2.2
  clear two hr
  have hl := R.out.len
  have hn : n ≤ 60 := by have := right_few h; omega
  have hN60 : N ≤ 60 := by have := doC_few (q := q) h; rw [hdo] at this; exact hN ▸ this
  have hD := did x q
  rw [hdo] at hD
  have hg := grows hD
  dsimp only at hg
  have hnN : n ≤ N := by omega
  obtain ⟨z1, hz1⟩ : ∃ z1 : Int, (Go.Proofs.Ytphkleecodoplaa.hN L : Int) = z1 := ⟨_, rfl⟩
  obtain ⟨r, hrr⟩ : ∃ r, placeI (find x.l q.a) = r := ⟨_, rfl⟩
  have HRt := Lib.hid (rightL (l := x.l) (fl := x.fl) (dr := x.dr) (nw := x.nw) (tg := x.tg) (n := n) (b := true) h)
  have HD1 := Lib.hid (fun W A c hr => doL (l := x.l) (fl := x.fl) (dr := x.dr) (nw := x.nw) (tg := x.tg) (n := n) hdo hN hk (by omega) W A c hr)
  have HH1 := Lib.hid (fun W A c hr => hL (l := L) (fl := x.fl) (dr := x.dr) (nw := x.nw) (tg := x.tg) (n := N) hz1 (by omega) W A c hr)
  have HFi := Lib.hid (fun W A c hr => findL (l := x.l) (fl := x.fl) (dr := x.dr) (nw := x.nw) (tg := x.tg) (n := n) (id := q.a) hrr (by omega) W A c hr)
  have HS1 := Lib.hid (fun (hL : L = x.l) W A c A' c' hr hr' => sameL (l := x.l) (l' := L) (fl := x.fl) (dr := x.dr) (nw := x.nw) (tg := x.tg) (n := n) (N := N) (sameCw_eq hL.symm) (by omega) W A c A' c' hr hr')
  have HX := Lib.hid (And.intro hD (And.intro hl (And.intro hN (And.intro hnN (And.intro hN60 (And.intro hn (And.intro hz1 hrr)))))))
  have dN : decide (N < n) = false := decide_eq_false (by omega)
  have e1 : (x.fl != x.fl) = false := by simp
  have e2 : (x.dr != x.dr) = false := by simp
  have e3 : (x.nw != x.nw) = false := by simp
  have e4 : (x.tg != x.tg) = false := by simp
  clear h hdo hN hN60 hD hg hnN hz1 hrr hl hn hk
  go_enter Try.func7, Try.ntmps7
  go_wp2_with fail
  refine (HRt.out _ _ _ R.out).mono ?_
  rintro e y1 ⟨rfl, b⟩
  have C_ := Lib.hid (C.out.under b)
  have Q_ := Lib.hid (Q.out.under b)
  have R_ := Lib.hid (R.out.up b)
  have B_ := Lib.hid (B.out.trans (b.mono B.out.size))
  clear C Q R B
  have C := C_
  have Q := Q_
  have R := R_
  have B := B_
  clear C_ Q_ R_ B_
  clear b HRt
  have vC_0 := C.out.cell 0
  have vC_1 := C.out.cell 1
  have vC_2 := C.out.cell 2
  have vC_3 := C.out.cell 3
  have vC_4 := C.out.cell 4
  simp only [List.getElem?_toArray, List.getElem?_cons_zero, List.getElem?_cons_succ] at vC_0 vC_1 vC_2 vC_3 vC_4
  have vQ_0 := Q.out.cell 0
  have vQ_1 := Q.out.cell 1
  have vQ_2 := Q.out.cell 2
  have vQ_3 := Q.out.cell 3
  have vQ_4 := Q.out.cell 4
  have vQ_5 := Q.out.cell 5
  simp only [List.getElem?_toArray, List.getElem?_cons_zero, List.getElem?_cons_succ] at vQ_0 vQ_1 vQ_2 vQ_3 vQ_4 vQ_5
  go_wp2_with fail
  refine (HD1.out _ _ _ R.out).mono ?_
  rintro e y2 ⟨A3, c3, rfl, r2, b⟩
  clear vC_0 vC_1 vC_2 vC_3 vC_4 vQ_0 vQ_1 vQ_2 vQ_3 vQ_4 vQ_5
  have C_ := Lib.hid (C.out.under b)
  have Q_ := Lib.hid (Q.out.under b)
  have R_ := Lib.hid (R.out.up b)
  have B_ := Lib.hid (B.out.trans (b.mono B.out.size))
  clear C Q R B
  have C := C_
  have Q := Q_
  have R := R_
  have B := B_
  clear C_ Q_ R_ B_
  clear HD1 b
  have two := whole_two (W := y2) (t := 24) (u := 30) (x := #[.slice A3 N c3, .int .i64 x.fl, .int .i64 x.dr, .int .i64 x.nw, .bool x.tg]) (y := #[.int .i64 q.call, .int .u8 q.kind, .int .u8 K, .int .i64 I, .slice none 0 0, .bool false])
  have C_ := Lib.hid (C.out.under two.2.2)
  have Q_ := Lib.hid (Q.out.under two.2.2)
  have R_ := Lib.hid (R.out.up two.2.2)
  have B_ := Lib.hid (B.out.trans (two.2.2.mono B.out.size))
  clear C Q R B
  have C := C_
  have Q := Q_
  have R := R_
  have B := B_
  clear C_ Q_ R_ B_
  have S := Lib.hid (ApS.mk C.out Q.out two.1 two.2.1 R.out (r2.up two.2.2) B.out)
  clear two r2 C Q R B
  have vC_0 := S.out.C.cell 0
  have vC_1 := S.out.C.cell 1
  have vC_2 := S.out.C.cell 2
  have vC_3 := S.out.C.cell 3
  have vC_4 := S.out.C.cell 4
  simp only [List.getElem?_toArray, List.getElem?_cons_zero, List.getElem?_cons_succ] at vC_0 vC_1 vC_2 vC_3 vC_4
  have vD_0 := S.out.D.cell 0
  have vD_1 := S.out.D.cell 1
  have vD_2 := S.out.D.cell 2
  have vD_3 := S.out.D.cell 3
  have vD_4 := S.out.D.cell 4
  simp only [List.getElem?_toArray, List.getElem?_cons_zero, List.getElem?_cons_succ] at vD_0 vD_1 vD_2 vD_3 vD_4
  go_wp2_with fail
  clear vC_0 vC_1 vC_2 vC_3 vC_4 vD_0 vD_1 vD_2 vD_3 vD_4
  clear e1 e2 e3 e4 dN
  go_loopw [7, 8] (fun m i wr => ∃ j : Nat, i = .int .i64 (j : Int) ∧ j ≤ n ∧ m = .int .i64 (hN (L.take j) : Int) ∧ ApS w y2.heap.size x q A n c L A3 N c3 K I wr) (fun _ i _ => n - (intOf i).toNat)
  case atStart => exact ⟨0, rfl, Nat.zero_le _, rfl, S.out⟩
  case round =>
    clear S
    obtain ⟨j, rfl, hj, rfl, hS⟩ := hrel
    have S := Lib.hid hS
    clear hS
    obtain ⟨M, hM⟩ : ∃ M, hN (L.take j) = M := ⟨_, rfl⟩
    rw [hM]
    rcases Nat.lt_or_eq_of_le hj with hlt | hjn
    ·
      have hji : (j : Int) < (n : Int) := by omega
      obtain ⟨hD, hl, hN, hnN, hN60, hn, hz1, hrr⟩ := HX.out
      have hjN : (j : Int) < (N : Int) := by omega
      obtain ⟨u, hu⟩ : ∃ u, x.l[j]? = some u := ⟨_, List.getElem?_eq_getElem (by omega)⟩
      obtain ⟨z, hz, hap, e0, e1, e2, e3, e4, e7⟩ := apart hD hu
      dsimp only at hz hap
      obtain ⟨b, off, rfl, hbl, hc⟩ := S.out.R.2 (by omega)
      obtain ⟨b2, off2, rfl, hbl2, hc2⟩ := S.out.RD.2 (by omega)
      have hu11 := Lib.hid (hc j u hu)
      have hz11 := Lib.hid (hc2 j z hz)
      have hMle : (M : Int) ≤ 1000 := by have h1 := hN_le (L.take j); rw [List.length_take] at h1; omega
      have HM := Lib.hid (hN_takeR hz)
      rw [hM] at HM
      have HAp := Lib.hid hap
      have hj60 : (j : Int) ≤ 60 := by omega
      have HB := Lib.hid (And.intro hbl hbl2)
      have HCn := Lib.hid (fun W => counted_any z W)
      have HLt := Lib.hid hlt
      have f0 : (u.id != z.id) = false := by simp [e0]
      have f1 : (u.tok != z.tok) = false := by simp [e1]
      have f2 : (u.ver != z.ver) = false := by simp [e2]
      have f3 : (u.zone != z.zone) = false := by simp [e3]
      have f4 : (u.tag == z.tag) = true := by simp [e4]
      have f7 : (u.well == z.well) = true := by simp [e7]
      clear hD hl hN hnN hN60 hn hz1 hrr hu hz hap e0 e1 e2 e3 e4 e7 hc hc2 hM hj hlt hbl hbl2 HX HH1 HFi HS1
      have vC_0 := S.out.C.cell 0
      simp only [List.getElem?_toArray, List.getElem?_cons_zero] at vC_0
      go_wp2_with fail
      clear vC_0
      refine ap_region rfl (by kernel_rfl) ⟨_, rfl, rfl, rfl, rfl, rfl, by kernel_rfl⟩ ⟨_, rfl, rfl, rfl, rfl, rfl, by kernel_rfl⟩ ⟨_, rfl, rfl, rfl, rfl, rfl, by kernel_rfl⟩ ⟨_, rfl, rfl, rfl, rfl, rfl, by kernel_rfl⟩ ⟨_, rfl, rfl, rfl, rfl, rfl, by kernel_rfl⟩ ⟨_, rfl, rfl, rfl, rfl, rfl, by kernel_rfl⟩ ⟨_, rfl, rfl, rfl, rfl, rfl, by kernel_rfl⟩ ⟨_, rfl, rfl, rfl, rfl, rfl, by kernel_rfl⟩ ⟨_, rfl, rfl, rfl, rfl, rfl, by kernel_rfl⟩ ⟨_, rfl, rfl, rfl, rfl, rfl, by kernel_rfl⟩ ⟨_, rfl, rfl, rfl, rfl, rfl, by kernel_rfl⟩ ⟨_, rfl, rfl, rfl, rfl, rfl, by kernel_rfl⟩ ⟨_, rfl, rfl, rfl, rfl, rfl, by kernel_rfl⟩ ⟨_, rfl, rfl, rfl, rfl, rfl, by kernel_rfl⟩ _ _ b off n c b2 off2 N c3 j w.heap.size y2.heap.size u z x.fl x.dr x.nw x.tg ?ds rfl rfl rfl S.out.C S.out.D hu11.out hz11.out HB.out.1 HB.out.2 hji hjN ?fin
      case ds =>
        intro d hd
        simp only [apDs, List.mem_cons, List.not_mem_nil, or_false] at hd
        rcases hd with rfl | rfl | rfl | rfl | rfl | rfl | rfl | rfl | rfl | rfl | rfl | rfl <;> simp
      case fin =>
        rintro σ y5 g9 g10 s9 s10 X Y b
        simp only [apDs, lay, List.foldl_cons, List.foldl_nil, Act.put, List.setIfInBounds_toArray, List.set_cons_zero, List.set_cons_succ]
        rw [s9, s10]
        clear s9 s10 hji hjN HB hu11 hz11
        have S_ := Lib.hid (S.out.under b)
        clear S
        have S := S_
        clear S_
        clear b
        have X_ := Lib.hid X
        clear X
        have X := X_
        clear X_
        have Y_ := Lib.hid Y
        clear Y
        have Y := Y_
        clear Y_
        go_upto_region 11 with fail
        go_cut [97] (fun s wx => s = .bool false ∧ wx = y5)
        case first =>
          have vX_0 := X.out.cell 0
          have vX_1 := X.out.cell 1
          have vX_2 := X.out.cell 2
          have vX_3 := X.out.cell 3
          have vX_4 := X.out.cell 4
          have vX_5 := X.out.cell 5
          have vX_6 := X.out.cell 6
          have vX_7 := X.out.cell 7
          have vX_8 := X.out.cell 8
          have vX_9 := X.out.cell 9
          have vX_10 := X.out.cell 10
          simp only [List.getElem?_toArray, List.getElem?_cons_zero, List.getElem?_cons_succ] at vX_0 vX_1 vX_2 vX_3 vX_4 vX_5 vX_6 vX_7 vX_8 vX_9 vX_10
          have vY_0 := Y.out.cell 0
          have vY_1 := Y.out.cell 1
          have vY_2 := Y.out.cell 2
          have vY_3 := Y.out.cell 3
          have vY_4 := Y.out.cell 4
          have vY_5 := Y.out.cell 5
          have vY_6 := Y.out.cell 6
          have vY_7 := Y.out.cell 7
          have vY_8 := Y.out.cell 8
          have vY_9 := Y.out.cell 9
          have vY_10 := Y.out.cell 10
          simp only [List.getElem?_toArray, List.getElem?_cons_zero, List.getElem?_cons_succ] at vY_0 vY_1 vY_2 vY_3 vY_4 vY_5 vY_6 vY_7 vY_8 vY_9 vY_10
          have vQ_0 := S.out.Q.cell 0
          have vQ_2 := S.out.Q.cell 2
          simp only [List.getElem?_toArray, List.getElem?_cons_zero, List.getElem?_cons_succ] at vQ_0 vQ_2
          have vT_2 := S.out.T.cell 2
          simp only [List.getElem?_toArray, List.getElem?_cons_zero, List.getElem?_cons_succ] at vT_2
          clear f0 f1 f2 f3 f4 f7 HM HCn
          by_cases hzu : u = z
          · have HV := Lib.hid (show (!decide (u = z)) = false by rw [decide_eq_true hzu]; rfl)
            clear HAp hzu
            go_wp2_with ((with_reducible refine wpList_neqBx u z false rfl rfl ?hx ?hy HV.out ?_); (case hx => rfl); (case hy => rfl))
            go_meet
            exact ⟨rfl, rfl⟩
          obtain ⟨k1, k2, k3, k4⟩ := HAp.out.resolve_left (fun e => hzu e.symm)
          have HV := Lib.hid (show (!decide (u = z)) = true by rw [decide_eq_false hzu]; rfl)
          have d1 : (q.kind == 1) = false := by simp [k1]
          have d2 : (u.id != q.a) = false := by simp [k2]
          have d4 : (K != 1) = false := by simp [k4]
          have d2' : (u.id == q.a) = true := by simp [k2]
          have d4' : (K == 1) = true := by simp [k4]
          rw [k3] at vX_6
          have HK3 := Lib.hid k3
          clear HAp k3 k1 k2 k4 hzu
          go_wp2_with ((with_reducible refine wpList_neqBx u z true rfl rfl ?hx ?hy HV.out ?_); (case hx => rw [HK3.out]; rfl); (case hy => rfl))
          go_meet
          exact ⟨rfl, rfl⟩
        case rest =>
          obtain ⟨rfl, hwx⟩ := hcut
          have hwy := hwx.symm
          subst hwy
          clear hwx HAp
          have vX_0 := X.out.cell 0
          have vX_1 := X.out.cell 1
          have vX_2 := X.out.cell 2
          have vX_3 := X.out.cell 3
          have vX_4 := X.out.cell 4
          have vX_7 := X.out.cell 7
          simp only [List.getElem?_toArray, List.getElem?_cons_zero, List.getElem?_cons_succ] at vX_0 vX_1 vX_2 vX_3 vX_4 vX_7
          have vY_0 := Y.out.cell 0
          have vY_1 := Y.out.cell 1
          have vY_2 := Y.out.cell 2
          have vY_3 := Y.out.cell 3
          have vY_4 := Y.out.cell 4
          have vY_7 := Y.out.cell 7
          simp only [List.getElem?_toArray, List.getElem?_cons_zero, List.getElem?_cons_succ] at vY_0 vY_1 vY_2 vY_3 vY_4 vY_7
          go_upto_region 15 with fail
          clear vX_0 vX_1 vX_2 vX_3 vX_4 vX_7 vY_0 vY_1 vY_2 vY_3 vY_4 vY_7
          clear f0 f1 f2 f3 f4 f7
          go_cut [151] (fun s wx => s = .bool false ∧ Below y5.heap.size y5 wx)
          case first =>
            cases ho : z.on
            rotate_left
            cases hw : z.well
            rotate_left
            ·
              have hc : cnt z = (z.lb == 1) := by simp [cnt, ho, hw]
              obtain ⟨E, hE⟩ : ∃ E, (z.lb == 1) = E := ⟨_, rfl⟩
              rw [hc, ho, hw, hE] at HCn
              rw [ho, hw] at Y
              have hEE : (E != E) = false := by cases E <;> rfl
              clear hc ho hw
              go_wp2_with fail
              have HC := Lib.hid ((Below.refl y5.heap.size y5).drew)
              have HL := Lib.hid (fun W (hW : Below y5.heap.size y5 W) => cells11 (Y.out.under hW))
              refine wp_region_held_drew (S := fun W => Below y5.heap.size y5 W) (by kernel_rfl) HC.out (fun _ => ?_)
              refine takeH (i := 0) (v := ?_) rfl (by kernel_rfl) (by kernel_rfl) (by kernel_rfl) (fun _ _ _ h => h) (by rfl) ?_ HC.out ?_
              rotate_left
              · intro W hW; obtain ⟨c0, c1, c2, c3, c4, c5, c6, c7, c8, c9, c10⟩ := HL.out W hW; go_simp <;> with_reducible rfl
              simp only [Act.put, List.setIfInBounds_toArray, List.set_cons_zero, List.set_cons_succ]
              refine takeH (i := 2) (v := ?_) rfl (by kernel_rfl) (by kernel_rfl) (by kernel_rfl) (fun _ _ _ h => h) (by rfl) ?_ HC.out ?_
              rotate_left
              · intro W hW; obtain ⟨c0, c1, c2, c3, c4, c5, c6, c7, c8, c9, c10⟩ := HL.out W hW; go_simp <;> with_reducible rfl
              simp only [Act.put, List.setIfInBounds_toArray, List.set_cons_zero, List.set_cons_succ]
              refine takeH (i := 3) (v := ?_) rfl (by kernel_rfl) (by kernel_rfl) (by kernel_rfl) (fun _ _ _ h => h) (by rfl) ?_ HC.out ?_
              rotate_left
              · intro W hW; obtain ⟨c0, c1, c2, c3, c4, c5, c6, c7, c8, c9, c10⟩ := HL.out W hW; go_simp <;> with_reducible rfl
              simp only [Act.put, List.setIfInBounds_toArray, List.set_cons_zero, List.set_cons_succ]
              refine oneH (i := 1) rfl (by kernel_rfl) (by rfl) (fun K hK => ?_)
              go_simp
              go_at_call 19
              refine (HCn.out _).mono ?_
              rintro e y6 ⟨rfl, b9⟩
              have HC2 := Lib.hid (HC.out.trans (b9.mono HC.out.size))
              clear HC b9
              have HC := HC2
              clear HC2
              refine hK.out _ _ HC.out (fun _ => ?_)
              clear hK K
              refine takeH (i := 4) (v := ?_) rfl (by kernel_rfl) (by kernel_rfl) (by kernel_rfl) (fun _ _ _ h => h) (by rfl) ?_ HC.out ?_
              rotate_left
              · intro W hW; obtain ⟨c0, c1, c2, c3, c4, c5, c6, c7, c8, c9, c10⟩ := HL.out W hW; go_simp <;> with_reducible rfl
              simp only [Act.put, List.setIfInBounds_toArray, List.set_cons_zero, List.set_cons_succ]
              refine takeH (i := 5) (v := ?_) rfl (by kernel_rfl) (by kernel_rfl) (by kernel_rfl) (fun _ _ _ h => h) (by rfl) ?_ HC.out ?_
              rotate_left
              · intro W hW; obtain ⟨c0, c1, c2, c3, c4, c5, c6, c7, c8, c9, c10⟩ := HL.out W hW; go_simp <;> with_reducible rfl
              simp only [Act.put, List.setIfInBounds_toArray, List.set_cons_zero, List.set_cons_succ]
              refine takeH (i := 6) (v := ?_) rfl (by kernel_rfl) (by kernel_rfl) (by kernel_rfl) (fun _ _ _ h => h) (by rfl) ?_ HC.out ?_
              rotate_left
              · intro W hW; obtain ⟨c0, c1, c2, c3, c4, c5, c6, c7, c8, c9, c10⟩ := HL.out W hW; go_simp <;> with_reducible rfl
              simp only [Act.put, List.setIfInBounds_toArray, List.set_cons_zero, List.set_cons_succ]
              refine takeH (i := 7) (v := ?_) rfl (by kernel_rfl) (by kernel_rfl) (by kernel_rfl) (fun _ _ _ h => h) (by rfl) ?_ HC.out ?_
              rotate_left
              · intro W hW; obtain ⟨c0, c1, c2, c3, c4, c5, c6, c7, c8, c9, c10⟩ := HL.out W hW; go_simp <;> with_reducible rfl
              simp only [Act.put, List.setIfInBounds_toArray, List.set_cons_zero, List.set_cons_succ]
              refine takeH (i := 8) (v := ?_) rfl (by kernel_rfl) (by kernel_rfl) (by kernel_rfl) (fun _ _ _ h => h) (by rfl) ?_ HC.out ?_
              rotate_left
              · intro W hW; obtain ⟨c0, c1, c2, c3, c4, c5, c6, c7, c8, c9, c10⟩ := HL.out W hW; go_simp <;> with_reducible rfl
              simp only [Act.put, List.setIfInBounds_toArray, List.set_cons_zero, List.set_cons_succ]
              refine takeH (i := 9) (v := ?_) rfl (by kernel_rfl) (by kernel_rfl) (by kernel_rfl) (fun _ _ _ h => h) (by rfl) ?_ HC.out ?_
              rotate_left
              · intro W hW; obtain ⟨c0, c1, c2, c3, c4, c5, c6, c7, c8, c9, c10⟩ := HL.out W hW; go_simp <;> with_reducible rfl
              simp only [Act.put, List.setIfInBounds_toArray, List.set_cons_zero, List.set_cons_succ]
              refine takeH (i := 10) (v := ?_) rfl (by kernel_rfl) (by kernel_rfl) (by kernel_rfl) (fun _ _ _ h => h) (by rfl) ?_ HC.out ?_
              rotate_left
              · intro W hW; obtain ⟨c0, c1, c2, c3, c4, c5, c6, c7, c8, c9, c10⟩ := HL.out W hW; go_simp <;> with_reducible rfl
              simp only [Act.put, List.setIfInBounds_toArray, List.set_cons_zero, List.set_cons_succ]
              refine takeH (i := 11) (v := ?_) rfl (by kernel_rfl) (by kernel_rfl) (by kernel_rfl) (fun _ _ _ h => h) (by rfl) ?_ HC.out ?_
              rotate_left
              · intro W hW; obtain ⟨c0, c1, c2, c3, c4, c5, c6, c7, c8, c9, c10⟩ := HL.out W hW; go_simp <;> with_reducible rfl
              simp only [Act.put, List.setIfInBounds_toArray, List.set_cons_zero, List.set_cons_succ]
              refine takeH (i := 12) (v := ?_) rfl (by kernel_rfl) (by kernel_rfl) (by kernel_rfl) (fun _ _ _ h => h) (by rfl) ?_ HC.out ?_
              rotate_left
              · intro W hW; obtain ⟨c0, c1, c2, c3, c4, c5, c6, c7, c8, c9, c10⟩ := HL.out W hW; go_simp <;> with_reducible rfl
              simp only [Act.put, List.setIfInBounds_toArray, List.set_cons_zero, List.set_cons_succ]
              refine takeH (i := 13) (v := ?_) rfl (by kernel_rfl) (by kernel_rfl) (by kernel_rfl) (fun _ _ _ h => h) (by rfl) ?_ HC.out ?_
              rotate_left
              · intro W hW; obtain ⟨c0, c1, c2, c3, c4, c5, c6, c7, c8, c9, c10⟩ := HL.out W hW; go_simp <;> with_reducible rfl
              simp only [Act.put, List.setIfInBounds_toArray, List.set_cons_zero, List.set_cons_succ]
              refine wpAnyH_done (by kernel_rfl) ?_ _
              go_wp2_with fail
              go_meet
              exact ⟨rfl, HC.out⟩
            ·
              have hc : cnt z = false := by simp [cnt, ho]
              rw [hc, ho] at HCn
              rw [ho] at Y
              clear hc ho
              go_wp2_with fail
              have HC := Lib.hid ((Below.refl y5.heap.size y5).drew)
              have HL := Lib.hid (fun W (hW : Below y5.heap.size y5 W) => cells11 (Y.out.under hW))
              refine wp_region_held_drew (S := fun W => Below y5.heap.size y5 W) (by kernel_rfl) HC.out (fun _ => ?_)
              refine takeH (i := 0) (v := ?_) rfl (by kernel_rfl) (by kernel_rfl) (by kernel_rfl) (fun _ _ _ h => h) (by rfl) ?_ HC.out ?_
              rotate_left
              · intro W hW; obtain ⟨c0, c1, c2, c3, c4, c5, c6, c7, c8, c9, c10⟩ := HL.out W hW; go_simp <;> with_reducible rfl
              simp only [Act.put, List.setIfInBounds_toArray, List.set_cons_zero, List.set_cons_succ]
              refine takeH (i := 2) (v := ?_) rfl (by kernel_rfl) (by kernel_rfl) (by kernel_rfl) (fun _ _ _ h => h) (by rfl) ?_ HC.out ?_
              rotate_left
              · intro W hW; obtain ⟨c0, c1, c2, c3, c4, c5, c6, c7, c8, c9, c10⟩ := HL.out W hW; go_simp <;> with_reducible rfl
              simp only [Act.put, List.setIfInBounds_toArray, List.set_cons_zero, List.set_cons_succ]
              refine takeH (i := 3) (v := ?_) rfl (by kernel_rfl) (by kernel_rfl) (by kernel_rfl) (fun _ _ _ h => h) (by rfl) ?_ HC.out ?_
              rotate_left
              · intro W hW; obtain ⟨c0, c1, c2, c3, c4, c5, c6, c7, c8, c9, c10⟩ := HL.out W hW; go_simp <;> with_reducible rfl
              simp only [Act.put, List.setIfInBounds_toArray, List.set_cons_zero, List.set_cons_succ]
              refine oneH (i := 1) rfl (by kernel_rfl) (by rfl) (fun K hK => ?_)
              go_simp
              go_at_call 19
              refine (HCn.out _).mono ?_
              rintro e y6 ⟨rfl, b9⟩
              have HC2 := Lib.hid (HC.out.trans (b9.mono HC.out.size))
              clear HC b9
              have HC := HC2
              clear HC2
              refine hK.out _ _ HC.out (fun _ => ?_)
              clear hK K
              refine takeH (i := 4) (v := ?_) rfl (by kernel_rfl) (by kernel_rfl) (by kernel_rfl) (fun _ _ _ h => h) (by rfl) ?_ HC.out ?_
              rotate_left
              · intro W hW; obtain ⟨c0, c1, c2, c3, c4, c5, c6, c7, c8, c9, c10⟩ := HL.out W hW; go_simp <;> with_reducible rfl
              simp only [Act.put, List.setIfInBounds_toArray, List.set_cons_zero, List.set_cons_succ]
              refine skipH (i := 5) rfl (by kernel_rfl) (by kernel_rfl) (by kernel_rfl) (fun _ _ _ h => h) (by rfl) HC.out ?_
              simp only [Act.put, List.setIfInBounds_toArray, List.set_cons_zero, List.set_cons_succ]
              refine skipH (i := 6) rfl (by kernel_rfl) (by kernel_rfl) (by kernel_rfl) (fun _ _ _ h => h) (by rfl) HC.out ?_
              simp only [Act.put, List.setIfInBounds_toArray, List.set_cons_zero, List.set_cons_succ]
              refine takeH (i := 7) (v := ?_) rfl (by kernel_rfl) (by kernel_rfl) (by kernel_rfl) (fun _ _ _ h => h) (by rfl) ?_ HC.out ?_
              rotate_left
              · intro W hW; obtain ⟨c0, c1, c2, c3, c4, c5, c6, c7, c8, c9, c10⟩ := HL.out W hW; go_simp <;> with_reducible rfl
              simp only [Act.put, List.setIfInBounds_toArray, List.set_cons_zero, List.set_cons_succ]
              refine takeH (i := 8) (v := ?_) rfl (by kernel_rfl) (by kernel_rfl) (by kernel_rfl) (fun _ _ _ h => h) (by rfl) ?_ HC.out ?_
              rotate_left
              · intro W hW; obtain ⟨c0, c1, c2, c3, c4, c5, c6, c7, c8, c9, c10⟩ := HL.out W hW; go_simp <;> with_reducible rfl
              simp only [Act.put, List.setIfInBounds_toArray, List.set_cons_zero, List.set_cons_succ]
              refine skipH (i := 9) rfl (by kernel_rfl) (by kernel_rfl) (by kernel_rfl) (fun _ _ _ h => h) (by rfl) HC.out ?_
              simp only [Act.put, List.setIfInBounds_toArray, List.set_cons_zero, List.set_cons_succ]
              refine skipH (i := 10) rfl (by kernel_rfl) (by kernel_rfl) (by kernel_rfl) (fun _ _ _ h => h) (by rfl) HC.out ?_
              simp only [Act.put, List.setIfInBounds_toArray, List.set_cons_zero, List.set_cons_succ]
              refine skipH (i := 11) rfl (by kernel_rfl) (by kernel_rfl) (by kernel_rfl) (fun _ _ _ h => h) (by rfl) HC.out ?_
              simp only [Act.put, List.setIfInBounds_toArray, List.set_cons_zero, List.set_cons_succ]
              refine takeH (i := 12) (v := ?_) rfl (by kernel_rfl) (by kernel_rfl) (by kernel_rfl) (fun _ _ _ h => h) (by rfl) ?_ HC.out ?_
              rotate_left
              · intro W hW; obtain ⟨c0, c1, c2, c3, c4, c5, c6, c7, c8, c9, c10⟩ := HL.out W hW; go_simp <;> with_reducible rfl
              simp only [Act.put, List.setIfInBounds_toArray, List.set_cons_zero, List.set_cons_succ]
              refine takeH (i := 13) (v := ?_) rfl (by kernel_rfl) (by kernel_rfl) (by kernel_rfl) (fun _ _ _ h => h) (by rfl) ?_ HC.out ?_
              rotate_left
              · intro W hW; obtain ⟨c0, c1, c2, c3, c4, c5, c6, c7, c8, c9, c10⟩ := HL.out W hW; go_simp <;> with_reducible rfl
              simp only [Act.put, List.setIfInBounds_toArray, List.set_cons_zero, List.set_cons_succ]
              refine wpAnyH_done (by kernel_rfl) ?_ _
              go_wp2_with fail
              go_meet
              exact ⟨rfl, HC.out⟩
            ·
              have hc : cnt z = false := by simp [cnt, hw]
              rw [hc, ho, hw] at HCn
              rw [ho, hw] at Y
              clear hc ho hw
              go_wp2_with fail
              have HC := Lib.hid ((Below.refl y5.heap.size y5).drew)
              have HL := Lib.hid (fun W (hW : Below y5.heap.size y5 W) => cells11 (Y.out.under hW))
              refine wp_region_held_drew (S := fun W => Below y5.heap.size y5 W) (by kernel_rfl) HC.out (fun _ => ?_)
              refine takeH (i := 0) (v := ?_) rfl (by kernel_rfl) (by kernel_rfl) (by kernel_rfl) (fun _ _ _ h => h) (by rfl) ?_ HC.out ?_
              rotate_left
              · intro W hW; obtain ⟨c0, c1, c2, c3, c4, c5, c6, c7, c8, c9, c10⟩ := HL.out W hW; go_simp <;> with_reducible rfl
              simp only [Act.put, List.setIfInBounds_toArray, List.set_cons_zero, List.set_cons_succ]
              refine takeH (i := 2) (v := ?_) rfl (by kernel_rfl) (by kernel_rfl) (by kernel_rfl) (fun _ _ _ h => h) (by rfl) ?_ HC.out ?_
              rotate_left
              · intro W hW; obtain ⟨c0, c1, c2, c3, c4, c5, c6, c7, c8, c9, c10⟩ := HL.out W hW; go_simp <;> with_reducible rfl
              simp only [Act.put, List.setIfInBounds_toArray, List.set_cons_zero, List.set_cons_succ]
              refine takeH (i := 3) (v := ?_) rfl (by kernel_rfl) (by kernel_rfl) (by kernel_rfl) (fun _ _ _ h => h) (by rfl) ?_ HC.out ?_
              rotate_left
              · intro W hW; obtain ⟨c0, c1, c2, c3, c4, c5, c6, c7, c8, c9, c10⟩ := HL.out W hW; go_simp <;> with_reducible rfl
              simp only [Act.put, List.setIfInBounds_toArray, List.set_cons_zero, List.set_cons_succ]
              refine oneH (i := 1) rfl (by kernel_rfl) (by rfl) (fun K hK => ?_)
              go_simp
              go_at_call 19
              refine (HCn.out _).mono ?_
              rintro e y6 ⟨rfl, b9⟩
              have HC2 := Lib.hid (HC.out.trans (b9.mono HC.out.size))
              clear HC b9
              have HC := HC2
              clear HC2
              refine hK.out _ _ HC.out (fun _ => ?_)
              clear hK K
              refine takeH (i := 4) (v := ?_) rfl (by kernel_rfl) (by kernel_rfl) (by kernel_rfl) (fun _ _ _ h => h) (by rfl) ?_ HC.out ?_
              rotate_left
              · intro W hW; obtain ⟨c0, c1, c2, c3, c4, c5, c6, c7, c8, c9, c10⟩ := HL.out W hW; go_simp <;> with_reducible rfl
              simp only [Act.put, List.setIfInBounds_toArray, List.set_cons_zero, List.set_cons_succ]
              refine takeH (i := 5) (v := ?_) rfl (by kernel_rfl) (by kernel_rfl) (by kernel_rfl) (fun _ _ _ h => h) (by rfl) ?_ HC.out ?_
              rotate_left
              · intro W hW; obtain ⟨c0, c1, c2, c3, c4, c5, c6, c7, c8, c9, c10⟩ := HL.out W hW; go_simp <;> with_reducible rfl
              simp only [Act.put, List.setIfInBounds_toArray, List.set_cons_zero, List.set_cons_succ]
              refine takeH (i := 6) (v := ?_) rfl (by kernel_rfl) (by kernel_rfl) (by kernel_rfl) (fun _ _ _ h => h) (by rfl) ?_ HC.out ?_
              rotate_left
              · intro W hW; obtain ⟨c0, c1, c2, c3, c4, c5, c6, c7, c8, c9, c10⟩ := HL.out W hW; go_simp <;> with_reducible rfl
              simp only [Act.put, List.setIfInBounds_toArray, List.set_cons_zero, List.set_cons_succ]
              refine takeH (i := 7) (v := ?_) rfl (by kernel_rfl) (by kernel_rfl) (by kernel_rfl) (fun _ _ _ h => h) (by rfl) ?_ HC.out ?_
              rotate_left
              · intro W hW; obtain ⟨c0, c1, c2, c3, c4, c5, c6, c7, c8, c9, c10⟩ := HL.out W hW; go_simp <;> with_reducible rfl
              simp only [Act.put, List.setIfInBounds_toArray, List.set_cons_zero, List.set_cons_succ]
              refine takeH (i := 8) (v := ?_) rfl (by kernel_rfl) (by kernel_rfl) (by kernel_rfl) (fun _ _ _ h => h) (by rfl) ?_ HC.out ?_
              rotate_left
              · intro W hW; obtain ⟨c0, c1, c2, c3, c4, c5, c6, c7, c8, c9, c10⟩ := HL.out W hW; go_simp <;> with_reducible rfl
              simp only [Act.put, List.setIfInBounds_toArray, List.set_cons_zero, List.set_cons_succ]
              refine skipH (i := 9) rfl (by kernel_rfl) (by kernel_rfl) (by kernel_rfl) (fun _ _ _ h => h) (by rfl) HC.out ?_
              simp only [Act.put, List.setIfInBounds_toArray, List.set_cons_zero, List.set_cons_succ]
              refine skipH (i := 10) rfl (by kernel_rfl) (by kernel_rfl) (by kernel_rfl) (fun _ _ _ h => h) (by rfl) HC.out ?_
              simp only [Act.put, List.setIfInBounds_toArray, List.set_cons_zero, List.set_cons_succ]
              refine skipH (i := 11) rfl (by kernel_rfl) (by kernel_rfl) (by kernel_rfl) (fun _ _ _ h => h) (by rfl) HC.out ?_
              simp only [Act.put, List.setIfInBounds_toArray, List.set_cons_zero, List.set_cons_succ]
              refine takeH (i := 12) (v := ?_) rfl (by kernel_rfl) (by kernel_rfl) (by kernel_rfl) (fun _ _ _ h => h) (by rfl) ?_ HC.out ?_
              rotate_left
              · intro W hW; obtain ⟨c0, c1, c2, c3, c4, c5, c6, c7, c8, c9, c10⟩ := HL.out W hW; go_simp <;> with_reducible rfl
              simp only [Act.put, List.setIfInBounds_toArray, List.set_cons_zero, List.set_cons_succ]
              refine takeH (i := 13) (v := ?_) rfl (by kernel_rfl) (by kernel_rfl) (by kernel_rfl) (fun _ _ _ h => h) (by rfl) ?_ HC.out ?_
              rotate_left
              · intro W hW; obtain ⟨c0, c1, c2, c3, c4, c5, c6, c7, c8, c9, c10⟩ := HL.out W hW; go_simp <;> with_reducible rfl
              simp only [Act.put, List.setIfInBounds_toArray, List.set_cons_zero, List.set_cons_succ]
              refine wpAnyH_done (by kernel_rfl) ?_ _
              go_wp2_with fail
              go_meet
              exact ⟨rfl, HC.out⟩
          case rest =>
            obtain ⟨rfl, b⟩ := hcut
            have S_ := Lib.hid (S.out.under b)
            have X_ := Lib.hid (X.out.under b)
            have Y_ := Lib.hid (Y.out.under b)
            clear S X Y
            have S := S_
            have X := X_
            have Y := Y_
            clear S_ X_ Y_
            clear b
            have vY_0 := Y.out.cell 0
            have vY_1 := Y.out.cell 1
            have vY_2 := Y.out.cell 2
            have vY_3 := Y.out.cell 3
            have vY_4 := Y.out.cell 4
            have vY_5 := Y.out.cell 5
            have vY_6 := Y.out.cell 6
            have vY_7 := Y.out.cell 7
            have vY_8 := Y.out.cell 8
            have vY_9 := Y.out.cell 9
            have vY_10 := Y.out.cell 10
            simp only [List.getElem?_toArray, List.getElem?_cons_zero, List.getElem?_cons_succ] at vY_0 vY_1 vY_2 vY_3 vY_4 vY_5 vY_6 vY_7 vY_8 vY_9 vY_10
            go_wp2_with fail
            refine (HCn.out _).mono ?_
            rintro e y6 ⟨rfl, b⟩
            clear vY_0 vY_1 vY_2 vY_3 vY_4 vY_5 vY_6 vY_7 vY_8 vY_9 vY_10
            have S_ := Lib.hid (S.out.under b)
            have X_ := Lib.hid (X.out.under b)
            have Y_ := Lib.hid (Y.out.under b)
            clear S X Y
            have S := S_
            have X := X_
            have Y := Y_
            clear S_ X_ Y_
            clear b HCn X Y
            cases hcz : cnt z
            ·
              rw [hcz] at HM
              clear hcz
              go_wp2_with fail
              go_roundw
              case rel => exact ⟨j + 1, by go_num, by have := HLt.out; omega, by rw [HM.out]; rfl, S.out⟩
              case measure => have := HLt.out; simp [intOf]; omega
            ·
              rw [hcz] at HM
              clear hcz
              go_wp2_with fail
              go_roundw
              case rel => exact ⟨j + 1, by go_num, by have := HLt.out; omega, by rw [HM.out]; rfl, S.out⟩
              case measure => have := HLt.out; simp [intOf]; omega
    ·
      have hji : decide (j < n) = false := decide_eq_false (by omega)
      have dM : (z1 == (M : Int)) = true := by
        obtain ⟨hD, hl, hN, hnN, hN60, hn, hz1, hrr⟩ := HX.out
        have := hN_new hD
        dsimp only at this
        rw [hl, ← hjn, hM] at this
        rw [beq_iff_eq]; omega
      have hnN : n ≤ N := HX.out.2.2.2.1
      clear hM hjn hj
      have vC_0 := S.out.C.cell 0
      simp only [List.getElem?_toArray, List.getElem?_cons_zero] at vC_0
      go_wp2_with fail
      clear vC_0
      clear hji
      go_loopw [11] (fun i wr => ∃ k : Nat, i = .int .i64 (k : Int) ∧ n ≤ k ∧ k ≤ N ∧ ApS w y2.heap.size x q A n c L A3 N c3 K I wr) (fun i _ => N - (intOf i).toNat)
      case atStart => exact ⟨n, rfl, Nat.le_refl _, hnN, S.out⟩
      case round =>
        clear S
        obtain ⟨k, rfl, hnk, hk, hS⟩ := hrel
        have S := Lib.hid hS
        clear hS
        rcases Nat.lt_or_eq_of_le hk with hlt | hkN
        ·
          have hkN : (k : Int) < (N : Int) := by omega
          obtain ⟨hD, hl, hN, hnN, hN60, hn, hz1, hrr⟩ := HX.out
          obtain ⟨z, hz⟩ : ∃ z, L[k]? = some z := ⟨_, List.getElem?_eq_getElem (by omega)⟩
          obtain ⟨k1, k2, k3⟩ := newer hD (i := k) (y := z) (by omega) hz
          obtain ⟨b2, off2, rfl, hbl2, hc2⟩ := S.out.RD.2 (by omega)
          have HZ := Lib.hid (fun W (hW : Below wr.heap.size wr W) => bxAt_of fun i hi => (hW.cell (p := ⟨b2, off2 + k * 11 + i, none⟩) hbl2).trans ((hc2 k z hz).all i hi))
          have HCn := Lib.hid (fun W => counted_any z W)
          rw [k1] at HCn
          have d2 : (q.kind != 1) = false := by simp [k2]
          have d3 : (z.tok != q.a) = false := by simp [k3]
          have HLt := Lib.hid (And.intro hlt hnk)
          have hk60 : (k : Int) ≤ 60 := by omega
          clear hD hl hN hnN hN60 hn hz1 hrr hz k1 k2 k3 hbl2 hc2 hlt hnk hk HX HH1 HFi HS1 dM
          have vD_0 := S.out.D.cell 0
          simp only [List.getElem?_toArray, List.getElem?_cons_zero] at vD_0
          go_wp2_with fail
          clear vD_0
          have HC := Lib.hid ((Below.refl wr.heap.size wr).drew)
          have HL := Lib.hid (fun W (hW : Below wr.heap.size wr W) => And.intro (HZ.out W hW) (And.intro (cells5 (S.out.under hW).D) (cells6 (S.out.under hW).Q)))
          refine wp_region_held_drew (S := fun W => Below wr.heap.size wr W) (by kernel_rfl) HC.out (fun _ => ?_)
          refine takeH (i := 0) (v := ?_) rfl (by kernel_rfl) (by kernel_rfl) (by kernel_rfl) (fun _ _ _ h => h) (by rfl) ?_ HC.out ?_
          rotate_left
          · intro W hW; obtain ⟨⟨x0, x1, x2, x3, x4, x5, x6, x7, x8, x9, x10⟩, ⟨d0, d1, dd2, dd3, d4⟩, ⟨q0, q1, q2, q3, q4, q5⟩⟩ := HL.out W hW; go_simp <;> with_reducible rfl
          simp only [Act.put, List.setIfInBounds_toArray, List.set_cons_zero, List.set_cons_succ]
          refine takeH (i := 1) (v := ?_) rfl (by kernel_rfl) (by kernel_rfl) (by kernel_rfl) (fun _ _ _ h => h) (by rfl) ?_ HC.out ?_
          rotate_left
          · intro W hW; obtain ⟨⟨x0, x1, x2, x3, x4, x5, x6, x7, x8, x9, x10⟩, ⟨d0, d1, dd2, dd3, d4⟩, ⟨q0, q1, q2, q3, q4, q5⟩⟩ := HL.out W hW; go_simp <;> with_reducible rfl
          simp only [Act.put, List.setIfInBounds_toArray, List.set_cons_zero, List.set_cons_succ]
          refine takeH (i := 2) (v := ?_) rfl (by kernel_rfl) (by kernel_rfl) (by kernel_rfl) (fun _ _ _ h => h) (by rfl) ?_ HC.out ?_
          rotate_left
          · intro W hW; obtain ⟨⟨x0, x1, x2, x3, x4, x5, x6, x7, x8, x9, x10⟩, ⟨d0, d1, dd2, dd3, d4⟩, ⟨q0, q1, q2, q3, q4, q5⟩⟩ := HL.out W hW; go_simp <;> with_reducible rfl
          simp only [Act.put, List.setIfInBounds_toArray, List.set_cons_zero, List.set_cons_succ]
          refine takeH (i := 3) (v := ?_) rfl (by kernel_rfl) (by kernel_rfl) (by kernel_rfl) (fun _ _ _ h => h) (by rfl) ?_ HC.out ?_
          rotate_left
          · intro W hW; obtain ⟨⟨x0, x1, x2, x3, x4, x5, x6, x7, x8, x9, x10⟩, ⟨d0, d1, dd2, dd3, d4⟩, ⟨q0, q1, q2, q3, q4, q5⟩⟩ := HL.out W hW; go_simp <;> with_reducible rfl
          simp only [Act.put, List.setIfInBounds_toArray, List.set_cons_zero, List.set_cons_succ]
          refine takeH (i := 4) (v := ?_) rfl (by kernel_rfl) (by kernel_rfl) (by kernel_rfl) (fun _ _ _ h => h) (by rfl) ?_ HC.out ?_
          rotate_left
          · intro W hW; obtain ⟨⟨x0, x1, x2, x3, x4, x5, x6, x7, x8, x9, x10⟩, ⟨d0, d1, dd2, dd3, d4⟩, ⟨q0, q1, q2, q3, q4, q5⟩⟩ := HL.out W hW; go_simp <;> with_reducible rfl
          simp only [Act.put, List.setIfInBounds_toArray, List.set_cons_zero, List.set_cons_succ]
          refine oneH (i := 5) rfl (by kernel_rfl) (by rfl) (fun K hK => ?_)
          go_simp
          go_at_call 19
          refine (HCn.out _).mono ?_
          rintro e y7 ⟨rfl, b9⟩
          have HC2 := Lib.hid (HC.out.trans (b9.mono HC.out.size))
          clear HC b9
          have HC := HC2
          clear HC2
          refine hK.out _ _ HC.out (fun _ => ?_)
          clear hK K
          refine takeH (i := 6) (v := ?_) rfl (by kernel_rfl) (by kernel_rfl) (by kernel_rfl) (fun _ _ _ h => h) (by rfl) ?_ HC.out ?_
          rotate_left
          · intro W hW; obtain ⟨⟨x0, x1, x2, x3, x4, x5, x6, x7, x8, x9, x10⟩, ⟨d0, d1, dd2, dd3, d4⟩, ⟨q0, q1, q2, q3, q4, q5⟩⟩ := HL.out W hW; go_simp <;> with_reducible rfl
          simp only [Act.put, List.setIfInBounds_toArray, List.set_cons_zero, List.set_cons_succ]
          refine takeH (i := 7) (v := ?_) rfl (by kernel_rfl) (by kernel_rfl) (by kernel_rfl) (fun _ _ _ h => h) (by rfl) ?_ HC.out ?_
          rotate_left
          · intro W hW; obtain ⟨⟨x0, x1, x2, x3, x4, x5, x6, x7, x8, x9, x10⟩, ⟨d0, d1, dd2, dd3, d4⟩, ⟨q0, q1, q2, q3, q4, q5⟩⟩ := HL.out W hW; go_simp <;> with_reducible rfl
          simp only [Act.put, List.setIfInBounds_toArray, List.set_cons_zero, List.set_cons_succ]
          refine takeH (i := 8) (v := ?_) rfl (by kernel_rfl) (by kernel_rfl) (by kernel_rfl) (fun _ _ _ h => h) (by rfl) ?_ HC.out ?_
          rotate_left
          · intro W hW; obtain ⟨⟨x0, x1, x2, x3, x4, x5, x6, x7, x8, x9, x10⟩, ⟨d0, d1, dd2, dd3, d4⟩, ⟨q0, q1, q2, q3, q4, q5⟩⟩ := HL.out W hW; go_simp <;> with_reducible rfl
          simp only [Act.put, List.setIfInBounds_toArray, List.set_cons_zero, List.set_cons_succ]
          refine takeH (i := 9) (v := ?_) rfl (by kernel_rfl) (by kernel_rfl) (by kernel_rfl) (fun _ _ _ h => h) (by rfl) ?_ HC.out ?_
          rotate_left
          · intro W hW; obtain ⟨⟨x0, x1, x2, x3, x4, x5, x6, x7, x8, x9, x10⟩, ⟨d0, d1, dd2, dd3, d4⟩, ⟨q0, q1, q2, q3, q4, q5⟩⟩ := HL.out W hW; go_simp <;> with_reducible rfl
          simp only [Act.put, List.setIfInBounds_toArray, List.set_cons_zero, List.set_cons_succ]
          refine takeH (i := 10) (v := ?_) rfl (by kernel_rfl) (by kernel_rfl) (by kernel_rfl) (fun _ _ _ h => h) (by rfl) ?_ HC.out ?_
          rotate_left
          · intro W hW; obtain ⟨⟨x0, x1, x2, x3, x4, x5, x6, x7, x8, x9, x10⟩, ⟨d0, d1, dd2, dd3, d4⟩, ⟨q0, q1, q2, q3, q4, q5⟩⟩ := HL.out W hW; go_simp <;> with_reducible rfl
          simp only [Act.put, List.setIfInBounds_toArray, List.set_cons_zero, List.set_cons_succ]
          refine takeH (i := 11) (v := ?_) rfl (by kernel_rfl) (by kernel_rfl) (by kernel_rfl) (fun _ _ _ h => h) (by rfl) ?_ HC.out ?_
          rotate_left
          · intro W hW; obtain ⟨⟨x0, x1, x2, x3, x4, x5, x6, x7, x8, x9, x10⟩, ⟨d0, d1, dd2, dd3, d4⟩, ⟨q0, q1, q2, q3, q4, q5⟩⟩ := HL.out W hW; go_simp <;> with_reducible rfl
          simp only [Act.put, List.setIfInBounds_toArray, List.set_cons_zero, List.set_cons_succ]
          refine takeH (i := 12) (v := ?_) rfl (by kernel_rfl) (by kernel_rfl) (by kernel_rfl) (fun _ _ _ h => h) (by rfl) ?_ HC.out ?_
          rotate_left
          · intro W hW; obtain ⟨⟨x0, x1, x2, x3, x4, x5, x6, x7, x8, x9, x10⟩, ⟨d0, d1, dd2, dd3, d4⟩, ⟨q0, q1, q2, q3, q4, q5⟩⟩ := HL.out W hW; go_simp <;> with_reducible rfl
          simp only [Act.put, List.setIfInBounds_toArray, List.set_cons_zero, List.set_cons_succ]
          refine takeH (i := 13) (v := ?_) rfl (by kernel_rfl) (by kernel_rfl) (by kernel_rfl) (fun _ _ _ h => h) (by rfl) ?_ HC.out ?_
          rotate_left
          · intro W hW; obtain ⟨⟨x0, x1, x2, x3, x4, x5, x6, x7, x8, x9, x10⟩, ⟨d0, d1, dd2, dd3, d4⟩, ⟨q0, q1, q2, q3, q4, q5⟩⟩ := HL.out W hW; go_simp <;> with_reducible rfl
          simp only [Act.put, List.setIfInBounds_toArray, List.set_cons_zero, List.set_cons_succ]
          refine takeH (i := 14) (v := ?_) rfl (by kernel_rfl) (by kernel_rfl) (by kernel_rfl) (fun _ _ _ h => h) (by rfl) ?_ HC.out ?_
          rotate_left
          · intro W hW; obtain ⟨⟨x0, x1, x2, x3, x4, x5, x6, x7, x8, x9, x10⟩, ⟨d0, d1, dd2, dd3, d4⟩, ⟨q0, q1, q2, q3, q4, q5⟩⟩ := HL.out W hW; go_simp <;> with_reducible rfl
          simp only [Act.put, List.setIfInBounds_toArray, List.set_cons_zero, List.set_cons_succ]
          refine takeH (i := 15) (v := ?_) rfl (by kernel_rfl) (by kernel_rfl) (by kernel_rfl) (fun _ _ _ h => h) (by rfl) ?_ HC.out ?_
          rotate_left
          · intro W hW; obtain ⟨⟨x0, x1, x2, x3, x4, x5, x6, x7, x8, x9, x10⟩, ⟨d0, d1, dd2, dd3, d4⟩, ⟨q0, q1, q2, q3, q4, q5⟩⟩ := HL.out W hW; go_simp <;> with_reducible rfl
          simp only [Act.put, List.setIfInBounds_toArray, List.set_cons_zero, List.set_cons_succ]
          refine takeH (i := 16) (v := ?_) rfl (by kernel_rfl) (by kernel_rfl) (by kernel_rfl) (fun _ _ _ h => h) (by rfl) ?_ HC.out ?_
          rotate_left
          · intro W hW; obtain ⟨⟨x0, x1, x2, x3, x4, x5, x6, x7, x8, x9, x10⟩, ⟨d0, d1, dd2, dd3, d4⟩, ⟨q0, q1, q2, q3, q4, q5⟩⟩ := HL.out W hW; go_simp <;> with_reducible rfl
          simp only [Act.put, List.setIfInBounds_toArray, List.set_cons_zero, List.set_cons_succ]
          refine takeH (i := 17) (v := ?_) rfl (by kernel_rfl) (by kernel_rfl) (by kernel_rfl) (fun _ _ _ h => h) (by rfl) ?_ HC.out ?_
          rotate_left
          · intro W hW; obtain ⟨⟨x0, x1, x2, x3, x4, x5, x6, x7, x8, x9, x10⟩, ⟨d0, d1, dd2, dd3, d4⟩, ⟨q0, q1, q2, q3, q4, q5⟩⟩ := HL.out W hW; go_simp <;> with_reducible rfl
          simp only [Act.put, List.setIfInBounds_toArray, List.set_cons_zero, List.set_cons_succ]
          refine takeH (i := 18) (v := ?_) rfl (by kernel_rfl) (by kernel_rfl) (by kernel_rfl) (fun _ _ _ h => h) (by rfl) ?_ HC.out ?_
          rotate_left
          · intro W hW; obtain ⟨⟨x0, x1, x2, x3, x4, x5, x6, x7, x8, x9, x10⟩, ⟨d0, d1, dd2, dd3, d4⟩, ⟨q0, q1, q2, q3, q4, q5⟩⟩ := HL.out W hW; go_simp <;> with_reducible rfl
          simp only [Act.put, List.setIfInBounds_toArray, List.set_cons_zero, List.set_cons_succ]
          refine takeH (i := 19) (v := ?_) rfl (by kernel_rfl) (by kernel_rfl) (by kernel_rfl) (fun _ _ _ h => h) (by rfl) ?_ HC.out ?_
          rotate_left
          · intro W hW; obtain ⟨⟨x0, x1, x2, x3, x4, x5, x6, x7, x8, x9, x10⟩, ⟨d0, d1, dd2, dd3, d4⟩, ⟨q0, q1, q2, q3, q4, q5⟩⟩ := HL.out W hW; go_simp <;> with_reducible rfl
          simp only [Act.put, List.setIfInBounds_toArray, List.set_cons_zero, List.set_cons_succ]
          refine takeH (i := 20) (v := ?_) rfl (by kernel_rfl) (by kernel_rfl) (by kernel_rfl) (fun _ _ _ h => h) (by rfl) ?_ HC.out ?_
          rotate_left
          · intro W hW; obtain ⟨⟨x0, x1, x2, x3, x4, x5, x6, x7, x8, x9, x10⟩, ⟨d0, d1, dd2, dd3, d4⟩, ⟨q0, q1, q2, q3, q4, q5⟩⟩ := HL.out W hW; go_simp <;> with_reducible rfl
          simp only [Act.put, List.setIfInBounds_toArray, List.set_cons_zero, List.set_cons_succ]
          refine takeH (i := 21) (v := ?_) rfl (by kernel_rfl) (by kernel_rfl) (by kernel_rfl) (fun _ _ _ h => h) (by rfl) ?_ HC.out ?_
          rotate_left
          · intro W hW; obtain ⟨⟨x0, x1, x2, x3, x4, x5, x6, x7, x8, x9, x10⟩, ⟨d0, d1, dd2, dd3, d4⟩, ⟨q0, q1, q2, q3, q4, q5⟩⟩ := HL.out W hW; go_simp <;> with_reducible rfl
          simp only [Act.put, List.setIfInBounds_toArray, List.set_cons_zero, List.set_cons_succ]
          refine wpAnyH_done (by kernel_rfl) ?_ _
          have b := HC.out
          have S_ := Lib.hid (S.out.under b)
          clear S
          have S := S_
          clear S_
          clear b HC HL HZ HCn
          go_wp2_with fail
          go_roundw
          case rel => exact ⟨k + 1, by go_num, by have := HLt.out.2; omega, by have := HLt.out.1; omega, S.out⟩
          case measure => have := HLt.out.1; simp [intOf]; omega
        ·
          have hki : decide (k < N) = false := decide_eq_false (by omega)
          obtain ⟨hD, hl, hN, hnN, hN60, hn, hz1, hrr⟩ := HX.out
          clear hnk hk hkN hl hN hnN hN60 hn hz1 HX
          have vD_0 := S.out.D.cell 0
          have vD_1 := S.out.D.cell 1
          have vD_2 := S.out.D.cell 2
          have vD_3 := S.out.D.cell 3
          have vD_4 := S.out.D.cell 4
          simp only [List.getElem?_toArray, List.getElem?_cons_zero, List.getElem?_cons_succ] at vD_0 vD_1 vD_2 vD_3 vD_4
          go_wp2_with fail
          refine (HH1.out _ _ _ S.out.RD).mono ?_
          rintro e y7 ⟨rfl, b⟩
          clear vD_0 vD_1 vD_2 vD_3 vD_4
          have S_ := Lib.hid (S.out.under b)
          clear S
          have S := S_
          clear S_
          clear b HH1
          have vC_0 := S.out.C.cell 0
          have vC_1 := S.out.C.cell 1
          have vC_2 := S.out.C.cell 2
          have vC_3 := S.out.C.cell 3
          have vC_4 := S.out.C.cell 4
          simp only [List.getElem?_toArray, List.getElem?_cons_zero, List.getElem?_cons_succ] at vC_0 vC_1 vC_2 vC_3 vC_4
          have vQ_0 := S.out.Q.cell 0
          have vQ_1 := S.out.Q.cell 1
          have vQ_2 := S.out.Q.cell 2
          have vQ_3 := S.out.Q.cell 3
          have vQ_4 := S.out.Q.cell 4
          have vQ_5 := S.out.Q.cell 5
          simp only [List.getElem?_toArray, List.getElem?_cons_zero, List.getElem?_cons_succ] at vQ_0 vQ_1 vQ_2 vQ_3 vQ_4 vQ_5
          go_wp2_with fail
          refine (HFi.out _ _ _ S.out.R).mono ?_
          rintro e y8 ⟨rfl, b⟩
          clear vC_0 vC_1 vC_2 vC_3 vC_4 vQ_0 vQ_1 vQ_2 vQ_3 vQ_4 vQ_5
          have S_ := Lib.hid (S.out.under b)
          clear S
          have S := S_
          clear S_
          clear b HFi
          cases hf : find x.l q.a
          rotate_left
          rename_i i
          · rw [hf] at hrr
            have hri : (i : Int) = r := hrr
            subst hri
            clear hrr hf hD HS1
            have di : decide ((0 : Int) ≤ (i : Int)) = true := decide_eq_true (by omega)
            go_wp2_with fail
            refine (wakes_any _).mono ?_
            rintro e y9 ⟨rfl, b⟩
            have S_ := Lib.hid (S.out.under b)
            clear S
            have S := S_
            clear S_
            go_wp2_with fail
            go_ret
            exact ⟨rfl, S.out.B⟩
          rw [hf] at hrr
          have hri : (-1 : Int) = r := hrr
          subst hri
          clear hrr
          by_cases hk1 : q.kind = 1
          · have dk : (q.kind == 1) = true := by simp [hk1]
            clear hf hD HS1 hk1
            have vQ_0 := S.out.Q.cell 0
            simp only [List.getElem?_toArray, List.getElem?_cons_zero] at vQ_0
            go_wp2_with fail
            refine (wakes_any _).mono ?_
            rintro e y9 ⟨rfl, b⟩
            clear vQ_0
            have S_ := Lib.hid (S.out.under b)
            clear S
            have S := S_
            clear S_
            go_wp2_with fail
            go_ret
            exact ⟨rfl, S.out.B⟩
          have dk : (q.kind == 1) = false := by simp [hk1]
          have HS := Lib.hid (HS1.out (not_there hD hf hk1))
          clear hf hD HS1 hk1
          have vQ_0 := S.out.Q.cell 0
          simp only [List.getElem?_toArray, List.getElem?_cons_zero] at vQ_0
          have vC_0 := S.out.C.cell 0
          have vC_1 := S.out.C.cell 1
          have vC_2 := S.out.C.cell 2
          have vC_3 := S.out.C.cell 3
          have vC_4 := S.out.C.cell 4
          simp only [List.getElem?_toArray, List.getElem?_cons_zero, List.getElem?_cons_succ] at vC_0 vC_1 vC_2 vC_3 vC_4
          have vD_0 := S.out.D.cell 0
          have vD_1 := S.out.D.cell 1
          have vD_2 := S.out.D.cell 2
          have vD_3 := S.out.D.cell 3
          have vD_4 := S.out.D.cell 4
          simp only [List.getElem?_toArray, List.getElem?_cons_zero, List.getElem?_cons_succ] at vD_0 vD_1 vD_2 vD_3 vD_4
          go_wp2_with fail
          refine (HS.out _ _ _ _ _ S.out.R S.out.RD).mono ?_
          rintro e y9 ⟨rfl, b⟩
          clear vQ_0 vC_0 vC_1 vC_2 vC_3 vC_4 vD_0 vD_1 vD_2 vD_3 vD_4
          have S_ := Lib.hid (S.out.under b)
          clear S
          have S := S_
          clear S_
          clear b HS
          go_wp2_with fail
          refine (wakes_any _).mono ?_
          rintro e y10 ⟨rfl, b⟩
          have S_ := Lib.hid (S.out.under b)
          clear S
          have S := S_
          clear S_
          go_wp2_with fail
          go_ret
          exact ⟨rfl, S.out.B⟩

theorem cloudApart_any (x : Cw) (q : Ak) (A : Option Addr) (n c : Nat) (w : World) (hr : RdX w w.heap.size A n x.l) (hk : (Lit.int .u8 q.kind).wf = true) :
    Calls Try.prog 7 #[.agg #[.slice A n c, .int .i64 x.fl, .int .i64 x.dr, .int .i64 x.nw, .bool x.tg], .agg #[.int .u8 q.kind, .int .i64 q.call, .int .i64 q.a, .int .i64 q.b, .int .i64 q.c, .int .i64 q.d]] w (TruePost w) := by
  cases h : right x with
  | false => exact apart_wrong x q A n c w hr h
  | true => exact apart_right x q A n c w hr hk h (hdo := rfl) rfl

end Go.Proofs.Ytphkleecodoplaa
