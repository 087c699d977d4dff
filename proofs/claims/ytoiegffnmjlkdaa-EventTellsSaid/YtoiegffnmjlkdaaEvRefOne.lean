/-
  The walks of the document's own number, Falls, stray and tick (layer 10). Conditions: those that each theorem names.
-/
import Derived.Test.YtoiegffnmjlkdaaEvStray
import Derived.Test.YtoiegffnmjlkdaaEvTick
import Derived.Test.YtoiegffnmjlkdaaCdSmall
import Derived.BigQuiet
import Derived.Deep.DeepCutAuto
namespace Go.Proofs.Ytoiegffnmjlkdaa
open Go.RowKit Go.Shelf

set_option maxHeartbeats 1000000 in
theorem refNumber_any (z : Int) (w : World) : Calls Try.prog 22 #[.int .i64 z] w fun e w' => e = .returned (.bool (isNum z)) ∧ w = w' := by
  by_cases h0 : 0 ≤ z
  · by_cases h1 : z ≤ 1099511627776
    · have HN := Lib.hid (isNum_yes h0 h1)
      rw [HN.out]
      go_enter Try.func22, Try.ntmps22
      go_wp2_with fail
      go_ret
      exact ⟨rfl, rfl⟩
    · have HN := Lib.hid (show isNum z = false by simp [isNum, h1])
      rw [HN.out]
      go_enter Try.func22, Try.ntmps22
      go_wp2_with fail
      go_ret
      exact ⟨rfl, rfl⟩
  · have HN := Lib.hid (show isNum z = false by simp [isNum, h0])
    rw [HN.out]
    go_enter Try.func22, Try.ntmps22
    go_wp2_with fail
    go_ret
    exact ⟨rfl, rfl⟩

set_option maxHeartbeats 1000000 in
theorem refFalls_any (e : Ev) (w : World) : Calls Try.prog 15 #[.agg #[.int .u8 e.kind, .int .i64 e.a, .int .i64 e.b]] w (BoolPost (fallsB e) w) := by
  obtain ⟨k, a, b⟩ := e
  have HB := Lib.hid ((Below.refl _ w).alloc (Nat.le_refl _) (.cells #[.int .u8 k, .int .i64 a, .int .i64 b] 26))
  have HF : Hid (fallsB ⟨k, a, b⟩ = ((k == 1) || (k == 2))) := Lib.hid rfl
  rw [HF.out]
  simp only
  cases h1 : (k == 1)
  · obtain ⟨E, hE⟩ : ∃ E, (k == 2) = E := ⟨_, rfl⟩
    rw [hE]
    go_enter Try.func15, Try.ntmps15
    go_wp2_with fail
    go_ret
    exact ⟨rfl, HB.out⟩
  · go_enter Try.func15, Try.ntmps15
    go_wp2_with fail
    go_ret
    exact ⟨rfl, HB.out⟩

/-- A cloud told, its boxes in a row of one's own that came in. -/
def OnPost (base : Nat) (x : Cw) (w : World) (e : Ending) (w' : World) : Prop :=
  ∃ A n c, e = .returned (.agg #[.slice A n c, .int .i64 x.fl, .int .i64 x.dr, .int .i64 x.nw, .bool x.tg]) ∧ w'.ownsRow base 36 11 (.slice A n c) n (flat x.l) ∧ Below base w w'

/-- The cloud in its box and the result's box. -/
theorem two_boxes {W : World} (xs : Array Value) : ∃ V, (W.alloc (.cells xs 24)).alloc (.cells #[.slice none 0 0, .int .i64 0, .int .i64 0, .int .i64 0, .bool false] 24) = V ∧ Whole V W.heap.size 24 xs ∧ Whole V (W.heap.size + 1) 24 #[.slice none 0 0, .int .i64 0, .int .i64 0, .int .i64 0, .bool false] ∧ Below W.heap.size W V := by
  refine ⟨_, rfl, (Whole.new W _ _).alloc _, ?_, ((Below.refl _ W).alloc (Nat.le_refl _) _).alloc (by simp) _⟩
  have := Whole.new (W.alloc (.cells xs 24)) 24 #[.slice none 0 0, .int .i64 0, .int .i64 0, .int .i64 0, .bool false]
  rwa [World.size_alloc] at this
/-- A row of boxes of one's own does not lie in a cloud's block. -/
theorem own_apartC {W : World} {base g n : Nat} {v : Value} {l : List Value} {xs : Array Value} (h : W.ownsRow base 36 11 v n l) (hg : Whole W g 24 xs) : v.ownBlock ≠ some g := by
  rcases h.2 with ⟨rfl, _⟩ | ⟨g', cap, cur, rfl, _, hc, _⟩
  · simp [Value.ownBlock]
  · simp only [Value.ownBlock, ne_eq, Option.some.injEq]
    intro e
    subst e
    unfold Whole at hg
    rw [hg] at hc
    injection hc with hc
    injection hc with _ h _
    exact absurd h (by decide)
theorem own_other {W : World} {base g n : Nat} {v : Value} {l : List Value} {xs : Array Value} (h : W.ownsRow base 36 11 v n l) (hg : Whole W g 24 xs) (i : Nat) (u : Value) : (W.setCell ⟨g, i, none⟩ u).ownsRow base 36 11 v n l :=
  ownsRow_setCell_other (a := ⟨g, i, none⟩) h (own_apartC h hg) u
/-- What is told is stored in the result's box. -/
theorem fin5 {W0 Y : World} {base R n c : Nat} {A : Option Addr} {x : Cw} {o0 o1 o2 o3 o4 : Value} (hR : Whole Y R 24 #[o0, o1, o2, o3, o4]) (ho : Y.ownsRow base 36 11 (.slice A n c) n (flat x.l)) (hb : Below base W0 Y) (hl : base ≤ R) :
    ∃ Z, (((((Y.setCell ⟨R, 0, none⟩ (.slice A n c)).setCell ⟨R, 1, none⟩ (.int .i64 x.fl)).setCell ⟨R, 2, none⟩ (.int .i64 x.dr)).setCell ⟨R, 3, none⟩ (.int .i64 x.nw)).setCell ⟨R, 4, none⟩ (.bool x.tg)) = Z ∧ Whole Z R 24 #[.slice A n c, .int .i64 x.fl, .int .i64 x.dr, .int .i64 x.nw, .bool x.tg] ∧ Z.ownsRow base 36 11 (.slice A n c) n (flat x.l) ∧ Below base W0 Z := by
  have h0 := hR.set 0 (.slice A n c)
  have h1 := h0.set 1 (.int .i64 x.fl)
  have h2 := h1.set 2 (.int .i64 x.dr)
  have h3 := h2.set 3 (.int .i64 x.nw)
  refine ⟨_, rfl, (put5 hR _ _ _ _ _).2, own_other (own_other (own_other (own_other (own_other ho hR 0 _) h0 1 _) h1 2 _) h2 3 _) h3 4 _, ?_⟩
  exact ((((hb.setCell (p := ⟨R, 0, none⟩) hl _).setCell (p := ⟨R, 1, none⟩) hl _).setCell (p := ⟨R, 2, none⟩) hl _).setCell (p := ⟨R, 3, none⟩) hl _).setCell (p := ⟨R, 4, none⟩) hl _

section
variable {base n c : Nat} {A : Option Addr} {x : Cw} {ver : Int} {T : Bool} {W : World}

set_option maxRecDepth 100000 in
set_option maxHeartbeats 2000000 in
theorem refStray_full (ho : W.ownsRow base 36 11 (.slice A n c) n (flat x.l)) (hb : base ≤ W.heap.size) (hn : 60 ≤ n) :
    Calls Try.prog 20 #[.agg #[.slice A n c, .int .i64 x.fl, .int .i64 x.dr, .int .i64 x.nw, .bool x.tg], .int .i64 ver, .bool T] W (OnPost base x W) := by
  obtain ⟨V, hV, hC, hR, hBV⟩ := two_boxes (W := W) #[.slice A n c, .int .i64 x.fl, .int .i64 x.dr, .int .i64 x.nw, .bool x.tg]
  have hl : x.l.length = n := (RdX.of_own ho).len
  have HO := Lib.hid (own_under ho hBV)
  have HR := Lib.hid hR
  have HB := Lib.hid (hBV.mono hb)
  have HC := Lib.hid hC
  have HLe := Lib.hid hb
  have d0 := hC.cell 0
  have d1 := hC.cell 1
  have d2 := hC.cell 2
  have d3 := hC.cell 3
  have d4 := hC.cell 4
  simp only [List.getElem?_toArray, List.getElem?_cons_zero, List.getElem?_cons_succ] at d0 d1 d2 d3 d4
  have k0 := hR.cell 0
  have k1 := hR.cell 1
  have k2 := hR.cell 2
  have k3 := hR.cell 3
  have k4 := hR.cell 4
  simp only [List.getElem?_toArray, List.getElem?_cons_zero, List.getElem?_cons_succ] at k0 k1 k2 k3 k4
  have z0 := hR.frozen 0
  have z1 := hR.frozen 1
  have z2 := hR.frozen 2
  have z3 := hR.frozen 3
  have z4 := hR.frozen 4
  have hlt : decide ((n : Int) < 60) = false := decide_eq_false (by omega)
  clear ho hb hC hR hBV hl hn
  go_enter Try.func20, Try.ntmps20
  go_wp2_with fail
  obtain ⟨Z, hZ, q1, q2, q3⟩ := fin5 (A := A) (n := n) (c := c) (x := x) HR.out HO.out HB.out (Nat.le_trans HLe.out (Nat.le_succ _))
  rw [hZ]
  have j0 := q1.cell 0
  have j1 := q1.cell 1
  have j2 := q1.cell 2
  have j3 := q1.cell 3
  have j4 := q1.cell 4
  simp only [List.getElem?_toArray, List.getElem?_cons_zero, List.getElem?_cons_succ] at j0 j1 j2 j3 j4
  refine bodyPost_ret (v := .agg #[.slice A n c, .int .i64 (x).fl, .int .i64 (x).dr, .int .i64 (x).nw, .bool (x).tg]) (by simp [results, Try.results20, go_sem, j0, j1, j2, j3, j4]) rfl ?_
  exact ⟨_, _, _, rfl, q2, q3⟩

set_option maxRecDepth 100000 in
set_option maxHeartbeats 2000000 in
theorem refStray_num (ho : W.ownsRow base 36 11 (.slice A n c) n (flat x.l)) (hb : base ≤ W.heap.size) (hn : n < 60) (h1 : isNum ver = false) :
    Calls Try.prog 20 #[.agg #[.slice A n c, .int .i64 x.fl, .int .i64 x.dr, .int .i64 x.nw, .bool x.tg], .int .i64 ver, .bool T] W (OnPost base x W) := by
  obtain ⟨V, hV, hC, hR, hBV⟩ := two_boxes (W := W) #[.slice A n c, .int .i64 x.fl, .int .i64 x.dr, .int .i64 x.nw, .bool x.tg]
  have hl : x.l.length = n := (RdX.of_own ho).len
  have HO := Lib.hid (own_under ho hBV)
  have HR := Lib.hid hR
  have HB := Lib.hid (hBV.mono hb)
  have HC := Lib.hid hC
  have HLe := Lib.hid hb
  have d0 := hC.cell 0
  have d1 := hC.cell 1
  have d2 := hC.cell 2
  have d3 := hC.cell 3
  have d4 := hC.cell 4
  simp only [List.getElem?_toArray, List.getElem?_cons_zero, List.getElem?_cons_succ] at d0 d1 d2 d3 d4
  have k0 := hR.cell 0
  have k1 := hR.cell 1
  have k2 := hR.cell 2
  have k3 := hR.cell 3
  have k4 := hR.cell 4
  simp only [List.getElem?_toArray, List.getElem?_cons_zero, List.getElem?_cons_succ] at k0 k1 k2 k3 k4
  have z0 := hR.frozen 0
  have z1 := hR.frozen 1
  have z2 := hR.frozen 2
  have z3 := hR.frozen 3
  have z4 := hR.frozen 4
  have hlt : decide ((n : Int) < 60) = true := decide_eq_true (by omega)
  have HN := Lib.hid (fun w => refNumber_any ver w)
  rw [h1] at HN
  clear ho hb hC hR hBV hl hn h1
  go_enter Try.func20, Try.ntmps20
  go_wp2_with fail
  refine (HN.out _).mono ?_; rintro e w2 ⟨rfl, rfl⟩
  go_wp2_with fail
  obtain ⟨Z, hZ, q1, q2, q3⟩ := fin5 (A := A) (n := n) (c := c) (x := x) HR.out HO.out HB.out (Nat.le_trans HLe.out (Nat.le_succ _))
  rw [hZ]
  have j0 := q1.cell 0
  have j1 := q1.cell 1
  have j2 := q1.cell 2
  have j3 := q1.cell 3
  have j4 := q1.cell 4
  simp only [List.getElem?_toArray, List.getElem?_cons_zero, List.getElem?_cons_succ] at j0 j1 j2 j3 j4
  refine bodyPost_ret (v := .agg #[.slice A n c, .int .i64 (x).fl, .int .i64 (x).dr, .int .i64 (x).nw, .bool (x).tg]) (by simp [results, Try.results20, go_sem, j0, j1, j2, j3, j4]) rfl ?_
  exact ⟨_, _, _, rfl, q2, q3⟩

set_option maxRecDepth 100000 in
set_option maxHeartbeats 2000000 in
theorem refStray_made (ho : W.ownsRow base 36 11 (.slice A n c) n (flat x.l)) (hb : base ≤ W.heap.size) (hn : n < 60) (h1 : isNum ver = true) :
    Calls Try.prog 20 #[.agg #[.slice A n c, .int .i64 x.fl, .int .i64 x.dr, .int .i64 x.nw, .bool x.tg], .int .i64 ver, .bool T] W (OnPost base { x with l := x.l ++ [strayB ((x.l.length : Int) + 1) ver T] } W) := by
  obtain ⟨V, hV, hC, hR, hBV⟩ := two_boxes (W := W) #[.slice A n c, .int .i64 x.fl, .int .i64 x.dr, .int .i64 x.nw, .bool x.tg]
  have hl : x.l.length = n := (RdX.of_own ho).len
  have HO := Lib.hid (own_under ho hBV)
  have HR := Lib.hid hR
  have HB := Lib.hid (hBV.mono hb)
  have HC := Lib.hid hC
  have HLe := Lib.hid hb
  have d0 := hC.cell 0
  have d1 := hC.cell 1
  have d2 := hC.cell 2
  have d3 := hC.cell 3
  have d4 := hC.cell 4
  simp only [List.getElem?_toArray, List.getElem?_cons_zero, List.getElem?_cons_succ] at d0 d1 d2 d3 d4
  have k0 := hR.cell 0
  have k1 := hR.cell 1
  have k2 := hR.cell 2
  have k3 := hR.cell 3
  have k4 := hR.cell 4
  simp only [List.getElem?_toArray, List.getElem?_cons_zero, List.getElem?_cons_succ] at k0 k1 k2 k3 k4
  have z0 := hR.frozen 0
  have z1 := hR.frozen 1
  have z2 := hR.frozen 2
  have z3 := hR.frozen 3
  have z4 := hR.frozen 4
  have hlt : decide ((n : Int) < 60) = true := decide_eq_true (by omega)
  have HN := Lib.hid (fun w => refNumber_any ver w)
  rw [h1] at HN
  rw [hl]
  have ew : IntKind.i64.wrap ((n : Int) + 1) = (n : Int) + 1 := IntWalk.i64_in _ ⟨by omega, by omega⟩
  have hLit : RdX (V.alloc (.cells #[.int .i64 ((n : Int) + 1), .int .i64 0, .int .i64 ver, .int .i64 0, .bool T, .bool true, .bool false, .bool true, .int .u8 0, .int .i64 0, .int .i64 0] 36)) (V.heap.size + 1) (some ⟨V.heap.size, 0, none⟩) 1 [strayB ((n : Int) + 1) ver T] := rdX_one V (strayB ((n : Int) + 1) ver T) _ rfl
  have hbl : Below V.heap.size V (V.alloc (.cells #[.int .i64 ((n : Int) + 1), .int .i64 0, .int .i64 ver, .int .i64 0, .bool T, .bool true, .bool false, .bool true, .int .u8 0, .int .i64 0, .int .i64 0] 36)) := (Below.refl _ _).alloc (Nat.le_refl _) _
  obtain ⟨v1, W1, r1, o1, g1⟩ := run_appX (V.alloc (.cells #[.int .i64 ((n : Int) + 1), .int .i64 0, .int .i64 ver, .int .i64 0, .bool T, .bool true, .bool false, .bool true, .int .u8 0, .int .i64 0, .int .i64 0] 36)) base (.slice A n c) n (flat x.l) (own_under HO.out hbl) (V.heap.size + 1) (some ⟨V.heap.size, 0, none⟩) 1 1 [strayB ((n : Int) + 1) ver T] hLit (by omega) (by omega) (Nat.le_trans hb (Nat.le_trans hBV.size hbl.size))
  rw [← flat_append] at o1
  obtain ⟨A5, c5, rfl⟩ := own_formX o1
  have hC1 := (hC.under hbl).grown g1 (fun e => own_apartC (own_under HO.out hbl) (hC.under hbl) e.symm)
  have hR1 := (hR.under hbl).grown g1 (fun e => own_apartC (own_under HO.out hbl) (hR.under hbl) e.symm)
  have hB1 : Below base W W1 := (HB.out.trans (hbl.mono (Nat.le_trans hb hBV.size))).trans ((Below.refl base _).grown g1 (Nat.le_trans hb (Nat.le_trans hBV.size hbl.size)) (fun k e => ((own_under HO.out hbl).lt k e).1))
  have hc0 := hC1.cell 0
  have hf0 := hC1.frozen 0
  simp only [List.getElem?_toArray, List.getElem?_cons_zero] at hc0
  have HC2 := Lib.hid (hC1.set 0 (.slice A5 (n + 1) c5))
  have HR2 := Lib.hid (hR1.far (p := ⟨W.heap.size, 0, none⟩) (by simp) (.slice A5 (n + 1) c5))
  have HO2 := Lib.hid (own_other o1 hC1 0 (.slice A5 (n + 1) c5))
  have HB2 := Lib.hid (hB1.setCell (p := ⟨W.heap.size, 0, none⟩) hb (.slice A5 (n + 1) c5))
  have R1 := Lib.hid r1
  clear ho hb hC hR hBV hl hn h1 r1 o1 g1 hLit hbl hC1 hR1 hB1 HO HR HB HC k0 k1 k2 k3 k4 z0 z1 z2 z3 z4
  go_enter Try.func20, Try.ntmps20
  go_wp2_with fail
  refine (HN.out _).mono ?_; rintro e w2 ⟨rfl, rfl⟩
  go_upto_region 2 with fail
  clear hV
  go_upto_region 3 with (refine wpList_app (by rfl) _ _ 22 rfl _ _ _ W1 (by rfl) (by rfl) R1.out ?_)
  obtain ⟨Y, hY⟩ : ∃ Y, W1.setCell ⟨W.heap.size, 0, none⟩ (.slice A5 (n + 1) c5) = Y := ⟨_, rfl⟩
  rw [hY] at HC2 HR2 HO2 HB2 ⊢
  clear hY hc0 hf0 d0 d1 d2 d3 d4 R1
  have hC2 := HC2.out
  simp only [List.setIfInBounds_toArray, List.set_cons_zero] at hC2
  have d0 := hC2.cell 0
  have d1 := hC2.cell 1
  have d2 := hC2.cell 2
  have d3 := hC2.cell 3
  have d4 := hC2.cell 4
  simp only [List.getElem?_toArray, List.getElem?_cons_zero, List.getElem?_cons_succ] at d0 d1 d2 d3 d4
  have k0 := HR2.out.cell 0
  have k1 := HR2.out.cell 1
  have k2 := HR2.out.cell 2
  have k3 := HR2.out.cell 3
  have k4 := HR2.out.cell 4
  simp only [List.getElem?_toArray, List.getElem?_cons_zero, List.getElem?_cons_succ] at k0 k1 k2 k3 k4
  have z0 := HR2.out.frozen 0
  have z1 := HR2.out.frozen 1
  have z2 := HR2.out.frozen 2
  have z3 := HR2.out.frozen 3
  have z4 := HR2.out.frozen 4
  clear hC2
  go_wp2_with fail
  obtain ⟨Z, hZ, q1, q2, q3⟩ := fin5 (A := A5) (n := (n + 1)) (c := c5) (x := { x with l := x.l ++ [strayB ((n : Int) + 1) ver T] }) HR2.out HO2.out HB2.out (Nat.le_trans HLe.out (Nat.le_succ _))
  rw [hZ]
  have j0 := q1.cell 0
  have j1 := q1.cell 1
  have j2 := q1.cell 2
  have j3 := q1.cell 3
  have j4 := q1.cell 4
  simp only [List.getElem?_toArray, List.getElem?_cons_zero, List.getElem?_cons_succ] at j0 j1 j2 j3 j4
  refine bodyPost_ret (v := .agg #[.slice A5 (n + 1) c5, .int .i64 ({ x with l := x.l ++ [strayB ((n : Int) + 1) ver T] }).fl, .int .i64 ({ x with l := x.l ++ [strayB ((n : Int) + 1) ver T] }).dr, .int .i64 ({ x with l := x.l ++ [strayB ((n : Int) + 1) ver T] }).nw, .bool ({ x with l := x.l ++ [strayB ((n : Int) + 1) ver T] }).tg]) (by simp [results, Try.results20, go_sem, j0, j1, j2, j3, j4]) rfl ?_
  exact ⟨_, _, _, rfl, q2, q3⟩

theorem refStray_any (ho : W.ownsRow base 36 11 (.slice A n c) n (flat x.l)) (hb : base ≤ W.heap.size) :
    Calls Try.prog 20 #[.agg #[.slice A n c, .int .i64 x.fl, .int .i64 x.dr, .int .i64 x.nw, .bool x.tg], .int .i64 ver, .bool T] W (OnPost base (strayC x ver T) W) := by
  have hl : x.l.length = n := (RdX.of_own ho).len
  by_cases h0 : n < 60
  · cases h1 : isNum ver with
    | true => rw [strayC_yes (by omega) h1]; exact refStray_made ho hb h0 h1
    | false => rw [strayC_no (by rw [h1]; simp)]; exact refStray_num ho hb h0 h1
  · rw [strayC_no (by omega)]; exact refStray_full ho hb (by omega)
end

end Go.Proofs.Ytoiegffnmjlkdaa
