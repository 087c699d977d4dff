/-
  The walk of the document's own tick (layer 10). Conditions: those that each theorem names.
-/
import Derived.Test.YtoiegffnmjlkdaaEvRefOne
import Derived.Test.YtoiegffnmjlkdaaPgGoneKit
namespace Go.Proofs.Ytoiegffnmjlkdaa
open Go.RowKit Go.Shelf

section
variable {base n c : Nat} {A : Option Addr} {x : Cw} {W : World}
theorem own_at {W : World} {base g n c : Nat} {l : List Bx} (h : W.ownsRow base 36 11 (.slice (some ⟨g, 0, none⟩) n c) n (flat l)) {j : Nat} {y : Bx} (hx : l[j]? = some y) : BxAt W g (j * 11) y := by
  have hj : j < l.length := (List.getElem?_eq_some_iff.1 hx).1
  have hl := (RdX.of_own h).len
  exact bxAt_of fun i hi => by rw [h.cellAt (j * 11 + i) (by omega)]; exact flat_at hx hi
/-- What holds between two rounds. -/
structure TkR (W0 : World) (base n c : Nat) (A : Option Addr) (x : Cw) (k : Nat) (W : World) : Prop where
  C : Whole W W0.heap.size 24 #[.slice A n c, .int .i64 x.fl, .int .i64 x.dr, .int .i64 x.nw, .bool x.tg]
  R : Whole W (W0.heap.size + 1) 24 #[.slice none 0 0, .int .i64 0, .int .i64 0, .int .i64 0, .bool false]
  row : W.ownsRow base 36 11 (.slice A n c) n (flat (tickTo x.nw x.l k))
  bel : Below base W0 W
theorem TkR.drew {W0 W : World} {k : Nat} (h : TkR W0 base n c A x k W) : TkR W0 base n c A x k W.drew := ⟨h.C, h.R, own_under h.row (Below.refl _ _).drew, h.bel.drew⟩
theorem TkR.same {W0 W : World} {k : Nat} (h : TkR W0 base n c A x k W) {y : Bx} (hy : x.l[k]? = some y) (hn : ripe x.nw y = false) : TkR W0 base n c A x (k + 1) W := by
  refine ⟨h.C, h.R, ?_, h.bel⟩
  have e : tickB x.nw y = y := by unfold tickB; rw [hn]; rfl
  rw [tickTo_succ hy, e, set_same (tickTo_at hy)]
  exact h.row
theorem TkR.out {W0 W : World} {k g : Nat} (h : TkR W0 base n c (some ⟨g, 0, none⟩) x k W) {y : Bx} (hy : x.l[k]? = some y) (hn : ripe x.nw y = true) (hg : base ≤ g) : TkR W0 base n c (some ⟨g, 0, none⟩) x (k + 1) (W.setCell ⟨g, k * 11 + 8, none⟩ (.int .u8 0)) := by
  have hs := h.row.stored (k * 11 + 8) (.int .u8 0)
  rw [flat_set (tickTo_at hy) (i := 8) (by omega) (u := .int .u8 0) (y := { y with lb := 0 }) rfl] at hs
  have n1 : W0.heap.size ≠ g := fun e => own_apartC h.row h.C (by rw [e]; rfl)
  have n2 : W0.heap.size + 1 ≠ g := fun e => own_apartC h.row h.R (by rw [e]; rfl)
  refine ⟨h.C.far (p := ⟨g, k * 11 + 8, none⟩) n1 _, h.R.far (p := ⟨g, k * 11 + 8, none⟩) n2 _, ?_, h.bel.setCell (p := ⟨g, k * 11 + 8, none⟩) hg _⟩
  have e : tickB x.nw y = { y with lb := 0 } := by unfold tickB; rw [hn]; rfl
  rw [tickTo_succ hy, e]
  exact hs.1

set_option maxRecDepth 100000 in
set_option maxHeartbeats 2000000 in
theorem refTick_end (ho : W.ownsRow base 36 11 (.slice A n c) n (flat x.l)) (hb : base ≤ W.heap.size) (h0 : 1099511627776 ≤ x.nw) :
    Calls Try.prog 21 #[.agg #[.slice A n c, .int .i64 x.fl, .int .i64 x.dr, .int .i64 x.nw, .bool x.tg]] W (OnPost base x W) := by
  obtain ⟨V, hV, hC, hR, hBV⟩ := two_boxes (W := W) #[.slice A n c, .int .i64 x.fl, .int .i64 x.dr, .int .i64 x.nw, .bool x.tg]
  have hl : x.l.length = n := (RdX.of_own ho).len
  have HO := Lib.hid (own_under ho hBV)
  have HR := Lib.hid hR
  have HB := Lib.hid (hBV.mono hb)
  have HC := Lib.hid hC
  have HLe := Lib.hid hb
  have d0 := hC.cell 0
  have d1 := hC.cell 1
  have d2 := hC.cell 2
  have d3 := hC.cell 3
  have d4 := hC.cell 4
  simp only [List.getElem?_toArray, List.getElem?_cons_zero, List.getElem?_cons_succ] at d0 d1 d2 d3 d4
  have k0 := hR.cell 0
  have k1 := hR.cell 1
  have k2 := hR.cell 2
  have k3 := hR.cell 3
  have k4 := hR.cell 4
  simp only [List.getElem?_toArray, List.getElem?_cons_zero, List.getElem?_cons_succ] at k0 k1 k2 k3 k4
  have z0 := hR.frozen 0
  have z1 := hR.frozen 1
  have z2 := hR.frozen 2
  have z3 := hR.frozen 3
  have z4 := hR.frozen 4
  have hd : decide ((1099511627776 : Int) ≤ x.nw) = true := decide_eq_true h0
  clear ho hb hC hR hBV hl h0
  go_enter Try.func21, Try.ntmps21
  go_wp2_with fail
  obtain ⟨Z, hZ, q1, q2, q3⟩ := fin5 (A := A) (n := n) (c := c) (x := x) HR.out HO.out HB.out (Nat.le_trans HLe.out (Nat.le_succ _))
  rw [hZ]
  have j0 := q1.cell 0
  have j1 := q1.cell 1
  have j2 := q1.cell 2
  have j3 := q1.cell 3
  have j4 := q1.cell 4
  simp only [List.getElem?_toArray, List.getElem?_cons_zero, List.getElem?_cons_succ] at j0 j1 j2 j3 j4
  refine bodyPost_ret (v := .agg #[.slice A n c, .int .i64 (x).fl, .int .i64 (x).dr, .int .i64 (x).nw, .bool (x).tg]) (by simp [results, Try.results21, go_sem, j0, j1, j2, j3, j4]) rfl ?_
  exact ⟨_, _, _, rfl, q2, q3⟩

set_option maxRecDepth 100000 in
set_option maxHeartbeats 2000000 in
theorem refTick_on (ho : W.ownsRow base 36 11 (.slice A n c) n (flat x.l)) (hb : base ≤ W.heap.size) (hn : n ≤ 1000) (h0 : 0 ≤ x.nw) (h1 : x.nw < 1099511627776) :
    Calls Try.prog 21 #[.agg #[.slice A n c, .int .i64 x.fl, .int .i64 x.dr, .int .i64 x.nw, .bool x.tg]] W (OnPost base { x with nw := x.nw + 1, l := x.l.map (tickB (x.nw + 1)) } W) := by
  obtain ⟨V, hV, hC, hR, hBV⟩ := two_boxes (W := W) #[.slice A n c, .int .i64 x.fl, .int .i64 x.dr, .int .i64 x.nw, .bool x.tg]
  have hl : x.l.length = n := (RdX.of_own ho).len
  have HO := Lib.hid (own_under ho hBV)
  have HR := Lib.hid hR
  have HB := Lib.hid (hBV.mono hb)
  have HC := Lib.hid hC
  have HLe := Lib.hid hb
  have d0 := hC.cell 0
  have d1 := hC.cell 1
  have d2 := hC.cell 2
  have d3 := hC.cell 3
  have d4 := hC.cell 4
  simp only [List.getElem?_toArray, List.getElem?_cons_zero, List.getElem?_cons_succ] at d0 d1 d2 d3 d4
  have k0 := hR.cell 0
  have k1 := hR.cell 1
  have k2 := hR.cell 2
  have k3 := hR.cell 3
  have k4 := hR.cell 4
  simp only [List.getElem?_toArray, List.getElem?_cons_zero, List.getElem?_cons_succ] at k0 k1 k2 k3 k4
  have z0 := hR.frozen 0
  have z1 := hR.frozen 1
  have z2 := hR.frozen 2
  have z3 := hR.frozen 3
  have z4 := hR.frozen 4
  have hd : decide ((1099511627776 : Int) ≤ x.nw) = false := decide_eq_false (by omega)
  have ew : IntKind.i64.wrap (x.nw + 1) = x.nw + 1 := IntWalk.i64_in _ ⟨by omega, by omega⟩
  have f3 := hC.frozen 3
  obtain ⟨x1, ex1⟩ : ∃ x1 : Cw, ({ x with nw := x.nw + 1 } : Cw) = x1 := ⟨_, rfl⟩
  have hT : TkR W base n c A x1 0 (V.setCell ⟨W.heap.size, 3, none⟩ (.int .i64 (x.nw + 1))) := by
    rw [← ex1]
    refine ⟨hC.set 3 _, hR.far (p := ⟨W.heap.size, 3, none⟩) (by simp) _, ?_, HB.out.setCell (p := ⟨W.heap.size, 3, none⟩) hb _⟩
    show (V.setCell ⟨W.heap.size, 3, none⟩ (.int .i64 (x.nw + 1))).ownsRow base 36 11 (.slice A n c) n (flat (tickTo (x.nw + 1) x.l 0))
    rw [tickTo_zero]
    exact own_other HO.out hC 3 _
  have el1 : x1.l.length = n := by rw [← ex1]; exact hl
  have hfin : ({ x with nw := x.nw + 1, l := x.l.map (tickB (x.nw + 1)) } : Cw) = { x1 with l := x1.l.map (tickB x1.nw) } := by rw [← ex1]
  rw [hfin]
  have HT := Lib.hid hT
  have HL := Lib.hid el1
  clear ho hb hC hR hBV hl h0 h1 HO HR HB HC hT el1 hfin ex1 k0 k1 k2 k3 k4 z0 z1 z2 z3 z4
  go_enter Try.func21, Try.ntmps21
  go_wp2_with fail
  clear hV d0 d1 d2 d3 d4 f3 ew hd
  go_loopw [3] (fun i wr => ∃ k : Nat, i = .int .i64 (k : Int) ∧ k ≤ n ∧ TkR W base n c A x1 k wr) (fun i _ => n - (intOf i).toNat)
  case atStart => exact ⟨0, rfl, Nat.zero_le _, HT.out⟩
  case round =>
    clear HT
    obtain ⟨k, rfl, hk, hT⟩ := hrel
    have HT := Lib.hid hT
    have d0 := hT.C.cell 0
    have d3 := hT.C.cell 3
    simp only [List.getElem?_toArray, List.getElem?_cons_zero, List.getElem?_cons_succ] at d0 d3
    rcases Nat.lt_or_eq_of_le hk with hlt | hkn
    · have hki : (k : Int) < (n : Int) := by omega
      have hk1 : (k : Int) ≤ 1000 := by omega
      obtain ⟨y, hy⟩ : ∃ y, x1.l[k]? = some y := ⟨_, List.getElem?_eq_getElem (by rw [HL.out]; exact hlt)⟩
      obtain ⟨g, rfl, hg, _⟩ := own_block hT.row (by omega)
      obtain ⟨b0, b1, b2, b3, b4, b5, b6, b7, b8, b9, b10⟩ := own_at hT.row (tickTo_at hy)
      have f8 := hT.row.frozenAt (k * 11 + 8)
      have HG := Lib.hid hg
      have HLt := Lib.hid hlt
      have HY := Lib.hid hy
      clear hT hk hlt hg hy b0 b1 b2 b3 b4 b5 b6 b7 b10
      go_upto_region 7 with fail
      cases h2 : (y.lb == 2) with
      | false =>
        have HS := Lib.hid (HT.out.same HY.out (by unfold ripe; rw [h2]; rfl))
        have HC := Lib.hid (show (wr.drew.cell? ⟨W.heap.size, 0, none⟩ = some (.slice (some ⟨g, 0, none⟩) n c) ∧ wr.drew.cell? ⟨W.heap.size, 3, none⟩ = some (.int .i64 x1.nw) ∧ wr.drew.cell? ⟨g, k * 11 + 8, none⟩ = some (.int .u8 y.lb) ∧ wr.drew.cell? ⟨g, k * 11 + 9, none⟩ = some (.int .i64 y.unt)) from ⟨d0, d3, b8, b9⟩)
        refine wp_region_held_drew (S := fun V => V.cell? ⟨W.heap.size, 0, none⟩ = some (.slice (some ⟨g, 0, none⟩) n c) ∧ V.cell? ⟨W.heap.size, 3, none⟩ = some (.int .i64 x1.nw) ∧ V.cell? ⟨g, k * 11 + 8, none⟩ = some (.int .u8 y.lb) ∧ V.cell? ⟨g, k * 11 + 9, none⟩ = some (.int .i64 y.unt)) (by kernel_rfl) HC.out (fun _ => ?_)
        refine takeH (i := 0) (v := ?_) rfl (by kernel_rfl) (by kernel_rfl) (by kernel_rfl) (fun _ _ _ h => h) (by rfl) ?_ HC.out ?_
        rotate_left
        · rintro V ⟨d0, d3, b8, b9⟩; go_simp <;> with_reducible rfl
        simp only [Act.put, List.setIfInBounds_toArray, List.set_cons_zero, List.set_cons_succ]
        refine takeH (i := 1) (v := ?_) rfl (by kernel_rfl) (by kernel_rfl) (by kernel_rfl) (fun _ _ _ h => h) (by rfl) ?_ HC.out ?_
        rotate_left
        · rintro V ⟨d0, d3, b8, b9⟩; go_simp <;> with_reducible rfl
        simp only [Act.put, List.setIfInBounds_toArray, List.set_cons_zero, List.set_cons_succ]
        refine takeH (i := 2) (v := ?_) rfl (by kernel_rfl) (by kernel_rfl) (by kernel_rfl) (fun _ _ _ h => h) (by rfl) ?_ HC.out ?_
        rotate_left
        · rintro V ⟨d0, d3, b8, b9⟩; go_simp <;> with_reducible rfl
        simp only [Act.put, List.setIfInBounds_toArray, List.set_cons_zero, List.set_cons_succ]
        refine takeH (i := 3) (v := ?_) rfl (by kernel_rfl) (by kernel_rfl) (by kernel_rfl) (fun _ _ _ h => h) (by rfl) ?_ HC.out ?_
        rotate_left
        · rintro V ⟨d0, d3, b8, b9⟩; go_simp <;> with_reducible rfl
        simp only [Act.put, List.setIfInBounds_toArray, List.set_cons_zero, List.set_cons_succ]
        refine takeH (i := 4) (v := ?_) rfl (by kernel_rfl) (by kernel_rfl) (by kernel_rfl) (fun _ _ _ h => h) (by rfl) ?_ HC.out ?_
        rotate_left
        · rintro V ⟨d0, d3, b8, b9⟩; go_simp <;> with_reducible rfl
        simp only [Act.put, List.setIfInBounds_toArray, List.set_cons_zero, List.set_cons_succ]
        refine takeH (i := 5) (v := ?_) rfl (by kernel_rfl) (by kernel_rfl) (by kernel_rfl) (fun _ _ _ h => h) (by rfl) ?_ HC.out ?_
        rotate_left
        · rintro V ⟨d0, d3, b8, b9⟩; go_simp <;> with_reducible rfl
        simp only [Act.put, List.setIfInBounds_toArray, List.set_cons_zero, List.set_cons_succ]
        refine takeH (i := 6) (v := ?_) rfl (by kernel_rfl) (by kernel_rfl) (by kernel_rfl) (fun _ _ _ h => h) (by rfl) ?_ HC.out ?_
        rotate_left
        · rintro V ⟨d0, d3, b8, b9⟩; go_simp <;> with_reducible rfl
        simp only [Act.put, List.setIfInBounds_toArray, List.set_cons_zero, List.set_cons_succ]
        refine takeH (i := 7) (v := ?_) rfl (by kernel_rfl) (by kernel_rfl) (by kernel_rfl) (fun _ _ _ h => h) (by rfl) ?_ HC.out ?_
        rotate_left
        · rintro V ⟨d0, d3, b8, b9⟩; go_simp <;> with_reducible rfl
        simp only [Act.put, List.setIfInBounds_toArray, List.set_cons_zero, List.set_cons_succ]
        refine skipH (i := 8) rfl (by kernel_rfl) (by kernel_rfl) (by kernel_rfl) (fun _ _ _ h => h) (by rfl) HC.out ?_
        simp only [Act.put, List.setIfInBounds_toArray, List.set_cons_zero, List.set_cons_succ]
        refine skipH (i := 9) rfl (by kernel_rfl) (by kernel_rfl) (by kernel_rfl) (fun _ _ _ h => h) (by rfl) HC.out ?_
        simp only [Act.put, List.setIfInBounds_toArray, List.set_cons_zero, List.set_cons_succ]
        refine skipH (i := 10) rfl (by kernel_rfl) (by kernel_rfl) (by kernel_rfl) (fun _ _ _ h => h) (by rfl) HC.out ?_
        simp only [Act.put, List.setIfInBounds_toArray, List.set_cons_zero, List.set_cons_succ]
        refine skipH (i := 11) rfl (by kernel_rfl) (by kernel_rfl) (by kernel_rfl) (fun _ _ _ h => h) (by rfl) HC.out ?_
        simp only [Act.put, List.setIfInBounds_toArray, List.set_cons_zero, List.set_cons_succ]
        refine skipH (i := 12) rfl (by kernel_rfl) (by kernel_rfl) (by kernel_rfl) (fun _ _ _ h => h) (by rfl) HC.out ?_
        simp only [Act.put, List.setIfInBounds_toArray, List.set_cons_zero, List.set_cons_succ]
        refine skipH (i := 13) rfl (by kernel_rfl) (by kernel_rfl) (by kernel_rfl) (fun _ _ _ h => h) (by rfl) HC.out ?_
        simp only [Act.put, List.setIfInBounds_toArray, List.set_cons_zero, List.set_cons_succ]
        refine skipH (i := 14) rfl (by kernel_rfl) (by kernel_rfl) (by kernel_rfl) (fun _ _ _ h => h) (by rfl) HC.out ?_
        simp only [Act.put, List.setIfInBounds_toArray, List.set_cons_zero, List.set_cons_succ]
        refine skipH (i := 15) rfl (by kernel_rfl) (by kernel_rfl) (by kernel_rfl) (fun _ _ _ h => h) (by rfl) HC.out ?_
        simp only [Act.put, List.setIfInBounds_toArray, List.set_cons_zero, List.set_cons_succ]
        refine skipH (i := 16) rfl (by kernel_rfl) (by kernel_rfl) (by kernel_rfl) (fun _ _ _ h => h) (by rfl) HC.out ?_
        simp only [Act.put, List.setIfInBounds_toArray, List.set_cons_zero, List.set_cons_succ]
        refine takeH (i := 17) (v := ?_) rfl (by kernel_rfl) (by kernel_rfl) (by kernel_rfl) (fun _ _ _ h => h) (by rfl) ?_ HC.out ?_
        rotate_left
        · rintro V ⟨d0, d3, b8, b9⟩; go_simp <;> with_reducible rfl
        simp only [Act.put, List.setIfInBounds_toArray, List.set_cons_zero, List.set_cons_succ]
        refine wpAnyH_done (by kernel_rfl) ?_ _
        go_wp2_with fail
        go_roundw
        case rel => exact ⟨k + 1, by go_num, HLt.out, HS.out.drew⟩
        case measure => have := HLt.out; simp [intOf]; omega
      | true =>
        cases h3 : decide (y.unt ≤ x1.nw) with
        | false =>
          have HS := Lib.hid (HT.out.same HY.out (by unfold ripe; rw [h2, h3]; rfl))
          have HC := Lib.hid (show (wr.drew.cell? ⟨W.heap.size, 0, none⟩ = some (.slice (some ⟨g, 0, none⟩) n c) ∧ wr.drew.cell? ⟨W.heap.size, 3, none⟩ = some (.int .i64 x1.nw) ∧ wr.drew.cell? ⟨g, k * 11 + 8, none⟩ = some (.int .u8 y.lb) ∧ wr.drew.cell? ⟨g, k * 11 + 9, none⟩ = some (.int .i64 y.unt)) from ⟨d0, d3, b8, b9⟩)
          refine wp_region_held_drew (S := fun V => V.cell? ⟨W.heap.size, 0, none⟩ = some (.slice (some ⟨g, 0, none⟩) n c) ∧ V.cell? ⟨W.heap.size, 3, none⟩ = some (.int .i64 x1.nw) ∧ V.cell? ⟨g, k * 11 + 8, none⟩ = some (.int .u8 y.lb) ∧ V.cell? ⟨g, k * 11 + 9, none⟩ = some (.int .i64 y.unt)) (by kernel_rfl) HC.out (fun _ => ?_)
          refine takeH (i := 0) (v := ?_) rfl (by kernel_rfl) (by kernel_rfl) (by kernel_rfl) (fun _ _ _ h => h) (by rfl) ?_ HC.out ?_
          rotate_left
          · rintro V ⟨d0, d3, b8, b9⟩; go_simp <;> with_reducible rfl
          simp only [Act.put, List.setIfInBounds_toArray, List.set_cons_zero, List.set_cons_succ]
          refine takeH (i := 1) (v := ?_) rfl (by kernel_rfl) (by kernel_rfl) (by kernel_rfl) (fun _ _ _ h => h) (by rfl) ?_ HC.out ?_
          rotate_left
          · rintro V ⟨d0, d3, b8, b9⟩; go_simp <;> with_reducible rfl
          simp only [Act.put, List.setIfInBounds_toArray, List.set_cons_zero, List.set_cons_succ]
          refine takeH (i := 2) (v := ?_) rfl (by kernel_rfl) (by kernel_rfl) (by kernel_rfl) (fun _ _ _ h => h) (by rfl) ?_ HC.out ?_
          rotate_left
          · rintro V ⟨d0, d3, b8, b9⟩; go_simp <;> with_reducible rfl
          simp only [Act.put, List.setIfInBounds_toArray, List.set_cons_zero, List.set_cons_succ]
          refine takeH (i := 3) (v := ?_) rfl (by kernel_rfl) (by kernel_rfl) (by kernel_rfl) (fun _ _ _ h => h) (by rfl) ?_ HC.out ?_
          rotate_left
          · rintro V ⟨d0, d3, b8, b9⟩; go_simp <;> with_reducible rfl
          simp only [Act.put, List.setIfInBounds_toArray, List.set_cons_zero, List.set_cons_succ]
          refine takeH (i := 4) (v := ?_) rfl (by kernel_rfl) (by kernel_rfl) (by kernel_rfl) (fun _ _ _ h => h) (by rfl) ?_ HC.out ?_
          rotate_left
          · rintro V ⟨d0, d3, b8, b9⟩; go_simp <;> with_reducible rfl
          simp only [Act.put, List.setIfInBounds_toArray, List.set_cons_zero, List.set_cons_succ]
          refine takeH (i := 5) (v := ?_) rfl (by kernel_rfl) (by kernel_rfl) (by kernel_rfl) (fun _ _ _ h => h) (by rfl) ?_ HC.out ?_
          rotate_left
          · rintro V ⟨d0, d3, b8, b9⟩; go_simp <;> with_reducible rfl
          simp only [Act.put, List.setIfInBounds_toArray, List.set_cons_zero, List.set_cons_succ]
          refine takeH (i := 6) (v := ?_) rfl (by kernel_rfl) (by kernel_rfl) (by kernel_rfl) (fun _ _ _ h => h) (by rfl) ?_ HC.out ?_
          rotate_left
          · rintro V ⟨d0, d3, b8, b9⟩; go_simp <;> with_reducible rfl
          simp only [Act.put, List.setIfInBounds_toArray, List.set_cons_zero, List.set_cons_succ]
          refine takeH (i := 7) (v := ?_) rfl (by kernel_rfl) (by kernel_rfl) (by kernel_rfl) (fun _ _ _ h => h) (by rfl) ?_ HC.out ?_
          rotate_left
          · rintro V ⟨d0, d3, b8, b9⟩; go_simp <;> with_reducible rfl
          simp only [Act.put, List.setIfInBounds_toArray, List.set_cons_zero, List.set_cons_succ]
          refine takeH (i := 8) (v := ?_) rfl (by kernel_rfl) (by kernel_rfl) (by kernel_rfl) (fun _ _ _ h => h) (by rfl) ?_ HC.out ?_
          rotate_left
          · rintro V ⟨d0, d3, b8, b9⟩; go_simp <;> with_reducible rfl
          simp only [Act.put, List.setIfInBounds_toArray, List.set_cons_zero, List.set_cons_succ]
          refine takeH (i := 9) (v := ?_) rfl (by kernel_rfl) (by kernel_rfl) (by kernel_rfl) (fun _ _ _ h => h) (by rfl) ?_ HC.out ?_
          rotate_left
          · rintro V ⟨d0, d3, b8, b9⟩; go_simp <;> with_reducible rfl
          simp only [Act.put, List.setIfInBounds_toArray, List.set_cons_zero, List.set_cons_succ]
          refine takeH (i := 10) (v := ?_) rfl (by kernel_rfl) (by kernel_rfl) (by kernel_rfl) (fun _ _ _ h => h) (by rfl) ?_ HC.out ?_
          rotate_left
          · rintro V ⟨d0, d3, b8, b9⟩; go_simp <;> with_reducible rfl
          simp only [Act.put, List.setIfInBounds_toArray, List.set_cons_zero, List.set_cons_succ]
          refine takeH (i := 11) (v := ?_) rfl (by kernel_rfl) (by kernel_rfl) (by kernel_rfl) (fun _ _ _ h => h) (by rfl) ?_ HC.out ?_
          rotate_left
          · rintro V ⟨d0, d3, b8, b9⟩; go_simp <;> with_reducible rfl
          simp only [Act.put, List.setIfInBounds_toArray, List.set_cons_zero, List.set_cons_succ]
          refine takeH (i := 12) (v := ?_) rfl (by kernel_rfl) (by kernel_rfl) (by kernel_rfl) (fun _ _ _ h => h) (by rfl) ?_ HC.out ?_
          rotate_left
          · rintro V ⟨d0, d3, b8, b9⟩; go_simp <;> with_reducible rfl
          simp only [Act.put, List.setIfInBounds_toArray, List.set_cons_zero, List.set_cons_succ]
          refine takeH (i := 13) (v := ?_) rfl (by kernel_rfl) (by kernel_rfl) (by kernel_rfl) (fun _ _ _ h => h) (by rfl) ?_ HC.out ?_
          rotate_left
          · rintro V ⟨d0, d3, b8, b9⟩; go_simp <;> with_reducible rfl
          simp only [Act.put, List.setIfInBounds_toArray, List.set_cons_zero, List.set_cons_succ]
          refine takeH (i := 14) (v := ?_) rfl (by kernel_rfl) (by kernel_rfl) (by kernel_rfl) (fun _ _ _ h => h) (by rfl) ?_ HC.out ?_
          rotate_left
          · rintro V ⟨d0, d3, b8, b9⟩; go_simp <;> with_reducible rfl
          simp only [Act.put, List.setIfInBounds_toArray, List.set_cons_zero, List.set_cons_succ]
          refine takeH (i := 15) (v := ?_) rfl (by kernel_rfl) (by kernel_rfl) (by kernel_rfl) (fun _ _ _ h => h) (by rfl) ?_ HC.out ?_
          rotate_left
          · rintro V ⟨d0, d3, b8, b9⟩; go_simp <;> with_reducible rfl
          simp only [Act.put, List.setIfInBounds_toArray, List.set_cons_zero, List.set_cons_succ]
          refine takeH (i := 16) (v := ?_) rfl (by kernel_rfl) (by kernel_rfl) (by kernel_rfl) (fun _ _ _ h => h) (by rfl) ?_ HC.out ?_
          rotate_left
          · rintro V ⟨d0, d3, b8, b9⟩; go_simp <;> with_reducible rfl
          simp only [Act.put, List.setIfInBounds_toArray, List.set_cons_zero, List.set_cons_succ]
          refine takeH (i := 17) (v := ?_) rfl (by kernel_rfl) (by kernel_rfl) (by kernel_rfl) (fun _ _ _ h => h) (by rfl) ?_ HC.out ?_
          rotate_left
          · rintro V ⟨d0, d3, b8, b9⟩; go_simp <;> with_reducible rfl
          simp only [Act.put, List.setIfInBounds_toArray, List.set_cons_zero, List.set_cons_succ]
          refine wpAnyH_done (by kernel_rfl) ?_ _
          go_wp2_with fail
          go_roundw
          case rel => exact ⟨k + 1, by go_num, HLt.out, HS.out.drew⟩
          case measure => have := HLt.out; simp [intOf]; omega
        | true =>
          have HS := Lib.hid (HT.out.drew.out HY.out (by unfold ripe; rw [h2, h3]; rfl) HG.out)
          have HC := Lib.hid (show (wr.drew.cell? ⟨W.heap.size, 0, none⟩ = some (.slice (some ⟨g, 0, none⟩) n c) ∧ wr.drew.cell? ⟨W.heap.size, 3, none⟩ = some (.int .i64 x1.nw) ∧ wr.drew.cell? ⟨g, k * 11 + 8, none⟩ = some (.int .u8 y.lb) ∧ wr.drew.cell? ⟨g, k * 11 + 9, none⟩ = some (.int .i64 y.unt)) from ⟨d0, d3, b8, b9⟩)
          refine wp_region_held_drew (S := fun V => V.cell? ⟨W.heap.size, 0, none⟩ = some (.slice (some ⟨g, 0, none⟩) n c) ∧ V.cell? ⟨W.heap.size, 3, none⟩ = some (.int .i64 x1.nw) ∧ V.cell? ⟨g, k * 11 + 8, none⟩ = some (.int .u8 y.lb) ∧ V.cell? ⟨g, k * 11 + 9, none⟩ = some (.int .i64 y.unt)) (by kernel_rfl) HC.out (fun _ => ?_)
          refine takeH (i := 0) (v := ?_) rfl (by kernel_rfl) (by kernel_rfl) (by kernel_rfl) (fun _ _ _ h => h) (by rfl) ?_ HC.out ?_
          rotate_left
          · rintro V ⟨d0, d3, b8, b9⟩; go_simp <;> with_reducible rfl
          simp only [Act.put, List.setIfInBounds_toArray, List.set_cons_zero, List.set_cons_succ]
          refine takeH (i := 1) (v := ?_) rfl (by kernel_rfl) (by kernel_rfl) (by kernel_rfl) (fun _ _ _ h => h) (by rfl) ?_ HC.out ?_
          rotate_left
          · rintro V ⟨d0, d3, b8, b9⟩; go_simp <;> with_reducible rfl
          simp only [Act.put, List.setIfInBounds_toArray, List.set_cons_zero, List.set_cons_succ]
          refine takeH (i := 2) (v := ?_) rfl (by kernel_rfl) (by kernel_rfl) (by kernel_rfl) (fun _ _ _ h => h) (by rfl) ?_ HC.out ?_
          rotate_left
          · rintro V ⟨d0, d3, b8, b9⟩; go_simp <;> with_reducible rfl
          simp only [Act.put, List.setIfInBounds_toArray, List.set_cons_zero, List.set_cons_succ]
          refine takeH (i := 3) (v := ?_) rfl (by kernel_rfl) (by kernel_rfl) (by kernel_rfl) (fun _ _ _ h => h) (by rfl) ?_ HC.out ?_
          rotate_left
          · rintro V ⟨d0, d3, b8, b9⟩; go_simp <;> with_reducible rfl
          simp only [Act.put, List.setIfInBounds_toArray, List.set_cons_zero, List.set_cons_succ]
          refine takeH (i := 4) (v := ?_) rfl (by kernel_rfl) (by kernel_rfl) (by kernel_rfl) (fun _ _ _ h => h) (by rfl) ?_ HC.out ?_
          rotate_left
          · rintro V ⟨d0, d3, b8, b9⟩; go_simp <;> with_reducible rfl
          simp only [Act.put, List.setIfInBounds_toArray, List.set_cons_zero, List.set_cons_succ]
          refine takeH (i := 5) (v := ?_) rfl (by kernel_rfl) (by kernel_rfl) (by kernel_rfl) (fun _ _ _ h => h) (by rfl) ?_ HC.out ?_
          rotate_left
          · rintro V ⟨d0, d3, b8, b9⟩; go_simp <;> with_reducible rfl
          simp only [Act.put, List.setIfInBounds_toArray, List.set_cons_zero, List.set_cons_succ]
          refine takeH (i := 6) (v := ?_) rfl (by kernel_rfl) (by kernel_rfl) (by kernel_rfl) (fun _ _ _ h => h) (by rfl) ?_ HC.out ?_
          rotate_left
          · rintro V ⟨d0, d3, b8, b9⟩; go_simp <;> with_reducible rfl
          simp only [Act.put, List.setIfInBounds_toArray, List.set_cons_zero, List.set_cons_succ]
          refine takeH (i := 7) (v := ?_) rfl (by kernel_rfl) (by kernel_rfl) (by kernel_rfl) (fun _ _ _ h => h) (by rfl) ?_ HC.out ?_
          rotate_left
          · rintro V ⟨d0, d3, b8, b9⟩; go_simp <;> with_reducible rfl
          simp only [Act.put, List.setIfInBounds_toArray, List.set_cons_zero, List.set_cons_succ]
          refine takeH (i := 8) (v := ?_) rfl (by kernel_rfl) (by kernel_rfl) (by kernel_rfl) (fun _ _ _ h => h) (by rfl) ?_ HC.out ?_
          rotate_left
          · rintro V ⟨d0, d3, b8, b9⟩; go_simp <;> with_reducible rfl
          simp only [Act.put, List.setIfInBounds_toArray, List.set_cons_zero, List.set_cons_succ]
          refine takeH (i := 9) (v := ?_) rfl (by kernel_rfl) (by kernel_rfl) (by kernel_rfl) (fun _ _ _ h => h) (by rfl) ?_ HC.out ?_
          rotate_left
          · rintro V ⟨d0, d3, b8, b9⟩; go_simp <;> with_reducible rfl
          simp only [Act.put, List.setIfInBounds_toArray, List.set_cons_zero, List.set_cons_succ]
          refine takeH (i := 10) (v := ?_) rfl (by kernel_rfl) (by kernel_rfl) (by kernel_rfl) (fun _ _ _ h => h) (by rfl) ?_ HC.out ?_
          rotate_left
          · rintro V ⟨d0, d3, b8, b9⟩; go_simp <;> with_reducible rfl
          simp only [Act.put, List.setIfInBounds_toArray, List.set_cons_zero, List.set_cons_succ]
          refine takeH (i := 11) (v := ?_) rfl (by kernel_rfl) (by kernel_rfl) (by kernel_rfl) (fun _ _ _ h => h) (by rfl) ?_ HC.out ?_
          rotate_left
          · rintro V ⟨d0, d3, b8, b9⟩; go_simp <;> with_reducible rfl
          simp only [Act.put, List.setIfInBounds_toArray, List.set_cons_zero, List.set_cons_succ]
          refine takeH (i := 12) (v := ?_) rfl (by kernel_rfl) (by kernel_rfl) (by kernel_rfl) (fun _ _ _ h => h) (by rfl) ?_ HC.out ?_
          rotate_left
          · rintro V ⟨d0, d3, b8, b9⟩; go_simp <;> with_reducible rfl
          simp only [Act.put, List.setIfInBounds_toArray, List.set_cons_zero, List.set_cons_succ]
          refine takeH (i := 13) (v := ?_) rfl (by kernel_rfl) (by kernel_rfl) (by kernel_rfl) (fun _ _ _ h => h) (by rfl) ?_ HC.out ?_
          rotate_left
          · rintro V ⟨d0, d3, b8, b9⟩; go_simp <;> with_reducible rfl
          simp only [Act.put, List.setIfInBounds_toArray, List.set_cons_zero, List.set_cons_succ]
          refine takeH (i := 14) (v := ?_) rfl (by kernel_rfl) (by kernel_rfl) (by kernel_rfl) (fun _ _ _ h => h) (by rfl) ?_ HC.out ?_
          rotate_left
          · rintro V ⟨d0, d3, b8, b9⟩; go_simp <;> with_reducible rfl
          simp only [Act.put, List.setIfInBounds_toArray, List.set_cons_zero, List.set_cons_succ]
          refine takeH (i := 15) (v := ?_) rfl (by kernel_rfl) (by kernel_rfl) (by kernel_rfl) (fun _ _ _ h => h) (by rfl) ?_ HC.out ?_
          rotate_left
          · rintro V ⟨d0, d3, b8, b9⟩; go_simp <;> with_reducible rfl
          simp only [Act.put, List.setIfInBounds_toArray, List.set_cons_zero, List.set_cons_succ]
          refine takeH (i := 16) (v := ?_) rfl (by kernel_rfl) (by kernel_rfl) (by kernel_rfl) (fun _ _ _ h => h) (by rfl) ?_ HC.out ?_
          rotate_left
          · rintro V ⟨d0, d3, b8, b9⟩; go_simp <;> with_reducible rfl
          simp only [Act.put, List.setIfInBounds_toArray, List.set_cons_zero, List.set_cons_succ]
          refine takeH (i := 17) (v := ?_) rfl (by kernel_rfl) (by kernel_rfl) (by kernel_rfl) (fun _ _ _ h => h) (by rfl) ?_ HC.out ?_
          rotate_left
          · rintro V ⟨d0, d3, b8, b9⟩; go_simp <;> with_reducible rfl
          simp only [Act.put, List.setIfInBounds_toArray, List.set_cons_zero, List.set_cons_succ]
          refine wpAnyH_done (by kernel_rfl) ?_ _
          have f8' : wr.drew.frozen? ⟨g, k * 11 + 8, none⟩ = false := f8
          have b8' : wr.drew.cell? ⟨g, k * 11 + 8, none⟩ = some (.int .u8 y.lb) := b8
          have d0' : wr.drew.cell? ⟨W.heap.size, 0, none⟩ = some (.slice (some ⟨g, 0, none⟩) n c) := d0
          go_wp2_with fail
          go_roundw
          case rel => exact ⟨k + 1, by go_num, HLt.out, HS.out⟩
          case measure => have := HLt.out; simp [intOf]; omega
    · subst hkn
      have HR := Lib.hid hT.R
      have HB := Lib.hid hT.bel
      have h4 := hT.row
      rw [← HL.out, tickTo_all, HL.out] at h4
      have HO := Lib.hid h4
      have HCC := Lib.hid hT.C
      clear hT hk h4 d0 d3
      have d0 := HCC.out.cell 0
      have d1 := HCC.out.cell 1
      have d2 := HCC.out.cell 2
      have d3 := HCC.out.cell 3
      have d4 := HCC.out.cell 4
      simp only [List.getElem?_toArray, List.getElem?_cons_zero, List.getElem?_cons_succ] at d0 d1 d2 d3 d4
      have k0 := HR.out.cell 0
      have k1 := HR.out.cell 1
      have k2 := HR.out.cell 2
      have k3 := HR.out.cell 3
      have k4 := HR.out.cell 4
      simp only [List.getElem?_toArray, List.getElem?_cons_zero, List.getElem?_cons_succ] at k0 k1 k2 k3 k4
      have z0 := HR.out.frozen 0
      have z1 := HR.out.frozen 1
      have z2 := HR.out.frozen 2
      have z3 := HR.out.frozen 3
      have z4 := HR.out.frozen 4
      clear HT HL
      go_wp2_with fail
      obtain ⟨Z, hZ, q1, q2, q3⟩ := fin5 (A := A) (n := k) (c := c) (x := { x1 with l := x1.l.map (tickB x1.nw) }) HR.out HO.out HB.out (Nat.le_trans HLe.out (Nat.le_succ _))
      rw [hZ]
      have j0 := q1.cell 0
      have j1 := q1.cell 1
      have j2 := q1.cell 2
      have j3 := q1.cell 3
      have j4 := q1.cell 4
      simp only [List.getElem?_toArray, List.getElem?_cons_zero, List.getElem?_cons_succ] at j0 j1 j2 j3 j4
      refine bodyPost_ret (v := .agg #[.slice A k c, .int .i64 ({ x1 with l := x1.l.map (tickB x1.nw) }).fl, .int .i64 ({ x1 with l := x1.l.map (tickB x1.nw) }).dr, .int .i64 ({ x1 with l := x1.l.map (tickB x1.nw) }).nw, .bool ({ x1 with l := x1.l.map (tickB x1.nw) }).tg]) (by simp [results, Try.results21, go_sem, j0, j1, j2, j3, j4]) rfl ?_
      exact ⟨_, _, _, rfl, q2, q3⟩

theorem refTick_any (ho : W.ownsRow base 36 11 (.slice A n c) n (flat x.l)) (hb : base ≤ W.heap.size) (hn : n ≤ 1000) (h0 : 0 ≤ x.nw) :
    Calls Try.prog 21 #[.agg #[.slice A n c, .int .i64 x.fl, .int .i64 x.dr, .int .i64 x.nw, .bool x.tg]] W (OnPost base (tickC x) W) := by
  unfold tickC
  split
  · exact refTick_end ho hb ‹_›
  · exact refTick_on ho hb hn h0 (by omega)
end

end Go.Proofs.Ytoiegffnmjlkdaa
