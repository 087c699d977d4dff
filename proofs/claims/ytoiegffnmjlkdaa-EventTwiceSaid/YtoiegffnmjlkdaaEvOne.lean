/-
  The walks of 'number', 'Falls', 'die', 'flip', 'tight' and 'floor' of package event. Conditions: those that each theorem names.
-/
import Derived.Test.YtoiegffnmjlkdaaCdBut
import Derived.Test.YtoiegffnmjlkdaaEvMath
import Derived.Test.YtoiegffnmjlkdaaHand
namespace Go.Proofs.Ytoiegffnmjlkdaa
open Go.RowKit Go.Shelf

section
variable {W W' W'' : World} {base Cb : Nat} {A : Option Addr} {n c : Nat} {x : Cw}
theorem BelowBut.refl (base Cb : Nat) (W : World) : BelowBut base Cb W W := Below.but (Below.refl base W)
theorem BelowBut.trans (h : BelowBut base Cb W W') (k : BelowBut base Cb W' W'') : BelowBut base Cb W W'' :=
  ⟨k.os.trans h.os, k.tape.trans h.tape, k.output.trans h.output, Nat.le_trans h.size k.size, fun i hi hne => (k.block i hi hne).trans (h.block i hi hne)⟩
theorem BelowBut.set (h : BelowBut base Cb W W') (i : Nat) (v : Value) : BelowBut base Cb W (W'.setCell ⟨Cb, i, none⟩ v) :=
  have k := (Below.refl 0 W').setCell (p := ⟨Cb, i, none⟩) (Nat.zero_le _) v
  ⟨k.os.trans h.os, k.tape.trans h.tape, k.output.trans h.output, Nat.le_trans h.size k.size, fun j hj hne => (Below.heap_setCell W' ⟨Cb, i, none⟩ v j hne).trans (h.block j hj hne)⟩
theorem BelowBut.grown (h : BelowBut base Cb W W') {g : Nat} (hg : W'.grownBy W'' (some g)) (hb : base ≤ g) (hs : base ≤ W.heap.size) : BelowBut base Cb W W'' :=
  ⟨hg.os.trans h.os, hg.tape.trans h.tape, hg.output.trans h.output, Nat.le_trans h.size hg.size, fun j hj hne => (hg.block j (by have := h.size; omega) (fun e => by cases e; omega)).trans (h.block j hj hne)⟩
theorem BelowBut.on (h : BelowBut base Cb W W') (hb : Below W'.heap.size W' W'') (hs : base ≤ W.heap.size) : BelowBut base Cb W W'' :=
  h.trans (Below.but (hb.mono (Nat.le_trans hs h.size)))
theorem Clu.setFl (h : Clu W base Cb A n c x) (z : Int) : Clu (W.setCell ⟨Cb, 1, none⟩ (.int .i64 z)) base Cb A n c { x with fl := z } :=
  ⟨h.box.set 1 _, own_set (b := Cb) h.row h.lt _, h.lt, Nat.le_trans h.le ((Below.refl 0 W).setCell (p := ⟨Cb, 1, none⟩) (Nat.zero_le _) _).size⟩
theorem Clu.setDr (h : Clu W base Cb A n c x) (z : Int) : Clu (W.setCell ⟨Cb, 2, none⟩ (.int .i64 z)) base Cb A n c { x with dr := z } :=
  ⟨h.box.set 2 _, own_set (b := Cb) h.row h.lt _, h.lt, Nat.le_trans h.le ((Below.refl 0 W).setCell (p := ⟨Cb, 2, none⟩) (Nat.zero_le _) _).size⟩
theorem Clu.setNw (h : Clu W base Cb A n c x) (z : Int) : Clu (W.setCell ⟨Cb, 3, none⟩ (.int .i64 z)) base Cb A n c { x with nw := z } :=
  ⟨h.box.set 3 _, own_set (b := Cb) h.row h.lt _, h.lt, Nat.le_trans h.le ((Below.refl 0 W).setCell (p := ⟨Cb, 3, none⟩) (Nat.zero_le _) _).size⟩
theorem Clu.setTg (h : Clu W base Cb A n c x) (b : Bool) : Clu (W.setCell ⟨Cb, 4, none⟩ (.bool b)) base Cb A n c { x with tg := b } :=
  ⟨h.box.set 4 _, own_set (b := Cb) h.row h.lt _, h.lt, Nat.le_trans h.le ((Below.refl 0 W).setCell (p := ⟨Cb, 4, none⟩) (Nat.zero_le _) _).size⟩
end

/-- What happens, as values. -/
abbrev Ev.v (e : Ev) : Value := .agg #[.int .u8 e.kind, .int .i64 e.a, .int .i64 e.b]
/-- What a happening leaves. -/
def HapPost (base Cb : Nat) (x' : Cw) (W : World) (e : Ending) (W' : World) : Prop :=
  (∃ v, e = .returned v) ∧ (∃ A n c, Clu W' base Cb A n c x') ∧ BelowBut base Cb W W'
def BoxPost (base Cb g n c : Nat) (x : Cw) (j : Nat) (y' : Bx) (W : World) (e : Ending) (W' : World) : Prop :=
  (∃ v, e = .returned v) ∧ Clu W' base Cb (some ⟨g, 0, none⟩) n c { x with l := x.l.set j y' } ∧ W.grownBy W' (some g)

set_option maxHeartbeats 1000000 in
theorem evNumber_any (z : Int) (w : World) : Calls Try.prog 41 #[.int .i64 z] w fun e w' => e = .returned (.bool (isNum z)) ∧ w = w' := by
  by_cases h0 : 0 ≤ z
  · by_cases h1 : z ≤ 1099511627776
    · have HN := Lib.hid (isNum_yes h0 h1)
      rw [HN.out]
      go_enter Try.func41, Try.ntmps41
      go_wp2_with fail
      go_ret
      exact ⟨rfl, rfl⟩
    · have HN := Lib.hid (show isNum z = false by simp [isNum, h1])
      rw [HN.out]
      go_enter Try.func41, Try.ntmps41
      go_wp2_with fail
      go_ret
      exact ⟨rfl, rfl⟩
  · have HN := Lib.hid (show isNum z = false by simp [isNum, h0])
    rw [HN.out]
    go_enter Try.func41, Try.ntmps41
    go_wp2_with fail
    go_ret
    exact ⟨rfl, rfl⟩

set_option maxHeartbeats 1000000 in
theorem falls_any (e : Ev) (w : World) : Calls Try.prog 14 #[.agg #[.int .u8 e.kind, .int .i64 e.a, .int .i64 e.b]] w (BoolPost (fallsB e) w) := by
  obtain ⟨k, a, b⟩ := e
  have HB := Lib.hid ((Below.refl _ w).alloc (Nat.le_refl _) (.cells #[.int .u8 k, .int .i64 a, .int .i64 b] 26))
  have HF : Hid (fallsB ⟨k, a, b⟩ = ((k == 1) || (k == 2))) := Lib.hid rfl
  rw [HF.out]
  simp only
  cases h1 : (k == 1)
  · obtain ⟨E, hE⟩ : ∃ E, (k == 2) = E := ⟨_, rfl⟩
    rw [hE]
    go_enter Try.func14, Try.ntmps14
    go_wp2_with fail
    go_ret
    exact ⟨rfl, HB.out⟩
  · go_enter Try.func14, Try.ntmps14
    go_wp2_with fail
    go_ret
    exact ⟨rfl, HB.out⟩

section
variable {base Cb g n c o j : Nat} {A : Option Addr} {x : Cw} {y : Bx} {W : World}
set_option maxHeartbeats 1000000 in
theorem die_any (h : Clu W base Cb (some ⟨g, 0, none⟩) n c x) (hx : x.l[j]? = some y) (ho : j * 11 = o) :
    Calls Try.prog 30 #[.pointer (some ⟨g, o, none⟩)] W (BoxPost base Cb g n c x j (goneB y) W) := by
  obtain ⟨b0, b1, b2, b3, b4, b5, b6, b7, b8, b9, b10⟩ := h.at_ hx
  have f5 := h.frz (j * 11 + 5)
  have f6 := h.frz (j * 11 + 6)
  have f8 := h.frz (j * 11 + 8)
  rw [ho] at b0 b1 b2 b3 b4 b5 b6 b7 b8 b9 b10 f5 f6 f8
  have h0 := h.set hx (i := 6) (by omega) (u := .bool true) (y' := { y with gone := true }) rfl
  have h1 := h0.1.set (j := j) (y := { y with gone := true }) (set_at hx) (i := 5) (by omega) (u := .bool false) (y' := { y with gone := true, on := false }) rfl
  rw [set_set] at h1
  have h2 := h1.1.set (j := j) (y := { y with gone := true, on := false }) (set_at hx) (i := 8) (by omega) (u := .int .u8 0) (y' := { y with gone := true, on := false, lb := 0 }) rfl
  rw [set_set] at h2
  rw [ho] at h0 h1 h2
  have H2 := Lib.hid (And.intro h2.1 (grown_t (grown_t h0.2 h1.2) h2.2))
  clear h hx ho h0 h1 h2
  go_enter Try.func30, Try.ntmps30
  go_wp2_with fail
  go_end0
  exact ⟨⟨_, rfl⟩, H2.out⟩

set_option maxHeartbeats 1000000 in
theorem flip_any (h : Clu W base Cb (some ⟨g, 0, none⟩) n c x) (hx : x.l[j]? = some y) (ho : j * 11 = o) :
    Calls Try.prog 31 #[.pointer (some ⟨g, o, none⟩)] W (BoxPost base Cb g n c x j (flipB y) W) := by
  obtain ⟨b0, b1, b2, b3, b4, b5, b6, b7, b8, b9, b10⟩ := h.at_ hx
  have f7 := h.frz (j * 11 + 7)
  rw [ho] at b0 b1 b2 b3 b4 b5 b6 b7 b8 b9 b10 f7
  have h0 := h.set hx (i := 7) (by omega) (u := .bool (!y.well)) (y' := flipB y) rfl
  rw [ho] at h0
  have H2 := Lib.hid h0
  clear h hx ho h0
  go_enter Try.func31, Try.ntmps31
  go_wp2_with fail
  go_end0
  exact ⟨⟨_, rfl⟩, H2.out⟩

set_option maxHeartbeats 1000000 in
theorem tight_any (h : Clu W base Cb A n c x) (e : Ev) :
    Calls Try.prog 33 #[.pointer (some ⟨Cb, 0, none⟩), .agg #[.int .u8 e.kind, .int .i64 e.a, .int .i64 e.b]] W (HapPost base Cb { x with tg := !x.tg } W) := by
  have hV : Below W.heap.size W (W.alloc (.cells #[.int .u8 e.kind, .int .i64 e.a, .int .i64 e.b] 26)) := (Below.refl _ W).alloc (Nat.le_refl _) _
  obtain ⟨V, eV⟩ : ∃ V, W.alloc (.cells #[.int .u8 e.kind, .int .i64 e.a, .int .i64 e.b] 26) = V := ⟨_, rfl⟩
  rw [eV] at hV
  have h1 := h.under hV
  obtain ⟨d0, d1, d2, d3, d4⟩ := h1.cells
  have f4 := h1.box.frozen 4
  have H1 := Lib.hid (h1.setTg (!x.tg))
  have HB : Hid (BelowBut base Cb W (V.setCell ⟨Cb, 4, none⟩ (.bool (!x.tg)))) := Lib.hid ((Below.but (hV.mono h.le)).set 4 _)
  clear h h1 hV
  go_enter Try.func33, Try.ntmps33
  go_wp2_with fail
  go_end0
  exact ⟨⟨_, rfl⟩, ⟨_, _, _, H1.out⟩, HB.out⟩

theorem floorC_no {x : Cw} {a b : Int} (h : (isNum a && isNum b) = false) : floorC x a b = x := by unfold floorC; rw [h]; rfl
theorem floorC_yes {x : Cw} {a b : Int} (h : (isNum a && isNum b) = true) : floorC x a b = { x with fl := a, dr := b } := by unfold floorC; rw [h]; rfl

set_option maxHeartbeats 1000000 in
theorem floor_any (h : Clu W base Cb A n c x) (e : Ev) :
    Calls Try.prog 35 #[.pointer (some ⟨Cb, 0, none⟩), .agg #[.int .u8 e.kind, .int .i64 e.a, .int .i64 e.b]] W (HapPost base Cb (floorC x e.a e.b) W) := by
  obtain ⟨k, a, b⟩ := e
  simp only
  have hV : Below W.heap.size W (W.alloc (.cells #[.int .u8 k, .int .i64 a, .int .i64 b] 26)) := (Below.refl _ W).alloc (Nat.le_refl _) _
  have hE : Whole (W.alloc (.cells #[.int .u8 k, .int .i64 a, .int .i64 b] 26)) W.heap.size 26 #[.int .u8 k, .int .i64 a, .int .i64 b] := Whole.new _ _ _
  obtain ⟨V, eV⟩ : ∃ V, W.alloc (.cells #[.int .u8 k, .int .i64 a, .int .i64 b] 26) = V := ⟨_, rfl⟩
  rw [eV] at hV hE
  have h1 := h.under hV
  have HB0 : Hid (BelowBut base Cb W V) := Lib.hid (Below.but (hV.mono h.le))
  have e1 := hE.cell 1
  have e2 := hE.cell 2
  simp only [List.getElem?_toArray, List.getElem?_cons_zero, List.getElem?_cons_succ] at e1 e2
  have H1 := Lib.hid h1
  have HL := Lib.hid h.le
  have hN1 := fun w => evNumber_any a w
  have hN2 := fun w => evNumber_any b w
  cases ha : isNum a
  · rw [ha] at hN1
    rw [floorC_no (by rw [ha]; rfl)]
    have HN1 := Lib.hid hN1
    clear hN1 hN2 h h1 hV ha
    go_enter Try.func35, Try.ntmps35
    go_wp2_with (refine (HN1.out _).mono ?_; rintro e w2 ⟨rfl, rfl⟩)
    go_end0
    exact ⟨⟨_, rfl⟩, ⟨_, _, _, H1.out⟩, HB0.out⟩
  · rw [ha] at hN1
    have HN1 := Lib.hid hN1
    cases hb : isNum b
    · rw [hb] at hN2
      rw [floorC_no (by rw [ha, hb]; rfl)]
      have HN2 := Lib.hid hN2
      clear hN1 hN2 h h1 hV ha hb
      go_enter Try.func35, Try.ntmps35
      go_wp2_with fail
      refine (HN1.out _).mono ?_; rintro e w2 ⟨rfl, rfl⟩
      go_wp2_with fail
      refine (HN2.out _).mono ?_; rintro e w2 ⟨rfl, rfl⟩
      go_wp2_with fail
      go_end0
      exact ⟨⟨_, rfl⟩, ⟨_, _, _, H1.out⟩, HB0.out⟩
    · rw [hb] at hN2
      rw [floorC_yes (by rw [ha, hb]; rfl)]
      have HN2 := Lib.hid hN2
      obtain ⟨d0, d1, d2, d3, d4⟩ := h1.cells
      have f1 := h1.box.frozen 1
      have f2 := h1.box.frozen 2
      have H2 := Lib.hid ((h1.setFl a).setDr b)
      have HB2 := Lib.hid ((HB0.out.set 1 (.int .i64 a)).set 2 (.int .i64 b))
      have HEF := hE.far (p := ⟨Cb, 1, none⟩) (by have := h.lt; have := h.le; show W.heap.size ≠ Cb; omega) (.int .i64 a)
      have e3 := HEF.cell 2
      simp only [List.getElem?_toArray, List.getElem?_cons_zero, List.getElem?_cons_succ] at e3
      have e4 : (V.setCell ⟨Cb, 1, none⟩ (.int .i64 a)).drew.cell? ⟨W.heap.size, 2, none⟩ = some (.int .i64 b) := e3
      clear hN1 hN2 h h1 hV ha hb hE HEF
      go_enter Try.func35, Try.ntmps35
      go_wp2_with fail
      refine (HN1.out _).mono ?_; rintro e w2 ⟨rfl, rfl⟩
      go_wp2_with fail
      refine (HN2.out _).mono ?_; rintro e w2 ⟨rfl, rfl⟩
      go_wp2_with fail
      clear eV
      go_region
      go_wp2_with fail
      go_end0
      exact ⟨⟨_, rfl⟩, ⟨_, _, _, H2.out.under (Below.refl _ _).drew⟩, HB2.out.on (Below.refl _ _).drew HL.out⟩
end

end Go.Proofs.Ytoiegffnmjlkdaa
