/-
  The walk of the statements' 'wakes' (layer 8). Conditions: those that the theorem names.
-/
import Derived.Test.YtphkleecodoplaaCdDo
namespace Go.Proofs.Ytphkleecodoplaa
open Go.RowKit Go.Shelf

def wb : Bx := ⟨1, 5, 1, 0, true, true, false, true, 0, 0, 2⟩
def wb' : Bx := ⟨1, 5, 1, 0, true, true, false, true, 1, 0, 4⟩

set_option maxRecDepth 100000 in
/-- One thing asked of a cloud that is known whole. -/
theorem wdo {l l' : List Bx} {fl k ca a b d co id : Int} {n n' : Nat} (h : doP ⟨l, fl, 0, 0, false⟩ ⟨k, ca, a, b, 0, d⟩ = (l', co, id)) (hk : (Lit.int .u8 k).wf = true) (hn : n ≤ 1000) (hl' : l'.length = n') (W : World) (A : Option Addr) (c : Nat) (hr : RdX W W.heap.size A n l) :
    Calls Try.prog 9 #[.agg #[.slice A n c, .int .i64 fl, .int .i64 0, .int .i64 0, .bool false], .agg #[.int .u8 k, .int .i64 ca, .int .i64 a, .int .i64 b, .int .i64 0, .int .i64 d]] W fun e w' =>
      ∃ A' c', e = .returned (.tuple #[.agg #[.slice A' n' c', .int .i64 fl, .int .i64 0, .int .i64 0, .bool false], .agg #[.int .i64 ca, .int .u8 k, .int .u8 co, .int .i64 id, .slice none 0 0, .bool false]]) ∧ RdX w' w'.heap.size A' n' l' ∧ Below W.heap.size W w' := by
  have hd := do_any (x := ⟨l, fl, 0, 0, false⟩) (q := ⟨k, ca, a, b, 0, d⟩) (w := W) (c := c) hr (Nat.le_refl _) hn hk
  rw [h] at hd
  refine hd.mono ?_
  rintro e w' ⟨A', m, c', rfl, h2, h3⟩
  obtain rfl : m = n' := by rw [← hl']; exact h2.len.symm
  exact ⟨A', c', rfl, h2, h3⟩

set_option maxRecDepth 100000 in
theorem whole_two {W : World} {t u : TypeId} {x y : Array Value} : Whole ((W.alloc (.cells x t)).alloc (.cells y u)) W.heap.size t x ∧ Whole ((W.alloc (.cells x t)).alloc (.cells y u)) (W.heap.size + 1) u y ∧ Below W.heap.size W ((W.alloc (.cells x t)).alloc (.cells y u)) :=
  ⟨(Whole.new W _ _).alloc _, by have := Whole.new (W.alloc (.cells x t)) u y; rwa [World.size_alloc] at this, ((Below.refl _ W).alloc (Nat.le_refl _) _).alloc (by simp) _⟩

set_option maxRecDepth 100000 in
set_option maxHeartbeats 8000000 in
theorem wakes_any (w : World) : Calls Try.prog 8 #[] w (WakePost w) := by
  have D1 := Lib.hid (fun W A c hr => wdo (l := []) (l' := []) (fl := 0) (k := 6) (ca := 1) (a := 1) (b := 0) (d := 0) (co := 2) (id := 1) (n := 0) (n' := 0) (by decide) (by decide) (by decide) rfl W A c hr)
  have D2 := Lib.hid (fun W A c hr => wdo (l := []) (l' := [wb]) (fl := 0) (k := 1) (ca := 2) (a := 5) (b := 1) (d := 0) (co := 1) (id := 1) (n := 0) (n' := 1) (by decide) (by decide) (by decide) rfl W A c hr)
  have D3 := Lib.hid (fun W A c hr => wdo (l := [wb]) (l' := [wb]) (fl := 0) (k := 1) (ca := 3) (a := 5) (b := 2) (d := 0) (co := 1) (id := 1) (n := 1) (n' := 1) (by decide) (by decide) (by decide) rfl W A c hr)
  have D4 := Lib.hid (fun W A c hr => wdo (l := [wb]) (l' := [wb']) (fl := 0) (k := 4) (ca := 4) (a := 1) (b := 0) (d := 0) (co := 1) (id := 1) (n := 1) (n' := 1) (by decide) (by decide) (by decide) rfl W A c hr)
  have D5 := Lib.hid (fun W A c hr => wdo (l := [wb']) (l' := [wb']) (fl := 1) (k := 5) (ca := 5) (a := 1) (b := 0) (d := 0) (co := 3) (id := 1) (n := 1) (n' := 1) (by decide) (by decide) (by decide) rfl W A c hr)
  have D6 := Lib.hid (fun W A c hr => wdo (l := [wb']) (l' := [wb']) (fl := 1) (k := 5) (ca := 3) (a := 1) (b := 0) (d := 0) (co := 5) (id := 1) (n := 1) (n' := 1) (by decide) (by decide) (by decide) rfl W A c hr)
  have HH := Lib.hid (fun W A c hr => h_any A 1 c ⟨[wb'], 1, 0, 0, false⟩ W.heap.size W hr (Nat.le_refl _) (by decide))
  have HRt := Lib.hid (fun W A c hr => right_any A 1 c ⟨[wb'], 1, 0, 0, false⟩ W.heap.size W hr (Nat.le_refl _))
  have HF1 := Lib.hid (fun W A c hr => find_any A 1 c ⟨[wb'], 1, 0, 0, false⟩ 1 W.heap.size W hr (Nat.le_refl _) (by decide))
  have HF2 := Lib.hid (fun W A c hr => find_any A 1 c ⟨[wb'], 1, 0, 0, false⟩ 2 W.heap.size W hr (Nat.le_refl _) (by decide))
  unfold HPost at HH
  unfold PlacePost at HF1 HF2
  rw [show (hN [wb'] : Int) = 1 by decide] at HH
  rw [show right ⟨[wb'], 1, 0, 0, false⟩ = true by decide] at HRt
  simp only [show find [wb'] 1 = some 0 by decide, placeI] at HF1
  simp only [show find [wb'] 2 = none by decide, placeI] at HF2
  go_enter Try.func8, Try.ntmps8
  go_wp2_with fail
  refine (D1.out _ _ _ (RdX.nil_ _ _ _)).mono ?_
  rintro e y1 ⟨A1, c1, rfl, r1, b1⟩
  have B_1 := Lib.hid b1
  have R_1 := Lib.hid r1
  clear b1 r1 D1
  have two := whole_two (W := y1) (t := 24) (u := 30) (x := #[.slice A1 0 c1, .int .i64 0, .int .i64 0, .int .i64 0, .bool false]) (y := #[.int .i64 1, .int .u8 6, .int .u8 2, .int .i64 1, .slice none 0 0, .bool false])
  have rE := (R_1.out.below two.2.2).more two.2.2.size
  have HE := Lib.hid (And.intro two (And.intro rE B_1.out))
  clear two rE B_1 R_1 
  go_wp2_with fail
  refine (D2.out _ _ _ HE.out.2.1).mono ?_
  rintro e y2 ⟨A2, c2, rfl, r2, b2⟩
  have bb := HE.out.1.2.2.trans (b2.mono HE.out.1.2.2.size)
  have T1 := Lib.hid (HE.out.1.2.1.under b2)
  have B_2 := Lib.hid (HE.out.2.2.trans (bb.mono HE.out.2.2.size))
  have R_2 := Lib.hid r2
  clear b2 r2 bb HE D2 
  have two := whole_two (W := y2) (t := 24) (u := 30) (x := #[.slice A2 1 c2, .int .i64 0, .int .i64 0, .int .i64 0, .bool false]) (y := #[.int .i64 2, .int .u8 1, .int .u8 1, .int .i64 1, .slice none 0 0, .bool false])
  have T1_2 := T1.out.under two.2.2
  have rE := (R_2.out.below two.2.2).more two.2.2.size
  have HT1 := Lib.hid T1_2
  have HE := Lib.hid (And.intro two (And.intro rE B_2.out))
  clear two rE B_2 R_2 T1 T1_2
  go_wp2_with fail
  refine (D3.out _ _ _ HE.out.2.1).mono ?_
  rintro e y3 ⟨A3, c3, rfl, r2, b2⟩
  have bb := HE.out.1.2.2.trans (b2.mono HE.out.1.2.2.size)
  have T1 := Lib.hid (HT1.out.under b2)
  have T2 := Lib.hid (HE.out.1.2.1.under b2)
  have B_3 := Lib.hid (HE.out.2.2.trans (bb.mono HE.out.2.2.size))
  have R_3 := Lib.hid r2
  clear b2 r2 bb HE D3 HT1
  have two := whole_two (W := y3) (t := 24) (u := 30) (x := #[.slice A3 1 c3, .int .i64 0, .int .i64 0, .int .i64 0, .bool false]) (y := #[.int .i64 3, .int .u8 1, .int .u8 1, .int .i64 1, .slice none 0 0, .bool false])
  have T1_3 := T1.out.under two.2.2
  have T2_3 := T2.out.under two.2.2
  have rE := (R_3.out.below two.2.2).more two.2.2.size
  have HT1 := Lib.hid T1_3
  have HT2 := Lib.hid T2_3
  have HE := Lib.hid (And.intro two (And.intro rE B_3.out))
  clear two rE B_3 R_3 T1 T1_3 T2 T2_3
  go_wp2_with fail
  refine (D4.out _ _ _ HE.out.2.1).mono ?_
  rintro e y4 ⟨A4, c4, rfl, r2, b2⟩
  have bb := HE.out.1.2.2.trans (b2.mono HE.out.1.2.2.size)
  have T1 := Lib.hid (HT1.out.under b2)
  have T2 := Lib.hid (HT2.out.under b2)
  have C3 := Lib.hid (HE.out.1.1.under b2)
  have R3 := Lib.hid ((HE.out.2.1.below b2).more b2.size)
  have T3 := Lib.hid (HE.out.1.2.1.under b2)
  have B_4 := Lib.hid (HE.out.2.2.trans (bb.mono HE.out.2.2.size))
  have R_4 := Lib.hid r2
  clear b2 r2 bb HE D4 HT1 HT2
  have two := whole_two (W := y4) (t := 24) (u := 30) (x := #[.slice A4 1 c4, .int .i64 1, .int .i64 0, .int .i64 0, .bool false]) (y := #[.int .i64 4, .int .u8 4, .int .u8 1, .int .i64 1, .slice none 0 0, .bool false])
  have T1_4 := T1.out.under two.2.2
  have T2_4 := T2.out.under two.2.2
  have C3_4 := C3.out.under two.2.2
  have R3_4 := (R3.out.below two.2.2).more two.2.2.size
  have T3_4 := T3.out.under two.2.2
  have rE := (R_4.out.below two.2.2).more two.2.2.size
  have HT1 := Lib.hid T1_4
  have HT2 := Lib.hid T2_4
  have HC3 := Lib.hid C3_4
  have HR3 := Lib.hid R3_4
  have HT3 := Lib.hid T3_4
  have HE := Lib.hid (And.intro two (And.intro rE B_4.out))
  clear two rE B_4 R_4 T1 T1_4 T2 T2_4 C3 C3_4 R3 R3_4 T3 T3_4
  go_wp2_with fail
  refine (D5.out _ _ _ HE.out.2.1).mono ?_
  rintro e y5 ⟨A5, c5, rfl, r2, b2⟩
  have bb := HE.out.1.2.2.trans (b2.mono HE.out.1.2.2.size)
  have T1 := Lib.hid (HT1.out.under b2)
  have T2 := Lib.hid (HT2.out.under b2)
  have C3 := Lib.hid (HC3.out.under b2)
  have R3 := Lib.hid ((HR3.out.below b2).more b2.size)
  have T3 := Lib.hid (HT3.out.under b2)
  have C4 := Lib.hid (HE.out.1.1.under b2)
  have R4 := Lib.hid ((HE.out.2.1.below b2).more b2.size)
  have T4 := Lib.hid (HE.out.1.2.1.under b2)
  have B_5 := Lib.hid (HE.out.2.2.trans (bb.mono HE.out.2.2.size))
  have R_5 := Lib.hid r2
  clear b2 r2 bb HE D5 HT1 HT2 HC3 HR3 HT3
  have two := whole_two (W := y5) (t := 24) (u := 30) (x := #[.slice A5 1 c5, .int .i64 1, .int .i64 0, .int .i64 0, .bool false]) (y := #[.int .i64 5, .int .u8 5, .int .u8 3, .int .i64 1, .slice none 0 0, .bool false])
  have T1_5 := T1.out.under two.2.2
  have T2_5 := T2.out.under two.2.2
  have C3_5 := C3.out.under two.2.2
  have R3_5 := (R3.out.below two.2.2).more two.2.2.size
  have T3_5 := T3.out.under two.2.2
  have C4_5 := C4.out.under two.2.2
  have R4_5 := (R4.out.below two.2.2).more two.2.2.size
  have T4_5 := T4.out.under two.2.2
  obtain ⟨k0, k1, k2, k3, k4⟩ := (⟨C4_5.cell 0, C4_5.cell 1, C4_5.cell 2, C4_5.cell 3, C4_5.cell 4⟩ : _ ∧ _ ∧ _ ∧ _ ∧ _)
  simp only [List.getElem?_toArray, List.getElem?_cons_zero, List.getElem?_cons_succ] at k0 k1 k2 k3 k4
  have rE := (R_5.out.below two.2.2).more two.2.2.size
  have HT1 := Lib.hid T1_5
  have HT2 := Lib.hid T2_5
  have HC3 := Lib.hid C3_5
  have HR3 := Lib.hid R3_5
  have HT3 := Lib.hid T3_5
  have HC4 := Lib.hid C4_5
  have HR4 := Lib.hid R4_5
  have HT4 := Lib.hid T4_5
  have HE := Lib.hid (And.intro two (And.intro rE B_5.out))
  clear two rE B_5 R_5 T1 T1_5 T2 T2_5 C3 C3_5 R3 R3_5 T3 T3_5 C4 C4_5 R4 R4_5 T4 T4_5
  go_wp2_with fail
  refine (D6.out _ _ _ HR4.out).mono ?_
  rintro e y6 ⟨A6, c6, rfl, r2, b2⟩
  have bb := HE.out.1.2.2.trans (b2.mono HE.out.1.2.2.size)
  have T1 := Lib.hid (HT1.out.under b2)
  have T2 := Lib.hid (HT2.out.under b2)
  have C3 := Lib.hid (HC3.out.under b2)
  have R3 := Lib.hid ((HR3.out.below b2).more b2.size)
  have T3 := Lib.hid (HT3.out.under b2)
  have C4 := Lib.hid (HC4.out.under b2)
  have R4 := Lib.hid ((HR4.out.below b2).more b2.size)
  have T4 := Lib.hid (HT4.out.under b2)
  have T5 := Lib.hid (HE.out.1.2.1.under b2)
  have B_6 := Lib.hid (HE.out.2.2.trans (bb.mono HE.out.2.2.size))
  have R_6 := Lib.hid r2
  clear b2 r2 bb HE D6 HT1 HT2 HC3 HR3 HT3 HC4 HR4 HT4 k0 k1 k2 k3 k4
  have two := whole_two (W := y6) (t := 24) (u := 30) (x := #[.slice A6 1 c6, .int .i64 1, .int .i64 0, .int .i64 0, .bool false]) (y := #[.int .i64 3, .int .u8 5, .int .u8 5, .int .i64 1, .slice none 0 0, .bool false])
  have T1_6 := T1.out.under two.2.2
  have T2_6 := T2.out.under two.2.2
  have C3_6 := C3.out.under two.2.2
  have R3_6 := (R3.out.below two.2.2).more two.2.2.size
  have T3_6 := T3.out.under two.2.2
  have C4_6 := C4.out.under two.2.2
  have R4_6 := (R4.out.below two.2.2).more two.2.2.size
  have T4_6 := T4.out.under two.2.2
  have T5_6 := T5.out.under two.2.2
  have rE := (R_6.out.below two.2.2).more two.2.2.size
  have HT1 := Lib.hid T1_6
  have HT2 := Lib.hid T2_6
  have HC3 := Lib.hid C3_6
  have HR3 := Lib.hid R3_6
  have HT3 := Lib.hid T3_6
  have HC4 := Lib.hid C4_6
  have HR4 := Lib.hid R4_6
  have HT4 := Lib.hid T4_6
  have HT5 := Lib.hid T5_6
  have HT6 := Lib.hid two.2.1
  have HB := Lib.hid (B_6.out.trans (two.2.2.mono B_6.out.size))
  clear two rE B_6 R_6 T1 T1_6 T2 T2_6 C3 C3_6 R3 R3_6 T3 T3_6 C4 C4_6 R4 R4_6 T4 T4_6 T5 T5_6
  have aT1 := (HT1.out).cell 2
  have bT1 := (HT1.out).cell 3
  have aT2 := (HT2.out).cell 2
  have bT2 := (HT2.out).cell 3
  have aT3 := (HT3.out).cell 2
  have bT3 := (HT3.out).cell 3
  have aT4 := (HT4.out).cell 2
  have bT4 := (HT4.out).cell 3
  have aT5 := (HT5.out).cell 2
  have bT5 := (HT5.out).cell 3
  have aT6 := (HT6.out).cell 2
  have bT6 := (HT6.out).cell 3
  have c30 := (HC3.out).cell 0
  have c40 := (HC4.out).cell 0
  have c41 := (HC4.out).cell 1
  have c42 := (HC4.out).cell 2
  have c43 := (HC4.out).cell 3
  have c44 := (HC4.out).cell 4
  simp only [List.getElem?_toArray, List.getElem?_cons_zero, List.getElem?_cons_succ] at aT1 aT2 aT3 aT4 aT5 aT6 bT1 bT2 bT3 bT4 bT5 bT6 c30 c40 c41 c42 c43 c44
  obtain ⟨g3, o3, e3, _, hv3⟩ := HR3.out.2 (by decide)
  subst e3
  have v3 := (hv3 0 wb rfl).c2
  simp only [Nat.zero_mul, Nat.add_zero, wb] at v3
  clear hv3
  go_wp2_with fail
  refine (HH.out _ _ _ HR4.out).mono ?_
  rintro e y7 ⟨rfl, b2⟩
  clear aT1 aT2 aT3 aT4 aT5 aT6 bT1 bT2 bT3 bT4 bT5 bT6 c30 c40 c41 c42 c43 c44 v3
  have GT1 := Lib.hid (HT1.out.under b2)
  have GT2 := Lib.hid (HT2.out.under b2)
  have GC3 := Lib.hid (HC3.out.under b2)
  have GR3 := Lib.hid ((HR3.out.below b2).more b2.size)
  have GT3 := Lib.hid (HT3.out.under b2)
  have GC4 := Lib.hid (HC4.out.under b2)
  have GR4 := Lib.hid ((HR4.out.below b2).more b2.size)
  have GT4 := Lib.hid (HT4.out.under b2)
  have GT5 := Lib.hid (HT5.out.under b2)
  have GT6 := Lib.hid (HT6.out.under b2)
  have GB := Lib.hid (HB.out.trans (b2.mono HB.out.size))
  clear HB b2 HT1 HT2 HC3 HR3 HT3 HC4 HR4 HT4 HT5 HT6
  have HT1 := GT1
  clear GT1
  have HT2 := GT2
  clear GT2
  have HC3 := GC3
  clear GC3
  have HR3 := GR3
  clear GR3
  have HT3 := GT3
  clear GT3
  have HC4 := GC4
  clear GC4
  have HR4 := GR4
  clear GR4
  have HT4 := GT4
  clear GT4
  have HT5 := GT5
  clear GT5
  have HT6 := GT6
  clear GT6
  have HB := GB
  clear GB
  have aT1 := (HT1.out).cell 2
  have bT1 := (HT1.out).cell 3
  have aT2 := (HT2.out).cell 2
  have bT2 := (HT2.out).cell 3
  have aT3 := (HT3.out).cell 2
  have bT3 := (HT3.out).cell 3
  have aT4 := (HT4.out).cell 2
  have bT4 := (HT4.out).cell 3
  have aT5 := (HT5.out).cell 2
  have bT5 := (HT5.out).cell 3
  have aT6 := (HT6.out).cell 2
  have bT6 := (HT6.out).cell 3
  have c30 := (HC3.out).cell 0
  have c40 := (HC4.out).cell 0
  have c41 := (HC4.out).cell 1
  have c42 := (HC4.out).cell 2
  have c43 := (HC4.out).cell 3
  have c44 := (HC4.out).cell 4
  simp only [List.getElem?_toArray, List.getElem?_cons_zero, List.getElem?_cons_succ] at aT1 aT2 aT3 aT4 aT5 aT6 bT1 bT2 bT3 bT4 bT5 bT6 c30 c40 c41 c42 c43 c44
  go_wp2_with fail
  refine (HRt.out _ _ _ HR4.out).mono ?_
  rintro e y8 ⟨rfl, b2⟩
  clear aT1 aT2 aT3 aT4 aT5 aT6 bT1 bT2 bT3 bT4 bT5 bT6 c30 c40 c41 c42 c43 c44
  have GT1 := Lib.hid (HT1.out.under b2)
  have GT2 := Lib.hid (HT2.out.under b2)
  have GC3 := Lib.hid (HC3.out.under b2)
  have GR3 := Lib.hid ((HR3.out.below b2).more b2.size)
  have GT3 := Lib.hid (HT3.out.under b2)
  have GC4 := Lib.hid (HC4.out.under b2)
  have GR4 := Lib.hid ((HR4.out.below b2).more b2.size)
  have GT4 := Lib.hid (HT4.out.under b2)
  have GT5 := Lib.hid (HT5.out.under b2)
  have GT6 := Lib.hid (HT6.out.under b2)
  have GB := Lib.hid (HB.out.trans (b2.mono HB.out.size))
  clear HB b2 HT1 HT2 HC3 HR3 HT3 HC4 HR4 HT4 HT5 HT6
  have HT1 := GT1
  clear GT1
  have HT2 := GT2
  clear GT2
  have HC3 := GC3
  clear GC3
  have HR3 := GR3
  clear GR3
  have HT3 := GT3
  clear GT3
  have HC4 := GC4
  clear GC4
  have HR4 := GR4
  clear GR4
  have HT4 := GT4
  clear GT4
  have HT5 := GT5
  clear GT5
  have HT6 := GT6
  clear GT6
  have HB := GB
  clear GB
  have aT1 := (HT1.out).cell 2
  have bT1 := (HT1.out).cell 3
  have aT2 := (HT2.out).cell 2
  have bT2 := (HT2.out).cell 3
  have aT3 := (HT3.out).cell 2
  have bT3 := (HT3.out).cell 3
  have aT4 := (HT4.out).cell 2
  have bT4 := (HT4.out).cell 3
  have aT5 := (HT5.out).cell 2
  have bT5 := (HT5.out).cell 3
  have aT6 := (HT6.out).cell 2
  have bT6 := (HT6.out).cell 3
  have c30 := (HC3.out).cell 0
  have c40 := (HC4.out).cell 0
  have c41 := (HC4.out).cell 1
  have c42 := (HC4.out).cell 2
  have c43 := (HC4.out).cell 3
  have c44 := (HC4.out).cell 4
  simp only [List.getElem?_toArray, List.getElem?_cons_zero, List.getElem?_cons_succ] at aT1 aT2 aT3 aT4 aT5 aT6 bT1 bT2 bT3 bT4 bT5 bT6 c30 c40 c41 c42 c43 c44
  go_wp2_with fail
  refine (HF1.out _ _ _ HR4.out).mono ?_
  rintro e y9 ⟨rfl, b2⟩
  clear aT1 aT2 aT3 aT4 aT5 aT6 bT1 bT2 bT3 bT4 bT5 bT6 c30 c40 c41 c42 c43 c44
  have GT1 := Lib.hid (HT1.out.under b2)
  have GT2 := Lib.hid (HT2.out.under b2)
  have GC3 := Lib.hid (HC3.out.under b2)
  have GR3 := Lib.hid ((HR3.out.below b2).more b2.size)
  have GT3 := Lib.hid (HT3.out.under b2)
  have GC4 := Lib.hid (HC4.out.under b2)
  have GR4 := Lib.hid ((HR4.out.below b2).more b2.size)
  have GT4 := Lib.hid (HT4.out.under b2)
  have GT5 := Lib.hid (HT5.out.under b2)
  have GT6 := Lib.hid (HT6.out.under b2)
  have GB := Lib.hid (HB.out.trans (b2.mono HB.out.size))
  clear HB b2 HT1 HT2 HC3 HR3 HT3 HC4 HR4 HT4 HT5 HT6
  have HT1 := GT1
  clear GT1
  have HT2 := GT2
  clear GT2
  have HC3 := GC3
  clear GC3
  have HR3 := GR3
  clear GR3
  have HT3 := GT3
  clear GT3
  have HC4 := GC4
  clear GC4
  have HR4 := GR4
  clear GR4
  have HT4 := GT4
  clear GT4
  have HT5 := GT5
  clear GT5
  have HT6 := GT6
  clear GT6
  have HB := GB
  clear GB
  have aT1 := (HT1.out).cell 2
  have bT1 := (HT1.out).cell 3
  have aT2 := (HT2.out).cell 2
  have bT2 := (HT2.out).cell 3
  have aT3 := (HT3.out).cell 2
  have bT3 := (HT3.out).cell 3
  have aT4 := (HT4.out).cell 2
  have bT4 := (HT4.out).cell 3
  have aT5 := (HT5.out).cell 2
  have bT5 := (HT5.out).cell 3
  have aT6 := (HT6.out).cell 2
  have bT6 := (HT6.out).cell 3
  have c30 := (HC3.out).cell 0
  have c40 := (HC4.out).cell 0
  have c41 := (HC4.out).cell 1
  have c42 := (HC4.out).cell 2
  have c43 := (HC4.out).cell 3
  have c44 := (HC4.out).cell 4
  simp only [List.getElem?_toArray, List.getElem?_cons_zero, List.getElem?_cons_succ] at aT1 aT2 aT3 aT4 aT5 aT6 bT1 bT2 bT3 bT4 bT5 bT6 c30 c40 c41 c42 c43 c44
  go_wp2_with fail
  refine (HF2.out _ _ _ HR4.out).mono ?_
  rintro e y10 ⟨rfl, b2⟩
  clear aT1 aT2 aT3 aT4 aT5 aT6 bT1 bT2 bT3 bT4 bT5 bT6 c30 c40 c41 c42 c43 c44
  have GT1 := Lib.hid (HT1.out.under b2)
  have GT2 := Lib.hid (HT2.out.under b2)
  have GC3 := Lib.hid (HC3.out.under b2)
  have GR3 := Lib.hid ((HR3.out.below b2).more b2.size)
  have GT3 := Lib.hid (HT3.out.under b2)
  have GC4 := Lib.hid (HC4.out.under b2)
  have GR4 := Lib.hid ((HR4.out.below b2).more b2.size)
  have GT4 := Lib.hid (HT4.out.under b2)
  have GT5 := Lib.hid (HT5.out.under b2)
  have GT6 := Lib.hid (HT6.out.under b2)
  have GB := Lib.hid (HB.out.trans (b2.mono HB.out.size))
  clear HB b2 HT1 HT2 HC3 HR3 HT3 HC4 HR4 HT4 HT5 HT6
  have HT1 := GT1
  clear GT1
  have HT2 := GT2
  clear GT2
  have HC3 := GC3
  clear GC3
  have HR3 := GR3
  clear GR3
  have HT3 := GT3
  clear GT3
  have HC4 := GC4
  clear GC4
  have HR4 := GR4
  clear GR4
  have HT4 := GT4
  clear GT4
  have HT5 := GT5
  clear GT5
  have HT6 := GT6
  clear GT6
  have HB := GB
  clear GB
  have aT1 := (HT1.out).cell 2
  have bT1 := (HT1.out).cell 3
  have aT2 := (HT2.out).cell 2
  have bT2 := (HT2.out).cell 3
  have aT3 := (HT3.out).cell 2
  have bT3 := (HT3.out).cell 3
  have aT4 := (HT4.out).cell 2
  have bT4 := (HT4.out).cell 3
  have aT5 := (HT5.out).cell 2
  have bT5 := (HT5.out).cell 3
  have aT6 := (HT6.out).cell 2
  have bT6 := (HT6.out).cell 3
  have c30 := (HC3.out).cell 0
  have c40 := (HC4.out).cell 0
  have c41 := (HC4.out).cell 1
  have c42 := (HC4.out).cell 2
  have c43 := (HC4.out).cell 3
  have c44 := (HC4.out).cell 4
  simp only [List.getElem?_toArray, List.getElem?_cons_zero, List.getElem?_cons_succ] at aT1 aT2 aT3 aT4 aT5 aT6 bT1 bT2 bT3 bT4 bT5 bT6 c30 c40 c41 c42 c43 c44
  go_wp2_with fail
  go_ret
  exact ⟨rfl, HB.out⟩

end Go.Proofs.Ytphkleecodoplaa
