/-
  The walk of what 'toFound' hands back (package event): a box that is found. Conditions: those that each theorem names.
-/
import Derived.Test.YtoiegffnmjlkdaaEvOne
import Derived.Test.YtoiegffnmjlkdaaCdFind
namespace Go.Proofs.Ytoiegffnmjlkdaa
open Go.RowKit Go.Shelf

/-- What happens, in its box. -/
def EvIn (W : World) (E : Nat) (e : Ev) : Prop := Whole W E 26 #[.int .u8 e.kind, .int .i64 e.a, .int .i64 e.b]
theorem EvIn.under {W W' : World} {E : Nat} {e : Ev} (h : EvIn W E e) (hb : Below W.heap.size W W') : EvIn W' E e := Whole.under h hb
theorem EvIn.cells {W : World} {E : Nat} {e : Ev} (h : EvIn W E e) : W.cell? ⟨E, 0, none⟩ = some (.int .u8 e.kind) ∧ W.cell? ⟨E, 1, none⟩ = some (.int .i64 e.a) ∧ W.cell? ⟨E, 2, none⟩ = some (.int .i64 e.b) :=
  ⟨Whole.cell h 0, Whole.cell h 1, Whole.cell h 2⟩

section
variable {base Cb g j n c P f : Nat} {A : Option Addr} {lb : Array Value} {x : Cw} {e : Ev} {y y' : Bx} {W0 : World}

set_option maxRecDepth 100000 in
set_option maxHeartbeats 2000000 in
theorem evFound_none
    (h : Clu W0 base Cb A n c x) (hn : n ≤ 1000) (hf0 : find x.l e.a = none) :
    Calls Try.prog 39 #[.pointer (some ⟨Cb, 0, none⟩), .agg #[.int .u8 e.kind, .int .i64 e.a, .int .i64 e.b], .pointer (some ⟨P, 0, none⟩)] W0 (HapPost base Cb x W0) := by
  have hV0 : Below W0.heap.size W0 (W0.alloc (.cells #[.int .u8 e.kind, .int .i64 e.a, .int .i64 e.b] 26)) := (Below.refl _ _).alloc (Nat.le_refl _) _
  obtain ⟨V, hV⟩ : ∃ V, W0.alloc (.cells #[.int .u8 e.kind, .int .i64 e.a, .int .i64 e.b] 26) = V := ⟨_, rfl⟩
  have hA : EvIn V W0.heap.size e := by rw [← hV]; exact Whole.new _ _ _
  rw [hV] at hV0
  have H0 := Lib.hid (h.under hV0)
  have HA := Lib.hid hA
  have HV := Lib.hid hV0
  have HB0 := Lib.hid h.le
  have HFi := Lib.hid (fun W (hW : Below V.heap.size V W) => find_any A n c x e.a W.heap.size W ((h.under hV0).under hW).rd (Nat.le_refl _) hn)
  rw [hf0] at HFi
  clear h hf0 hA hV0
  go_enter Try.func39, Try.ntmps39
  go_wp2_with fail
  clear hV
  have HC := Lib.hid ((Below.refl V.heap.size V).drew)
  have HL := Lib.hid (fun W (hW : Below V.heap.size V W) => And.intro (H0.out.under hW).cells (HA.out.under hW).cells)
  refine wp_region_held_drew (S := fun W => Below V.heap.size V W) (by kernel_rfl) HC.out (fun _ => ?_)
  refine takeH (i := 0) (v := ?_) rfl (by kernel_rfl) (by kernel_rfl) (by kernel_rfl) (fun _ _ _ h => h) (by rfl) ?_ HC.out ?_
  rotate_left
  · intro W hW; obtain ⟨⟨d0, d1, d2, d3, d4⟩, e0, e1, e2⟩ := HL.out W hW; go_simp <;> with_reducible rfl
  simp only [Act.put, List.setIfInBounds_toArray, List.set_cons_zero, List.set_cons_succ]
  refine takeH (i := 1) (v := ?_) rfl (by kernel_rfl) (by kernel_rfl) (by kernel_rfl) (fun _ _ _ h => h) (by rfl) ?_ HC.out ?_
  rotate_left
  · intro W hW; obtain ⟨⟨d0, d1, d2, d3, d4⟩, e0, e1, e2⟩ := HL.out W hW; go_simp <;> with_reducible rfl
  simp only [Act.put, List.setIfInBounds_toArray, List.set_cons_zero, List.set_cons_succ]
  refine takeH (i := 2) (v := ?_) rfl (by kernel_rfl) (by kernel_rfl) (by kernel_rfl) (fun _ _ _ h => h) (by rfl) ?_ HC.out ?_
  rotate_left
  · intro W hW; obtain ⟨⟨d0, d1, d2, d3, d4⟩, e0, e1, e2⟩ := HL.out W hW; go_simp <;> with_reducible rfl
  simp only [Act.put, List.setIfInBounds_toArray, List.set_cons_zero, List.set_cons_succ]
  refine takeH (i := 3) (v := ?_) rfl (by kernel_rfl) (by kernel_rfl) (by kernel_rfl) (fun _ _ _ h => h) (by rfl) ?_ HC.out ?_
  rotate_left
  · intro W hW; obtain ⟨⟨d0, d1, d2, d3, d4⟩, e0, e1, e2⟩ := HL.out W hW; go_simp <;> with_reducible rfl
  simp only [Act.put, List.setIfInBounds_toArray, List.set_cons_zero, List.set_cons_succ]
  refine takeH (i := 4) (v := ?_) rfl (by kernel_rfl) (by kernel_rfl) (by kernel_rfl) (fun _ _ _ h => h) (by rfl) ?_ HC.out ?_
  rotate_left
  · intro W hW; obtain ⟨⟨d0, d1, d2, d3, d4⟩, e0, e1, e2⟩ := HL.out W hW; go_simp <;> with_reducible rfl
  simp only [Act.put, List.setIfInBounds_toArray, List.set_cons_zero, List.set_cons_succ]
  refine oneH (i := 5) rfl (by kernel_rfl) (by rfl) (fun K hK => ?_)
  go_simp
  go_at_call 40
  refine (HFi.out _ HC.out).mono ?_
  rintro e y1 ⟨rfl, b9⟩
  have HC2 := Lib.hid (HC.out.trans (b9.mono HC.out.size))
  clear HC b9
  have HC := HC2
  clear HC2
  refine hK.out _ _ HC.out (fun _ => ?_)
  clear hK K
  refine takeH (i := 6) (v := ?_) rfl (by kernel_rfl) (by kernel_rfl) (by kernel_rfl) (fun _ _ _ h => h) (by rfl) ?_ HC.out ?_
  rotate_left
  · intro W hW; obtain ⟨⟨d0, d1, d2, d3, d4⟩, e0, e1, e2⟩ := HL.out W hW; go_simp <;> with_reducible rfl
  simp only [Act.put, List.setIfInBounds_toArray, List.set_cons_zero, List.set_cons_succ]
  refine wpAnyH_done (by kernel_rfl) ?_ _
  have H1 := Lib.hid (H0.out.under HC.out)
  have B1 := Lib.hid ((HV.out.mono HB0.out).trans (HC.out.mono (Nat.le_trans HB0.out HV.out.size)))
  clear HL HC HFi
  unfold placeI
  go_wp2_with fail
  go_end0
  exact ⟨⟨_, rfl⟩, ⟨_, _, _, H1.out⟩, Below.but B1.out⟩

set_option maxRecDepth 100000 in
set_option maxHeartbeats 2000000 in
theorem evFound_some
    (h : Clu W0 base Cb (some ⟨g, 0, none⟩) n c x) (hn : n ≤ 1000) (hf0 : find x.l e.a = some j) (hx : x.l[j]? = some y)
    (hP : W0.cell? ⟨P, 0, none⟩ = some (.func (.func f) #[] lb)) (hPb : P < base) (hf : ∀ args w, (callFunc f args).run Try.prog w = .ok (.enter f args) w)
    (hin : ∀ W, Below W0.heap.size W0 W → Calls Try.prog f (#[.pointer (some ⟨g, j * 11, none⟩)] ++ lb) W (BoxPost base Cb g n c x j y' W)) :
    Calls Try.prog 39 #[.pointer (some ⟨Cb, 0, none⟩), .agg #[.int .u8 e.kind, .int .i64 e.a, .int .i64 e.b], .pointer (some ⟨P, 0, none⟩)] W0 (HapPost base Cb { x with l := x.l.set j y' } W0) := by
  have hV0 : Below W0.heap.size W0 (W0.alloc (.cells #[.int .u8 e.kind, .int .i64 e.a, .int .i64 e.b] 26)) := (Below.refl _ _).alloc (Nat.le_refl _) _
  obtain ⟨V, hV⟩ : ∃ V, W0.alloc (.cells #[.int .u8 e.kind, .int .i64 e.a, .int .i64 e.b] 26) = V := ⟨_, rfl⟩
  have hA : EvIn V W0.heap.size e := by rw [← hV]; exact Whole.new _ _ _
  rw [hV] at hV0
  have H0 := Lib.hid (h.under hV0)
  have HA := Lib.hid hA
  have HV := Lib.hid hV0
  have HB0 := Lib.hid h.le
  have HFi := Lib.hid (fun W (hW : Below V.heap.size V W) => find_any (some ⟨g, 0, none⟩) n c x e.a W.heap.size W ((h.under hV0).under hW).rd (Nat.le_refl _) hn)
  rw [hf0] at HFi
  have hjn : j < n := by have h1 := (List.getElem?_eq_some_iff.1 hx).1; have := h.len; omega
  have hji : (j : Int) < (n : Int) := by omega
  have hj0 : decide ((j : Int) < 0) = false := decide_eq_false (by omega)
  have HP := Lib.hid (fun W (hW : Below V.heap.size V W) => cell_below (cell_below hP hV0) hW)
  have HIn := Lib.hid (fun W (hW : Below V.heap.size V W) => hin W (hV0.trans (hW.mono hV0.size)))
  have HBg : Hid (base ≤ g) := Lib.hid ((h.form hx).elim fun g' e => by have h1 := e.1; injection h1 with h1; injection h1 with h1; rw [h1]; exact e.2.1)
  clear h hf0 hx hP hin hA hV0
  go_enter Try.func39, Try.ntmps39
  go_wp2_with fail
  clear hV
  have HC := Lib.hid ((Below.refl V.heap.size V).drew)
  have HL := Lib.hid (fun W (hW : Below V.heap.size V W) => And.intro (H0.out.under hW).cells (HA.out.under hW).cells)
  refine wp_region_held_drew (S := fun W => Below V.heap.size V W) (by kernel_rfl) HC.out (fun _ => ?_)
  refine takeH (i := 0) (v := ?_) rfl (by kernel_rfl) (by kernel_rfl) (by kernel_rfl) (fun _ _ _ h => h) (by rfl) ?_ HC.out ?_
  rotate_left
  · intro W hW; obtain ⟨⟨d0, d1, d2, d3, d4⟩, e0, e1, e2⟩ := HL.out W hW; go_simp <;> with_reducible rfl
  simp only [Act.put, List.setIfInBounds_toArray, List.set_cons_zero, List.set_cons_succ]
  refine takeH (i := 1) (v := ?_) rfl (by kernel_rfl) (by kernel_rfl) (by kernel_rfl) (fun _ _ _ h => h) (by rfl) ?_ HC.out ?_
  rotate_left
  · intro W hW; obtain ⟨⟨d0, d1, d2, d3, d4⟩, e0, e1, e2⟩ := HL.out W hW; go_simp <;> with_reducible rfl
  simp only [Act.put, List.setIfInBounds_toArray, List.set_cons_zero, List.set_cons_succ]
  refine takeH (i := 2) (v := ?_) rfl (by kernel_rfl) (by kernel_rfl) (by kernel_rfl) (fun _ _ _ h => h) (by rfl) ?_ HC.out ?_
  rotate_left
  · intro W hW; obtain ⟨⟨d0, d1, d2, d3, d4⟩, e0, e1, e2⟩ := HL.out W hW; go_simp <;> with_reducible rfl
  simp only [Act.put, List.setIfInBounds_toArray, List.set_cons_zero, List.set_cons_succ]
  refine takeH (i := 3) (v := ?_) rfl (by kernel_rfl) (by kernel_rfl) (by kernel_rfl) (fun _ _ _ h => h) (by rfl) ?_ HC.out ?_
  rotate_left
  · intro W hW; obtain ⟨⟨d0, d1, d2, d3, d4⟩, e0, e1, e2⟩ := HL.out W hW; go_simp <;> with_reducible rfl
  simp only [Act.put, List.setIfInBounds_toArray, List.set_cons_zero, List.set_cons_succ]
  refine takeH (i := 4) (v := ?_) rfl (by kernel_rfl) (by kernel_rfl) (by kernel_rfl) (fun _ _ _ h => h) (by rfl) ?_ HC.out ?_
  rotate_left
  · intro W hW; obtain ⟨⟨d0, d1, d2, d3, d4⟩, e0, e1, e2⟩ := HL.out W hW; go_simp <;> with_reducible rfl
  simp only [Act.put, List.setIfInBounds_toArray, List.set_cons_zero, List.set_cons_succ]
  refine oneH (i := 5) rfl (by kernel_rfl) (by rfl) (fun K hK => ?_)
  go_simp
  go_at_call 40
  refine (HFi.out _ HC.out).mono ?_
  rintro e y1 ⟨rfl, b9⟩
  have HC2 := Lib.hid (HC.out.trans (b9.mono HC.out.size))
  clear HC b9
  have HC := HC2
  clear HC2
  refine hK.out _ _ HC.out (fun _ => ?_)
  clear hK K
  refine takeH (i := 6) (v := ?_) rfl (by kernel_rfl) (by kernel_rfl) (by kernel_rfl) (fun _ _ _ h => h) (by rfl) ?_ HC.out ?_
  rotate_left
  · intro W hW; obtain ⟨⟨d0, d1, d2, d3, d4⟩, e0, e1, e2⟩ := HL.out W hW; go_simp <;> with_reducible rfl
  simp only [Act.put, List.setIfInBounds_toArray, List.set_cons_zero, List.set_cons_succ]
  refine wpAnyH_done (by kernel_rfl) ?_ _
  have hb1 := HC.out
  obtain ⟨Z, hZ⟩ : ∃ Z, y1 = Z := ⟨_, rfl⟩
  subst hZ
  have H2 := Lib.hid (H0.out.under HC.out)
  have BZ := Lib.hid HC.out
  have B1 := Lib.hid ((HV.out.mono HB0.out).trans (HC.out.mono (Nat.le_trans HB0.out HV.out.size)))
  clear HL HC HFi hb1
  unfold placeI
  go_wp2_with fail
  have HC := Lib.hid (show (y1.drew.cell? ⟨P, 0, none⟩ = some (.func (.func f) #[] lb) ∧ y1.drew.cell? ⟨Cb, 0, none⟩ = some (.slice (some ⟨g, 0, none⟩) n c)) from ⟨HP.out _ (BZ.out.trans (Below.refl _ _).drew), H2.out.cells.1⟩)
  refine wp_region_held_drew (S := fun W => W.cell? ⟨P, 0, none⟩ = some (.func (.func f) #[] lb) ∧ W.cell? ⟨Cb, 0, none⟩ = some (.slice (some ⟨g, 0, none⟩) n c)) (by kernel_rfl) HC.out (fun _ => ?_)
  refine takeH (i := 0) (v := ?_) rfl (by kernel_rfl) (by kernel_rfl) (by kernel_rfl) (fun _ _ _ h => h) (by rfl) ?_ HC.out ?_
  rotate_left
  · rintro W ⟨p0, d0⟩; go_simp <;> with_reducible rfl
  simp only [Act.put, List.setIfInBounds_toArray, List.set_cons_zero, List.set_cons_succ]
  refine takeH (i := 1) (v := ?_) rfl (by kernel_rfl) (by kernel_rfl) (by kernel_rfl) (fun _ _ _ h => h) (by rfl) ?_ HC.out ?_
  rotate_left
  · rintro W ⟨p0, d0⟩; go_simp <;> with_reducible rfl
  simp only [Act.put, List.setIfInBounds_toArray, List.set_cons_zero, List.set_cons_succ]
  refine takeH (i := 2) (v := ?_) rfl (by kernel_rfl) (by kernel_rfl) (by kernel_rfl) (fun _ _ _ h => h) (by rfl) ?_ HC.out ?_
  rotate_left
  · rintro W ⟨p0, d0⟩; go_simp <;> with_reducible rfl
  simp only [Act.put, List.setIfInBounds_toArray, List.set_cons_zero, List.set_cons_succ]
  refine takeH (i := 3) (v := ?_) rfl (by kernel_rfl) (by kernel_rfl) (by kernel_rfl) (fun _ _ _ h => h) (by rfl) ?_ HC.out ?_
  rotate_left
  · rintro W ⟨p0, d0⟩; go_simp <;> with_reducible rfl
  simp only [Act.put, List.setIfInBounds_toArray, List.set_cons_zero, List.set_cons_succ]
  refine takeH (i := 4) (v := ?_) rfl (by kernel_rfl) (by kernel_rfl) (by kernel_rfl) (fun _ _ _ h => h) (by rfl) ?_ HC.out ?_
  rotate_left
  · rintro W ⟨p0, d0⟩; go_simp <;> with_reducible rfl
  simp only [Act.put, List.setIfInBounds_toArray, List.set_cons_zero, List.set_cons_succ]
  refine takeH (i := 5) (v := ?_) rfl (by kernel_rfl) (by kernel_rfl) (by kernel_rfl) (fun _ _ _ h => h) (by rfl) ?_ HC.out ?_
  rotate_left
  · rintro W ⟨p0, d0⟩; go_simp <;> with_reducible rfl
  simp only [Act.put, List.setIfInBounds_toArray, List.set_cons_zero, List.set_cons_succ]
  refine takeH (i := 6) (v := ?_) rfl (by kernel_rfl) (by kernel_rfl) (by kernel_rfl) (fun _ _ _ h => h) (by rfl) ?_ HC.out ?_
  rotate_left
  · rintro W ⟨p0, d0⟩; go_simp <;> with_reducible rfl
  simp only [Act.put, List.setIfInBounds_toArray, List.set_cons_zero, List.set_cons_succ]
  refine oneH (i := 7) rfl (by kernel_rfl) (by rfl) (fun K hK => ?_)
  go_simp
  refine (HIn.out _ (BZ.out.trans (Below.refl _ _).drew)).mono ?_
  rintro e w3 ⟨⟨v, rfl⟩, h3, g3⟩
  have HS3 := Lib.hid (show (w3.cell? ⟨P, 0, none⟩ = some (.func (.func f) #[] lb) ∧ w3.cell? ⟨Cb, 0, none⟩ = some (.slice (some ⟨g, 0, none⟩) n c)) from ⟨(World.cell?_of_block (a := ⟨P, 0, none⟩) (g3.block P (World.block_lt_of_cell? _ _ HC.out.1) (fun e => by have := HBg.out; injection e with e; omega))).trans HC.out.1, h3.cells.1⟩)
  have H3 := Lib.hid h3
  have G3 : Hid (BelowBut base Cb W0 w3) := Lib.hid ((Below.but B1.out).trans (BelowBut.grown (Below.but (Below.refl base y1).drew) g3 HBg.out (Nat.le_trans HB0.out (Nat.le_trans HV.out.size BZ.out.size))))
  clear h3 g3
  refine hK.out _ _ HS3.out (fun _ => ?_)
  clear hK K
  refine wpAnyH_done (by kernel_rfl) ?_ _
  go_wp2_with fail
  go_end0
  exact ⟨⟨_, rfl⟩, ⟨_, _, _, H3.out⟩, G3.out⟩
end

set_option maxHeartbeats 1000000 in
theorem evFound_any {base Cb n c P f : Nat} {A : Option Addr} {lb : Array Value} {x : Cw} {e : Ev} {W0 : World} (ty : Bx → Bx) (h : Clu W0 base Cb A n c x) (hn : n ≤ 1000)
    (hP : W0.cell? ⟨P, 0, none⟩ = some (.func (.func f) #[] lb)) (hPb : P < base) (hf : ∀ args w, (callFunc f args).run Try.prog w = .ok (.enter f args) w)
    (hin : ∀ (g j : Nat) (y : Bx) (W : World), Clu W base Cb (some ⟨g, 0, none⟩) n c x → x.l[j]? = some y → Calls Try.prog f (#[.pointer (some ⟨g, j * 11, none⟩)] ++ lb) W (BoxPost base Cb g n c x j (ty y) W)) :
    Calls Try.prog 39 #[.pointer (some ⟨Cb, 0, none⟩), .agg #[.int .u8 e.kind, .int .i64 e.a, .int .i64 e.b], .pointer (some ⟨P, 0, none⟩)] W0 (HapPost base Cb { x with l := atB x.l e.a ty } W0) := by
  rcases atB_cases x.l e.a ty with ⟨h1, h2⟩ | ⟨j, y, h1, hy, _, _, h2⟩
  · rw [h2]; exact evFound_none h hn h1
  · rw [h2]
    obtain ⟨g, rfl, _, _⟩ := h.form hy
    exact evFound_some h hn h1 hy hP hPb hf fun W hW => hin g j y W (h.under hW) hy

end Go.Proofs.Ytoiegffnmjlkdaa
