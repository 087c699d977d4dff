/-
  The walk of 'stray' of package event. Conditions: those that each theorem names.
-/
import Derived.Test.YtoiegffnmjlkdaaEvFound
namespace Go.Proofs.Ytoiegffnmjlkdaa
open Go.RowKit Go.Shelf

theorem strayC_no {x : Cw} {ver : Int} {t : Bool} (h : ¬ (x.l.length < 60 ∧ isNum ver = true)) : strayC x ver t = x := by
  unfold strayC
  rw [if_neg]
  simpa using h
theorem strayC_yes {x : Cw} {ver : Int} {t : Bool} (h : x.l.length < 60) (h1 : isNum ver = true) : strayC x ver t = { x with l := x.l ++ [strayB ((x.l.length : Int) + 1) ver t] } := by
  unfold strayC
  rw [if_pos (by simp [h, h1])]

section
variable {base Cb g j n c : Nat} {A : Option Addr} {x : Cw} {e : Ev} {W0 : World}

set_option maxRecDepth 100000 in
set_option maxHeartbeats 2000000 in
theorem stray_full
    (h : Clu W0 base Cb A n c x) (hn : 60 ≤ n) :
    Calls Try.prog 32 #[.pointer (some ⟨Cb, 0, none⟩), .agg #[.int .u8 e.kind, .int .i64 e.a, .int .i64 e.b]] W0 (HapPost base Cb x W0) := by
  have hV0 : Below W0.heap.size W0 (W0.alloc (.cells #[.int .u8 e.kind, .int .i64 e.a, .int .i64 e.b] 26)) := (Below.refl _ _).alloc (Nat.le_refl _) _
  obtain ⟨V, hV⟩ : ∃ V, W0.alloc (.cells #[.int .u8 e.kind, .int .i64 e.a, .int .i64 e.b] 26) = V := ⟨_, rfl⟩
  have hA : EvIn V W0.heap.size e := by rw [← hV]; exact Whole.new _ _ _
  rw [hV] at hV0
  have H0 := Lib.hid (h.under hV0)
  have HA := Lib.hid hA
  have B0 : Hid (Below base W0 V) := Lib.hid (hV0.mono h.le)
  have HLt := Lib.hid (h.row.lt)
  have HLe0 := Lib.hid h.le
  obtain ⟨d0, d1, d2, d3, d4⟩ := H0.out.cells
  obtain ⟨e0, e1, e2⟩ := HA.out.cells
  have HN := Lib.hid (fun w => evNumber_any e.a w)
  have hlt : decide ((n : Int) < 60) = false := decide_eq_false (by omega)
  clear h hA hV0 hn
  go_enter Try.func32, Try.ntmps32
  go_wp2_with fail
  go_end0
  exact ⟨⟨_, rfl⟩, ⟨_, _, _, H0.out⟩, Below.but B0.out⟩

set_option maxRecDepth 100000 in
set_option maxHeartbeats 2000000 in
theorem stray_num
    (h : Clu W0 base Cb A n c x) (hn : n < 60) (h1 : isNum e.a = false) :
    Calls Try.prog 32 #[.pointer (some ⟨Cb, 0, none⟩), .agg #[.int .u8 e.kind, .int .i64 e.a, .int .i64 e.b]] W0 (HapPost base Cb x W0) := by
  have hV0 : Below W0.heap.size W0 (W0.alloc (.cells #[.int .u8 e.kind, .int .i64 e.a, .int .i64 e.b] 26)) := (Below.refl _ _).alloc (Nat.le_refl _) _
  obtain ⟨V, hV⟩ : ∃ V, W0.alloc (.cells #[.int .u8 e.kind, .int .i64 e.a, .int .i64 e.b] 26) = V := ⟨_, rfl⟩
  have hA : EvIn V W0.heap.size e := by rw [← hV]; exact Whole.new _ _ _
  rw [hV] at hV0
  have H0 := Lib.hid (h.under hV0)
  have HA := Lib.hid hA
  have B0 : Hid (Below base W0 V) := Lib.hid (hV0.mono h.le)
  have HLt := Lib.hid (h.row.lt)
  have HLe0 := Lib.hid h.le
  obtain ⟨d0, d1, d2, d3, d4⟩ := H0.out.cells
  obtain ⟨e0, e1, e2⟩ := HA.out.cells
  have HN := Lib.hid (fun w => evNumber_any e.a w)
  have hlt : decide ((n : Int) < 60) = true := decide_eq_true (by omega)
  rw [h1] at HN
  clear h hA hV0 hn h1
  go_enter Try.func32, Try.ntmps32
  go_wp2_with fail
  refine (HN.out _).mono ?_; rintro e w2 ⟨rfl, rfl⟩
  go_wp2_with fail
  go_end0
  exact ⟨⟨_, rfl⟩, ⟨_, _, _, H0.out⟩, Below.but B0.out⟩

set_option maxRecDepth 100000 in
set_option maxHeartbeats 2000000 in
theorem stray_made
    (h : Clu W0 base Cb A n c x) (hn : n < 60) (h1 : isNum e.a = true) :
    Calls Try.prog 32 #[.pointer (some ⟨Cb, 0, none⟩), .agg #[.int .u8 e.kind, .int .i64 e.a, .int .i64 e.b]] W0 (HapPost base Cb { x with l := x.l ++ [strayB ((x.l.length : Int) + 1) e.a (e.b != 0)] } W0) := by
  have hV0 : Below W0.heap.size W0 (W0.alloc (.cells #[.int .u8 e.kind, .int .i64 e.a, .int .i64 e.b] 26)) := (Below.refl _ _).alloc (Nat.le_refl _) _
  obtain ⟨V, hV⟩ : ∃ V, W0.alloc (.cells #[.int .u8 e.kind, .int .i64 e.a, .int .i64 e.b] 26) = V := ⟨_, rfl⟩
  have hA : EvIn V W0.heap.size e := by rw [← hV]; exact Whole.new _ _ _
  rw [hV] at hV0
  have H0 := Lib.hid (h.under hV0)
  have HA := Lib.hid hA
  have B0 : Hid (Below base W0 V) := Lib.hid (hV0.mono h.le)
  have HLt := Lib.hid (h.row.lt)
  have HLe0 := Lib.hid h.le
  obtain ⟨d0, d1, d2, d3, d4⟩ := H0.out.cells
  obtain ⟨e0, e1, e2⟩ := HA.out.cells
  have HN := Lib.hid (fun w => evNumber_any e.a w)
  have hlt : decide ((n : Int) < 60) = true := decide_eq_true (by omega)
  rw [h1] at HN
  rw [h.len]
  have ew : IntKind.i64.wrap ((n : Int) + 1) = (n : Int) + 1 := IntWalk.i64_in _ ⟨by omega, by omega⟩
  obtain ⟨T, hT⟩ : ∃ T, (e.b != 0) = T := ⟨_, rfl⟩
  rw [hT]
  have hLit : RdX (V.alloc (.cells #[.int .i64 ((n : Int) + 1), .int .i64 0, .int .i64 e.a, .int .i64 0, .bool T, .bool true, .bool false, .bool true, .int .u8 0, .int .i64 0, .int .i64 0] 36)) (V.heap.size + 1) (some ⟨V.heap.size, 0, none⟩) 1 [strayB ((n : Int) + 1) e.a T] := rdX_one V (strayB ((n : Int) + 1) e.a T) _ rfl
  have hbl : Below V.heap.size V (V.alloc (.cells #[.int .i64 ((n : Int) + 1), .int .i64 0, .int .i64 e.a, .int .i64 0, .bool T, .bool true, .bool false, .bool true, .int .u8 0, .int .i64 0, .int .i64 0] 36)) := (Below.refl _ _).alloc (Nat.le_refl _) _
  obtain ⟨Z, hZ⟩ : ∃ Z, (V.drew).alloc (.cells #[.int .i64 ((n : Int) + 1), .int .i64 0, .int .i64 e.a, .int .i64 0, .bool T, .bool true, .bool false, .bool true, .int .u8 0, .int .i64 0, .int .i64 0] 36) = Z := ⟨_, rfl⟩
  have hLit' : RdX Z (V.heap.size + 1) (some ⟨V.heap.size, 0, none⟩) 1 [strayB ((n : Int) + 1) e.a T] := by rw [← hZ]; exact rdX_one V.drew (strayB ((n : Int) + 1) e.a T) _ rfl
  have hbl' : Below V.heap.size V Z := by rw [← hZ]; exact ((Below.refl V.heap.size V).drew).alloc (Nat.le_refl _) _
  clear hLit hbl
  have h3 := H0.out.under hbl'
  have a4 := HA.out.under hbl'
  obtain ⟨v1, W1, r1, o1, g1⟩ := run_appX Z base (.slice A n c) n (flat x.l) h3.row (V.heap.size + 1) (some ⟨V.heap.size, 0, none⟩) 1 1 [strayB ((n : Int) + 1) e.a T] hLit' (by omega) (by omega) h3.le
  rw [← flat_append] at o1
  obtain ⟨A5, c5, rfl⟩ := own_formX o1
  have d5 := h3.box.cell 0
  have hne : some Cb ≠ (Value.slice A n c).ownBlock := fun e => by have h9 := (h3.row.lt _ e.symm).1; have := h3.lt; omega
  have hbx := h3.box.grown g1 hne
  have hc0 := hbx.cell 0
  have hf0 := hbx.frozen 0
  simp only [List.getElem?_toArray, List.getElem?_cons_zero] at hc0 d5
  have hEne : some W0.heap.size ≠ (Value.slice A n c).ownBlock := fun e => by have h9 := (HLt.out _ e.symm).2; omega
  have A4 := Lib.hid a4
  have A5' := Lib.hid (show EvIn W1 W0.heap.size e from Whole.grown A4.out g1 hEne)
  have H6 := Lib.hid (show Clu (W1.setCell ⟨Cb, 0, none⟩ (.slice A5 (n + 1) c5)) base Cb A5 (n + 1) c5 { x with l := x.l ++ [strayB ((n : Int) + 1) e.a T] } from ⟨hbx.set 0 _, own_set (b := Cb) o1 h3.lt _, h3.lt, Nat.le_trans h3.le (Nat.le_trans g1.size ((Below.refl 0 W1).setCell (p := ⟨Cb, 0, none⟩) (Nat.zero_le _) (.slice A5 (n + 1) c5)).size)⟩)
  have A6 := Lib.hid (show EvIn (W1.setCell ⟨Cb, 0, none⟩ (.slice A5 (n + 1) c5)) W0.heap.size e from Whole.far A5'.out (p := ⟨Cb, 0, none⟩) (by show W0.heap.size ≠ Cb; have := H0.out.lt; have := HLe0.out; omega) _)
  have B6 := Lib.hid (but_store (b := Cb) ((B0.out.trans (hbl'.mono H0.out.le)).trans ((Below.refl base _).grown g1 h3.le (fun k e => (h3.row.lt k e).1))) (.slice A5 (n + 1) c5))
  have R1 := Lib.hid r1
  clear h hA hV0 hn h1 r1 o1 g1 h3 a4 hne hbx hEne hLit' hbl'
  go_enter Try.func32, Try.ntmps32
  go_wp2_with fail
  refine (HN.out _).mono ?_; rintro e w2 ⟨rfl, rfl⟩
  go_wp2_with fail
  clear hV
  have HL := Lib.hid (fun W (hW : EvIn W W0.heap.size e) => hW.cells)
  have HC := Lib.hid (show EvIn V.drew W0.heap.size e from HA.out)
  have d0' : V.drew.cell? ⟨Cb, 0, none⟩ = some (.slice A n c) := d0
  clear d0 d1 d2 d3 d4 e0 e1 e2
  refine wp_region_held_drew (S := fun W => EvIn W W0.heap.size e) (by kernel_rfl) HC.out (fun _ => ?_)
  refine takeH (i := 0) (v := ?_) rfl (by kernel_rfl) (by kernel_rfl) (by kernel_rfl) (fun _ _ _ h => h) (by rfl) ?_ HC.out ?_
  rotate_left
  · intro W hW; obtain ⟨e0, e1, e2⟩ := HL.out W hW; go_simp <;> with_reducible rfl
  simp only [Act.put, List.setIfInBounds_toArray, List.set_cons_zero, List.set_cons_succ]
  refine takeH (i := 1) (v := ?_) rfl (by kernel_rfl) (by kernel_rfl) (by kernel_rfl) (fun _ _ _ h => h) (by rfl) ?_ HC.out ?_
  rotate_left
  · intro W hW; obtain ⟨e0, e1, e2⟩ := HL.out W hW; go_simp <;> with_reducible rfl
  simp only [Act.put, List.setIfInBounds_toArray, List.set_cons_zero, List.set_cons_succ]
  refine takeH (i := 2) (v := ?_) rfl (by kernel_rfl) (by kernel_rfl) (by kernel_rfl) (fun _ _ _ h => h) (by rfl) ?_ HC.out ?_
  rotate_left
  · intro W hW; obtain ⟨e0, e1, e2⟩ := HL.out W hW; go_simp <;> with_reducible rfl
  simp only [Act.put, List.setIfInBounds_toArray, List.set_cons_zero, List.set_cons_succ]
  refine takeH (i := 3) (v := ?_) rfl (by kernel_rfl) (by kernel_rfl) (by kernel_rfl) (fun _ _ _ h => h) (by rfl) ?_ HC.out ?_
  rotate_left
  · intro W hW; obtain ⟨e0, e1, e2⟩ := HL.out W hW; go_simp <;> with_reducible rfl
  simp only [Act.put, List.setIfInBounds_toArray, List.set_cons_zero, List.set_cons_succ]
  refine takeH (i := 5) (v := ?_) rfl (by kernel_rfl) (by kernel_rfl) (by kernel_rfl) (fun _ _ _ h => h) (by rfl) ?_ HC.out ?_
  rotate_left
  · intro W hW; obtain ⟨e0, e1, e2⟩ := HL.out W hW; go_simp <;> with_reducible rfl
  simp only [Act.put, List.setIfInBounds_toArray, List.set_cons_zero, List.set_cons_succ]
  refine takeH (i := 6) (v := ?_) rfl (by kernel_rfl) (by kernel_rfl) (by kernel_rfl) (fun _ _ _ h => h) (by rfl) ?_ HC.out ?_
  rotate_left
  · intro W hW; obtain ⟨e0, e1, e2⟩ := HL.out W hW; go_simp <;> with_reducible rfl
  simp only [Act.put, List.setIfInBounds_toArray, List.set_cons_zero, List.set_cons_succ]
  refine takeH (i := 7) (v := ?_) rfl (by kernel_rfl) (by kernel_rfl) (by kernel_rfl) (fun _ _ _ h => h) (by rfl) ?_ HC.out ?_
  rotate_left
  · intro W hW; obtain ⟨e0, e1, e2⟩ := HL.out W hW; go_simp <;> with_reducible rfl
  simp only [Act.put, List.setIfInBounds_toArray, List.set_cons_zero, List.set_cons_succ]
  refine takeH (i := 11) (v := ?_) rfl (by kernel_rfl) (by kernel_rfl) (by kernel_rfl) (fun _ _ _ h => h) (by rfl) ?_ HC.out ?_
  rotate_left
  · intro W hW; obtain ⟨e0, e1, e2⟩ := HL.out W hW; go_simp <;> with_reducible rfl
  simp only [Act.put, List.setIfInBounds_toArray, List.set_cons_zero, List.set_cons_succ]
  refine takeH (i := 12) (v := ?_) rfl (by kernel_rfl) (by kernel_rfl) (by kernel_rfl) (fun _ _ _ h => h) (by rfl) ?_ HC.out ?_
  rotate_left
  · intro W hW; obtain ⟨e0, e1, e2⟩ := HL.out W hW; go_simp <;> with_reducible rfl
  simp only [Act.put, List.setIfInBounds_toArray, List.set_cons_zero, List.set_cons_succ]
  refine takeH (i := 13) (v := ?_) rfl (by kernel_rfl) (by kernel_rfl) (by kernel_rfl) (fun _ _ _ h => h) (by rfl) ?_ HC.out ?_
  rotate_left
  · intro W hW; obtain ⟨e0, e1, e2⟩ := HL.out W hW; go_simp <;> with_reducible rfl
  simp only [Act.put, List.setIfInBounds_toArray, List.set_cons_zero, List.set_cons_succ]
  refine takeH (i := 14) (v := ?_) rfl (by kernel_rfl) (by kernel_rfl) (by kernel_rfl) (fun _ _ _ h => h) (by rfl) ?_ HC.out ?_
  rotate_left
  · intro W hW; obtain ⟨e0, e1, e2⟩ := HL.out W hW; go_simp <;> with_reducible rfl
  simp only [Act.put, List.setIfInBounds_toArray, List.set_cons_zero, List.set_cons_succ]
  refine takeH (i := 15) (v := ?_) rfl (by kernel_rfl) (by kernel_rfl) (by kernel_rfl) (fun _ _ _ h => h) (by rfl) ?_ HC.out ?_
  rotate_left
  · intro W hW; obtain ⟨e0, e1, e2⟩ := HL.out W hW; go_simp <;> with_reducible rfl
  simp only [Act.put, List.setIfInBounds_toArray, List.set_cons_zero, List.set_cons_succ]
  refine twoH (i := 4) (j := 8) rfl rfl (by kernel_rfl) (by rfl) (by rfl) (fun K hK => ?_) (fun K hK => ?_)
  ·
    go_simp
    refine hK.out _ _ HC.out (fun _ => ?_)
    clear hK K
    refine oneH (i := 8) rfl (by kernel_rfl) (by rfl) (fun K hK => ?_)
    go_simp
    refine hK.out _ _ HC.out (fun _ => ?_)
    clear hK K
    refine takeH (i := 9) (v := ?_) rfl (by kernel_rfl) (by kernel_rfl) (by kernel_rfl) (fun _ _ _ h => h) (by rfl) ?_ HC.out ?_
    rotate_left
    · intro W hW; obtain ⟨e0, e1, e2⟩ := HL.out W hW; go_simp <;> with_reducible rfl
    simp only [Act.put, List.setIfInBounds_toArray, List.set_cons_zero, List.set_cons_succ]
    refine takeH (i := 10) (v := ?_) rfl (by kernel_rfl) (by kernel_rfl) (by kernel_rfl) (fun _ _ _ h => h) (by rfl) ?_ HC.out ?_
    rotate_left
    · intro W hW; obtain ⟨e0, e1, e2⟩ := HL.out W hW; go_simp <;> with_reducible rfl
    simp only [Act.put, List.setIfInBounds_toArray, List.set_cons_zero, List.set_cons_succ]
    refine takeH (i := 16) (v := ?_) rfl (by kernel_rfl) (by kernel_rfl) (by kernel_rfl) (fun _ _ _ h => h) (by rfl) ?_ HC.out ?_
    rotate_left
    · intro W hW; obtain ⟨e0, e1, e2⟩ := HL.out W hW; go_simp <;> with_reducible rfl
    simp only [Act.put, List.setIfInBounds_toArray, List.set_cons_zero, List.set_cons_succ]
    refine oneH (i := 17) rfl (by kernel_rfl) (by rfl) (fun K hK => ?_)
    go_simp
    refine hK.out _ _ A4.out (fun _ => ?_)
    clear hK K
    refine oneH (i := 18) rfl (by kernel_rfl) (by rfl) (fun K hK => ?_)
    refine wp_appendH (by rfl) (by rfl) R1.out ?_
    refine hK.out _ _ A5'.out (fun _ => ?_)
    clear hK K
    refine takeH (i := 19) (v := ?_) rfl (by kernel_rfl) (by kernel_rfl) (by kernel_rfl) (fun _ _ _ h => h) (by rfl) ?_ A5'.out ?_
    rotate_left
    · intro W hW; obtain ⟨e0, e1, e2⟩ := HL.out W hW; go_simp <;> with_reducible rfl
    simp only [Act.put, List.setIfInBounds_toArray, List.set_cons_zero, List.set_cons_succ]
    refine takeH (i := 20) (v := ?_) rfl (by kernel_rfl) (by kernel_rfl) (by kernel_rfl) (fun _ _ _ h => h) (by rfl) ?_ A5'.out ?_
    rotate_left
    · intro W hW; obtain ⟨e0, e1, e2⟩ := HL.out W hW; go_simp <;> with_reducible rfl
    simp only [Act.put, List.setIfInBounds_toArray, List.set_cons_zero, List.set_cons_succ]
    refine oneH (i := 21) rfl (by kernel_rfl) (by rfl) (fun K hK => ?_)
    go_simp
    refine hK.out _ _ A6.out (fun _ => ?_)
    clear hK K
    refine wpAnyH_done (by kernel_rfl) ?_ _
    go_wp2_with fail
    go_end0
    exact ⟨⟨_, rfl⟩, ⟨_, _, _, H6.out⟩, B6.out⟩
  ·
    go_simp
    refine hK.out _ _ HC.out (fun _ => ?_)
    clear hK K
    refine takeH (i := 9) (v := ?_) rfl (by kernel_rfl) (by kernel_rfl) (by kernel_rfl) (fun _ _ _ h => h) (by rfl) ?_ HC.out ?_
    rotate_left
    · intro W hW; obtain ⟨e0, e1, e2⟩ := HL.out W hW; go_simp <;> with_reducible rfl
    simp only [Act.put, List.setIfInBounds_toArray, List.set_cons_zero, List.set_cons_succ]
    refine takeH (i := 10) (v := ?_) rfl (by kernel_rfl) (by kernel_rfl) (by kernel_rfl) (fun _ _ _ h => h) (by rfl) ?_ HC.out ?_
    rotate_left
    · intro W hW; obtain ⟨e0, e1, e2⟩ := HL.out W hW; go_simp <;> with_reducible rfl
    simp only [Act.put, List.setIfInBounds_toArray, List.set_cons_zero, List.set_cons_succ]
    refine takeH (i := 16) (v := ?_) rfl (by kernel_rfl) (by kernel_rfl) (by kernel_rfl) (fun _ _ _ h => h) (by rfl) ?_ HC.out ?_
    rotate_left
    · intro W hW; obtain ⟨e0, e1, e2⟩ := HL.out W hW; go_simp <;> with_reducible rfl
    simp only [Act.put, List.setIfInBounds_toArray, List.set_cons_zero, List.set_cons_succ]
    refine twoH (i := 4) (j := 17) rfl rfl (by kernel_rfl) (by rfl) (by rfl) (fun K hK => ?_) (fun K hK => ?_)
    ·
      go_simp
      refine hK.out _ _ HC.out (fun _ => ?_)
      clear hK K
      refine oneH (i := 17) rfl (by kernel_rfl) (by rfl) (fun K hK => ?_)
      go_simp
      refine hK.out _ _ A4.out (fun _ => ?_)
      clear hK K
      refine oneH (i := 18) rfl (by kernel_rfl) (by rfl) (fun K hK => ?_)
      refine wp_appendH (by rfl) (by rfl) R1.out ?_
      refine hK.out _ _ A5'.out (fun _ => ?_)
      clear hK K
      refine takeH (i := 19) (v := ?_) rfl (by kernel_rfl) (by kernel_rfl) (by kernel_rfl) (fun _ _ _ h => h) (by rfl) ?_ A5'.out ?_
      rotate_left
      · intro W hW; obtain ⟨e0, e1, e2⟩ := HL.out W hW; go_simp <;> with_reducible rfl
      simp only [Act.put, List.setIfInBounds_toArray, List.set_cons_zero, List.set_cons_succ]
      refine takeH (i := 20) (v := ?_) rfl (by kernel_rfl) (by kernel_rfl) (by kernel_rfl) (fun _ _ _ h => h) (by rfl) ?_ A5'.out ?_
      rotate_left
      · intro W hW; obtain ⟨e0, e1, e2⟩ := HL.out W hW; go_simp <;> with_reducible rfl
      simp only [Act.put, List.setIfInBounds_toArray, List.set_cons_zero, List.set_cons_succ]
      refine oneH (i := 21) rfl (by kernel_rfl) (by rfl) (fun K hK => ?_)
      go_simp
      refine hK.out _ _ A6.out (fun _ => ?_)
      clear hK K
      refine wpAnyH_done (by kernel_rfl) ?_ _
      go_wp2_with fail
      go_end0
      exact ⟨⟨_, rfl⟩, ⟨_, _, _, H6.out⟩, B6.out⟩
    ·
      go_simp
      refine hK.out _ _ A4.out (fun _ => ?_)
      clear hK K
      refine oneH (i := 4) rfl (by kernel_rfl) (by rfl) (fun K hK => ?_)
      go_simp
      refine hK.out _ _ A4.out (fun _ => ?_)
      clear hK K
      refine oneH (i := 18) rfl (by kernel_rfl) (by rfl) (fun K hK => ?_)
      refine wp_appendH (by rfl) (by rfl) R1.out ?_
      refine hK.out _ _ A5'.out (fun _ => ?_)
      clear hK K
      refine takeH (i := 19) (v := ?_) rfl (by kernel_rfl) (by kernel_rfl) (by kernel_rfl) (fun _ _ _ h => h) (by rfl) ?_ A5'.out ?_
      rotate_left
      · intro W hW; obtain ⟨e0, e1, e2⟩ := HL.out W hW; go_simp <;> with_reducible rfl
      simp only [Act.put, List.setIfInBounds_toArray, List.set_cons_zero, List.set_cons_succ]
      refine takeH (i := 20) (v := ?_) rfl (by kernel_rfl) (by kernel_rfl) (by kernel_rfl) (fun _ _ _ h => h) (by rfl) ?_ A5'.out ?_
      rotate_left
      · intro W hW; obtain ⟨e0, e1, e2⟩ := HL.out W hW; go_simp <;> with_reducible rfl
      simp only [Act.put, List.setIfInBounds_toArray, List.set_cons_zero, List.set_cons_succ]
      refine oneH (i := 21) rfl (by kernel_rfl) (by rfl) (fun K hK => ?_)
      go_simp
      refine hK.out _ _ A6.out (fun _ => ?_)
      clear hK K
      refine wpAnyH_done (by kernel_rfl) ?_ _
      go_wp2_with fail
      go_end0
      exact ⟨⟨_, rfl⟩, ⟨_, _, _, H6.out⟩, B6.out⟩

theorem stray_any (h : Clu W0 base Cb A n c x) : Calls Try.prog 32 #[.pointer (some ⟨Cb, 0, none⟩), .agg #[.int .u8 e.kind, .int .i64 e.a, .int .i64 e.b]] W0 (HapPost base Cb (strayC x e.a (e.b != 0)) W0) := by
  have hl := h.len
  by_cases h0 : n < 60
  · cases h1 : isNum e.a with
    | true => rw [strayC_yes (by omega) h1]; exact stray_made h h0 h1
    | false => rw [strayC_no (by rw [h1]; simp)]; exact stray_num h h0 h1
  · rw [strayC_no (by omega)]; exact stray_full h (by omega)
end

end Go.Proofs.Ytoiegffnmjlkdaa
