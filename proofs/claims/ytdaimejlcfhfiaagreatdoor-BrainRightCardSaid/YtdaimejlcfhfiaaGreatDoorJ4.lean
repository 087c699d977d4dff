/-
  Texts that the walks of the statements over logs lean on, joined (CfRight, CfBasic, BrOwn, CfVals, IntsEqual, CfSame, RefSameC, BrRefSame). Conditions: those that each theorem names.
-/
import Derived.Test.YtdaimejlcfhfiaaGreatDoorJ0
import Derived.Test.YtdaimejlcfhfiaaGreatDoorJ2
import Derived.Test.YtdaimejlcfhfiaaGreatDoorJ3
import Derived.Laws.Rows
import Derived.Laws.Tables
import Derived.ChangeKeysEq

/-
  The walk of 'right' of package conf: which groups may be. Conditions: those that each theorem names.
-/
namespace Go.Proofs.YtdaimejlcfhfiaaGreatDoor
open Go.RowKit Go.Shelf
attribute [local go_sem] Oper.semAt_some

set_option maxRecDepth 100000 in
theorem inBox_own (x : Cf) (w : World) {W1 W2 : World} {row : Option Nat} (B : Nat) (hB : w.heap.size ≤ B) (h : InBox x w W1) (hg : W1.grownBy W2 row) (hr : ∀ r, row = some r → B ≤ r ∧ ∃ o : Obj, W1.heap[r]? = some o ∧ o.isCells = false) : InBox x w W2 :=
  ⟨h.1.turn hg (fun r e => (hr r e).2), h.2.grown hg h.2.size (fun k e => by have := (hr k e).1; omega)⟩

/-- What holds between two rounds. -/
structure RightAt (x : Cf) (w : World) (pre : List Nat) (W : World) : Prop where
  fit : ∀ k, k < pre.length → fitK x k = true
  box : InBox x w W
set_option maxRecDepth 100000 in
theorem rightAt_own (x : Cf) (w : World) (B : Nat) (hB : w.heap.size ≤ B) : OwnFrom B (RightAt x w) := by
  intro pre W1 W2 row h hg hr
  exact ⟨h.fit, inBox_own x w B hB h.box hg hr⟩
def NotRight (x : Cf) (w W : World) : Prop := may x = false ∧ Below w.heap.size w W
set_option maxRecDepth 100000 in
theorem notRight_own (x : Cf) (w : World) (B : Nat) (hB : w.heap.size ≤ B) : OwnFrom B (fun (c : Code) W => c = .goto 0 ∧ NotRight x w W) := by
  intro c W1 W2 row h hg hr
  exact ⟨h.1, h.2.1, h.2.2.grown hg h.2.2.size (fun k e => by have := (hr k e).1; omega)⟩
def RightTail (x : Cf) (w : World) (a' : Act) (W : World) : Prop :=
  ∃ (D : Nat) (u0 u1 u2 u3 u4 u5 u6 u7 u8 u9 u10 u11 u12 u13 u14 u15 u16 u17 u18 u19 u20 u21 u22 u23 u24 u25 u26 u27 u28 u29 u30 u31 u32 : Value), a' = { tmps := #[u0, u1, u2, u3, u4, u5, u6, u7, u8, u9, u10, u11, u12, u13, u14, u15, u16, u17, u18, u19, u20, u21, u22, u23, u24, u25, u26, u27, u28, u29, u30, u31, u32], defers := [{ target := .collected D, args := #[] }] } ∧ w.heap.size ≤ D ∧ W.heap[D]? = some (.deferred (some [])) ∧ NotRight x w W

set_option maxRecDepth 100000 in
set_option maxHeartbeats 2000000 in
theorem confRight_any (x : Cf) (B : Nat) (w : World) (hx : Lies x w B) (hB : B ≤ w.heap.size) (hT : Tab w) : Calls Tryz.prog 115 #[x.v] w (BoolPost (may x) w) := by
  have HX := Lib.hid (hx.more hB)
  have HT := Lib.hid hT
  clear hx hB hT
  refine (callsIn_wide (n := 6)).1 ?_
  refine callsIn_of_wp_marks Tryz.func115 rfl trivial ?_ rfl
  simp only [Tryz.ntmps115, List.size_toArray, List.length_cons, List.length_nil, Nat.reduceAdd, Nat.reduceSub, Array.replicate_succ, Array.replicate_zero, List.push_toArray, List.append_toArray, List.nil_append, List.cons_append]
  gi_wp2_with fail
  refine wpIn_wide.2 (wp_scope_fwd 0 (RightTail x w) rfl (wpIn_wide (n := 6).1 ?first) (fun a' w' hJ => wpIn_wide (n := 6).1 ?tail))
  case tail =>
    obtain ⟨D, u0, u1, u2, u3, u4, u5, u6, u7, u8, u9, u10, u11, u12, u13, u14, u15, u16, u17, u18, u19, u20, u21, u22, u23, u24, u25, u26, u27, u28, u29, u30, u31, u32, rfl, hD, hK, hno, hb⟩ := hJ
    gi_wp2_with fail
    simp only [Exit.jump]
    refine ⟨by simp, .inl ⟨_, _, rfl, run_takeDeferred hK, ?_⟩⟩
    refine ⟨.bool false, by simp [results, Tryz.results115], by rw [hno], ?_⟩
    exact hb.trans ((Below.refl _ _).grown (grownBy_putObj' w' D (.deferred none)) hb.size (fun k e => by cases e; omega))
  case first =>
    gi_wp2_with (refine ⟨trivial, ?_⟩; gi_at_call 116; refine (callsIn_wide.2 (fields_any _ _)).mono ?_; rintro e w2 ⟨rfl, rfl⟩)
    have hbox := InBox.new x w
    obtain ⟨W1, hW1⟩ : ∃ W1, w.alloc (.cells x.cells 24) = W1 := ⟨_, rfl⟩
    rw [hW1] at hbox
    have hs1 : W1.heap.size = w.heap.size + 1 := by rw [← hW1]; simp
    obtain ⟨W0, hW0⟩ : ∃ W0, W1.alloc (.cells #[.pointer (some ⟨w.heap.size, 0, none⟩)] 103) = W0 := ⟨_, rfl⟩
    have hs0 : W0.heap.size = w.heap.size + 1 + 1 := by rw [← hW0]; simp [hs1]
    have hbx : InBox x w W0 := by rw [← hW0]; exact hbox.under ((Below.refl _ _).alloc (Nat.le_refl _) _)
    have hinv : RightAt x w [] W0 := ⟨fun k hk => absurd hk (by simp), hbx⟩
    have hbn : W0.cell? ⟨w.heap.size + 1, 0, none⟩ = some (.pointer (some ⟨w.heap.size, 0, none⟩)) := by
      rw [← hW0]
      have := (Whole.new W1 103 #[.pointer (some ⟨w.heap.size, 0, none⟩)]).cell 0
      rwa [hs1] at this
    rw [hW1, hW0]
    clear hW0 hW1 hbox hs1
    refine wpIn_range_mem (by omega) (gf := 124) (lb := #[.pointer (some ⟨w.heap.size + 1, 0, none⟩)]) rfl (enters_of Tryz.func124 (by kernel_rfl) rfl) (encs := fun k : Nat => #[Value.int .i64 (k : Int), Value.pointer (some ⟨w.heap.size, k, none⟩)])
      (fields_mem 5 (w.heap.size + 1) w.heap.size W0 (by omega) hbn)
      (fun h k => kpP_t h k) (fun W l o o' _ h h1 _ => kpP_b W l o o' h h1) (Below.refl _ _) (fun _ => rfl)
      (RightAt x w) (fun c W => c = .goto 0 ∧ NotRight x w W)
      (rightAt_own _ _ _ (by omega)) (notRight_own _ _ _ (by omega)) hinv
      (fun pre k a' W => (k = pre.length ∧ k < 13) ∧ a' = { tmps := #[x.v, .pointer (some ⟨w.heap.size, 0, none⟩), .bool false, .int .i64 (k : Int), .pointer (some ⟨w.heap.size, k, none⟩), .func (.func 124) #[] #[.pointer (some ⟨w.heap.size + 1, 0, none⟩)], .int .i64 (k : Int), .pointer (some ⟨w.heap.size, k, none⟩), undef, undef, undef, undef, undef, undef, undef, undef, undef, undef, undef, undef, undef, undef, undef, undef, undef, undef, undef, undef, undef, undef, undef, undef, undef], defers := [] })
      (fun a' p X Y row hs hg hr => hs) ?assign ?body ?done ?stop
    case assign =>
      intro l pre k W K hI hOk hK
      have HOk := Lib.hid hOk
      clear hOk
      gi_wp2
      exact hK _ _ (KeepsFrom.refl _ _) kpP_refl hI ⟨HOk.out, rfl⟩
    case body =>
      rintro l pre k a' W hl hI ⟨⟨hk, hk13⟩, rfl⟩
      have hb := hI.box
      have hTW : Tab W := HT.out.under hb.2
      have HC := Lib.hid (show W.drew.cell? ⟨w.heap.size, k, none⟩ = some (.int .i64 (x.at k)) ∧ W.drew.cell? ⟨1, k * 2, none⟩ = some (.int .i64 (loB k)) ∧ W.drew.cell? ⟨1, k * 2 + 1, none⟩ = some (.int .i64 (hiB k)) from ⟨hb.1.confK hk13, hTW.2 k hk13⟩)
      have HL := Lib.hid (fun (W' : World) (h : W'.cell? ⟨w.heap.size, k, none⟩ = some (.int .i64 (x.at k)) ∧ W'.cell? ⟨1, k * 2, none⟩ = some (.int .i64 (loB k)) ∧ W'.cell? ⟨1, k * 2 + 1, none⟩ = some (.int .i64 (hiB k))) => h)
      have HI := Lib.hid hI
      have hk13i : (k : Int) < 13 := by omega
      have HNo := Lib.hid (not_inB (x := x) hk13)
      have HK := Lib.hid hk
      clear hI hb hTW hk
      by_cases h1 : x.at k < loB k
      · have hd1 : decide (x.at k < loB k) = true := decide_eq_true h1
        gi_wp2_with fail
        refine region_round_held (S := fun W' : World => W'.cell? ⟨w.heap.size, k, none⟩ = some (.int .i64 (x.at k)) ∧ W'.cell? ⟨1, k * 2, none⟩ = some (.int .i64 (loB k)) ∧ W'.cell? ⟨1, k * 2 + 1, none⟩ = some (.int .i64 (hiB k))) (by kernel_rfl) (by kernel_rfl) ?_ ?_
        · exact fun ⟨_, _, h⟩ => h
        refine takeH (i := 0) (v := ?_) rfl (by kernel_rfl) (by kernel_rfl) (by kernel_rfl) (fun _ _ _ h => by first | exact h | exact h.elim) (by rfl) ?_ HC.out ?_
        rotate_left
        · intro W' hW; obtain ⟨c0, c1, c2⟩ := HL.out W' hW; go_simp <;> with_reducible rfl
        simp only [Act.put, List.setIfInBounds_toArray, List.set_cons_zero, List.set_cons_succ]
        refine takeH (i := 1) (v := ?_) rfl (by kernel_rfl) (by kernel_rfl) (by kernel_rfl) (fun _ _ _ h => by first | exact h | exact h.elim) (by rfl) ?_ HC.out ?_
        rotate_left
        · intro W' hW; obtain ⟨c0, c1, c2⟩ := HL.out W' hW; go_simp <;> with_reducible rfl
        simp only [Act.put, List.setIfInBounds_toArray, List.set_cons_zero, List.set_cons_succ]
        refine takeH (i := 2) (v := ?_) rfl (by kernel_rfl) (by kernel_rfl) (by kernel_rfl) (fun _ _ _ h => by first | exact h | exact h.elim) (by rfl) ?_ HC.out ?_
        rotate_left
        · intro W' hW; obtain ⟨c0, c1, c2⟩ := HL.out W' hW; go_simp <;> with_reducible rfl
        simp only [Act.put, List.setIfInBounds_toArray, List.set_cons_zero, List.set_cons_succ]
        refine takeH (i := 3) (v := ?_) rfl (by kernel_rfl) (by kernel_rfl) (by kernel_rfl) (fun _ _ _ h => by first | exact h | exact h.elim) (by rfl) ?_ HC.out ?_
        rotate_left
        · intro W' hW; obtain ⟨c0, c1, c2⟩ := HL.out W' hW; go_simp <;> with_reducible rfl
        simp only [Act.put, List.setIfInBounds_toArray, List.set_cons_zero, List.set_cons_succ]
        refine takeH (i := 4) (v := ?_) rfl (by kernel_rfl) (by kernel_rfl) (by kernel_rfl) (fun _ _ _ h => by first | exact h | exact h.elim) (by rfl) ?_ HC.out ?_
        rotate_left
        · intro W' hW; obtain ⟨c0, c1, c2⟩ := HL.out W' hW; go_simp <;> with_reducible rfl
        simp only [Act.put, List.setIfInBounds_toArray, List.set_cons_zero, List.set_cons_succ]
        refine takeH (i := 5) (v := ?_) rfl (by kernel_rfl) (by kernel_rfl) (by kernel_rfl) (fun _ _ _ h => by first | exact h | exact h.elim) (by rfl) ?_ HC.out ?_
        rotate_left
        · intro W' hW; obtain ⟨c0, c1, c2⟩ := HL.out W' hW; go_simp <;> with_reducible rfl
        simp only [Act.put, List.setIfInBounds_toArray, List.set_cons_zero, List.set_cons_succ]
        refine takeH (i := 6) (v := ?_) rfl (by kernel_rfl) (by kernel_rfl) (by kernel_rfl) (fun _ _ _ h => by first | exact h | exact h.elim) (by rfl) ?_ HC.out ?_
        rotate_left
        · intro W' hW; obtain ⟨c0, c1, c2⟩ := HL.out W' hW; go_simp <;> with_reducible rfl
        simp only [Act.put, List.setIfInBounds_toArray, List.set_cons_zero, List.set_cons_succ]
        refine takeH (i := 7) (v := ?_) rfl (by kernel_rfl) (by kernel_rfl) (by kernel_rfl) (fun _ _ _ h => by first | exact h | exact h.elim) (by rfl) ?_ HC.out ?_
        rotate_left
        · intro W' hW; obtain ⟨c0, c1, c2⟩ := HL.out W' hW; go_simp <;> with_reducible rfl
        simp only [Act.put, List.setIfInBounds_toArray, List.set_cons_zero, List.set_cons_succ]
        refine takeH (i := 8) (v := ?_) rfl (by kernel_rfl) (by kernel_rfl) (by kernel_rfl) (fun _ _ _ h => by first | exact h | exact h.elim) (by rfl) ?_ HC.out ?_
        rotate_left
        · intro W' hW; obtain ⟨c0, c1, c2⟩ := HL.out W' hW; go_simp <;> with_reducible rfl
        simp only [Act.put, List.setIfInBounds_toArray, List.set_cons_zero, List.set_cons_succ]
        refine skipH (i := 9) rfl (by kernel_rfl) (by kernel_rfl) (by kernel_rfl) (fun _ _ _ h => by first | exact h | exact h.elim) (by rfl) HC.out ?_
        simp only [Act.put, List.setIfInBounds_toArray, List.set_cons_zero, List.set_cons_succ]
        refine skipH (i := 10) rfl (by kernel_rfl) (by kernel_rfl) (by kernel_rfl) (fun _ _ _ h => by first | exact h | exact h.elim) (by rfl) HC.out ?_
        simp only [Act.put, List.setIfInBounds_toArray, List.set_cons_zero, List.set_cons_succ]
        refine skipH (i := 11) rfl (by kernel_rfl) (by kernel_rfl) (by kernel_rfl) (fun _ _ _ h => by first | exact h | exact h.elim) (by rfl) HC.out ?_
        simp only [Act.put, List.setIfInBounds_toArray, List.set_cons_zero, List.set_cons_succ]
        refine skipH (i := 12) rfl (by kernel_rfl) (by kernel_rfl) (by kernel_rfl) (fun _ _ _ h => by first | exact h | exact h.elim) (by rfl) HC.out ?_
        simp only [Act.put, List.setIfInBounds_toArray, List.set_cons_zero, List.set_cons_succ]
        refine skipH (i := 13) rfl (by kernel_rfl) (by kernel_rfl) (by kernel_rfl) (fun _ _ _ h => by first | exact h | exact h.elim) (by rfl) HC.out ?_
        simp only [Act.put, List.setIfInBounds_toArray, List.set_cons_zero, List.set_cons_succ]
        refine skipH (i := 14) rfl (by kernel_rfl) (by kernel_rfl) (by kernel_rfl) (fun _ _ _ h => by first | exact h | exact h.elim) (by rfl) HC.out ?_
        simp only [Act.put, List.setIfInBounds_toArray, List.set_cons_zero, List.set_cons_succ]
        refine skipH (i := 15) rfl (by kernel_rfl) (by kernel_rfl) (by kernel_rfl) (fun _ _ _ h => by first | exact h | exact h.elim) (by rfl) HC.out ?_
        simp only [Act.put, List.setIfInBounds_toArray, List.set_cons_zero, List.set_cons_succ]
        refine skipH (i := 16) rfl (by kernel_rfl) (by kernel_rfl) (by kernel_rfl) (fun _ _ _ h => by first | exact h | exact h.elim) (by rfl) HC.out ?_
        simp only [Act.put, List.setIfInBounds_toArray, List.set_cons_zero, List.set_cons_succ]
        refine takeH (i := 17) (v := ?_) rfl (by kernel_rfl) (by kernel_rfl) (by kernel_rfl) (fun _ _ _ h => by first | exact h | exact h.elim) (by rfl) ?_ HC.out ?_
        rotate_left
        · intro W' hW; obtain ⟨c0, c1, c2⟩ := HL.out W' hW; go_simp <;> with_reducible rfl
        simp only [Act.put, List.setIfInBounds_toArray, List.set_cons_zero, List.set_cons_succ]
        refine wpAnyH_done (by kernel_rfl) ?_ _
        gi_wp2_with fail
        refine wpIn_goto ?_
        exact ⟨(KeepsOthers.drew _).from _, rfl, HNo.out (.inl h1), HI.out.box.2.drew⟩
      · have hd1 : decide (x.at k < loB k) = false := decide_eq_false h1
        by_cases h2 : hiB k < x.at k
        · have hd2 : decide (hiB k < x.at k) = true := decide_eq_true h2
          gi_wp2_with fail
          refine region_round_held (S := fun W' : World => W'.cell? ⟨w.heap.size, k, none⟩ = some (.int .i64 (x.at k)) ∧ W'.cell? ⟨1, k * 2, none⟩ = some (.int .i64 (loB k)) ∧ W'.cell? ⟨1, k * 2 + 1, none⟩ = some (.int .i64 (hiB k))) (by kernel_rfl) (by kernel_rfl) (fun ⟨_, _, h⟩ => h) ?_
          refine takeH (i := 0) (v := ?_) rfl (by kernel_rfl) (by kernel_rfl) (by kernel_rfl) (fun _ _ _ h => by first | exact h | exact h.elim) (by rfl) ?_ HC.out ?_
          rotate_left
          · intro W' hW; obtain ⟨c0, c1, c2⟩ := HL.out W' hW; go_simp <;> with_reducible rfl
          simp only [Act.put, List.setIfInBounds_toArray, List.set_cons_zero, List.set_cons_succ]
          refine takeH (i := 1) (v := ?_) rfl (by kernel_rfl) (by kernel_rfl) (by kernel_rfl) (fun _ _ _ h => by first | exact h | exact h.elim) (by rfl) ?_ HC.out ?_
          rotate_left
          · intro W' hW; obtain ⟨c0, c1, c2⟩ := HL.out W' hW; go_simp <;> with_reducible rfl
          simp only [Act.put, List.setIfInBounds_toArray, List.set_cons_zero, List.set_cons_succ]
          refine takeH (i := 2) (v := ?_) rfl (by kernel_rfl) (by kernel_rfl) (by kernel_rfl) (fun _ _ _ h => by first | exact h | exact h.elim) (by rfl) ?_ HC.out ?_
          rotate_left
          · intro W' hW; obtain ⟨c0, c1, c2⟩ := HL.out W' hW; go_simp <;> with_reducible rfl
          simp only [Act.put, List.setIfInBounds_toArray, List.set_cons_zero, List.set_cons_succ]
          refine takeH (i := 3) (v := ?_) rfl (by kernel_rfl) (by kernel_rfl) (by kernel_rfl) (fun _ _ _ h => by first | exact h | exact h.elim) (by rfl) ?_ HC.out ?_
          rotate_left
          · intro W' hW; obtain ⟨c0, c1, c2⟩ := HL.out W' hW; go_simp <;> with_reducible rfl
          simp only [Act.put, List.setIfInBounds_toArray, List.set_cons_zero, List.set_cons_succ]
          refine takeH (i := 4) (v := ?_) rfl (by kernel_rfl) (by kernel_rfl) (by kernel_rfl) (fun _ _ _ h => by first | exact h | exact h.elim) (by rfl) ?_ HC.out ?_
          rotate_left
          · intro W' hW; obtain ⟨c0, c1, c2⟩ := HL.out W' hW; go_simp <;> with_reducible rfl
          simp only [Act.put, List.setIfInBounds_toArray, List.set_cons_zero, List.set_cons_succ]
          refine takeH (i := 5) (v := ?_) rfl (by kernel_rfl) (by kernel_rfl) (by kernel_rfl) (fun _ _ _ h => by first | exact h | exact h.elim) (by rfl) ?_ HC.out ?_
          rotate_left
          · intro W' hW; obtain ⟨c0, c1, c2⟩ := HL.out W' hW; go_simp <;> with_reducible rfl
          simp only [Act.put, List.setIfInBounds_toArray, List.set_cons_zero, List.set_cons_succ]
          refine takeH (i := 6) (v := ?_) rfl (by kernel_rfl) (by kernel_rfl) (by kernel_rfl) (fun _ _ _ h => by first | exact h | exact h.elim) (by rfl) ?_ HC.out ?_
          rotate_left
          · intro W' hW; obtain ⟨c0, c1, c2⟩ := HL.out W' hW; go_simp <;> with_reducible rfl
          simp only [Act.put, List.setIfInBounds_toArray, List.set_cons_zero, List.set_cons_succ]
          refine takeH (i := 7) (v := ?_) rfl (by kernel_rfl) (by kernel_rfl) (by kernel_rfl) (fun _ _ _ h => by first | exact h | exact h.elim) (by rfl) ?_ HC.out ?_
          rotate_left
          · intro W' hW; obtain ⟨c0, c1, c2⟩ := HL.out W' hW; go_simp <;> with_reducible rfl
          simp only [Act.put, List.setIfInBounds_toArray, List.set_cons_zero, List.set_cons_succ]
          refine takeH (i := 8) (v := ?_) rfl (by kernel_rfl) (by kernel_rfl) (by kernel_rfl) (fun _ _ _ h => by first | exact h | exact h.elim) (by rfl) ?_ HC.out ?_
          rotate_left
          · intro W' hW; obtain ⟨c0, c1, c2⟩ := HL.out W' hW; go_simp <;> with_reducible rfl
          simp only [Act.put, List.setIfInBounds_toArray, List.set_cons_zero, List.set_cons_succ]
          refine takeH (i := 9) (v := ?_) rfl (by kernel_rfl) (by kernel_rfl) (by kernel_rfl) (fun _ _ _ h => by first | exact h | exact h.elim) (by rfl) ?_ HC.out ?_
          rotate_left
          · intro W' hW; obtain ⟨c0, c1, c2⟩ := HL.out W' hW; go_simp <;> with_reducible rfl
          simp only [Act.put, List.setIfInBounds_toArray, List.set_cons_zero, List.set_cons_succ]
          refine takeH (i := 10) (v := ?_) rfl (by kernel_rfl) (by kernel_rfl) (by kernel_rfl) (fun _ _ _ h => by first | exact h | exact h.elim) (by rfl) ?_ HC.out ?_
          rotate_left
          · intro W' hW; obtain ⟨c0, c1, c2⟩ := HL.out W' hW; go_simp <;> with_reducible rfl
          simp only [Act.put, List.setIfInBounds_toArray, List.set_cons_zero, List.set_cons_succ]
          refine takeH (i := 11) (v := ?_) rfl (by kernel_rfl) (by kernel_rfl) (by kernel_rfl) (fun _ _ _ h => by first | exact h | exact h.elim) (by rfl) ?_ HC.out ?_
          rotate_left
          · intro W' hW; obtain ⟨c0, c1, c2⟩ := HL.out W' hW; go_simp <;> with_reducible rfl
          simp only [Act.put, List.setIfInBounds_toArray, List.set_cons_zero, List.set_cons_succ]
          refine takeH (i := 12) (v := ?_) rfl (by kernel_rfl) (by kernel_rfl) (by kernel_rfl) (fun _ _ _ h => by first | exact h | exact h.elim) (by rfl) ?_ HC.out ?_
          rotate_left
          · intro W' hW; obtain ⟨c0, c1, c2⟩ := HL.out W' hW; go_simp <;> with_reducible rfl
          simp only [Act.put, List.setIfInBounds_toArray, List.set_cons_zero, List.set_cons_succ]
          refine takeH (i := 13) (v := ?_) rfl (by kernel_rfl) (by kernel_rfl) (by kernel_rfl) (fun _ _ _ h => by first | exact h | exact h.elim) (by rfl) ?_ HC.out ?_
          rotate_left
          · intro W' hW; obtain ⟨c0, c1, c2⟩ := HL.out W' hW; go_simp <;> with_reducible rfl
          simp only [Act.put, List.setIfInBounds_toArray, List.set_cons_zero, List.set_cons_succ]
          refine takeH (i := 14) (v := ?_) rfl (by kernel_rfl) (by kernel_rfl) (by kernel_rfl) (fun _ _ _ h => by first | exact h | exact h.elim) (by rfl) ?_ HC.out ?_
          rotate_left
          · intro W' hW; obtain ⟨c0, c1, c2⟩ := HL.out W' hW; go_simp <;> with_reducible rfl
          simp only [Act.put, List.setIfInBounds_toArray, List.set_cons_zero, List.set_cons_succ]
          refine takeH (i := 15) (v := ?_) rfl (by kernel_rfl) (by kernel_rfl) (by kernel_rfl) (fun _ _ _ h => by first | exact h | exact h.elim) (by rfl) ?_ HC.out ?_
          rotate_left
          · intro W' hW; obtain ⟨c0, c1, c2⟩ := HL.out W' hW; go_simp <;> with_reducible rfl
          simp only [Act.put, List.setIfInBounds_toArray, List.set_cons_zero, List.set_cons_succ]
          refine takeH (i := 16) (v := ?_) rfl (by kernel_rfl) (by kernel_rfl) (by kernel_rfl) (fun _ _ _ h => by first | exact h | exact h.elim) (by rfl) ?_ HC.out ?_
          rotate_left
          · intro W' hW; obtain ⟨c0, c1, c2⟩ := HL.out W' hW; go_simp <;> with_reducible rfl
          simp only [Act.put, List.setIfInBounds_toArray, List.set_cons_zero, List.set_cons_succ]
          refine takeH (i := 17) (v := ?_) rfl (by kernel_rfl) (by kernel_rfl) (by kernel_rfl) (fun _ _ _ h => by first | exact h | exact h.elim) (by rfl) ?_ HC.out ?_
          rotate_left
          · intro W' hW; obtain ⟨c0, c1, c2⟩ := HL.out W' hW; go_simp <;> with_reducible rfl
          simp only [Act.put, List.setIfInBounds_toArray, List.set_cons_zero, List.set_cons_succ]
          refine wpAnyH_done (by kernel_rfl) ?_ _
          gi_wp2_with fail
          refine wpIn_goto ?_
          exact ⟨(KeepsOthers.drew _).from _, rfl, HNo.out (.inr h2), HI.out.box.2.drew⟩
        · have hd2 : decide (hiB k < x.at k) = false := decide_eq_false h2
          gi_wp2_with fail
          refine region_round_held (S := fun W' : World => W'.cell? ⟨w.heap.size, k, none⟩ = some (.int .i64 (x.at k)) ∧ W'.cell? ⟨1, k * 2, none⟩ = some (.int .i64 (loB k)) ∧ W'.cell? ⟨1, k * 2 + 1, none⟩ = some (.int .i64 (hiB k))) (by kernel_rfl) (by kernel_rfl) (fun ⟨_, _, h⟩ => h) ?_
          refine takeH (i := 0) (v := ?_) rfl (by kernel_rfl) (by kernel_rfl) (by kernel_rfl) (fun _ _ _ h => by first | exact h | exact h.elim) (by rfl) ?_ HC.out ?_
          rotate_left
          · intro W' hW; obtain ⟨c0, c1, c2⟩ := HL.out W' hW; go_simp <;> with_reducible rfl
          simp only [Act.put, List.setIfInBounds_toArray, List.set_cons_zero, List.set_cons_succ]
          refine takeH (i := 1) (v := ?_) rfl (by kernel_rfl) (by kernel_rfl) (by kernel_rfl) (fun _ _ _ h => by first | exact h | exact h.elim) (by rfl) ?_ HC.out ?_
          rotate_left
          · intro W' hW; obtain ⟨c0, c1, c2⟩ := HL.out W' hW; go_simp <;> with_reducible rfl
          simp only [Act.put, List.setIfInBounds_toArray, List.set_cons_zero, List.set_cons_succ]
          refine takeH (i := 2) (v := ?_) rfl (by kernel_rfl) (by kernel_rfl) (by kernel_rfl) (fun _ _ _ h => by first | exact h | exact h.elim) (by rfl) ?_ HC.out ?_
          rotate_left
          · intro W' hW; obtain ⟨c0, c1, c2⟩ := HL.out W' hW; go_simp <;> with_reducible rfl
          simp only [Act.put, List.setIfInBounds_toArray, List.set_cons_zero, List.set_cons_succ]
          refine takeH (i := 3) (v := ?_) rfl (by kernel_rfl) (by kernel_rfl) (by kernel_rfl) (fun _ _ _ h => by first | exact h | exact h.elim) (by rfl) ?_ HC.out ?_
          rotate_left
          · intro W' hW; obtain ⟨c0, c1, c2⟩ := HL.out W' hW; go_simp <;> with_reducible rfl
          simp only [Act.put, List.setIfInBounds_toArray, List.set_cons_zero, List.set_cons_succ]
          refine takeH (i := 4) (v := ?_) rfl (by kernel_rfl) (by kernel_rfl) (by kernel_rfl) (fun _ _ _ h => by first | exact h | exact h.elim) (by rfl) ?_ HC.out ?_
          rotate_left
          · intro W' hW; obtain ⟨c0, c1, c2⟩ := HL.out W' hW; go_simp <;> with_reducible rfl
          simp only [Act.put, List.setIfInBounds_toArray, List.set_cons_zero, List.set_cons_succ]
          refine takeH (i := 5) (v := ?_) rfl (by kernel_rfl) (by kernel_rfl) (by kernel_rfl) (fun _ _ _ h => by first | exact h | exact h.elim) (by rfl) ?_ HC.out ?_
          rotate_left
          · intro W' hW; obtain ⟨c0, c1, c2⟩ := HL.out W' hW; go_simp <;> with_reducible rfl
          simp only [Act.put, List.setIfInBounds_toArray, List.set_cons_zero, List.set_cons_succ]
          refine takeH (i := 6) (v := ?_) rfl (by kernel_rfl) (by kernel_rfl) (by kernel_rfl) (fun _ _ _ h => by first | exact h | exact h.elim) (by rfl) ?_ HC.out ?_
          rotate_left
          · intro W' hW; obtain ⟨c0, c1, c2⟩ := HL.out W' hW; go_simp <;> with_reducible rfl
          simp only [Act.put, List.setIfInBounds_toArray, List.set_cons_zero, List.set_cons_succ]
          refine takeH (i := 7) (v := ?_) rfl (by kernel_rfl) (by kernel_rfl) (by kernel_rfl) (fun _ _ _ h => by first | exact h | exact h.elim) (by rfl) ?_ HC.out ?_
          rotate_left
          · intro W' hW; obtain ⟨c0, c1, c2⟩ := HL.out W' hW; go_simp <;> with_reducible rfl
          simp only [Act.put, List.setIfInBounds_toArray, List.set_cons_zero, List.set_cons_succ]
          refine takeH (i := 8) (v := ?_) rfl (by kernel_rfl) (by kernel_rfl) (by kernel_rfl) (fun _ _ _ h => by first | exact h | exact h.elim) (by rfl) ?_ HC.out ?_
          rotate_left
          · intro W' hW; obtain ⟨c0, c1, c2⟩ := HL.out W' hW; go_simp <;> with_reducible rfl
          simp only [Act.put, List.setIfInBounds_toArray, List.set_cons_zero, List.set_cons_succ]
          refine takeH (i := 9) (v := ?_) rfl (by kernel_rfl) (by kernel_rfl) (by kernel_rfl) (fun _ _ _ h => by first | exact h | exact h.elim) (by rfl) ?_ HC.out ?_
          rotate_left
          · intro W' hW; obtain ⟨c0, c1, c2⟩ := HL.out W' hW; go_simp <;> with_reducible rfl
          simp only [Act.put, List.setIfInBounds_toArray, List.set_cons_zero, List.set_cons_succ]
          refine takeH (i := 10) (v := ?_) rfl (by kernel_rfl) (by kernel_rfl) (by kernel_rfl) (fun _ _ _ h => by first | exact h | exact h.elim) (by rfl) ?_ HC.out ?_
          rotate_left
          · intro W' hW; obtain ⟨c0, c1, c2⟩ := HL.out W' hW; go_simp <;> with_reducible rfl
          simp only [Act.put, List.setIfInBounds_toArray, List.set_cons_zero, List.set_cons_succ]
          refine takeH (i := 11) (v := ?_) rfl (by kernel_rfl) (by kernel_rfl) (by kernel_rfl) (fun _ _ _ h => by first | exact h | exact h.elim) (by rfl) ?_ HC.out ?_
          rotate_left
          · intro W' hW; obtain ⟨c0, c1, c2⟩ := HL.out W' hW; go_simp <;> with_reducible rfl
          simp only [Act.put, List.setIfInBounds_toArray, List.set_cons_zero, List.set_cons_succ]
          refine takeH (i := 12) (v := ?_) rfl (by kernel_rfl) (by kernel_rfl) (by kernel_rfl) (fun _ _ _ h => by first | exact h | exact h.elim) (by rfl) ?_ HC.out ?_
          rotate_left
          · intro W' hW; obtain ⟨c0, c1, c2⟩ := HL.out W' hW; go_simp <;> with_reducible rfl
          simp only [Act.put, List.setIfInBounds_toArray, List.set_cons_zero, List.set_cons_succ]
          refine takeH (i := 13) (v := ?_) rfl (by kernel_rfl) (by kernel_rfl) (by kernel_rfl) (fun _ _ _ h => by first | exact h | exact h.elim) (by rfl) ?_ HC.out ?_
          rotate_left
          · intro W' hW; obtain ⟨c0, c1, c2⟩ := HL.out W' hW; go_simp <;> with_reducible rfl
          simp only [Act.put, List.setIfInBounds_toArray, List.set_cons_zero, List.set_cons_succ]
          refine takeH (i := 14) (v := ?_) rfl (by kernel_rfl) (by kernel_rfl) (by kernel_rfl) (fun _ _ _ h => by first | exact h | exact h.elim) (by rfl) ?_ HC.out ?_
          rotate_left
          · intro W' hW; obtain ⟨c0, c1, c2⟩ := HL.out W' hW; go_simp <;> with_reducible rfl
          simp only [Act.put, List.setIfInBounds_toArray, List.set_cons_zero, List.set_cons_succ]
          refine takeH (i := 15) (v := ?_) rfl (by kernel_rfl) (by kernel_rfl) (by kernel_rfl) (fun _ _ _ h => by first | exact h | exact h.elim) (by rfl) ?_ HC.out ?_
          rotate_left
          · intro W' hW; obtain ⟨c0, c1, c2⟩ := HL.out W' hW; go_simp <;> with_reducible rfl
          simp only [Act.put, List.setIfInBounds_toArray, List.set_cons_zero, List.set_cons_succ]
          refine takeH (i := 16) (v := ?_) rfl (by kernel_rfl) (by kernel_rfl) (by kernel_rfl) (fun _ _ _ h => by first | exact h | exact h.elim) (by rfl) ?_ HC.out ?_
          rotate_left
          · intro W' hW; obtain ⟨c0, c1, c2⟩ := HL.out W' hW; go_simp <;> with_reducible rfl
          simp only [Act.put, List.setIfInBounds_toArray, List.set_cons_zero, List.set_cons_succ]
          refine takeH (i := 17) (v := ?_) rfl (by kernel_rfl) (by kernel_rfl) (by kernel_rfl) (fun _ _ _ h => by first | exact h | exact h.elim) (by rfl) ?_ HC.out ?_
          rotate_left
          · intro W' hW; obtain ⟨c0, c1, c2⟩ := HL.out W' hW; go_simp <;> with_reducible rfl
          simp only [Act.put, List.setIfInBounds_toArray, List.set_cons_zero, List.set_cons_succ]
          refine wpAnyH_done (by kernel_rfl) ?_ _
          gi_wp2_with fail
          have hf : fitK x k = true := by unfold fitK; rw [decide_eq_true (show loB k ≤ x.at k by omega), decide_eq_true (show x.at k ≤ hiB k by omega)]; rfl
          refine ⟨(KeepsOthers.drew _).from _, kpP_below ((Below.refl _ _).drew), fun j hj => ?_, HI.out.box.drew⟩
          rw [List.length_append, List.length_singleton] at hj
          have hkk := HK.out
          rcases (by omega : j < pre.length ∨ j = k) with h3 | rfl
          · exact HI.out.fit j h3
          · exact hf
    case done =>
      rintro D ys W1 hD hys hI hK
      have hin : inB x = true := inB_all (fun k hk => hI.fit k (by rw [hys]; exact hk))
      have hlx : Lies x W1 w.heap.size := HX.out.below hI.box.2
      have HM := Lib.hid (marked_any x.A x.n x.c x.ms w.heap.size W1 hlx.rd)
      have HRm := Lib.hid (roomy_any x hin)
      obtain ⟨c0, c1, c2, c3, c4, c5, c6, c7, c8, c9, c10, c11, c12, c13, c14⟩ := hI.box.1.conf
      have HI := Lib.hid hI
      have HK := Lib.hid hK
      have HIn := Lib.hid hin
      clear hI hK hys hin hlx
      by_cases hm : marksB x.ms = true
      · rw [hm] at HM
        have HMy : Hid (may x = roomB x) := Lib.hid (by unfold may; rw [HIn.out, hm]; rfl)
        clear hm
        gi_wp2_with (first | (refine ⟨trivial, ?_⟩; gi_at_call 122; refine (callsIn_wide.2 (HM.out)).mono ?_; rintro e w2 ⟨rfl, rfl⟩) | (refine ⟨trivial, ?_⟩; gi_at_call 123; refine (callsIn_wide.2 (HRm.out _)).mono ?_; rintro e w3 ⟨rfl, hb3⟩))
        have hK3 := (hb3.block D (Array.getElem?_eq_some_iff.1 HK.out).1).trans HK.out
        have hbw := HI.out.box.2.trans (hb3.mono HI.out.box.2.size)
        simp only [Exit.jump]
        refine ⟨by simp, .inl ⟨_, _, rfl, run_takeDeferred hK3, ?_⟩⟩
        refine ⟨.bool (roomB x), by simp [results, Tryz.results115], by rw [HMy.out], ?_⟩
        exact hbw.trans ((Below.refl _ _).grown (grownBy_putObj' w3 D (.deferred none)) hbw.size (fun k e => by cases e; omega))
      · have hm' : marksB x.ms = false := by simpa using hm
        rw [hm'] at HM
        have HMy : Hid (may x = false) := Lib.hid (by unfold may; rw [HIn.out, hm']; rfl)
        clear hm hm'
        gi_wp2_with (first | (refine ⟨trivial, ?_⟩; gi_at_call 122; refine (callsIn_wide.2 (HM.out)).mono ?_; rintro e w2 ⟨rfl, rfl⟩))
        refine ⟨trivial, ?_⟩
        gi_wp2_with fail
        have hbw := HI.out.box.2
        simp only [Exit.jump]
        refine ⟨by simp, .inl ⟨_, _, rfl, run_takeDeferred HK.out, ?_⟩⟩
        refine ⟨.bool false, by simp [results, Tryz.results115], by rw [HMy.out], ?_⟩
        exact hbw.trans ((Below.refl _ _).grown (grownBy_putObj' w2 D (.deferred none)) hbw.size (fun k e => by cases e; omega))
    case stop =>
      rintro D c W hD ⟨rfl, hWr⟩ hK
      refine wpIn_goto ?_
      exact ⟨rfl, D, _, _, _, _, _, _, _, _, _, _, _, _, _, _, _, _, _, _, _, _, _, _, _, _, _, _, _, _, _, _, _, _, _, rfl, by omega, hK, hWr⟩

end Go.Proofs.YtdaimejlcfhfiaaGreatDoor

/-
  The walks of 'Check', 'Floor', 'Bound' of package conf. Conditions: those that each theorem names.
-/
namespace Go.Proofs.YtdaimejlcfhfiaaGreatDoor
open Go.RowKit Go.Shelf

/-- What the contracts of a group ask: where it lies, and the table. -/
structure Has (x : Cf) (w : World) : Prop where
  lies : Lies x w w.heap.size
  tab : Tab w
set_option maxRecDepth 100000 in
theorem Has.under {x : Cf} {w w' : World} (h : Has x w) (hb : Below w.heap.size w w') : Has x w' := ⟨(h.lies.below hb).more hb.size, h.tab.under hb⟩
set_option maxRecDepth 100000 in
theorem Has.right {x : Cf} {w : World} (h : Has x w) : Calls Tryz.prog 115 #[x.v] w (BoolPost (may x) w) := confRight_any x w.heap.size w h.lies (Nat.le_refl _) h.tab

set_option maxRecDepth 100000 in
theorem may_inB {x : Cf} (h : may x = true) : inB x = true := by
  unfold may at h
  simp only [Bool.and_eq_true] at h
  exact h.1
set_option maxRecDepth 100000 in
theorem may_marks {x : Cf} (h : may x = true) : marksB x.ms = true ∧ x.ms.length ≤ 4 := by
  unfold may at h
  simp only [Bool.and_eq_true] at h
  refine ⟨h.2.1, ?_⟩
  have := h.2.1
  unfold marksB at this
  simp only [Bool.and_eq_true, decide_eq_true_eq] at this
  exact this.1
set_option maxRecDepth 100000 in
theorem may_room {x : Cf} (h : may x = true) : x.f0 = 0 ∨ 1 ≤ x.f2 + x.f0 - fl x := by
  unfold may at h
  simp only [Bool.and_eq_true] at h
  have := h.2.2
  unfold roomB at this
  simpa using this

set_option maxRecDepth 100000 in
set_option maxHeartbeats 1000000 in
theorem check_any (x : Cf) (w : World) (h : Has x w) : Calls Tryz.prog 66 #[x.v] w (IntPost (er (may x)) w) := by
  have hb : Below w.heap.size w (w.alloc (.cells x.cells 24)) := (Below.refl _ w).alloc (Nat.le_refl _) _
  have HR := Lib.hid (h.under hb).right
  have HB := Lib.hid hb
  clear h hb
  by_cases hm : may x = true
  · rw [hm] at HR ⊢
    clear hm
    go_enter Tryz.func66, Tryz.ntmps66
    go_wp2_with fail
    refine (HR.out).mono ?_
    rintro e w1 ⟨rfl, b1⟩
    have HB1 := Lib.hid (HB.out.trans (b1.mono HB.out.size))
    clear b1 HR
    go_wp2_with fail
    go_ret
    exact ⟨rfl, HB1.out⟩
  · have hm : may x = false := by simpa using hm
    rw [hm] at HR ⊢
    clear hm
    go_enter Tryz.func66, Tryz.ntmps66
    go_wp2_with fail
    refine (HR.out).mono ?_
    rintro e w1 ⟨rfl, b1⟩
    have HB1 := Lib.hid (HB.out.trans (b1.mono HB.out.size))
    clear b1 HR
    go_wp2_with fail
    go_ret
    exact ⟨rfl, HB1.out⟩

end Go.Proofs.YtdaimejlcfhfiaaGreatDoor

/-
  Brains in memory of their own, by the document's own word. Conditions: those that each theorem names.
-/
namespace Go.Proofs.YtdaimejlcfhfiaaGreatDoor
open Go.RowKit Go.Shelf

set_option maxRecDepth 100000 in
/-- The end of a function that tells a brain out of a box. -/
theorem brain_end {fn : Func} {k b : Nat} (hres : fn.results = #[.cell k 30]) {tm : Array Value} {W : World} {cs : Array Value} {R : Ending → World → Prop} (h2 : tm[k]? = some (.pointer (some ⟨b, 0, none⟩))) (hw : Whole W b 30 cs) (hcs : cs.size = 27) (hR : R (.returned (.agg cs)) W) : bodyPost Tryz.prog fn R .ret { tmps := tm, defers := [] } W := by
  have hl := run_loadVar_row (P := Tryz.prog) W b 30 30 cs (0, 0) _ hw Tryz.underlying30 rfl (by rw [hcs]; kernel_rfl)
  refine bodyPost_ret (v := .agg cs) ?_ rfl hR
  simp [results, hres, h2, hl, asAddr]

def ad0 : Ad := ⟨none, 0, none, 0, none, 0⟩
set_option maxRecDepth 100000 in
theorem brC_one (p : Br) (a : Ad) : (brC p a).all (·.oneCell') = true := by simp [Value.oneCell']
set_option maxRecDepth 100000 in
theorem below_rowsetB {w w' : World} {B g : Nat} (h : Below B w w') (hg : B ≤ g) (cs : Array Value) : Below B w (w'.setRow g cs) :=
  ⟨h.os, h.tape, h.output, by rw [setRow_size]; exact h.size, fun i hi => (setRow_other w' g i cs (by omega)).trans (h.block i hi)⟩
set_option maxRecDepth 100000 in
theorem own_rowsetB {w : World} {base n g : Nat} {e : TypeId} {size : Nat} {v : Value} {xs : List Value} (ho : w.ownsRow base e size v n xs) (hne : v.ownBlock ≠ some g) (c' : Array Value) : (w.setRow g c').ownsRow base e size v n xs := by
  refine ho.kept (row := some g) ⟨rfl, rfl, rfl, Nat.le_of_eq (setRow_size w g c').symm, fun k hk hkg => setRow_other w g k c' (fun e => hkg (by rw [e]))⟩ ?_
  rcases ho.2 with ⟨rfl, _⟩ | ⟨k, cap, cur, rfl, _⟩
  · exact .inl rfl
  · exact .inr hne
set_option maxRecDepth 100000 in
theorem OwB.rowset {base : Nat} {w : World} {p : Br} {a : Ad} {g : Nat} {t : TypeId} {cs : Array Value} (h : OwB base w p a) (hw : Whole w g t cs) (h1 : 3 ≠ t) (h2 : 45 ≠ t) (h3 : 47 ≠ t) (c' : Array Value) : OwB base (w.setRow g c') p a :=
  ⟨own_rowsetB h.ms (own_apart_F h1 h.ms hw) c', own_rowsetB h.its (own_apart_F h2 h.its hw) c', own_rowsetB h.kps (own_apart_F h3 h.kps hw) c'⟩
set_option maxRecDepth 100000 in
theorem OwB.only {base : Nat} {w w' : World} {p : Br} {a : Ad} {g : Nat} {t : TypeId} {cs : Array Value} (h : OwB base w p a) (k : Only g w w') (hw : Whole w g t cs) (h1 : 3 ≠ t) (h2 : 45 ≠ t) (h3 : 47 ≠ t) : OwB base w' p a :=
  ⟨k.own h.ms hw h1, h.its.only k hw h2, h.kps.only k hw h3⟩
set_option maxRecDepth 100000 in
theorem set17 {w : World} {g : Nat} {p : Br} {a : Ad} (h : Whole w g 30 (brC p a)) (C : Option Addr) (e : Nat) : Whole (w.setCell ⟨g, 17, none⟩ (.slice C p.cf.ms.length e)) g 30 (brC p ⟨C, e, a.A, a.c, a.B, a.d⟩) := by
  have h1 := h.set 17 (.slice C p.cf.ms.length e)
  simp only [List.setIfInBounds_toArray, List.set_cons_zero, List.set_cons_succ] at h1
  exact h1
set_option maxRecDepth 100000 in
theorem set18 {w : World} {g : Nat} {p : Br} {a : Ad} (h : Whole w g 30 (brC p a)) (A : Option Addr) (c : Nat) : Whole (w.setCell ⟨g, 18, none⟩ (.slice A p.its.length c)) g 30 (brC p ⟨a.C, a.e, A, c, a.B, a.d⟩) := by
  have h1 := h.set 18 (.slice A p.its.length c)
  simp only [List.setIfInBounds_toArray, List.set_cons_zero, List.set_cons_succ] at h1
  exact h1
set_option maxRecDepth 100000 in
theorem set19 {w : World} {g : Nat} {p : Br} {a : Ad} (h : Whole w g 30 (brC p a)) (B : Option Addr) (d : Nat) : Whole (w.setCell ⟨g, 19, none⟩ (.slice B p.kps.length d)) g 30 (brC p ⟨a.C, a.e, a.A, a.c, B, d⟩) := by
  have h1 := h.set 19 (.slice B p.kps.length d)
  simp only [List.setIfInBounds_toArray, List.set_cons_zero, List.set_cons_succ] at h1
  exact h1

set_option maxRecDepth 100000 in
/-- 'append([]int{}, l...)'. -/
theorem fresh_ms (V : World) (Z : Nat) (A : Option Addr) (n c : Nat) (ms : List Int) (hr : Rd V Z A n (iv ms)) (hZ : Z ≤ V.heap.size) (hn : n ≤ 1000) :
    ∃ A' c' W1, (Builtin.append_ #[22, 22] 22 #[.slice (some ⟨V.heap.size, 0, none⟩) 0 0, .slice A n c]).run Tryz.prog (V.alloc (.cells #[] 3)) = .ok (.slice A' n c') W1 ∧ W1.ownsRow V.heap.size 3 1 (.slice A' n c') n (iv ms) ∧ Below V.heap.size V W1 := by
  have b3 := (Below.refl V.heap.size V).alloc (Nat.le_refl _) (.cells #[] 3)
  have ho0 : (V.alloc (.cells #[] 3)).ownsRow V.heap.size 3 1 (.slice (some ⟨V.heap.size, 0, none⟩) 0 0) 0 [] := World.ownsRow_made (base := V.heap.size) (e := 3) (size := 1) V #[] 0 (Nat.le_refl _) (Nat.zero_le _) rfl
  obtain ⟨v', W1, h1, h2, h3⟩ := run_appI (V.alloc (.cells #[] 3)) V.heap.size _ 0 [] ho0 Z A n c ms (hr.below (b3.mono hZ)) (by omega) b3.size
  rw [Nat.zero_add, List.nil_append] at h2
  obtain ⟨A', c', rfl⟩ := own_form h2
  exact ⟨A', c', W1, h1, h2, b3.grown h3 b3.size (by simp [Value.ownBlock])⟩
set_option maxRecDepth 100000 in
theorem fresh_its (V : World) (Z : Nat) (A : Option Addr) (c : Nat) (l : List It) (hr : RdI V Z A l.length l) (hZ : Z ≤ V.heap.size) (hn : l.length ≤ 1000) :
    ∃ A' c' W1, (Builtin.append_ #[25, 25] 25 #[.slice (some ⟨V.heap.size, 0, none⟩) 0 0, .slice A l.length c]).run Tryz.prog (V.alloc (.cells #[] 45)) = .ok (.slice A' l.length c') W1 ∧ ItsAt V.heap.size W1 (.slice A' l.length c') l ∧ Below V.heap.size V W1 := by
  have b3 := (Below.refl V.heap.size V).alloc (Nat.le_refl _) (.cells #[] 45)
  have ho0 : ItsAt V.heap.size (V.alloc (.cells #[] 45)) (.slice (some ⟨V.heap.size, 0, none⟩) 0 0) [] := World.ownsRow_made (base := V.heap.size) (e := 45) (size := 4) V #[] 0 (Nat.le_refl _) (Nat.zero_le _) rfl
  obtain ⟨A', c', W1, h1, h2, h3, _⟩ := its_app (V.alloc (.cells #[] 45)) V.heap.size _ [] ho0 Z A l.length c l (hr.below (b3.mono hZ)) (by simp; omega) b3.size
  simp only [List.length_nil, Nat.zero_add, List.nil_append] at h1 h2
  exact ⟨A', c', W1, h1, h2, b3.grown h3 b3.size (by simp [Value.ownBlock])⟩
set_option maxRecDepth 100000 in
theorem fresh_kps (V : World) (Z : Nat) (A : Option Addr) (c : Nat) (l : List Kp) (hr : RdK V Z A l.length l) (hZ : Z ≤ V.heap.size) (hn : l.length ≤ 1000) :
    ∃ A' c' W1, (Builtin.append_ #[26, 26] 26 #[.slice (some ⟨V.heap.size, 0, none⟩) 0 0, .slice A l.length c]).run Tryz.prog (V.alloc (.cells #[] 47)) = .ok (.slice A' l.length c') W1 ∧ KpsAt V.heap.size W1 (.slice A' l.length c') l ∧ Below V.heap.size V W1 := by
  have b3 := (Below.refl V.heap.size V).alloc (Nat.le_refl _) (.cells #[] 47)
  have ho0 : KpsAt V.heap.size (V.alloc (.cells #[] 47)) (.slice (some ⟨V.heap.size, 0, none⟩) 0 0) [] := World.ownsRow_made (base := V.heap.size) (e := 47) (size := 8) V #[] 0 (Nat.le_refl _) (Nat.zero_le _) rfl
  obtain ⟨A', c', W1, h1, h2, h3, _⟩ := kps_app (V.alloc (.cells #[] 47)) V.heap.size _ [] ho0 Z A l.length c l (hr.below (b3.mono hZ)) (by simp; omega) b3.size
  simp only [List.length_nil, Nat.zero_add, List.nil_append] at h1 h2
  exact ⟨A', c', W1, h1, h2, b3.grown h3 b3.size (by simp [Value.ownBlock])⟩

end Go.Proofs.YtdaimejlcfhfiaaGreatDoor

/-
  The walk of 'values' of package conf: a group's numbers as an array. Conditions: those that each theorem names.
-/
namespace Go.Proofs.YtdaimejlcfhfiaaGreatDoor
open Go.RowKit Go.Shelf
attribute [local go_sem] Oper.semAt_some

/-- A group's numbers, as values. -/
def Cf.arr (x : Cf) : Array Value := #[.int .i64 x.f0, .int .i64 x.f1, .int .i64 x.f2, .int .i64 x.f3, .int .i64 x.f4, .int .i64 x.f5, .int .i64 x.f6, .int .i64 x.f7, .int .i64 x.f8, .int .i64 x.f9, .int .i64 x.f10, .int .i64 x.f11, .int .i64 x.f12]
/-- The first k of them, noughts behind. -/
def arrTo (x : Cf) (k : Nat) : Array Value := ((x.fs.take k ++ List.replicate (13 - k) 0).map (Value.int .i64)).toArray
set_option maxRecDepth 100000 in
theorem arrTo_step (x : Cf) {k : Nat} (hk : k < 13) : (arrTo x k).setIfInBounds k (.int .i64 (x.at k)) = arrTo x (k + 1) := by
  rcases (by omega : k = 0 ∨ k = 1 ∨ k = 2 ∨ k = 3 ∨ k = 4 ∨ k = 5 ∨ k = 6 ∨ k = 7 ∨ k = 8 ∨ k = 9 ∨ k = 10 ∨ k = 11 ∨ k = 12) with rfl | rfl | rfl | rfl | rfl | rfl | rfl | rfl | rfl | rfl | rfl | rfl | rfl <;> rfl
set_option maxRecDepth 100000 in
theorem arrTo_cell (x : Cf) {k : Nat} (hk : k < 13) : (arrTo x k)[k]? = some (.int .i64 0) := by
  rcases (by omega : k = 0 ∨ k = 1 ∨ k = 2 ∨ k = 3 ∨ k = 4 ∨ k = 5 ∨ k = 6 ∨ k = 7 ∨ k = 8 ∨ k = 9 ∨ k = 10 ∨ k = 11 ∨ k = 12) with rfl | rfl | rfl | rfl | rfl | rfl | rfl | rfl | rfl | rfl | rfl | rfl | rfl <;> rfl
set_option maxRecDepth 100000 in
theorem arrTo_all (x : Cf) : arrTo x 13 = x.arr := rfl
set_option maxRecDepth 100000 in
theorem arrTo_none (x : Cf) : arrTo x 0 = #[.int .i64 0, .int .i64 0, .int .i64 0, .int .i64 0, .int .i64 0, .int .i64 0, .int .i64 0, .int .i64 0, .int .i64 0, .int .i64 0, .int .i64 0, .int .i64 0, .int .i64 0] := rfl

/-- What holds between two rounds. -/
structure ValAt (x : Cf) (w : World) (Bc : Nat) (pre : List Nat) (W : World) : Prop where
  res : Whole W w.heap.size 86 #[.int .i64 0, .int .i64 0, .int .i64 0, .int .i64 0, .int .i64 0, .int .i64 0, .int .i64 0, .int .i64 0, .int .i64 0, .int .i64 0, .int .i64 0, .int .i64 0, .int .i64 0]
  row : Whole W (w.heap.size + 1) 86 (arrTo x pre.length)
  box : Whole W Bc 24 x.cells
  below : Below w.heap.size w W
set_option maxRecDepth 100000 in
theorem valAt_own (x : Cf) (w : World) (Bc B : Nat) (hB : w.heap.size ≤ B) : OwnFrom B (ValAt x w Bc) := by
  intro pre W1 W2 row h hg hr
  have hr' : ∀ r, row = some r → ∃ o : Obj, W1.heap[r]? = some o ∧ o.isCells = false := fun r e => (hr r e).2
  exact ⟨h.res.turn hg hr', h.row.turn hg hr', h.box.turn hg hr', h.below.grown hg h.below.size (fun k e => by have := (hr k e).1; omega)⟩

set_option maxRecDepth 100000 in
/-- A store of a whole row, in a fence. -/
theorem wpListIn_store_row {F : Fence} {m : Nat} {P : Program} {ops : Array Oper} {rest : List Oper} {o : Oper} {a : Act} {w : World} {Q : Exit → Act → World → Prop} (hgd : o.guard = none) (ty : TypeId) (x y : Operand) (ho : o.op = .store ty x y)
    (g : Nat) (cells : Array Value) (hx : a.eval x = .pointer (some ⟨g, 0, none⟩)) (hy : a.eval y = .agg cells)
    (t : TypeId) (old : Array Value) (hg : w.heap[g]? = some (.cells old t (0, 0))) (hi : (P.info? ty).map (·.size) = some cells.size)
    (hold : old.size = cells.size) (h1 : cells.all (·.oneCell') = true)
    (h : wpListIn F m P ops Q rest (a.put o.dst undef) (w.setRow g cells)) : wpListIn F m P ops Q (o :: rest) a w := by
  refine wpListIn_plain hgd fun K hK => ?_
  unfold Oper.wpIn
  refine ⟨by simp [Oper.about, ho], ?_⟩
  rw [Oper.semAt_plain F _ _ (by rw [ho]; intro c hc; cases hc)]
  unfold execOp
  simp only [ho, hx, hy, Instr.storeAt, Instr.sureAddr, Sem.run_bind, Sem.run_pure, Result.andThen_ok, run_storeVar_row w g t ty old cells hg hi hold h1]
  exact hK _ _ h

def ArrPost (x : Cf) (w : World) (e : Ending) (w' : World) : Prop := e = .returned (.agg x.arr) ∧ Below w.heap.size w w'

set_option maxRecDepth 100000 in
set_option maxHeartbeats 2000000 in
theorem values_any (x : Cf) (Bc : Nat) (w : World) (hbox : Whole w Bc 24 x.cells) : Calls Tryz.prog 69 #[.pointer (some ⟨Bc, 0, none⟩)] w (ArrPost x w) := by
  have HX := Lib.hid hbox
  clear hbox
  refine (callsIn_wide (n := 6)).1 ?_
  refine callsIn_of_wp_marks Tryz.func69 rfl trivial ?_ rfl
  simp only [Tryz.ntmps69, List.size_toArray, List.length_cons, List.length_nil, Nat.reduceAdd, Nat.reduceSub, Array.replicate_succ, Array.replicate_zero, List.push_toArray, List.append_toArray, List.nil_append, List.cons_append]
  gi_wp2_with (refine ⟨trivial, ?_⟩; gi_at_call 116; refine (callsIn_wide.2 (fields_any _ _)).mono ?_; rintro e w2 ⟨rfl, rfl⟩)
  obtain ⟨W0, hW0⟩ : ∃ W0, ((w.alloc (.cells #[.int .i64 0, .int .i64 0, .int .i64 0, .int .i64 0, .int .i64 0, .int .i64 0, .int .i64 0, .int .i64 0, .int .i64 0, .int .i64 0, .int .i64 0, .int .i64 0, .int .i64 0] 86)).alloc (.cells #[.int .i64 0, .int .i64 0, .int .i64 0, .int .i64 0, .int .i64 0, .int .i64 0, .int .i64 0, .int .i64 0, .int .i64 0, .int .i64 0, .int .i64 0, .int .i64 0, .int .i64 0] 86)).alloc (.cells #[.pointer (some ⟨Bc, 0, none⟩)] 103) = W0 := ⟨_, rfl⟩
  have hs0 : W0.heap.size = w.heap.size + 1 + 1 + 1 := by rw [← hW0]; simp
  have hb0 : Below w.heap.size w W0 := by rw [← hW0]; exact (((Below.refl _ w).alloc (Nat.le_refl _) _).alloc (by simp) _).alloc (by simp; omega) _
  have hinv : ValAt x w Bc [] W0 := by
    refine ⟨?_, ?_, HX.out.under hb0, hb0⟩
    · rw [← hW0]; exact ((Whole.new w _ _).alloc _).alloc _
    · rw [← hW0]
      have := (Whole.new (w.alloc (.cells #[.int .i64 0, .int .i64 0, .int .i64 0, .int .i64 0, .int .i64 0, .int .i64 0, .int .i64 0, .int .i64 0, .int .i64 0, .int .i64 0, .int .i64 0, .int .i64 0, .int .i64 0] 86)) 86 #[.int .i64 0, .int .i64 0, .int .i64 0, .int .i64 0, .int .i64 0, .int .i64 0, .int .i64 0, .int .i64 0, .int .i64 0, .int .i64 0, .int .i64 0, .int .i64 0, .int .i64 0]).alloc (.cells #[.pointer (some ⟨Bc, 0, none⟩)] 103)
      rwa [World.size_alloc] at this
  have hbn : W0.cell? ⟨w.heap.size + 1 + 1, 0, none⟩ = some (.pointer (some ⟨Bc, 0, none⟩)) := by
    rw [← hW0]
    have := (Whole.new ((w.alloc (.cells #[.int .i64 0, .int .i64 0, .int .i64 0, .int .i64 0, .int .i64 0, .int .i64 0, .int .i64 0, .int .i64 0, .int .i64 0, .int .i64 0, .int .i64 0, .int .i64 0, .int .i64 0] 86)).alloc (.cells #[.int .i64 0, .int .i64 0, .int .i64 0, .int .i64 0, .int .i64 0, .int .i64 0, .int .i64 0, .int .i64 0, .int .i64 0, .int .i64 0, .int .i64 0, .int .i64 0, .int .i64 0] 86)) 103 #[.pointer (some ⟨Bc, 0, none⟩)]).cell 0
    rwa [World.size_alloc, World.size_alloc] at this
  rw [hW0]
  clear hW0
  refine wpIn_range_mem (by omega) (gf := 124) (lb := #[.pointer (some ⟨w.heap.size + 1 + 1, 0, none⟩)]) rfl (enters_of Tryz.func124 (by kernel_rfl) rfl) (encs := fun k : Nat => #[Value.int .i64 (k : Int), Value.pointer (some ⟨Bc, k, none⟩)])
    (fields_mem 5 (w.heap.size + 1 + 1) Bc W0 (by omega) hbn)
    (fun h k => kpP_t h k) (fun W l o o' _ h h1 _ => kpP_b W l o o' h h1) (Below.refl _ _) (fun _ => rfl)
    (ValAt x w Bc) (fun _ _ => False)
    (valAt_own _ _ _ _ (by omega)) (fun c W W' row h hg hr => h) hinv
    (fun pre k a' W => (k = pre.length ∧ k < 13) ∧ a' = { tmps := #[.pointer (some ⟨Bc, 0, none⟩), undef, .pointer (some ⟨w.heap.size, 0, none⟩), .pointer (some ⟨w.heap.size + 1, 0, none⟩), .int .i64 (k : Int), .pointer (some ⟨Bc, k, none⟩), .pointer (some ⟨Bc, 0, none⟩), .func (.func 124) #[] #[.pointer (some ⟨w.heap.size + 1 + 1, 0, none⟩)], .int .i64 (k : Int), .pointer (some ⟨Bc, k, none⟩), undef, undef, undef, undef, undef, undef], defers := [] })
    (fun a' p X Y row hs hg hr => hs) ?assign ?body ?done ?stop
  case assign =>
    intro l pre k W K hI hOk hK
    have HOk := Lib.hid hOk
    clear hOk
    gi_wp2
    exact hK _ _ (KeepsFrom.refl _ _) kpP_refl hI ⟨HOk.out, rfl⟩
  case body =>
    rintro l pre k a' W hl hI ⟨⟨hk, hk13⟩, rfl⟩
    have c0 := hI.box.confK hk13
    have hrow := hI.row
    rw [← hk] at hrow
    have c1 := hrow.cell k
    rw [arrTo_cell x hk13] at c1
    have f1 := hrow.frozen k
    have hk13i : (k : Int) < 13 := by omega
    have HI := Lib.hid hI
    have HK := Lib.hid hk
    have HRow := Lib.hid hrow
    clear hI hk hrow
    gi_wp2_with fail
    have hr2 := HRow.out.set k (.int .i64 (x.at k))
    rw [arrTo_step x hk13] at hr2
    have hfar : ∀ {b : Nat} {t : TypeId} {cs : Array Value}, Whole W b t cs → t ≠ 86 ∨ b ≠ w.heap.size + 1 → Whole (W.setCell ⟨w.heap.size + 1, k, none⟩ (.int .i64 (x.at k))) b t cs := fun h hne => h.far (p := ⟨w.heap.size + 1, k, none⟩) (by
      rcases hne with hne | hne
      · rintro rfl
        have h2 := HRow.out
        unfold Whole at h h2
        rw [h] at h2
        cases h2
        exact hne rfl
      · exact hne) _
    refine ⟨(KeepsOthers.setCell _ _ _).from _, kpP_set HRow.out (by decide) _, hfar HI.out.res (.inr (by omega)), ?_, hfar HI.out.box (.inl (by decide)), HI.out.below.setCell (p := ⟨w.heap.size + 1, k, none⟩) (Nat.le_succ _) _⟩
    rw [List.length_append, List.length_singleton, ← HK.out]
    exact hr2
  case done =>
    rintro D ys W hD hys hI hK
    have hrow := hI.row
    rw [hys, arrTo_all] at hrow
    have q0 := hrow.cell 0
    have q1 := hrow.cell 1
    have q2 := hrow.cell 2
    have q3 := hrow.cell 3
    have q4 := hrow.cell 4
    have q5 := hrow.cell 5
    have q6 := hrow.cell 6
    have q7 := hrow.cell 7
    have q8 := hrow.cell 8
    have q9 := hrow.cell 9
    have q10 := hrow.cell 10
    have q11 := hrow.cell 11
    have q12 := hrow.cell 12
    simp only [Cf.arr, List.getElem?_toArray, List.getElem?_cons_zero, List.getElem?_cons_succ] at q0 q1 q2 q3 q4 q5 q6 q7 q8 q9 q10 q11 q12
    have HI := Lib.hid hI
    have HK := Lib.hid hK
    clear hI hK hrow hys
    have HR1 : Hid (x.arr.all (·.oneCell') = true) := Lib.hid (by simp [Cf.arr, Value.oneCell'])
    gi_wp2_with (refine wpListIn_store_row rfl 86 _ _ rfl w.heap.size x.arr (by rfl) (by rfl) 86 _ HI.out.res (by kernel_rfl) rfl HR1.out ?_)
    have h4 : Whole (W.setRow w.heap.size x.arr) w.heap.size 86 x.arr := setRow_heap W _ _ _ _ _ HI.out.res
    have hb4 : Below w.heap.size w (W.setRow w.heap.size x.arr) := below_rowset HI.out.below (Nat.le_refl _) _
    have hK4 : (W.setRow w.heap.size x.arr).heap[D]? = some (.deferred (some [])) := (setRow_other _ _ _ _ (by omega)).trans HK.out
    clear q0 q1 q2 q3 q4 q5 q6 q7 q8 q9 q10 q11 q12 HR1
    generalize W.setRow w.heap.size x.arr = W1 at h4 hb4 hK4 ⊢
    have hg' := grownBy_putObj' W1 D (.deferred none)
    have hr' : ∀ r, (some D) = some r → ∃ o : Obj, W1.heap[r]? = some o ∧ o.isCells = false := fun r e => by cases e; exact ⟨_, hK4, rfl⟩
    have h5 := h4.turn hg' hr'
    have p0 := h5.cell 0
    have p1 := h5.cell 1
    have p2 := h5.cell 2
    have p3 := h5.cell 3
    have p4 := h5.cell 4
    have p5 := h5.cell 5
    have p6 := h5.cell 6
    have p7 := h5.cell 7
    have p8 := h5.cell 8
    have p9 := h5.cell 9
    have p10 := h5.cell 10
    have p11 := h5.cell 11
    have p12 := h5.cell 12
    simp only [Cf.arr, List.getElem?_toArray, List.getElem?_cons_zero, List.getElem?_cons_succ] at p0 p1 p2 p3 p4 p5 p6 p7 p8 p9 p10 p11 p12
    refine ⟨by simp, .inl ⟨_, _, rfl, run_takeDeferred hK4, ?_⟩⟩
    refine ⟨.agg x.arr, by simp [results, Tryz.results69, go_sem, p0, p1, p2, p3, p4, p5, p6, p7, p8, p9, p10, p11, p12, Cf.arr], rfl, ?_⟩
    exact hb4.trans ((Below.refl _ _).grown hg' hb4.size (fun k e => by cases e; omega))
  case stop =>
    rintro D c W hD h hK
    exact h.elim

end Go.Proofs.YtdaimejlcfhfiaaGreatDoor

/-
  The walk of 'slices.Equal' at integers. Conditions: those that each theorem names.
-/
namespace Go.Proofs.YtdaimejlcfhfiaaGreatDoor
open Go.RowKit Go.Shelf

/-- A bool, and no block that was there turns but by draws. -/
def QuietBool (v : Bool) (w : World) (e : Ending) (w' : World) : Prop := e = .returned (.bool v) ∧ ∃ k, w' = w.drewN k

set_option maxRecDepth 100000 in
theorem take_grow {zs zs' : List Int} {j : Nat} {x : Int} (h : zs.take j = zs'.take j) (h1 : zs[j]? = some x) (h2 : zs'[j]? = some x) : zs.take (j + 1) = zs'.take (j + 1) := by
  have l1 : j < zs.length := (List.getElem?_eq_some_iff.1 h1).1
  have l2 : j < zs'.length := (List.getElem?_eq_some_iff.1 h2).1
  rw [List.take_succ_eq_append_getElem l1, List.take_succ_eq_append_getElem l2, h]
  rw [List.getElem?_eq_getElem l1] at h1
  rw [List.getElem?_eq_getElem l2] at h2
  rw [Option.some.inj h1, Option.some.inj h2]

set_option maxRecDepth 100000 in
set_option maxHeartbeats 1000000 in
theorem equal_any (A A' : Option Addr) (n c n' c' : Nat) (zs zs' : List Int) (B B' : Nat) (w : World) (hr : Rd w B A n (iv zs)) (hr' : Rd w B' A' n' (iv zs')) (hn : n ≤ 1000000) :
    Calls Tryz.prog 70 #[.slice A n c, .slice A' n' c'] w (QuietBool (decide (zs = zs')) w) := by
  have hl : zs.length = n := by have := hr.1; rwa [iv_length] at this
  have hl' : zs'.length = n' := by have := hr'.1; rwa [iv_length] at this
  by_cases hne : n = n'
  · subst hne
    have HR := Lib.hid hr
    have HR' := Lib.hid hr'
    have HL := Lib.hid hl
    have HL' := Lib.hid hl'
    clear hr hr' hl hl'
    go_enter Tryz.func70, Tryz.ntmps70
    go_wp2_with fail
    go_loopw [5, 13] (fun _ i wr => ∃ j : Nat, i = .int .i64 (j : Int) ∧ j ≤ n ∧ zs.take j = zs'.take j ∧ ∃ k, wr = w.drewN k) (fun _ i _ => n - (intOf i).toNat)
    case atStart => exact ⟨0, rfl, Nat.zero_le _, rfl, 0, rfl⟩
    case round =>
      obtain ⟨j, rfl, hj, hT, k, rfl⟩ := hrel
      have HT := Lib.hid hT
      clear hT
      by_cases hlt : j < n
      · obtain ⟨b, off, rfl, _, hc⟩ := HR.out.2 (by omega)
        obtain ⟨b', off', rfl, _, hc'⟩ := HR'.out.2 (by omega)
        have hjl : j < zs.length := by rw [HL.out]; exact hlt
        have hjl' : j < zs'.length := by rw [HL'.out]; exact hlt
        obtain ⟨x, hx⟩ : ∃ x, zs[j]? = some x := ⟨_, List.getElem?_eq_getElem hjl⟩
        obtain ⟨y, hy⟩ : ∃ y, zs'[j]? = some y := ⟨_, List.getElem?_eq_getElem hjl'⟩
        have h1 := hc j hlt
        have h2 := hc' j hlt
        rw [show (iv zs)[j]? = some (.int .i64 x) by simp [iv, hx]] at h1
        rw [show (iv zs')[j]? = some (.int .i64 y) by simp [iv, hy]] at h2
        have hI : (j : Int) < (n : Int) := by omega
        have HX := Lib.hid hx
        have HY := Lib.hid hy
        clear hc hc' hx hy hjl hjl'
        by_cases hxy : x = y
        · subst hxy
          go_wp2_with fail
          go_quiet (fail)
          go_wp2_with fail
          go_roundw
          case rel => exact ⟨j + 1, by go_num, by omega, take_grow HT.out HX.out HY.out, _, rfl⟩
          case measure => simp [intOf]; omega
        · have hb : (x == y) = false := by rw [beq_eq_false_iff_ne]; exact hxy
          have hb2 : (x != y) = true := by simp [bne, hb]
          have HF := Lib.hid (show decide (zs = zs') = false by rw [decide_eq_false_iff_not]; rintro rfl; have h3 := HX.out; rw [HY.out] at h3; exact hxy (Option.some.inj h3).symm)
          clear hxy
          go_wp2_with fail
          go_quiet (fail)
          go_wp2_with fail
          go_ret
          exact ⟨by rw [HF.out]; rfl, _, World.drewN_drewN _ _ _⟩
      · have HF := Lib.hid (show decide (zs = zs') = true by
          rw [decide_eq_true_eq]
          have h1 := HT.out
          rwa [List.take_of_length_le (by have := HL.out; omega), List.take_of_length_le (by have := HL'.out; omega)] at h1)
        go_wp2_with fail
        go_ret
        exact ⟨by rw [HF.out]; rfl, _, rfl⟩
  · have HF := Lib.hid (show decide (zs = zs') = false by rw [decide_eq_false_iff_not]; rintro rfl; omega)
    rw [HF.out]
    have hb : ((n : Int) == (n' : Int)) = false := by rw [beq_eq_false_iff_ne]; omega
    have hb2 : ((n : Int) != (n' : Int)) = true := by simp [bne, hb]
    clear hr hr' hl hl' hne HF
    go_enter Tryz.func70, Tryz.ntmps70
    go_wp2_with fail
    go_ret
    exact ⟨rfl, 0, rfl⟩

end Go.Proofs.YtdaimejlcfhfiaaGreatDoor

/-
  The walks of 'Same' of package conf, and of the statements' 'ints'. Conditions: those that each theorem names.
-/
namespace Go.Proofs.YtdaimejlcfhfiaaGreatDoor
open Go.RowKit Go.Shelf

set_option maxRecDepth 100000 in
theorem ite_chain {a : Prop} [Decidable a] {r : Bool} {w : World} {R : Result Bool} (h : R = Result.ok r w) : (if a then R else Result.ok false w) = Result.ok (decide a && r) w := by
  split
  · rename_i ha; rw [h, decide_eq_true ha, Bool.true_and]
  · rename_i ha; rw [decide_eq_false ha, Bool.false_and]

set_option maxRecDepth 100000 in
theorem run_eq13 (w : World) (x y : Cf) : (Op.equalIn 10000 86 (.agg x.arr) (.agg y.arr)).run Tryz.prog w = .ok (decide (x.fs = y.fs)) w := by
  obtain ⟨i0, hi, hz0, hz1, hz2⟩ := info_parts info_int
  have hc : Tryz.prog.cellsOf 3 = 1 := by kernel_rfl
  rw [run_equalIn_array w 9999 _ _ Tryz.underlying86 hi, hc]
  have hr : List.range 13 = [0, 1, 2, 3, 4, 5, 6, 7, 8, 9, 10, 11, 12] := rfl
  rw [hr]
  unfold Cf.arr
  simp only [Op.eqItems]
  go_simp
  exact (ite_chain (ite_chain (ite_chain (ite_chain (ite_chain (ite_chain (ite_chain (ite_chain (ite_chain (ite_chain (ite_chain (ite_chain (ite_chain rfl))))))))))))).trans (by simp [Cf.fs])

/-- Two groups in their boxes. -/
def Two (x y : Cf) (w W : World) : Prop := Whole W w.heap.size 24 x.cells ∧ Whole W (w.heap.size + 1) 24 y.cells ∧ Below w.heap.size w W
set_option maxRecDepth 100000 in
theorem Two.new (x y : Cf) (w : World) : Two x y w ((w.alloc (.cells x.cells 24)).alloc (.cells y.cells 24)) := by
  refine ⟨(Whole.new w _ _).alloc _, ?_, ((Below.refl _ w).alloc (Nat.le_refl _) _).alloc (by simp) _⟩
  have := Whole.new (w.alloc (.cells x.cells 24)) 24 y.cells
  rwa [World.size_alloc] at this
set_option maxRecDepth 100000 in
theorem Two.under {x y : Cf} {w W W' : World} (h : Two x y w W) (hb : Below W.heap.size W W') : Two x y w W' := ⟨h.1.under hb, h.2.1.under hb, h.2.2.trans (hb.mono h.2.2.size)⟩

set_option maxRecDepth 100000 in
set_option maxHeartbeats 2000000 in
theorem sameC_any (x y : Cf) (B B' : Nat) (w : World) (hx : Lies x w B) (hy : Lies y w B') (hB : B ≤ w.heap.size) (hB' : B' ≤ w.heap.size) (hn : x.n ≤ 1000000) : Calls Tryz.prog 49 #[x.v, y.v] w (BoolPost (sameC x y) w) := by
  have HX := Lib.hid (hx.more hB)
  have HY := Lib.hid (hy.more hB')
  have HT := Lib.hid (Two.new x y w)
  have HV1 := Lib.hid (fun W h => values_any x w.heap.size W h)
  have HV2 := Lib.hid (fun W h => values_any y (w.heap.size + 1) W h)
  clear hx hy hB hB'
  go_enter Tryz.func49, Tryz.ntmps49
  by_cases hf : x.fs = y.fs
  · have HE := Lib.hid (fun W => (run_eq13 W x y).trans (by rw [decide_eq_true hf]))
    have HF := Lib.hid (decide_eq_true hf)
    clear hf
    by_cases hs : x.sk = y.sk
    · have hsb : (x.sk == y.sk) = true := by simp [hs]
      have HS := Lib.hid (decide_eq_true hs)
      clear hs
      go_wp2_with fail
      refine (HV1.out _ HT.out.1).mono ?_
      rintro e w1 ⟨rfl, b1⟩
      have HT1 := Lib.hid (HT.out.under b1)
      clear b1 HT HV1
      go_wp2_with fail
      refine (HV2.out _ HT1.out.2.1).mono ?_
      rintro e w2 ⟨rfl, b2⟩
      have HT2 := Lib.hid (HT1.out.under b2)
      have q := HE.out w2
      clear b2 HT1 HV2 HE
      obtain ⟨c0, c1, c2, c3, c4, c5, c6, c7, c8, c9, c10, c11, c12, c13, c14⟩ := HT2.out.1.conf
      obtain ⟨d0, d1, d2, d3, d4, d5, d6, d7, d8, d9, d10, d11, d12, d13, d14⟩ := HT2.out.2.1.conf
      have HEq := Lib.hid (equal_any x.A y.A x.n x.c y.n y.c x.ms y.ms w.heap.size w.heap.size w2 (HX.out.below HT2.out.2.2).rd (HY.out.below HT2.out.2.2).rd hn)
      clear c0 c1 c2 c3 c4 c5 c6 c7 c8 c9 c10 c11 c12 d0 d1 d2 d3 d4 d5 d6 d7 d8 d9 d10 d11 d12
      go_wp2_with fail
      refine (HEq.out).mono ?_
      rintro e w3 ⟨rfl, k, rfl⟩
      clear HEq
      go_wp2_with fail
      go_ret
      exact ⟨by unfold sameC; rw [HF.out, HS.out]; rfl, below_drewN HT2.out.2.2 k⟩
    · have hsb : (x.sk == y.sk) = false := by rw [beq_eq_false_iff_ne]; exact hs
      have HS := Lib.hid (decide_eq_false hs)
      clear hs
      go_wp2_with fail
      refine (HV1.out _ HT.out.1).mono ?_
      rintro e w1 ⟨rfl, b1⟩
      have HT1 := Lib.hid (HT.out.under b1)
      clear b1 HT HV1
      go_wp2_with fail
      refine (HV2.out _ HT1.out.2.1).mono ?_
      rintro e w2 ⟨rfl, b2⟩
      have HT2 := Lib.hid (HT1.out.under b2)
      have q := HE.out w2
      clear b2 HT1 HV2 HE
      obtain ⟨c0, c1, c2, c3, c4, c5, c6, c7, c8, c9, c10, c11, c12, c13, c14⟩ := HT2.out.1.conf
      obtain ⟨d0, d1, d2, d3, d4, d5, d6, d7, d8, d9, d10, d11, d12, d13, d14⟩ := HT2.out.2.1.conf
      clear c0 c1 c2 c3 c4 c5 c6 c7 c8 c9 c10 c11 c12 d0 d1 d2 d3 d4 d5 d6 d7 d8 d9 d10 d11 d12
      go_wp2_with fail
      go_ret
      exact ⟨by unfold sameC; rw [HF.out, HS.out]; rfl, HT2.out.2.2⟩
  · have HE := Lib.hid (fun W => (run_eq13 W x y).trans (by rw [decide_eq_false hf]))
    have HF := Lib.hid (decide_eq_false hf)
    clear hf
    go_wp2_with fail
    refine (HV1.out _ HT.out.1).mono ?_
    rintro e w1 ⟨rfl, b1⟩
    have HT1 := Lib.hid (HT.out.under b1)
    clear b1 HT HV1
    go_wp2_with fail
    refine (HV2.out _ HT1.out.2.1).mono ?_
    rintro e w2 ⟨rfl, b2⟩
    have HT2 := Lib.hid (HT1.out.under b2)
    have q := HE.out w2
    clear b2 HT1 HV2 HE
    go_wp2_with fail
    go_ret
    exact ⟨by unfold sameC; rw [HF.out]; rfl, HT2.out.2.2⟩

end Go.Proofs.YtdaimejlcfhfiaaGreatDoor

/-
  The walk of 'Same' of the document's own answer (layer 7). Conditions: those that each theorem names.
-/
namespace Go.Proofs.YtdaimejlcfhfiaaGreatDoor
open Go.RowKit Go.Shelf

set_option maxRecDepth 100000 in
theorem Two.drewN {x y : Cf} {w W : World} (h : Two x y w W) (k : Nat) : Two x y w (W.drewN k) := ⟨h.1, h.2.1, below_drewN h.2.2 k⟩

set_option maxRecDepth 100000 in
set_option maxHeartbeats 4000000 in
theorem refSameC_any (x y : Cf) (B B' : Nat) (w : World) (hx : Lies x w B) (hy : Lies y w B') (hB : B ≤ w.heap.size) (hB' : B' ≤ w.heap.size) (hxn : x.n ≤ 1000) : Calls Tryz.prog 25 #[x.v, y.v] w (BoolPost (sameC x y) w) := by
  have HX := Lib.hid (hx.more hB)
  have HY := Lib.hid (hy.more hB')
  have hl := hx.len
  have hl' := hy.len
  have HT := Lib.hid (Two.new x y w)
  have HQ := Lib.hid (fun W => run_eq13 W x y)
  clear hx hy hB hB'
  by_cases hn : x.n = y.n
  · by_cases hs : x.sk = y.sk
    · have hsb : (x.sk == y.sk) = true := by simp [hs]
      have hnb2 : ((x.n : Int) != (y.n : Int)) = false := by simp [hn]
      have hsb2 : (x.sk != y.sk) = false := by simp [hs]
      have HS := Lib.hid (decide_eq_true hs)
      have HN := Lib.hid hn
      have HL := Lib.hid hl
      have HL' := Lib.hid hl'
      clear hs hn hl hl'
      go_enter Tryz.func25, Tryz.ntmps25
      go_wp2_with fail
      go_loopw [5] (fun i wr => ∃ j : Nat, i = .int .i64 (j : Int) ∧ j ≤ x.n ∧ x.ms.take j = y.ms.take j ∧ Two x y w wr) (fun i _ => x.n - (intOf i).toNat)
      case atStart => exact ⟨0, rfl, Nat.zero_le _, rfl, HT.out⟩
      case round =>
        obtain ⟨j, rfl, hj, hT, hW⟩ := hrel
        have HTk := Lib.hid hT
        have HW := Lib.hid hW
        have k14 := HW.out.1.cell 14
        have d14 := HW.out.2.1.cell 14
        simp only [List.getElem?_toArray, List.getElem?_cons_zero, List.getElem?_cons_succ] at k14 d14
        clear hT hW HT
        by_cases hlt : j < x.n
        · have hlt2 : j < y.n := by rw [← HN.out]; exact hlt
          obtain ⟨b, off, hA, _, hc⟩ := (HX.out.below HW.out.2.2).rd.2 (by omega)
          obtain ⟨b', off', hA', _, hc'⟩ := (HY.out.below HW.out.2.2).rd.2 (by omega)
          have hjl : j < x.ms.length := by rw [HL.out]; exact hlt
          have hjl' : j < y.ms.length := by rw [HL'.out]; exact hlt2
          obtain ⟨u, hu⟩ : ∃ u, x.ms[j]? = some u := ⟨_, List.getElem?_eq_getElem hjl⟩
          obtain ⟨v, hv⟩ : ∃ v, y.ms[j]? = some v := ⟨_, List.getElem?_eq_getElem hjl'⟩
          have h1 := hc j hlt
          have h2 := hc' j hlt2
          rw [show (iv x.ms)[j]? = some (.int .i64 u) by simp [iv, hu]] at h1
          rw [show (iv y.ms)[j]? = some (.int .i64 v) by simp [iv, hv]] at h2
          have hI : (j : Int) < (x.n : Int) := by omega
          have hI2 : (j : Int) < (y.n : Int) := by omega
          have HU := Lib.hid hu
          have HV := Lib.hid hv
          rw [hA] at k14
          rw [hA'] at d14
          clear hc hc' hu hv hjl hjl' hA hA'
          by_cases huv : u = v
          · subst huv
            go_wp2_with fail
            go_quiet (fail)
            go_wp2_with fail
            go_roundw
            case rel => exact ⟨j + 1, by go_num, by omega, take_grow HTk.out HU.out HV.out, HW.out.drewN _⟩
            case measure => simp [intOf]; omega
          · have hb : (u == v) = false := by rw [beq_eq_false_iff_ne]; exact huv
            have hb2 : (u != v) = true := by simp [bne, hb]
            have HF : Hid (sameC x y = false) := Lib.hid (by
              have h : ¬ x.ms = y.ms := fun e => by have h3 := HU.out; rw [e, HV.out] at h3; exact huv (Option.some.inj h3).symm
              unfold sameC; rw [decide_eq_false h, Bool.and_false, Bool.and_false])
            clear huv
            go_wp2_with fail
            go_quiet (fail)
            go_wp2_with fail
            go_ret
            exact ⟨by rw [HF.out]; rfl, below_drewN HW.out.2.2 _⟩
        · have HE : Hid (sameC x y = decide (x.fs = y.fs)) := Lib.hid (by
            have h1 := HTk.out
            rw [List.take_of_length_le (by have := HL.out; omega), List.take_of_length_le (by have := HL'.out; have := HN.out; omega)] at h1
            unfold sameC
            rw [HS.out, decide_eq_true h1, Bool.and_true, Bool.and_true])
          have hI : ¬ (j : Int) < (x.n : Int) := by omega
          have q := HQ.out
          unfold Cf.arr at q
          obtain ⟨c0, c1, c2, c3, c4, c5, c6, c7, c8, c9, c10, c11, c12, c13, c14⟩ := HW.out.1.conf
          obtain ⟨W2, hW2⟩ : ∃ W2, wr.alloc (.cells #[.int .i64 x.f0, .int .i64 x.f1, .int .i64 x.f2, .int .i64 x.f3, .int .i64 x.f4, .int .i64 x.f5, .int .i64 x.f6, .int .i64 x.f7, .int .i64 x.f8, .int .i64 x.f9, .int .i64 x.f10, .int .i64 x.f11, .int .i64 x.f12] 86) = W2 := ⟨_, rfl⟩
          have hb2 : Below wr.heap.size wr W2 := by rw [← hW2]; exact (Below.refl _ _).alloc (Nat.le_refl _) _
          have HW2 := Lib.hid (HW.out.under hb2)
          have HA2 : Hid (Whole W2 wr.heap.size 86 #[.int .i64 x.f0, .int .i64 x.f1, .int .i64 x.f2, .int .i64 x.f3, .int .i64 x.f4, .int .i64 x.f5, .int .i64 x.f6, .int .i64 x.f7, .int .i64 x.f8, .int .i64 x.f9, .int .i64 x.f10, .int .i64 x.f11, .int .i64 x.f12]) := Lib.hid (by rw [← hW2]; exact Whole.new wr _ _)
          obtain ⟨d0, d1, d2, d3, d4, d5, d6, d7, d8, d9, d10, d11, d12, d13, _⟩ := HW2.out.2.1.conf
          clear hb2
          obtain ⟨W3, hW3⟩ : ∃ W3, W2.alloc (.cells #[.int .i64 y.f0, .int .i64 y.f1, .int .i64 y.f2, .int .i64 y.f3, .int .i64 y.f4, .int .i64 y.f5, .int .i64 y.f6, .int .i64 y.f7, .int .i64 y.f8, .int .i64 y.f9, .int .i64 y.f10, .int .i64 y.f11, .int .i64 y.f12] 86) = W3 := ⟨_, rfl⟩
          have HA3 : Hid (Whole W3 wr.heap.size 86 x.arr) := Lib.hid (by rw [← hW3]; exact HA2.out.alloc _)
          have HB3 : Hid (Whole W3 W2.heap.size 86 y.arr) := Lib.hid (by rw [← hW3]; exact Whole.new W2 _ _)
          have HBel : Hid (Below w.heap.size w W3) := Lib.hid (by rw [← hW3]; exact HW2.out.2.2.alloc HW2.out.2.2.size _)
          have a0 := HA3.out.cell 0
          have a1 := HA3.out.cell 1
          have a2 := HA3.out.cell 2
          have a3 := HA3.out.cell 3
          have a4 := HA3.out.cell 4
          have a5 := HA3.out.cell 5
          have a6 := HA3.out.cell 6
          have a7 := HA3.out.cell 7
          have a8 := HA3.out.cell 8
          have a9 := HA3.out.cell 9
          have a10 := HA3.out.cell 10
          have a11 := HA3.out.cell 11
          have a12 := HA3.out.cell 12
          have e0 := HB3.out.cell 0
          have e1 := HB3.out.cell 1
          have e2 := HB3.out.cell 2
          have e3 := HB3.out.cell 3
          have e4 := HB3.out.cell 4
          have e5 := HB3.out.cell 5
          have e6 := HB3.out.cell 6
          have e7 := HB3.out.cell 7
          have e8 := HB3.out.cell 8
          have e9 := HB3.out.cell 9
          have e10 := HB3.out.cell 10
          have e11 := HB3.out.cell 11
          have e12 := HB3.out.cell 12
          simp only [Cf.arr, List.getElem?_toArray, List.getElem?_cons_zero, List.getElem?_cons_succ] at a0 e0 a1 e1 a2 e2 a3 e3 a4 e4 a5 e5 a6 e6 a7 e7 a8 e8 a9 e9 a10 e10 a11 e11 a12 e12
          go_wp2_with fail
          go_ret
          exact ⟨by rw [HE.out]; rfl, HBel.out⟩
    · have hsb : (x.sk == y.sk) = false := by rw [beq_eq_false_iff_ne]; exact hs
      have hsb2 : (x.sk != y.sk) = true := by simp [bne, hsb]
      have hnb : ((x.n : Int) == (y.n : Int)) = true := by simp [hn]
      have hnb2 : ((x.n : Int) != (y.n : Int)) = false := by simp [hn]
      have HF : Hid (sameC x y = false) := Lib.hid (by unfold sameC; rw [decide_eq_false hs]; simp)
      clear hs hl hl' hn hnb
      go_enter Tryz.func25, Tryz.ntmps25
      go_wp2_with fail
      go_ret
      exact ⟨by rw [HF.out]; rfl, HT.out.2.2⟩
  · have hnb : ((x.n : Int) == (y.n : Int)) = false := by rw [beq_eq_false_iff_ne]; omega
    have hnb2 : ((x.n : Int) != (y.n : Int)) = true := by simp [bne, hnb]
    have HF : Hid (sameC x y = false) := Lib.hid (by
      have h : ¬ x.ms = y.ms := fun e => hn (by rw [← hl, ← hl', e])
      unfold sameC; rw [decide_eq_false h, Bool.and_false, Bool.and_false])
    clear hn hl hl'
    go_enter Tryz.func25, Tryz.ntmps25
    go_wp2_with fail
    go_ret
    exact ⟨by rw [HF.out]; rfl, HT.out.2.2⟩

end Go.Proofs.YtdaimejlcfhfiaaGreatDoor

/-
  The walk of the document's own 'Same' of brains. Conditions: those that each theorem names.
-/
namespace Go.Proofs.YtdaimejlcfhfiaaGreatDoor
open Go.RowKit Go.Shelf

set_option maxRecDepth 100000 in
theorem take_growB {α : Type} {l l' : List α} {j : Nat} {x : α} (h : l.take j = l'.take j) (h1 : l[j]? = some x) (h2 : l'[j]? = some x) : l.take (j + 1) = l'.take (j + 1) := by
  have l1 : j < l.length := (List.getElem?_eq_some_iff.1 h1).1
  have l2 : j < l'.length := (List.getElem?_eq_some_iff.1 h2).1
  rw [List.take_succ_eq_append_getElem l1, List.take_succ_eq_append_getElem l2, h]
  rw [List.getElem?_eq_getElem l1] at h1
  rw [List.getElem?_eq_getElem l2] at h2
  rw [Option.some.inj h1, Option.some.inj h2]
set_option maxRecDepth 100000 in
theorem below_drewB {B : Nat} {w w' : World} (h : Below B w w') (k : Nat) : Below B w (w'.drewN k) := ⟨h.os, h.tape, h.output, h.size, h.block⟩
set_option maxRecDepth 100000 in
theorem cells27 {w : World} {g : Nat} {p : Br} {a : Ad} (h : Whole w g 30 (brC p a)) : w.cell? ⟨g, 0, none⟩ = some (.int .i64 p.ep) ∧ w.cell? ⟨g, 1, none⟩ = some (.int .i64 p.sq) ∧ w.cell? ⟨g, 2, none⟩ = some (.bool p.set) ∧ w.cell? ⟨g, 3, none⟩ = some (.int .i64 p.cf.f0) ∧ w.cell? ⟨g, 4, none⟩ = some (.int .i64 p.cf.f1) ∧ w.cell? ⟨g, 5, none⟩ = some (.int .i64 p.cf.f2) ∧ w.cell? ⟨g, 6, none⟩ = some (.int .i64 p.cf.f3) ∧ w.cell? ⟨g, 7, none⟩ = some (.int .i64 p.cf.f4) ∧ w.cell? ⟨g, 8, none⟩ = some (.int .i64 p.cf.f5) ∧ w.cell? ⟨g, 9, none⟩ = some (.int .i64 p.cf.f6) ∧ w.cell? ⟨g, 10, none⟩ = some (.int .i64 p.cf.f7) ∧ w.cell? ⟨g, 11, none⟩ = some (.int .i64 p.cf.f8) ∧ w.cell? ⟨g, 12, none⟩ = some (.int .i64 p.cf.f9) ∧ w.cell? ⟨g, 13, none⟩ = some (.int .i64 p.cf.f10) ∧ w.cell? ⟨g, 14, none⟩ = some (.int .i64 p.cf.f11) ∧ w.cell? ⟨g, 15, none⟩ = some (.int .i64 p.cf.f12) ∧ w.cell? ⟨g, 16, none⟩ = some (.bool p.cf.sk) ∧ w.cell? ⟨g, 17, none⟩ = some (.slice a.C p.cf.ms.length a.e) ∧ w.cell? ⟨g, 18, none⟩ = some (.slice a.A p.its.length a.c) ∧ w.cell? ⟨g, 19, none⟩ = some (.slice a.B p.kps.length a.d) ∧ w.cell? ⟨g, 20, none⟩ = some (.int .u8 p.rf.st) ∧ w.cell? ⟨g, 21, none⟩ = some (.int .i64 p.rf.fr) ∧ w.cell? ⟨g, 22, none⟩ = some (.int .i64 p.rf.to_) ∧ w.cell? ⟨g, 23, none⟩ = some (.int .i64 p.rf.step) ∧ w.cell? ⟨g, 24, none⟩ = some (.bool p.rf.paused) ∧ w.cell? ⟨g, 25, none⟩ = some (.int .i64 p.rf.since) ∧ w.cell? ⟨g, 26, none⟩ = some (.int .i64 p.rf.fails) := ⟨h.cell 0, h.cell 1, h.cell 2, h.cell 3, h.cell 4, h.cell 5, h.cell 6, h.cell 7, h.cell 8, h.cell 9, h.cell 10, h.cell 11, h.cell 12, h.cell 13, h.cell 14, h.cell 15, h.cell 16, h.cell 17, h.cell 18, h.cell 19, h.cell 20, h.cell 21, h.cell 22, h.cell 23, h.cell 24, h.cell 25, h.cell 26⟩

set_option maxRecDepth 100000 in
set_option maxHeartbeats 4000000 in
theorem rsameB_any (p q : Br) (a b : Ad) (Z Z' : Nat) (w : World) (hr : RdB_ w Z p a) (hr' : RdB_ w Z' q b) (hZ : Z ≤ w.heap.size) (hZ' : Z' ≤ w.heap.size) (hm : p.cf.ms.length ≤ 1000) (hi : p.its.length ≤ 1000) (hk : p.kps.length ≤ 1000) :
    Calls Tryz.prog 11 #[brV p a, brV q b] w (BoolPost (sameB p q) w) := by
  obtain ⟨hb, w0, w1⟩ := two_new w 30 30 (brC p a) (brC q b)
  obtain ⟨V, hV⟩ : ∃ V, (w.alloc (.cells (brC p a) 30)).alloc (.cells (brC q b) 30) = V := ⟨_, rfl⟩
  rw [hV] at hb w0 w1
  have hs := refSameC_any (cfM p a) (cfM q b) Z Z' V (hr.below (hb.mono hZ)).lies (hr'.below (hb.mono hZ')).lies (Nat.le_trans hZ hb.size) (Nat.le_trans hZ' hb.size) hm
  have hsc : sameC (cfM p a) (cfM q b) = sameC p.cf q.cf := rfl
  rw [hsc] at hs
  have HR := Lib.hid (hr.below (hb.mono hZ))
  have HR' := Lib.hid (hr'.below (hb.mono hZ'))
  have HB := Lib.hid hb
  have X0 := Lib.hid w0
  have X1 := Lib.hid w1
  have HV := Lib.hid hV
  obtain ⟨sc, hsv⟩ : ∃ sc, sameC p.cf q.cf = sc := ⟨_, rfl⟩
  rw [hsv] at hs
  have HS := Lib.hid hs
  obtain ⟨r, hres⟩ : ∃ r, sameB p q = r := ⟨_, rfl⟩
  rw [hres]
  unfold sameB at hres
  rw [hsv] at hres
  have HRes := Lib.hid hres
  have HZ := Lib.hid (And.intro (Nat.le_trans hZ hb.size) (Nat.le_trans hZ' hb.size))
  clear hb w0 w1 hr hr' hZ hZ' hV hs hsc hsv hres
  by_cases t0 : p.ep = q.ep
  rotate_left
  · have b0 : (p.ep != q.ep) = true := by simp [t0]
    have HF := Lib.hid (show r = false by rw [← HRes.out]; simp [t0])
    clear t0
    go_enter Tryz.func11, Tryz.ntmps11
    go_upto_region 1 with fail
    refine wpV (fun V2 hV2 => ?_)
    obtain rfl : V = V2 := HV.out.symm.trans hV2
    clear HV hV2
    obtain ⟨c0, c1, c2, c3, c4, c5, c6, c7, c8, c9, c10, c11, c12, c13, c14, c15, c16, c17, c18, c19, c20, c21, c22, c23, c24, c25, c26⟩ := cells27 X0.out
    obtain ⟨d0, d1, d2, d3, d4, d5, d6, d7, d8, d9, d10, d11, d12, d13, d14, d15, d16, d17, d18, d19, d20, d21, d22, d23, d24, d25, d26⟩ := cells27 X1.out
    go_wp2_with fail
    go_ret
    exact ⟨by rw [HF.out]; rfl, HB.out⟩
  have b0 : (p.ep != q.ep) = false := by simp [t0]
  by_cases t1 : p.sq = q.sq
  rotate_left
  · have b1 : (p.sq != q.sq) = true := by simp [t1]
    have HF := Lib.hid (show r = false by rw [← HRes.out]; simp [t1])
    clear t0 t1
    go_enter Tryz.func11, Tryz.ntmps11
    go_upto_region 1 with fail
    refine wpV (fun V2 hV2 => ?_)
    obtain rfl : V = V2 := HV.out.symm.trans hV2
    clear HV hV2
    obtain ⟨c0, c1, c2, c3, c4, c5, c6, c7, c8, c9, c10, c11, c12, c13, c14, c15, c16, c17, c18, c19, c20, c21, c22, c23, c24, c25, c26⟩ := cells27 X0.out
    obtain ⟨d0, d1, d2, d3, d4, d5, d6, d7, d8, d9, d10, d11, d12, d13, d14, d15, d16, d17, d18, d19, d20, d21, d22, d23, d24, d25, d26⟩ := cells27 X1.out
    go_wp2_with fail
    go_ret
    exact ⟨by rw [HF.out]; rfl, HB.out⟩
  have b1 : (p.sq != q.sq) = false := by simp [t1]
  by_cases t2 : p.set = q.set
  rotate_left
  · have b2 : (p.set != q.set) = true := by simp [t2]
    have b2' : decide (p.set = q.set) = false := decide_eq_false t2
    have HF := Lib.hid (show r = false by rw [← HRes.out]; simp [t2])
    clear t0 t1
    have T2 := Lib.hid t2
    clear t2
    go_enter Tryz.func11, Tryz.ntmps11
    go_upto_region 1 with fail
    refine wpV (fun V2 hV2 => ?_)
    obtain rfl : V = V2 := HV.out.symm.trans hV2
    clear HV hV2
    have t2 := T2.out
    obtain ⟨c0, c1, c2, c3, c4, c5, c6, c7, c8, c9, c10, c11, c12, c13, c14, c15, c16, c17, c18, c19, c20, c21, c22, c23, c24, c25, c26⟩ := cells27 X0.out
    obtain ⟨d0, d1, d2, d3, d4, d5, d6, d7, d8, d9, d10, d11, d12, d13, d14, d15, d16, d17, d18, d19, d20, d21, d22, d23, d24, d25, d26⟩ := cells27 X1.out
    go_wp2_with fail
    go_ret
    exact ⟨by rw [HF.out]; rfl, HB.out⟩
  have b2 : (p.set != q.set) = false := by simp [t2]
  have b2' : decide (p.set = q.set) = true := decide_eq_true t2
  by_cases t3 : sc = true
  rotate_left
  · obtain rfl : sc = false := by simpa using t3
    have HF := Lib.hid (show r = false by rw [← HRes.out]; simp)
    clear t0 t1 t3
    have T2 := Lib.hid t2
    clear t2
    go_enter Tryz.func11, Tryz.ntmps11
    go_upto_region 1 with fail
    refine wpV (fun V2 hV2 => ?_)
    obtain rfl : V = V2 := HV.out.symm.trans hV2
    clear HV hV2
    have t2 := T2.out
    obtain ⟨c0, c1, c2, c3, c4, c5, c6, c7, c8, c9, c10, c11, c12, c13, c14, c15, c16, c17, c18, c19, c20, c21, c22, c23, c24, c25, c26⟩ := cells27 X0.out
    obtain ⟨d0, d1, d2, d3, d4, d5, d6, d7, d8, d9, d10, d11, d12, d13, d14, d15, d16, d17, d18, d19, d20, d21, d22, d23, d24, d25, d26⟩ := cells27 X1.out
    go_wp2_with fail
    refine HS.out.mono ?_
    rintro e w2 ⟨rfl, hb2⟩
    clear c0 c1 c2 c3 c4 c5 c6 c7 c8 c9 c10 c11 c12 c13 c14 c15 c16 c17 c18 c19 c20 c21 c22 c23 c24 c25 c26 d0 d1 d2 d3 d4 d5 d6 d7 d8 d9 d10 d11 d12 d13 d14 d15 d16 d17 d18 d19 d20 d21 d22 d23 d24 d25 d26
    obtain ⟨c0, c1, c2, c3, c4, c5, c6, c7, c8, c9, c10, c11, c12, c13, c14, c15, c16, c17, c18, c19, c20, c21, c22, c23, c24, c25, c26⟩ := cells27 (X0.out.under hb2)
    obtain ⟨d0, d1, d2, d3, d4, d5, d6, d7, d8, d9, d10, d11, d12, d13, d14, d15, d16, d17, d18, d19, d20, d21, d22, d23, d24, d25, d26⟩ := cells27 (X1.out.under hb2)
    have HB2 := Lib.hid (HB.out.trans (hb2.mono HB.out.size))
    have X02 := Lib.hid (X0.out.under hb2)
    have X12 := Lib.hid (X1.out.under hb2)
    have HR2 := Lib.hid (HR.out.below (hb2.mono HZ.out.1))
    have HR2' := Lib.hid (HR'.out.below (hb2.mono HZ.out.2))
    clear hb2 HB X0 X1 HR HR'
    go_wp2_with fail
    go_ret
    exact ⟨by rw [HF.out]; rfl, HB2.out⟩
  by_cases t4 : p.rf = q.rf
  rotate_left
  · have b4 := fun W => (run_neqRf W p.rf q.rf).trans (by rw [decide_eq_false t4, Bool.not_false])
    have HF := Lib.hid (show r = false by rw [← HRes.out]; simp [t4])
    subst t3
    clear t0 t1 t4
    have T2 := Lib.hid t2
    clear t2
    go_enter Tryz.func11, Tryz.ntmps11
    go_upto_region 1 with fail
    refine wpV (fun V2 hV2 => ?_)
    obtain rfl : V = V2 := HV.out.symm.trans hV2
    clear HV hV2
    have t2 := T2.out
    obtain ⟨c0, c1, c2, c3, c4, c5, c6, c7, c8, c9, c10, c11, c12, c13, c14, c15, c16, c17, c18, c19, c20, c21, c22, c23, c24, c25, c26⟩ := cells27 X0.out
    obtain ⟨d0, d1, d2, d3, d4, d5, d6, d7, d8, d9, d10, d11, d12, d13, d14, d15, d16, d17, d18, d19, d20, d21, d22, d23, d24, d25, d26⟩ := cells27 X1.out
    go_wp2_with fail
    refine HS.out.mono ?_
    rintro e w2 ⟨rfl, hb2⟩
    clear c0 c1 c2 c3 c4 c5 c6 c7 c8 c9 c10 c11 c12 c13 c14 c15 c16 c17 c18 c19 c20 c21 c22 c23 c24 c25 c26 d0 d1 d2 d3 d4 d5 d6 d7 d8 d9 d10 d11 d12 d13 d14 d15 d16 d17 d18 d19 d20 d21 d22 d23 d24 d25 d26
    obtain ⟨c0, c1, c2, c3, c4, c5, c6, c7, c8, c9, c10, c11, c12, c13, c14, c15, c16, c17, c18, c19, c20, c21, c22, c23, c24, c25, c26⟩ := cells27 (X0.out.under hb2)
    obtain ⟨d0, d1, d2, d3, d4, d5, d6, d7, d8, d9, d10, d11, d12, d13, d14, d15, d16, d17, d18, d19, d20, d21, d22, d23, d24, d25, d26⟩ := cells27 (X1.out.under hb2)
    have HB2 := Lib.hid (HB.out.trans (hb2.mono HB.out.size))
    have X02 := Lib.hid (X0.out.under hb2)
    have X12 := Lib.hid (X1.out.under hb2)
    have HR2 := Lib.hid (HR.out.below (hb2.mono HZ.out.1))
    have HR2' := Lib.hid (HR'.out.below (hb2.mono HZ.out.2))
    clear hb2 HB X0 X1 HR HR'
    go_wp2_with fail
    go_ret
    exact ⟨by rw [HF.out]; rfl, HB2.out⟩
  by_cases t5 : p.its.length = q.its.length
  rotate_left
  · have b5 : ((p.its.length : Int) != (q.its.length : Int)) = true := by simp; omega
    have HF := Lib.hid (show r = false by
      rw [← HRes.out]
      have : p.its ≠ q.its := fun e => t5 (by rw [e])
      simp [this])
    subst t3
    have b4 := fun W => (run_neqRf W p.rf q.rf).trans (by rw [decide_eq_true t4, Bool.not_true])
    clear t0 t1 t4 t5
    have T2 := Lib.hid t2
    clear t2
    go_enter Tryz.func11, Tryz.ntmps11
    go_upto_region 1 with fail
    refine wpV (fun V2 hV2 => ?_)
    obtain rfl : V = V2 := HV.out.symm.trans hV2
    clear HV hV2
    have t2 := T2.out
    obtain ⟨c0, c1, c2, c3, c4, c5, c6, c7, c8, c9, c10, c11, c12, c13, c14, c15, c16, c17, c18, c19, c20, c21, c22, c23, c24, c25, c26⟩ := cells27 X0.out
    obtain ⟨d0, d1, d2, d3, d4, d5, d6, d7, d8, d9, d10, d11, d12, d13, d14, d15, d16, d17, d18, d19, d20, d21, d22, d23, d24, d25, d26⟩ := cells27 X1.out
    go_wp2_with fail
    refine HS.out.mono ?_
    rintro e w2 ⟨rfl, hb2⟩
    clear c0 c1 c2 c3 c4 c5 c6 c7 c8 c9 c10 c11 c12 c13 c14 c15 c16 c17 c18 c19 c20 c21 c22 c23 c24 c25 c26 d0 d1 d2 d3 d4 d5 d6 d7 d8 d9 d10 d11 d12 d13 d14 d15 d16 d17 d18 d19 d20 d21 d22 d23 d24 d25 d26
    obtain ⟨c0, c1, c2, c3, c4, c5, c6, c7, c8, c9, c10, c11, c12, c13, c14, c15, c16, c17, c18, c19, c20, c21, c22, c23, c24, c25, c26⟩ := cells27 (X0.out.under hb2)
    obtain ⟨d0, d1, d2, d3, d4, d5, d6, d7, d8, d9, d10, d11, d12, d13, d14, d15, d16, d17, d18, d19, d20, d21, d22, d23, d24, d25, d26⟩ := cells27 (X1.out.under hb2)
    have HB2 := Lib.hid (HB.out.trans (hb2.mono HB.out.size))
    have X02 := Lib.hid (X0.out.under hb2)
    have X12 := Lib.hid (X1.out.under hb2)
    have HR2 := Lib.hid (HR.out.below (hb2.mono HZ.out.1))
    have HR2' := Lib.hid (HR'.out.below (hb2.mono HZ.out.2))
    clear hb2 HB X0 X1 HR HR'
    go_wp2_with fail
    go_ret
    exact ⟨by rw [HF.out]; rfl, HB2.out⟩
  have b5 : ((p.its.length : Int) != (q.its.length : Int)) = false := by simp [t5]
  by_cases t6 : p.kps.length = q.kps.length
  rotate_left
  · have b6 : ((p.kps.length : Int) != (q.kps.length : Int)) = true := by simp; omega
    have HF := Lib.hid (show r = false by
      rw [← HRes.out]
      have : p.kps ≠ q.kps := fun e => t6 (by rw [e])
      simp [this])
    subst t3
    have b4 := fun W => (run_neqRf W p.rf q.rf).trans (by rw [decide_eq_true t4, Bool.not_true])
    clear t0 t1 t4 t5 t6
    have T2 := Lib.hid t2
    clear t2
    go_enter Tryz.func11, Tryz.ntmps11
    go_upto_region 1 with fail
    refine wpV (fun V2 hV2 => ?_)
    obtain rfl : V = V2 := HV.out.symm.trans hV2
    clear HV hV2
    have t2 := T2.out
    obtain ⟨c0, c1, c2, c3, c4, c5, c6, c7, c8, c9, c10, c11, c12, c13, c14, c15, c16, c17, c18, c19, c20, c21, c22, c23, c24, c25, c26⟩ := cells27 X0.out
    obtain ⟨d0, d1, d2, d3, d4, d5, d6, d7, d8, d9, d10, d11, d12, d13, d14, d15, d16, d17, d18, d19, d20, d21, d22, d23, d24, d25, d26⟩ := cells27 X1.out
    go_wp2_with fail
    refine HS.out.mono ?_
    rintro e w2 ⟨rfl, hb2⟩
    clear c0 c1 c2 c3 c4 c5 c6 c7 c8 c9 c10 c11 c12 c13 c14 c15 c16 c17 c18 c19 c20 c21 c22 c23 c24 c25 c26 d0 d1 d2 d3 d4 d5 d6 d7 d8 d9 d10 d11 d12 d13 d14 d15 d16 d17 d18 d19 d20 d21 d22 d23 d24 d25 d26
    obtain ⟨c0, c1, c2, c3, c4, c5, c6, c7, c8, c9, c10, c11, c12, c13, c14, c15, c16, c17, c18, c19, c20, c21, c22, c23, c24, c25, c26⟩ := cells27 (X0.out.under hb2)
    obtain ⟨d0, d1, d2, d3, d4, d5, d6, d7, d8, d9, d10, d11, d12, d13, d14, d15, d16, d17, d18, d19, d20, d21, d22, d23, d24, d25, d26⟩ := cells27 (X1.out.under hb2)
    have HB2 := Lib.hid (HB.out.trans (hb2.mono HB.out.size))
    have X02 := Lib.hid (X0.out.under hb2)
    have X12 := Lib.hid (X1.out.under hb2)
    have HR2 := Lib.hid (HR.out.below (hb2.mono HZ.out.1))
    have HR2' := Lib.hid (HR'.out.below (hb2.mono HZ.out.2))
    clear hb2 HB X0 X1 HR HR'
    go_wp2_with fail
    go_ret
    exact ⟨by rw [HF.out]; rfl, HB2.out⟩
  have b6 : ((p.kps.length : Int) != (q.kps.length : Int)) = false := by simp [t6]
  have b4 := fun W => (run_neqRf W p.rf q.rf).trans (by rw [decide_eq_true t4, Bool.not_true])
  have HRl := Lib.hid (show (decide (p.its = q.its) && decide (p.kps = q.kps)) = r by rw [← HRes.out]; simp [t0, t1, t2, t3, t4])
  have HLi := Lib.hid t5
  have HLk := Lib.hid t6
  subst t3
  clear t0 t1 t4 t5 t6 HRes
  have T2 := Lib.hid t2
  clear t2
  go_enter Tryz.func11, Tryz.ntmps11
  go_upto_region 1 with fail
  refine wpV (fun V2 hV2 => ?_)
  obtain rfl : V = V2 := HV.out.symm.trans hV2
  clear HV hV2
  have t2 := T2.out
  obtain ⟨c0, c1, c2, c3, c4, c5, c6, c7, c8, c9, c10, c11, c12, c13, c14, c15, c16, c17, c18, c19, c20, c21, c22, c23, c24, c25, c26⟩ := cells27 X0.out
  obtain ⟨d0, d1, d2, d3, d4, d5, d6, d7, d8, d9, d10, d11, d12, d13, d14, d15, d16, d17, d18, d19, d20, d21, d22, d23, d24, d25, d26⟩ := cells27 X1.out
  go_wp2_with fail
  refine HS.out.mono ?_
  rintro e w2 ⟨rfl, hb2⟩
  clear c0 c1 c2 c3 c4 c5 c6 c7 c8 c9 c10 c11 c12 c13 c14 c15 c16 c17 c18 c19 c20 c21 c22 c23 c24 c25 c26 d0 d1 d2 d3 d4 d5 d6 d7 d8 d9 d10 d11 d12 d13 d14 d15 d16 d17 d18 d19 d20 d21 d22 d23 d24 d25 d26
  obtain ⟨c0, c1, c2, c3, c4, c5, c6, c7, c8, c9, c10, c11, c12, c13, c14, c15, c16, c17, c18, c19, c20, c21, c22, c23, c24, c25, c26⟩ := cells27 (X0.out.under hb2)
  obtain ⟨d0, d1, d2, d3, d4, d5, d6, d7, d8, d9, d10, d11, d12, d13, d14, d15, d16, d17, d18, d19, d20, d21, d22, d23, d24, d25, d26⟩ := cells27 (X1.out.under hb2)
  have HB2 := Lib.hid (HB.out.trans (hb2.mono HB.out.size))
  have X02 := Lib.hid (X0.out.under hb2)
  have X12 := Lib.hid (X1.out.under hb2)
  have HR2 := Lib.hid (HR.out.below (hb2.mono HZ.out.1))
  have HR2' := Lib.hid (HR'.out.below (hb2.mono HZ.out.2))
  clear hb2 HB X0 X1 HR HR'
  go_wp2_with fail
  go_loopw [5] (fun i wr => ∃ j : Nat, i = .int .i64 (j : Int) ∧ j ≤ p.its.length ∧ p.its.take j = q.its.take j ∧ ∃ k, wr = w2.drewN k) (fun i _ => p.its.length - (intOf i).toNat)
  case atStart => exact ⟨0, rfl, Nat.zero_le _, rfl, 0, rfl⟩
  case round =>
    obtain ⟨j, rfl, hj, hT, k5, rfl⟩ := hrel
    have HT5 := Lib.hid hT
    clear hT
    by_cases hlt : j < p.its.length
    · obtain ⟨b1, off1, h1, _, hc⟩ := RdI.at_ HR2.out.its (by omega)
      obtain ⟨b2, off2, h2, _, hc'⟩ := RdI.at_ HR2'.out.its (by have := HLi.out; omega)
      rw [h1] at c18
      rw [h2] at d18
      obtain ⟨x, hx⟩ : ∃ x, p.its[j]? = some x := ⟨_, List.getElem?_eq_getElem hlt⟩
      obtain ⟨y, hy⟩ : ∃ y, q.its[j]? = some y := ⟨_, List.getElem?_eq_getElem (by have := HLi.out; omega)⟩
      obtain ⟨g0, g1, g2, g3⟩ := hc j x hx
      obtain ⟨q0, q1, q2, q3⟩ := hc' j y hy
      have hI : (j : Int) < (p.its.length : Int) := by omega
      have hI' : (j : Int) < (q.its.length : Int) := by have := HLi.out; omega
      have HX := Lib.hid hx
      have HY := Lib.hid hy
      clear hc hc' hx hy h1 h2
      by_cases hxy : x = y
      · subst hxy
        go_wp2_with fail
        go_quiet (fail)
        go_wp2_with fail
        go_roundw
        case rel => exact ⟨j + 1, by go_num, by omega, take_growB HT5.out HX.out HY.out, _, rfl⟩
        case measure => simp [intOf]; omega
      · have hq := fun W => (run_neqIt W x y).trans (by rw [decide_eq_false hxy, Bool.not_false])
        have HF := Lib.hid (show r = false by
          rw [← HRl.out]
          have : p.its ≠ q.its := by intro e; have h3 := HX.out; rw [e, HY.out] at h3; exact hxy (Option.some.inj h3).symm
          simp [this])
        clear hxy
        go_wp2_with fail
        go_quiet (fail)
        go_wp2_with fail
        go_ret
        exact ⟨by rw [HF.out]; rfl, below_drewB (below_drewB HB2.out _) _⟩
    · have HE := Lib.hid (show p.its = q.its by
        have h1 := HT5.out
        rwa [List.take_of_length_le (by omega), List.take_of_length_le (by have := HLi.out; omega)] at h1)
      go_wp2_with fail
      go_loopw [6] (fun i wr => ∃ j : Nat, i = .int .i64 (j : Int) ∧ j ≤ p.kps.length ∧ p.kps.take j = q.kps.take j ∧ ∃ k, wr = w2.drewN k) (fun i _ => p.kps.length - (intOf i).toNat)
      case atStart => exact ⟨0, rfl, Nat.zero_le _, rfl, _, rfl⟩
      case round =>
        obtain ⟨j, rfl, hj, hT, k6, rfl⟩ := hrel
        have HT6 := Lib.hid hT
        clear hT
        by_cases hlt : j < p.kps.length
        · obtain ⟨b1, off1, h1, _, hc⟩ := RdK.at_ HR2.out.kps (by omega)
          obtain ⟨b2, off2, h2, _, hc'⟩ := RdK.at_ HR2'.out.kps (by have := HLk.out; omega)
          rw [h1] at c19
          rw [h2] at d19
          obtain ⟨x, hx⟩ : ∃ x, p.kps[j]? = some x := ⟨_, List.getElem?_eq_getElem hlt⟩
          obtain ⟨y, hy⟩ : ∃ y, q.kps[j]? = some y := ⟨_, List.getElem?_eq_getElem (by have := HLk.out; omega)⟩
          obtain ⟨g0, g1, g2, g3, g4, g5, g6, g7⟩ := hc j x hx
          obtain ⟨q0, q1, q2, q3, q4, q5, q6, q7⟩ := hc' j y hy
          have hI : (j : Int) < (p.kps.length : Int) := by omega
          have hI' : (j : Int) < (q.kps.length : Int) := by have := HLk.out; omega
          have HX := Lib.hid hx
          have HY := Lib.hid hy
          clear hc hc' hx hy h1 h2
          by_cases hxy : x = y
          · subst hxy
            go_wp2_with fail
            go_quiet (fail)
            go_wp2_with fail
            go_roundw
            case rel => exact ⟨j + 1, by go_num, by omega, take_growB HT6.out HX.out HY.out, _, rfl⟩
            case measure => simp [intOf]; omega
          · have hq := fun W => (run_neqKp W x y).trans (by rw [decide_eq_false hxy, Bool.not_false])
            have HF := Lib.hid (show r = false by
              rw [← HRl.out]
              have : p.kps ≠ q.kps := by intro e; have h3 := HX.out; rw [e, HY.out] at h3; exact hxy (Option.some.inj h3).symm
              simp [this])
            clear hxy
            go_wp2_with fail
            go_quiet (fail)
            go_wp2_with fail
            go_ret
            exact ⟨by rw [HF.out]; rfl, below_drewB (below_drewB HB2.out _) _⟩
        · have HF := Lib.hid (show r = true by
            rw [← HRl.out, decide_eq_true HE.out, Bool.true_and, decide_eq_true_eq]
            have h1 := HT6.out
            rwa [List.take_of_length_le (by omega), List.take_of_length_le (by have := HLk.out; omega)] at h1)
          go_wp2_with fail
          go_ret
          exact ⟨by rw [HF.out]; rfl, below_drewB HB2.out _⟩

end Go.Proofs.YtdaimejlcfhfiaaGreatDoor
