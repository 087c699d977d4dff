/-
  Texts that the walk of a statement over brains leans on, joined (CfRight, CfBasic, BrOwn, CfVals, IntsEqual, CfSame, RefSameC, BrRefSame, BrSmall, BrRefOwn, BrFind, BrRight, CtRefA). Conditions: those that each theorem names.
-/
import Derived.Test.YtplejbgecihnpaaDoorK0
import Derived.Test.YtplejbgecihnpaaDoorK1
import Derived.Test.YtplejbgecihnpaaDoorK2
import Derived.Test.YtplejbgecihnpaaDoorK3
import Derived.Laws.Rows
import Derived.Laws.Tables
import Derived.ChangeKeysEq

namespace Go.Proofs.YtplejbgecihnpaaDoor
open Go.RowKit Go.Shelf
attribute [local go_sem] Oper.semAt_some

set_option maxRecDepth 100000 in
theorem inBox_own (x : Cf) (w : World) {W1 W2 : World} {row : Option Nat} (B : Nat) (hB : w.heap.size ≤ B) (h : InBox x w W1) (hg : W1.grownBy W2 row) (hr : ∀ r, row = some r → B ≤ r ∧ ∃ o : Obj, W1.heap[r]? = some o ∧ o.isCells = false) : InBox x w W2 :=
  ⟨h.1.turn hg (fun r e => (hr r e).2), h.2.grown hg h.2.size (fun k e => by have := (hr k e).1; omega)⟩

/-- What holds between two rounds. -/
structure RightAt (x : Cf) (w : World) (pre : List Nat) (W : World) : Prop where
  fit : ∀ k, k < pre.length → fitK x k = true
  box : InBox x w W
set_option maxRecDepth 100000 in
theorem rightAt_own (x : Cf) (w : World) (B : Nat) (hB : w.heap.size ≤ B) : OwnFrom B (RightAt x w) := by
  intro pre W1 W2 row h hg hr
  exact ⟨h.fit, inBox_own x w B hB h.box hg hr⟩
def NotRight (x : Cf) (w W : World) : Prop := may x = false ∧ Below w.heap.size w W
set_option maxRecDepth 100000 in
theorem notRight_own (x : Cf) (w : World) (B : Nat) (hB : w.heap.size ≤ B) : OwnFrom B (fun (c : Code) W => c = .goto 0 ∧ NotRight x w W) := by
  intro c W1 W2 row h hg hr
  exact ⟨h.1, h.2.1, h.2.2.grown hg h.2.2.size (fun k e => by have := (hr k e).1; omega)⟩
def RightTail (x : Cf) (w : World) (a' : Act) (W : World) : Prop :=
  ∃ (D : Nat) (u0 u1 u2 u3 u4 u5 u6 u7 u8 u9 u10 u11 u12 u13 u14 u15 u16 u17 u18 u19 u20 u21 u22 u23 u24 u25 u26 u27 u28 u29 u30 u31 u32 : Value), a' = { tmps := #[u0, u1, u2, u3, u4, u5, u6, u7, u8, u9, u10, u11, u12, u13, u14, u15, u16, u17, u18, u19, u20, u21, u22, u23, u24, u25, u26, u27, u28, u29, u30, u31, u32], defers := [{ target := .collected D, args := #[] }] } ∧ w.heap.size ≤ D ∧ W.heap[D]? = some (.deferred (some [])) ∧ NotRight x w W

set_option maxRecDepth 100000 in
set_option maxHeartbeats 2000000 in
theorem confRight_any (x : Cf) (B : Nat) (w : World) (hx : Lies x w B) (hB : B ≤ w.heap.size) (hT : Tab w) : Calls Tryd.prog 45 #[x.v] w (BoolPost (may x) w) := by
  have HX := Lib.hid (hx.more hB)
  have HT := Lib.hid hT
  clear hx hB hT
  refine (callsIn_wide (n := 6)).1 ?_
  refine callsIn_of_wp_marks Tryd.func45 rfl trivial ?_ rfl
  simp only [Tryd.ntmps45, List.size_toArray, List.length_cons, List.length_nil, Nat.reduceAdd, Nat.reduceSub, Array.replicate_succ, Array.replicate_zero, List.push_toArray, List.append_toArray, List.nil_append, List.cons_append]
  gi_wp2_with fail
  refine wpIn_wide.2 (wp_scope_fwd 0 (RightTail x w) rfl (wpIn_wide (n := 6).1 ?first) (fun a' w' hJ => wpIn_wide (n := 6).1 ?tail))
  case tail =>
    obtain ⟨D, u0, u1, u2, u3, u4, u5, u6, u7, u8, u9, u10, u11, u12, u13, u14, u15, u16, u17, u18, u19, u20, u21, u22, u23, u24, u25, u26, u27, u28, u29, u30, u31, u32, rfl, hD, hK, hno, hb⟩ := hJ
    gi_wp2_with fail
    simp only [Exit.jump]
    refine ⟨by simp, .inl ⟨_, _, rfl, run_takeDeferred hK, ?_⟩⟩
    refine ⟨.bool false, by simp [results, Tryd.results45], by rw [hno], ?_⟩
    exact hb.trans ((Below.refl _ _).grown (grownBy_putObj' w' D (.deferred none)) hb.size (fun k e => by cases e; omega))
  case first =>
    gi_wp2_with (refine ⟨trivial, ?_⟩; gi_at_call 66; refine (callsIn_wide.2 (fields_any _ _)).mono ?_; rintro e w2 ⟨rfl, rfl⟩)
    have hbox := InBox.new x w
    obtain ⟨W1, hW1⟩ : ∃ W1, w.alloc (.cells x.cells 24) = W1 := ⟨_, rfl⟩
    rw [hW1] at hbox
    have hs1 : W1.heap.size = w.heap.size + 1 := by rw [← hW1]; simp
    obtain ⟨W0, hW0⟩ : ∃ W0, W1.alloc (.cells #[.pointer (some ⟨w.heap.size, 0, none⟩)] 83) = W0 := ⟨_, rfl⟩
    have hs0 : W0.heap.size = w.heap.size + 1 + 1 := by rw [← hW0]; simp [hs1]
    have hbx : InBox x w W0 := by rw [← hW0]; exact hbox.under ((Below.refl _ _).alloc (Nat.le_refl _) _)
    have hinv : RightAt x w [] W0 := ⟨fun k hk => absurd hk (by simp), hbx⟩
    have hbn : W0.cell? ⟨w.heap.size + 1, 0, none⟩ = some (.pointer (some ⟨w.heap.size, 0, none⟩)) := by
      rw [← hW0]
      have := (Whole.new W1 83 #[.pointer (some ⟨w.heap.size, 0, none⟩)]).cell 0
      rwa [hs1] at this
    rw [hW1, hW0]
    clear hW0 hW1 hbox hs1
    refine wpIn_range_mem (by omega) (gf := 69) (lb := #[.pointer (some ⟨w.heap.size + 1, 0, none⟩)]) rfl (enters_of Tryd.func69 (by kernel_rfl) rfl) (encs := fun k : Nat => #[Value.int .i64 (k : Int), Value.pointer (some ⟨w.heap.size, k, none⟩)])
      (fields_mem 5 (w.heap.size + 1) w.heap.size W0 (by omega) hbn)
      (fun h k => kpP_t h k) (fun W l o o' _ h h1 _ => kpP_b W l o o' h h1) (Below.refl _ _) (fun _ => rfl)
      (RightAt x w) (fun c W => c = .goto 0 ∧ NotRight x w W)
      (rightAt_own _ _ _ (by omega)) (notRight_own _ _ _ (by omega)) hinv
      (fun pre k a' W => (k = pre.length ∧ k < 13) ∧ a' = { tmps := #[x.v, .pointer (some ⟨w.heap.size, 0, none⟩), .bool false, .int .i64 (k : Int), .pointer (some ⟨w.heap.size, k, none⟩), .func (.func 69) #[] #[.pointer (some ⟨w.heap.size + 1, 0, none⟩)], .int .i64 (k : Int), .pointer (some ⟨w.heap.size, k, none⟩), undef, undef, undef, undef, undef, undef, undef, undef, undef, undef, undef, undef, undef, undef, undef, undef, undef, undef, undef, undef, undef, undef, undef, undef, undef], defers := [] })
      (fun a' p X Y row hs hg hr => hs) ?assign ?body ?done ?stop
    case assign =>
      intro l pre k W K hI hOk hK
      have HOk := Lib.hid hOk
      clear hOk
      gi_wp2
      exact hK _ _ (KeepsFrom.refl _ _) kpP_refl hI ⟨HOk.out, rfl⟩
    case body =>
      rintro l pre k a' W hl hI ⟨⟨hk, hk13⟩, rfl⟩
      have hb := hI.box
      have hTW : Tab W := HT.out.under hb.2
      have HC := Lib.hid (show W.drew.cell? ⟨w.heap.size, k, none⟩ = some (.int .i64 (x.at k)) ∧ W.drew.cell? ⟨0, k * 2, none⟩ = some (.int .i64 (loB k)) ∧ W.drew.cell? ⟨0, k * 2 + 1, none⟩ = some (.int .i64 (hiB k)) from ⟨hb.1.confK hk13, hTW.2 k hk13⟩)
      have HL := Lib.hid (fun (W' : World) (h : W'.cell? ⟨w.heap.size, k, none⟩ = some (.int .i64 (x.at k)) ∧ W'.cell? ⟨0, k * 2, none⟩ = some (.int .i64 (loB k)) ∧ W'.cell? ⟨0, k * 2 + 1, none⟩ = some (.int .i64 (hiB k))) => h)
      have HI := Lib.hid hI
      have hk13i : (k : Int) < 13 := by omega
      have HNo := Lib.hid (not_inB (x := x) hk13)
      have HK := Lib.hid hk
      clear hI hb hTW hk
      by_cases h1 : x.at k < loB k
      · have hd1 : decide (x.at k < loB k) = true := decide_eq_true h1
        gi_wp2_with fail
        refine region_round_held (S := fun W' : World => W'.cell? ⟨w.heap.size, k, none⟩ = some (.int .i64 (x.at k)) ∧ W'.cell? ⟨0, k * 2, none⟩ = some (.int .i64 (loB k)) ∧ W'.cell? ⟨0, k * 2 + 1, none⟩ = some (.int .i64 (hiB k))) (by kernel_rfl) (by kernel_rfl) ?_ ?_
        · exact fun ⟨_, _, h⟩ => h
        refine takeH (i := 0) (v := ?_) rfl (by kernel_rfl) (by kernel_rfl) (by kernel_rfl) (fun _ _ _ h => by first | exact h | exact h.elim) (by rfl) ?_ HC.out ?_
        rotate_left
        · intro W' hW; obtain ⟨c0, c1, c2⟩ := HL.out W' hW; go_simp <;> with_reducible rfl
        simp only [Act.put, List.setIfInBounds_toArray, List.set_cons_zero, List.set_cons_succ]
        refine takeH (i := 1) (v := ?_) rfl (by kernel_rfl) (by kernel_rfl) (by kernel_rfl) (fun _ _ _ h => by first | exact h | exact h.elim) (by rfl) ?_ HC.out ?_
        rotate_left
        · intro W' hW; obtain ⟨c0, c1, c2⟩ := HL.out W' hW; go_simp <;> with_reducible rfl
        simp only [Act.put, List.setIfInBounds_toArray, List.set_cons_zero, List.set_cons_succ]
        refine takeH (i := 2) (v := ?_) rfl (by kernel_rfl) (by kernel_rfl) (by kernel_rfl) (fun _ _ _ h => by first | exact h | exact h.elim) (by rfl) ?_ HC.out ?_
        rotate_left
        · intro W' hW; obtain ⟨c0, c1, c2⟩ := HL.out W' hW; go_simp <;> with_reducible rfl
        simp only [Act.put, List.setIfInBounds_toArray, List.set_cons_zero, List.set_cons_succ]
        refine takeH (i := 3) (v := ?_) rfl (by kernel_rfl) (by kernel_rfl) (by kernel_rfl) (fun _ _ _ h => by first | exact h | exact h.elim) (by rfl) ?_ HC.out ?_
        rotate_left
        · intro W' hW; obtain ⟨c0, c1, c2⟩ := HL.out W' hW; go_simp <;> with_reducible rfl
        simp only [Act.put, List.setIfInBounds_toArray, List.set_cons_zero, List.set_cons_succ]
        refine takeH (i := 4) (v := ?_) rfl (by kernel_rfl) (by kernel_rfl) (by kernel_rfl) (fun _ _ _ h => by first | exact h | exact h.elim) (by rfl) ?_ HC.out ?_
        rotate_left
        · intro W' hW; obtain ⟨c0, c1, c2⟩ := HL.out W' hW; go_simp <;> with_reducible rfl
        simp only [Act.put, List.setIfInBounds_toArray, List.set_cons_zero, List.set_cons_succ]
        refine takeH (i := 5) (v := ?_) rfl (by kernel_rfl) (by kernel_rfl) (by kernel_rfl) (fun _ _ _ h => by first | exact h | exact h.elim) (by rfl) ?_ HC.out ?_
        rotate_left
        · intro W' hW; obtain ⟨c0, c1, c2⟩ := HL.out W' hW; go_simp <;> with_reducible rfl
        simp only [Act.put, List.setIfInBounds_toArray, List.set_cons_zero, List.set_cons_succ]
        refine takeH (i := 6) (v := ?_) rfl (by kernel_rfl) (by kernel_rfl) (by kernel_rfl) (fun _ _ _ h => by first | exact h | exact h.elim) (by rfl) ?_ HC.out ?_
        rotate_left
        · intro W' hW; obtain ⟨c0, c1, c2⟩ := HL.out W' hW; go_simp <;> with_reducible rfl
        simp only [Act.put, List.setIfInBounds_toArray, List.set_cons_zero, List.set_cons_succ]
        refine takeH (i := 7) (v := ?_) rfl (by kernel_rfl) (by kernel_rfl) (by kernel_rfl) (fun _ _ _ h => by first | exact h | exact h.elim) (by rfl) ?_ HC.out ?_
        rotate_left
        · intro W' hW; obtain ⟨c0, c1, c2⟩ := HL.out W' hW; go_simp <;> with_reducible rfl
        simp only [Act.put, List.setIfInBounds_toArray, List.set_cons_zero, List.set_cons_succ]
        refine takeH (i := 8) (v := ?_) rfl (by kernel_rfl) (by kernel_rfl) (by kernel_rfl) (fun _ _ _ h => by first | exact h | exact h.elim) (by rfl) ?_ HC.out ?_
        rotate_left
        · intro W' hW; obtain ⟨c0, c1, c2⟩ := HL.out W' hW; go_simp <;> with_reducible rfl
        simp only [Act.put, List.setIfInBounds_toArray, List.set_cons_zero, List.set_cons_succ]
        refine skipH (i := 9) rfl (by kernel_rfl) (by kernel_rfl) (by kernel_rfl) (fun _ _ _ h => by first | exact h | exact h.elim) (by rfl) HC.out ?_
        simp only [Act.put, List.setIfInBounds_toArray, List.set_cons_zero, List.set_cons_succ]
        refine skipH (i := 10) rfl (by kernel_rfl) (by kernel_rfl) (by kernel_rfl) (fun _ _ _ h => by first | exact h | exact h.elim) (by rfl) HC.out ?_
        simp only [Act.put, List.setIfInBounds_toArray, List.set_cons_zero, List.set_cons_succ]
        refine skipH (i := 11) rfl (by kernel_rfl) (by kernel_rfl) (by kernel_rfl) (fun _ _ _ h => by first | exact h | exact h.elim) (by rfl) HC.out ?_
        simp only [Act.put, List.setIfInBounds_toArray, List.set_cons_zero, List.set_cons_succ]
        refine skipH (i := 12) rfl (by kernel_rfl) (by kernel_rfl) (by kernel_rfl) (fun _ _ _ h => by first | exact h | exact h.elim) (by rfl) HC.out ?_
        simp only [Act.put, List.setIfInBounds_toArray, List.set_cons_zero, List.set_cons_succ]
        refine skipH (i := 13) rfl (by kernel_rfl) (by kernel_rfl) (by kernel_rfl) (fun _ _ _ h => by first | exact h | exact h.elim) (by rfl) HC.out ?_
        simp only [Act.put, List.setIfInBounds_toArray, List.set_cons_zero, List.set_cons_succ]
        refine skipH (i := 14) rfl (by kernel_rfl) (by kernel_rfl) (by kernel_rfl) (fun _ _ _ h => by first | exact h | exact h.elim) (by rfl) HC.out ?_
        simp only [Act.put, List.setIfInBounds_toArray, List.set_cons_zero, List.set_cons_succ]
        refine skipH (i := 15) rfl (by kernel_rfl) (by kernel_rfl) (by kernel_rfl) (fun _ _ _ h => by first | exact h | exact h.elim) (by rfl) HC.out ?_
        simp only [Act.put, List.setIfInBounds_toArray, List.set_cons_zero, List.set_cons_succ]
        refine skipH (i := 16) rfl (by kernel_rfl) (by kernel_rfl) (by kernel_rfl) (fun _ _ _ h => by first | exact h | exact h.elim) (by rfl) HC.out ?_
        simp only [Act.put, List.setIfInBounds_toArray, List.set_cons_zero, List.set_cons_succ]
        refine takeH (i := 17) (v := ?_) rfl (by kernel_rfl) (by kernel_rfl) (by kernel_rfl) (fun _ _ _ h => by first | exact h | exact h.elim) (by rfl) ?_ HC.out ?_
        rotate_left
        · intro W' hW; obtain ⟨c0, c1, c2⟩ := HL.out W' hW; go_simp <;> with_reducible rfl
        simp only [Act.put, List.setIfInBounds_toArray, List.set_cons_zero, List.set_cons_succ]
        refine wpAnyH_done (by kernel_rfl) ?_ _
        gi_wp2_with fail
        refine wpIn_goto ?_
        exact ⟨(KeepsOthers.drew _).from _, rfl, HNo.out (.inl h1), HI.out.box.2.drew⟩
      · have hd1 : decide (x.at k < loB k) = false := decide_eq_false h1
        by_cases h2 : hiB k < x.at k
        · have hd2 : decide (hiB k < x.at k) = true := decide_eq_true h2
          gi_wp2_with fail
          refine region_round_held (S := fun W' : World => W'.cell? ⟨w.heap.size, k, none⟩ = some (.int .i64 (x.at k)) ∧ W'.cell? ⟨0, k * 2, none⟩ = some (.int .i64 (loB k)) ∧ W'.cell? ⟨0, k * 2 + 1, none⟩ = some (.int .i64 (hiB k))) (by kernel_rfl) (by kernel_rfl) (fun ⟨_, _, h⟩ => h) ?_
          refine takeH (i := 0) (v := ?_) rfl (by kernel_rfl) (by kernel_rfl) (by kernel_rfl) (fun _ _ _ h => by first | exact h | exact h.elim) (by rfl) ?_ HC.out ?_
          rotate_left
          · intro W' hW; obtain ⟨c0, c1, c2⟩ := HL.out W' hW; go_simp <;> with_reducible rfl
          simp only [Act.put, List.setIfInBounds_toArray, List.set_cons_zero, List.set_cons_succ]
          refine takeH (i := 1) (v := ?_) rfl (by kernel_rfl) (by kernel_rfl) (by kernel_rfl) (fun _ _ _ h => by first | exact h | exact h.elim) (by rfl) ?_ HC.out ?_
          rotate_left
          · intro W' hW; obtain ⟨c0, c1, c2⟩ := HL.out W' hW; go_simp <;> with_reducible rfl
          simp only [Act.put, List.setIfInBounds_toArray, List.set_cons_zero, List.set_cons_succ]
          refine takeH (i := 2) (v := ?_) rfl (by kernel_rfl) (by kernel_rfl) (by kernel_rfl) (fun _ _ _ h => by first | exact h | exact h.elim) (by rfl) ?_ HC.out ?_
          rotate_left
          · intro W' hW; obtain ⟨c0, c1, c2⟩ := HL.out W' hW; go_simp <;> with_reducible rfl
          simp only [Act.put, List.setIfInBounds_toArray, List.set_cons_zero, List.set_cons_succ]
          refine takeH (i := 3) (v := ?_) rfl (by kernel_rfl) (by kernel_rfl) (by kernel_rfl) (fun _ _ _ h => by first | exact h | exact h.elim) (by rfl) ?_ HC.out ?_
          rotate_left
          · intro W' hW; obtain ⟨c0, c1, c2⟩ := HL.out W' hW; go_simp <;> with_reducible rfl
          simp only [Act.put, List.setIfInBounds_toArray, List.set_cons_zero, List.set_cons_succ]
          refine takeH (i := 4) (v := ?_) rfl (by kernel_rfl) (by kernel_rfl) (by kernel_rfl) (fun _ _ _ h => by first | exact h | exact h.elim) (by rfl) ?_ HC.out ?_
          rotate_left
          · intro W' hW; obtain ⟨c0, c1, c2⟩ := HL.out W' hW; go_simp <;> with_reducible rfl
          simp only [Act.put, List.setIfInBounds_toArray, List.set_cons_zero, List.set_cons_succ]
          refine takeH (i := 5) (v := ?_) rfl (by kernel_rfl) (by kernel_rfl) (by kernel_rfl) (fun _ _ _ h => by first | exact h | exact h.elim) (by rfl) ?_ HC.out ?_
          rotate_left
          · intro W' hW; obtain ⟨c0, c1, c2⟩ := HL.out W' hW; go_simp <;> with_reducible rfl
          simp only [Act.put, List.setIfInBounds_toArray, List.set_cons_zero, List.set_cons_succ]
          refine takeH (i := 6) (v := ?_) rfl (by kernel_rfl) (by kernel_rfl) (by kernel_rfl) (fun _ _ _ h => by first | exact h | exact h.elim) (by rfl) ?_ HC.out ?_
          rotate_left
          · intro W' hW; obtain ⟨c0, c1, c2⟩ := HL.out W' hW; go_simp <;> with_reducible rfl
          simp only [Act.put, List.setIfInBounds_toArray, List.set_cons_zero, List.set_cons_succ]
          refine takeH (i := 7) (v := ?_) rfl (by kernel_rfl) (by kernel_rfl) (by kernel_rfl) (fun _ _ _ h => by first | exact h | exact h.elim) (by rfl) ?_ HC.out ?_
          rotate_left
          · intro W' hW; obtain ⟨c0, c1, c2⟩ := HL.out W' hW; go_simp <;> with_reducible rfl
          simp only [Act.put, List.setIfInBounds_toArray, List.set_cons_zero, List.set_cons_succ]
          refine takeH (i := 8) (v := ?_) rfl (by kernel_rfl) (by kernel_rfl) (by kernel_rfl) (fun _ _ _ h => by first | exact h | exact h.elim) (by rfl) ?_ HC.out ?_
          rotate_left
          · intro W' hW; obtain ⟨c0, c1, c2⟩ := HL.out W' hW; go_simp <;> with_reducible rfl
          simp only [Act.put, List.setIfInBounds_toArray, List.set_cons_zero, List.set_cons_succ]
          refine takeH (i := 9) (v := ?_) rfl (by kernel_rfl) (by kernel_rfl) (by kernel_rfl) (fun _ _ _ h => by first | exact h | exact h.elim) (by rfl) ?_ HC.out ?_
          rotate_left
          · intro W' hW; obtain ⟨c0, c1, c2⟩ := HL.out W' hW; go_simp <;> with_reducible rfl
          simp only [Act.put, List.setIfInBounds_toArray, List.set_cons_zero, List.set_cons_succ]
          refine takeH (i := 10) (v := ?_) rfl (by kernel_rfl) (by kernel_rfl) (by kernel_rfl) (fun _ _ _ h => by first | exact h | exact h.elim) (by rfl) ?_ HC.out ?_
          rotate_left
          · intro W' hW; obtain ⟨c0, c1, c2⟩ := HL.out W' hW; go_simp <;> with_reducible rfl
          simp only [Act.put, List.setIfInBounds_toArray, List.set_cons_zero, List.set_cons_succ]
          refine takeH (i := 11) (v := ?_) rfl (by kernel_rfl) (by kernel_rfl) (by kernel_rfl) (fun _ _ _ h => by first | exact h | exact h.elim) (by rfl) ?_ HC.out ?_
          rotate_left
          · intro W' hW; obtain ⟨c0, c1, c2⟩ := HL.out W' hW; go_simp <;> with_reducible rfl
          simp only [Act.put, List.setIfInBounds_toArray, List.set_cons_zero, List.set_cons_succ]
          refine takeH (i := 12) (v := ?_) rfl (by kernel_rfl) (by kernel_rfl) (by kernel_rfl) (fun _ _ _ h => by first | exact h | exact h.elim) (by rfl) ?_ HC.out ?_
          rotate_left
          · intro W' hW; obtain ⟨c0, c1, c2⟩ := HL.out W' hW; go_simp <;> with_reducible rfl
          simp only [Act.put, List.setIfInBounds_toArray, List.set_cons_zero, List.set_cons_succ]
          refine takeH (i := 13) (v := ?_) rfl (by kernel_rfl) (by kernel_rfl) (by kernel_rfl) (fun _ _ _ h => by first | exact h | exact h.elim) (by rfl) ?_ HC.out ?_
          rotate_left
          · intro W' hW; obtain ⟨c0, c1, c2⟩ := HL.out W' hW; go_simp <;> with_reducible rfl
          simp only [Act.put, List.setIfInBounds_toArray, List.set_cons_zero, List.set_cons_succ]
          refine takeH (i := 14) (v := ?_) rfl (by kernel_rfl) (by kernel_rfl) (by kernel_rfl) (fun _ _ _ h => by first | exact h | exact h.elim) (by rfl) ?_ HC.out ?_
          rotate_left
          · intro W' hW; obtain ⟨c0, c1, c2⟩ := HL.out W' hW; go_simp <;> with_reducible rfl
          simp only [Act.put, List.setIfInBounds_toArray, List.set_cons_zero, List.set_cons_succ]
          refine takeH (i := 15) (v := ?_) rfl (by kernel_rfl) (by kernel_rfl) (by kernel_rfl) (fun _ _ _ h => by first | exact h | exact h.elim) (by rfl) ?_ HC.out ?_
          rotate_left
          · intro W' hW; obtain ⟨c0, c1, c2⟩ := HL.out W' hW; go_simp <;> with_reducible rfl
          simp only [Act.put, List.setIfInBounds_toArray, List.set_cons_zero, List.set_cons_succ]
          refine takeH (i := 16) (v := ?_) rfl (by kernel_rfl) (by kernel_rfl) (by kernel_rfl) (fun _ _ _ h => by first | exact h | exact h.elim) (by rfl) ?_ HC.out ?_
          rotate_left
          · intro W' hW; obtain ⟨c0, c1, c2⟩ := HL.out W' hW; go_simp <;> with_reducible rfl
          simp only [Act.put, List.setIfInBounds_toArray, List.set_cons_zero, List.set_cons_succ]
          refine takeH (i := 17) (v := ?_) rfl (by kernel_rfl) (by kernel_rfl) (by kernel_rfl) (fun _ _ _ h => by first | exact h | exact h.elim) (by rfl) ?_ HC.out ?_
          rotate_left
          · intro W' hW; obtain ⟨c0, c1, c2⟩ := HL.out W' hW; go_simp <;> with_reducible rfl
          simp only [Act.put, List.setIfInBounds_toArray, List.set_cons_zero, List.set_cons_succ]
          refine wpAnyH_done (by kernel_rfl) ?_ _
          gi_wp2_with fail
          refine wpIn_goto ?_
          exact ⟨(KeepsOthers.drew _).from _, rfl, HNo.out (.inr h2), HI.out.box.2.drew⟩
        · have hd2 : decide (hiB k < x.at k) = false := decide_eq_false h2
          gi_wp2_with fail
          refine region_round_held (S := fun W' : World => W'.cell? ⟨w.heap.size, k, none⟩ = some (.int .i64 (x.at k)) ∧ W'.cell? ⟨0, k * 2, none⟩ = some (.int .i64 (loB k)) ∧ W'.cell? ⟨0, k * 2 + 1, none⟩ = some (.int .i64 (hiB k))) (by kernel_rfl) (by kernel_rfl) (fun ⟨_, _, h⟩ => h) ?_
          refine takeH (i := 0) (v := ?_) rfl (by kernel_rfl) (by kernel_rfl) (by kernel_rfl) (fun _ _ _ h => by first | exact h | exact h.elim) (by rfl) ?_ HC.out ?_
          rotate_left
          · intro W' hW; obtain ⟨c0, c1, c2⟩ := HL.out W' hW; go_simp <;> with_reducible rfl
          simp only [Act.put, List.setIfInBounds_toArray, List.set_cons_zero, List.set_cons_succ]
          refine takeH (i := 1) (v := ?_) rfl (by kernel_rfl) (by kernel_rfl) (by kernel_rfl) (fun _ _ _ h => by first | exact h | exact h.elim) (by rfl) ?_ HC.out ?_
          rotate_left
          · intro W' hW; obtain ⟨c0, c1, c2⟩ := HL.out W' hW; go_simp <;> with_reducible rfl
          simp only [Act.put, List.setIfInBounds_toArray, List.set_cons_zero, List.set_cons_succ]
          refine takeH (i := 2) (v := ?_) rfl (by kernel_rfl) (by kernel_rfl) (by kernel_rfl) (fun _ _ _ h => by first | exact h | exact h.elim) (by rfl) ?_ HC.out ?_
          rotate_left
          · intro W' hW; obtain ⟨c0, c1, c2⟩ := HL.out W' hW; go_simp <;> with_reducible rfl
          simp only [Act.put, List.setIfInBounds_toArray, List.set_cons_zero, List.set_cons_succ]
          refine takeH (i := 3) (v := ?_) rfl (by kernel_rfl) (by kernel_rfl) (by kernel_rfl) (fun _ _ _ h => by first | exact h | exact h.elim) (by rfl) ?_ HC.out ?_
          rotate_left
          · intro W' hW; obtain ⟨c0, c1, c2⟩ := HL.out W' hW; go_simp <;> with_reducible rfl
          simp only [Act.put, List.setIfInBounds_toArray, List.set_cons_zero, List.set_cons_succ]
          refine takeH (i := 4) (v := ?_) rfl (by kernel_rfl) (by kernel_rfl) (by kernel_rfl) (fun _ _ _ h => by first | exact h | exact h.elim) (by rfl) ?_ HC.out ?_
          rotate_left
          · intro W' hW; obtain ⟨c0, c1, c2⟩ := HL.out W' hW; go_simp <;> with_reducible rfl
          simp only [Act.put, List.setIfInBounds_toArray, List.set_cons_zero, List.set_cons_succ]
          refine takeH (i := 5) (v := ?_) rfl (by kernel_rfl) (by kernel_rfl) (by kernel_rfl) (fun _ _ _ h => by first | exact h | exact h.elim) (by rfl) ?_ HC.out ?_
          rotate_left
          · intro W' hW; obtain ⟨c0, c1, c2⟩ := HL.out W' hW; go_simp <;> with_reducible rfl
          simp only [Act.put, List.setIfInBounds_toArray, List.set_cons_zero, List.set_cons_succ]
          refine takeH (i := 6) (v := ?_) rfl (by kernel_rfl) (by kernel_rfl) (by kernel_rfl) (fun _ _ _ h => by first | exact h | exact h.elim) (by rfl) ?_ HC.out ?_
          rotate_left
          · intro W' hW; obtain ⟨c0, c1, c2⟩ := HL.out W' hW; go_simp <;> with_reducible rfl
          simp only [Act.put, List.setIfInBounds_toArray, List.set_cons_zero, List.set_cons_succ]
          refine takeH (i := 7) (v := ?_) rfl (by kernel_rfl) (by kernel_rfl) (by kernel_rfl) (fun _ _ _ h => by first | exact h | exact h.elim) (by rfl) ?_ HC.out ?_
          rotate_left
          · intro W' hW; obtain ⟨c0, c1, c2⟩ := HL.out W' hW; go_simp <;> with_reducible rfl
          simp only [Act.put, List.setIfInBounds_toArray, List.set_cons_zero, List.set_cons_succ]
          refine takeH (i := 8) (v := ?_) rfl (by kernel_rfl) (by kernel_rfl) (by kernel_rfl) (fun _ _ _ h => by first | exact h | exact h.elim) (by rfl) ?_ HC.out ?_
          rotate_left
          · intro W' hW; obtain ⟨c0, c1, c2⟩ := HL.out W' hW; go_simp <;> with_reducible rfl
          simp only [Act.put, List.setIfInBounds_toArray, List.set_cons_zero, List.set_cons_succ]
          refine takeH (i := 9) (v := ?_) rfl (by kernel_rfl) (by kernel_rfl) (by kernel_rfl) (fun _ _ _ h => by first | exact h | exact h.elim) (by rfl) ?_ HC.out ?_
          rotate_left
          · intro W' hW; obtain ⟨c0, c1, c2⟩ := HL.out W' hW; go_simp <;> with_reducible rfl
          simp only [Act.put, List.setIfInBounds_toArray, List.set_cons_zero, List.set_cons_succ]
          refine takeH (i := 10) (v := ?_) rfl (by kernel_rfl) (by kernel_rfl) (by kernel_rfl) (fun _ _ _ h => by first | exact h | exact h.elim) (by rfl) ?_ HC.out ?_
          rotate_left
          · intro W' hW; obtain ⟨c0, c1, c2⟩ := HL.out W' hW; go_simp <;> with_reducible rfl
          simp only [Act.put, List.setIfInBounds_toArray, List.set_cons_zero, List.set_cons_succ]
          refine takeH (i := 11) (v := ?_) rfl (by kernel_rfl) (by kernel_rfl) (by kernel_rfl) (fun _ _ _ h => by first | exact h | exact h.elim) (by rfl) ?_ HC.out ?_
          rotate_left
          · intro W' hW; obtain ⟨c0, c1, c2⟩ := HL.out W' hW; go_simp <;> with_reducible rfl
          simp only [Act.put, List.setIfInBounds_toArray, List.set_cons_zero, List.set_cons_succ]
          refine takeH (i := 12) (v := ?_) rfl (by kernel_rfl) (by kernel_rfl) (by kernel_rfl) (fun _ _ _ h => by first | exact h | exact h.elim) (by rfl) ?_ HC.out ?_
          rotate_left
          · intro W' hW; obtain ⟨c0, c1, c2⟩ := HL.out W' hW; go_simp <;> with_reducible rfl
          simp only [Act.put, List.setIfInBounds_toArray, List.set_cons_zero, List.set_cons_succ]
          refine takeH (i := 13) (v := ?_) rfl (by kernel_rfl) (by kernel_rfl) (by kernel_rfl) (fun _ _ _ h => by first | exact h | exact h.elim) (by rfl) ?_ HC.out ?_
          rotate_left
          · intro W' hW; obtain ⟨c0, c1, c2⟩ := HL.out W' hW; go_simp <;> with_reducible rfl
          simp only [Act.put, List.setIfInBounds_toArray, List.set_cons_zero, List.set_cons_succ]
          refine takeH (i := 14) (v := ?_) rfl (by kernel_rfl) (by kernel_rfl) (by kernel_rfl) (fun _ _ _ h => by first | exact h | exact h.elim) (by rfl) ?_ HC.out ?_
          rotate_left
          · intro W' hW; obtain ⟨c0, c1, c2⟩ := HL.out W' hW; go_simp <;> with_reducible rfl
          simp only [Act.put, List.setIfInBounds_toArray, List.set_cons_zero, List.set_cons_succ]
          refine takeH (i := 15) (v := ?_) rfl (by kernel_rfl) (by kernel_rfl) (by kernel_rfl) (fun _ _ _ h => by first | exact h | exact h.elim) (by rfl) ?_ HC.out ?_
          rotate_left
          · intro W' hW; obtain ⟨c0, c1, c2⟩ := HL.out W' hW; go_simp <;> with_reducible rfl
          simp only [Act.put, List.setIfInBounds_toArray, List.set_cons_zero, List.set_cons_succ]
          refine takeH (i := 16) (v := ?_) rfl (by kernel_rfl) (by kernel_rfl) (by kernel_rfl) (fun _ _ _ h => by first | exact h | exact h.elim) (by rfl) ?_ HC.out ?_
          rotate_left
          · intro W' hW; obtain ⟨c0, c1, c2⟩ := HL.out W' hW; go_simp <;> with_reducible rfl
          simp only [Act.put, List.setIfInBounds_toArray, List.set_cons_zero, List.set_cons_succ]
          refine takeH (i := 17) (v := ?_) rfl (by kernel_rfl) (by kernel_rfl) (by kernel_rfl) (fun _ _ _ h => by first | exact h | exact h.elim) (by rfl) ?_ HC.out ?_
          rotate_left
          · intro W' hW; obtain ⟨c0, c1, c2⟩ := HL.out W' hW; go_simp <;> with_reducible rfl
          simp only [Act.put, List.setIfInBounds_toArray, List.set_cons_zero, List.set_cons_succ]
          refine wpAnyH_done (by kernel_rfl) ?_ _
          gi_wp2_with fail
          have hf : fitK x k = true := by unfold fitK; rw [decide_eq_true (show loB k ≤ x.at k by omega), decide_eq_true (show x.at k ≤ hiB k by omega)]; rfl
          refine ⟨(KeepsOthers.drew _).from _, kpP_below ((Below.refl _ _).drew), fun j hj => ?_, HI.out.box.drew⟩
          rw [List.length_append, List.length_singleton] at hj
          have hkk := HK.out
          rcases (by omega : j < pre.length ∨ j = k) with h3 | rfl
          · exact HI.out.fit j h3
          · exact hf
    case done =>
      rintro D ys W1 hD hys hI hK
      have hin : inB x = true := inB_all (fun k hk => hI.fit k (by rw [hys]; exact hk))
      have hlx : Lies x W1 w.heap.size := HX.out.below hI.box.2
      have HM := Lib.hid (marked_any x.A x.n x.c x.ms w.heap.size W1 hlx.rd)
      have HRm := Lib.hid (roomy_any x hin)
      obtain ⟨c0, c1, c2, c3, c4, c5, c6, c7, c8, c9, c10, c11, c12, c13, c14⟩ := hI.box.1.conf
      have HI := Lib.hid hI
      have HK := Lib.hid hK
      have HIn := Lib.hid hin
      clear hI hK hys hin hlx
      by_cases hm : marksB x.ms = true
      · rw [hm] at HM
        have HMy : Hid (may x = roomB x) := Lib.hid (by unfold may; rw [HIn.out, hm]; rfl)
        clear hm
        gi_wp2_with (first | (refine ⟨trivial, ?_⟩; gi_at_call 67; refine (callsIn_wide.2 (HM.out)).mono ?_; rintro e w2 ⟨rfl, rfl⟩) | (refine ⟨trivial, ?_⟩; gi_at_call 68; refine (callsIn_wide.2 (HRm.out _)).mono ?_; rintro e w3 ⟨rfl, hb3⟩))
        have hK3 := (hb3.block D (Array.getElem?_eq_some_iff.1 HK.out).1).trans HK.out
        have hbw := HI.out.box.2.trans (hb3.mono HI.out.box.2.size)
        simp only [Exit.jump]
        refine ⟨by simp, .inl ⟨_, _, rfl, run_takeDeferred hK3, ?_⟩⟩
        refine ⟨.bool (roomB x), by simp [results, Tryd.results45], by rw [HMy.out], ?_⟩
        exact hbw.trans ((Below.refl _ _).grown (grownBy_putObj' w3 D (.deferred none)) hbw.size (fun k e => by cases e; omega))
      · have hm' : marksB x.ms = false := by simpa using hm
        rw [hm'] at HM
        have HMy : Hid (may x = false) := Lib.hid (by unfold may; rw [HIn.out, hm']; rfl)
        clear hm hm'
        gi_wp2_with (first | (refine ⟨trivial, ?_⟩; gi_at_call 67; refine (callsIn_wide.2 (HM.out)).mono ?_; rintro e w2 ⟨rfl, rfl⟩))
        refine ⟨trivial, ?_⟩
        gi_wp2_with fail
        have hbw := HI.out.box.2
        simp only [Exit.jump]
        refine ⟨by simp, .inl ⟨_, _, rfl, run_takeDeferred HK.out, ?_⟩⟩
        refine ⟨.bool false, by simp [results, Tryd.results45], by rw [HMy.out], ?_⟩
        exact hbw.trans ((Below.refl _ _).grown (grownBy_putObj' w2 D (.deferred none)) hbw.size (fun k e => by cases e; omega))
    case stop =>
      rintro D c W hD ⟨rfl, hWr⟩ hK
      refine wpIn_goto ?_
      exact ⟨rfl, D, _, _, _, _, _, _, _, _, _, _, _, _, _, _, _, _, _, _, _, _, _, _, _, _, _, _, _, _, _, _, _, _, _, rfl, by omega, hK, hWr⟩

end Go.Proofs.YtplejbgecihnpaaDoor

namespace Go.Proofs.YtplejbgecihnpaaDoor
open Go.RowKit Go.Shelf

/-- What the contracts of a group ask: where it lies, and the table. -/
structure Has (x : Cf) (w : World) : Prop where
  lies : Lies x w w.heap.size
  tab : Tab w
set_option maxRecDepth 100000 in
theorem Has.under {x : Cf} {w w' : World} (h : Has x w) (hb : Below w.heap.size w w') : Has x w' := ⟨(h.lies.below hb).more hb.size, h.tab.under hb⟩
set_option maxRecDepth 100000 in
theorem Has.right {x : Cf} {w : World} (h : Has x w) : Calls Tryd.prog 45 #[x.v] w (BoolPost (may x) w) := confRight_any x w.heap.size w h.lies (Nat.le_refl _) h.tab

set_option maxRecDepth 100000 in
theorem may_inB {x : Cf} (h : may x = true) : inB x = true := by
  unfold may at h
  simp only [Bool.and_eq_true] at h
  exact h.1
set_option maxRecDepth 100000 in
set_option maxHeartbeats 1000000 in
theorem floorC_any (x : Cf) (w : World) (h : Has x w) : Calls Tryd.prog 30 #[x.v] w (IntPost (floorOf x) w) := by
  have hb : Below w.heap.size w (w.alloc (.cells x.cells 24)) := (Below.refl _ w).alloc (Nat.le_refl _) _
  have HR := Lib.hid (h.under hb).right
  have HB := Lib.hid hb
  have HX := Lib.hid (InBox.new x w)
  clear h hb
  by_cases hm : may x = true
  · rw [hm] at HR
    have HF := Lib.hid (show floorOf x = fl x by unfold floorOf; rw [if_pos hm])
    have HC := Lib.hid (floor_any x (may_inB hm))
    clear hm
    go_enter Tryd.func30, Tryd.ntmps30
    go_wp2_with fail
    refine (HR.out).mono ?_
    rintro e w1 ⟨rfl, b1⟩
    have HX1 := Lib.hid (HX.out.under b1)
    clear b1 HR HX HB
    obtain ⟨c0, c1, c2, c3, c4, c5, c6, c7, c8, c9, c10, c11, c12, c13, c14⟩ := HX1.out.1.conf
    go_wp2_with fail
    refine (HC.out _).mono ?_
    rintro e w2 ⟨rfl, b2⟩
    have HX2 := Lib.hid (HX1.out.under b2)
    clear b2 HX1 HC
    go_wp2_with fail
    go_ret
    exact ⟨by rw [HF.out]; rfl, HX2.out.2⟩
  · have hm : may x = false := by simpa using hm
    rw [hm] at HR
    have HF := Lib.hid (show floorOf x = 0 by unfold floorOf; rw [hm]; rfl)
    clear hm
    go_enter Tryd.func30, Tryd.ntmps30
    go_wp2_with fail
    refine (HR.out).mono ?_
    rintro e w1 ⟨rfl, b1⟩
    have HB1 := Lib.hid (HB.out.trans (b1.mono HB.out.size))
    clear b1 HR
    go_wp2_with fail
    go_ret
    exact ⟨by rw [HF.out]; rfl, HB1.out⟩

set_option maxRecDepth 100000 in
set_option maxHeartbeats 1000000 in
theorem boundC_any (x : Cf) (w : World) (h : Has x w) : Calls Tryd.prog 31 #[x.v] w (IntPost (boundOf x) w) := by
  have hb : Below w.heap.size w (w.alloc (.cells x.cells 24)) := (Below.refl _ w).alloc (Nat.le_refl _) _
  have HR := Lib.hid (h.under hb).right
  have HB := Lib.hid hb
  have HX := Lib.hid (InBox.new x w)
  clear h hb
  by_cases hm : may x = true
  · rw [hm] at HR
    have HF := Lib.hid (show boundOf x = x.f0 + x.f2 + x.f3 by unfold boundOf; rw [if_pos hm])
    obtain ⟨⟨⟨a0, a1⟩, _, ⟨e0, e1⟩, ⟨g0, g1⟩⟩, _⟩ := inB_iff.1 (may_inB hm)
    clear hm
    go_enter Tryd.func31, Tryd.ntmps31
    go_wp2_with fail
    refine (HR.out).mono ?_
    rintro e w1 ⟨rfl, b1⟩
    have HX1 := Lib.hid (HX.out.under b1)
    clear b1 HR HX HB
    obtain ⟨c0, c1, c2, c3, c4, c5, c6, c7, c8, c9, c10, c11, c12, c13, c14⟩ := HX1.out.1.conf
    go_wp2_with fail
    go_ret
    exact ⟨by rw [HF.out]; rfl, HX1.out.2⟩
  · have hm : may x = false := by simpa using hm
    rw [hm] at HR
    have HF := Lib.hid (show boundOf x = 0 by unfold boundOf; rw [hm]; rfl)
    clear hm
    go_enter Tryd.func31, Tryd.ntmps31
    go_wp2_with fail
    refine (HR.out).mono ?_
    rintro e w1 ⟨rfl, b1⟩
    have HB1 := Lib.hid (HB.out.trans (b1.mono HB.out.size))
    clear b1 HR
    go_wp2_with fail
    go_ret
    exact ⟨by rw [HF.out]; rfl, HB1.out⟩

end Go.Proofs.YtplejbgecihnpaaDoor

namespace Go.Proofs.YtplejbgecihnpaaDoor
open Go.RowKit Go.Shelf

set_option maxRecDepth 100000 in
/-- The end of a function that tells a brain out of a box. -/
theorem brain_end {fn : Func} {k b : Nat} (hres : fn.results = #[.cell k 30]) {tm : Array Value} {W : World} {cs : Array Value} {R : Ending → World → Prop} (h2 : tm[k]? = some (.pointer (some ⟨b, 0, none⟩))) (hw : Whole W b 30 cs) (hcs : cs.size = 27) (hR : R (.returned (.agg cs)) W) : bodyPost Tryd.prog fn R .ret { tmps := tm, defers := [] } W := by
  have hl := run_loadVar_row (P := Tryd.prog) W b 30 30 cs (0, 0) _ hw Tryd.underlying30 rfl (by rw [hcs]; kernel_rfl)
  refine bodyPost_ret (v := .agg cs) ?_ rfl hR
  simp [results, hres, h2, hl, asAddr]

def ad0 : Ad := ⟨none, 0, none, 0, none, 0⟩
set_option maxRecDepth 100000 in
theorem brC_one (p : Br) (a : Ad) : (brC p a).all (·.oneCell') = true := by simp [Value.oneCell']
set_option maxRecDepth 100000 in
theorem below_rowsetB {w w' : World} {B g : Nat} (h : Below B w w') (hg : B ≤ g) (cs : Array Value) : Below B w (w'.setRow g cs) :=
  ⟨h.os, h.tape, h.output, by rw [setRow_size]; exact h.size, fun i hi => (setRow_other w' g i cs (by omega)).trans (h.block i hi)⟩
set_option maxRecDepth 100000 in
theorem own_rowsetB {w : World} {base n g : Nat} {e : TypeId} {size : Nat} {v : Value} {xs : List Value} (ho : w.ownsRow base e size v n xs) (hne : v.ownBlock ≠ some g) (c' : Array Value) : (w.setRow g c').ownsRow base e size v n xs := by
  refine ho.kept (row := some g) ⟨rfl, rfl, rfl, Nat.le_of_eq (setRow_size w g c').symm, fun k hk hkg => setRow_other w g k c' (fun e => hkg (by rw [e]))⟩ ?_
  rcases ho.2 with ⟨rfl, _⟩ | ⟨k, cap, cur, rfl, _⟩
  · exact .inl rfl
  · exact .inr hne
set_option maxRecDepth 100000 in
theorem OwB.rowset {base : Nat} {w : World} {p : Br} {a : Ad} {g : Nat} {t : TypeId} {cs : Array Value} (h : OwB base w p a) (hw : Whole w g t cs) (h1 : 3 ≠ t) (h2 : 34 ≠ t) (h3 : 32 ≠ t) (c' : Array Value) : OwB base (w.setRow g c') p a :=
  ⟨own_rowsetB h.ms (own_apart_F h1 h.ms hw) c', own_rowsetB h.its (own_apart_F h2 h.its hw) c', own_rowsetB h.kps (own_apart_F h3 h.kps hw) c'⟩
set_option maxRecDepth 100000 in
theorem OwB.only {base : Nat} {w w' : World} {p : Br} {a : Ad} {g : Nat} {t : TypeId} {cs : Array Value} (h : OwB base w p a) (k : Only g w w') (hw : Whole w g t cs) (h1 : 3 ≠ t) (h2 : 34 ≠ t) (h3 : 32 ≠ t) : OwB base w' p a :=
  ⟨k.own h.ms hw h1, h.its.only k hw h2, h.kps.only k hw h3⟩
set_option maxRecDepth 100000 in
theorem set17 {w : World} {g : Nat} {p : Br} {a : Ad} (h : Whole w g 30 (brC p a)) (C : Option Addr) (e : Nat) : Whole (w.setCell ⟨g, 17, none⟩ (.slice C p.cf.ms.length e)) g 30 (brC p ⟨C, e, a.A, a.c, a.B, a.d⟩) := by
  have h1 := h.set 17 (.slice C p.cf.ms.length e)
  simp only [List.setIfInBounds_toArray, List.set_cons_zero, List.set_cons_succ] at h1
  exact h1
set_option maxRecDepth 100000 in
theorem set18 {w : World} {g : Nat} {p : Br} {a : Ad} (h : Whole w g 30 (brC p a)) (A : Option Addr) (c : Nat) : Whole (w.setCell ⟨g, 18, none⟩ (.slice A p.its.length c)) g 30 (brC p ⟨a.C, a.e, A, c, a.B, a.d⟩) := by
  have h1 := h.set 18 (.slice A p.its.length c)
  simp only [List.setIfInBounds_toArray, List.set_cons_zero, List.set_cons_succ] at h1
  exact h1
set_option maxRecDepth 100000 in
theorem set19 {w : World} {g : Nat} {p : Br} {a : Ad} (h : Whole w g 30 (brC p a)) (B : Option Addr) (d : Nat) : Whole (w.setCell ⟨g, 19, none⟩ (.slice B p.kps.length d)) g 30 (brC p ⟨a.C, a.e, a.A, a.c, B, d⟩) := by
  have h1 := h.set 19 (.slice B p.kps.length d)
  simp only [List.setIfInBounds_toArray, List.set_cons_zero, List.set_cons_succ] at h1
  exact h1

set_option maxRecDepth 100000 in
/-- 'append([]int{}, l...)'. -/
theorem fresh_ms (V : World) (Z : Nat) (A : Option Addr) (n c : Nat) (ms : List Int) (hr : Rd V Z A n (iv ms)) (hZ : Z ≤ V.heap.size) (hn : n ≤ 1000) :
    ∃ A' c' W1, (Builtin.append_ #[22, 22] 22 #[.slice (some ⟨V.heap.size, 0, none⟩) 0 0, .slice A n c]).run Tryd.prog (V.alloc (.cells #[] 3)) = .ok (.slice A' n c') W1 ∧ W1.ownsRow V.heap.size 3 1 (.slice A' n c') n (iv ms) ∧ Below V.heap.size V W1 := by
  have b3 := (Below.refl V.heap.size V).alloc (Nat.le_refl _) (.cells #[] 3)
  have ho0 : (V.alloc (.cells #[] 3)).ownsRow V.heap.size 3 1 (.slice (some ⟨V.heap.size, 0, none⟩) 0 0) 0 [] := World.ownsRow_made (base := V.heap.size) (e := 3) (size := 1) V #[] 0 (Nat.le_refl _) (Nat.zero_le _) rfl
  obtain ⟨v', W1, h1, h2, h3⟩ := run_appI (V.alloc (.cells #[] 3)) V.heap.size _ 0 [] ho0 Z A n c ms (hr.below (b3.mono hZ)) (by omega) b3.size
  rw [Nat.zero_add, List.nil_append] at h2
  obtain ⟨A', c', rfl⟩ := own_form h2
  exact ⟨A', c', W1, h1, h2, b3.grown h3 b3.size (by simp [Value.ownBlock])⟩
set_option maxRecDepth 100000 in
theorem fresh_its (V : World) (Z : Nat) (A : Option Addr) (c : Nat) (l : List It) (hr : RdI V Z A l.length l) (hZ : Z ≤ V.heap.size) (hn : l.length ≤ 1000) :
    ∃ A' c' W1, (Builtin.append_ #[25, 25] 25 #[.slice (some ⟨V.heap.size, 0, none⟩) 0 0, .slice A l.length c]).run Tryd.prog (V.alloc (.cells #[] 34)) = .ok (.slice A' l.length c') W1 ∧ ItsAt V.heap.size W1 (.slice A' l.length c') l ∧ Below V.heap.size V W1 := by
  have b3 := (Below.refl V.heap.size V).alloc (Nat.le_refl _) (.cells #[] 34)
  have ho0 : ItsAt V.heap.size (V.alloc (.cells #[] 34)) (.slice (some ⟨V.heap.size, 0, none⟩) 0 0) [] := World.ownsRow_made (base := V.heap.size) (e := 34) (size := 4) V #[] 0 (Nat.le_refl _) (Nat.zero_le _) rfl
  obtain ⟨A', c', W1, h1, h2, h3, _⟩ := its_app (V.alloc (.cells #[] 34)) V.heap.size _ [] ho0 Z A l.length c l (hr.below (b3.mono hZ)) (by simp; omega) b3.size
  simp only [List.length_nil, Nat.zero_add, List.nil_append] at h1 h2
  exact ⟨A', c', W1, h1, h2, b3.grown h3 b3.size (by simp [Value.ownBlock])⟩
set_option maxRecDepth 100000 in
theorem fresh_kps (V : World) (Z : Nat) (A : Option Addr) (c : Nat) (l : List Kp) (hr : RdK V Z A l.length l) (hZ : Z ≤ V.heap.size) (hn : l.length ≤ 1000) :
    ∃ A' c' W1, (Builtin.append_ #[26, 26] 26 #[.slice (some ⟨V.heap.size, 0, none⟩) 0 0, .slice A l.length c]).run Tryd.prog (V.alloc (.cells #[] 32)) = .ok (.slice A' l.length c') W1 ∧ KpsAt V.heap.size W1 (.slice A' l.length c') l ∧ Below V.heap.size V W1 := by
  have b3 := (Below.refl V.heap.size V).alloc (Nat.le_refl _) (.cells #[] 32)
  have ho0 : KpsAt V.heap.size (V.alloc (.cells #[] 32)) (.slice (some ⟨V.heap.size, 0, none⟩) 0 0) [] := World.ownsRow_made (base := V.heap.size) (e := 32) (size := 8) V #[] 0 (Nat.le_refl _) (Nat.zero_le _) rfl
  obtain ⟨A', c', W1, h1, h2, h3, _⟩ := kps_app (V.alloc (.cells #[] 32)) V.heap.size _ [] ho0 Z A l.length c l (hr.below (b3.mono hZ)) (by simp; omega) b3.size
  simp only [List.length_nil, Nat.zero_add, List.nil_append] at h1 h2
  exact ⟨A', c', W1, h1, h2, b3.grown h3 b3.size (by simp [Value.ownBlock])⟩

end Go.Proofs.YtplejbgecihnpaaDoor

namespace Go.Proofs.YtplejbgecihnpaaDoor
open Go.RowKit Go.Shelf
attribute [local go_sem] Oper.semAt_some

end Go.Proofs.YtplejbgecihnpaaDoor

namespace Go.Proofs.YtplejbgecihnpaaDoor
open Go.RowKit Go.Shelf

end Go.Proofs.YtplejbgecihnpaaDoor

namespace Go.Proofs.YtplejbgecihnpaaDoor
open Go.RowKit Go.Shelf

/-- Two groups in their boxes. -/
def Two (x y : Cf) (w W : World) : Prop := Whole W w.heap.size 24 x.cells ∧ Whole W (w.heap.size + 1) 24 y.cells ∧ Below w.heap.size w W
set_option maxRecDepth 100000 in
theorem Two.new (x y : Cf) (w : World) : Two x y w ((w.alloc (.cells x.cells 24)).alloc (.cells y.cells 24)) := by
  refine ⟨(Whole.new w _ _).alloc _, ?_, ((Below.refl _ w).alloc (Nat.le_refl _) _).alloc (by simp) _⟩
  have := Whole.new (w.alloc (.cells x.cells 24)) 24 y.cells
  rwa [World.size_alloc] at this
set_option maxRecDepth 100000 in
theorem Two.under {x y : Cf} {w W W' : World} (h : Two x y w W) (hb : Below W.heap.size W W') : Two x y w W' := ⟨h.1.under hb, h.2.1.under hb, h.2.2.trans (hb.mono h.2.2.size)⟩

end Go.Proofs.YtplejbgecihnpaaDoor

namespace Go.Proofs.YtplejbgecihnpaaDoor
open Go.RowKit Go.Shelf

set_option maxRecDepth 100000 in
theorem Two.drewN {x y : Cf} {w W : World} (h : Two x y w W) (k : Nat) : Two x y w (W.drewN k) := ⟨h.1, h.2.1, below_drewN h.2.2 k⟩

end Go.Proofs.YtplejbgecihnpaaDoor

namespace Go.Proofs.YtplejbgecihnpaaDoor
open Go.RowKit Go.Shelf

set_option maxRecDepth 100000 in
theorem cells27 {w : World} {g : Nat} {p : Br} {a : Ad} (h : Whole w g 30 (brC p a)) : w.cell? ⟨g, 0, none⟩ = some (.int .i64 p.ep) ∧ w.cell? ⟨g, 1, none⟩ = some (.int .i64 p.sq) ∧ w.cell? ⟨g, 2, none⟩ = some (.bool p.set) ∧ w.cell? ⟨g, 3, none⟩ = some (.int .i64 p.cf.f0) ∧ w.cell? ⟨g, 4, none⟩ = some (.int .i64 p.cf.f1) ∧ w.cell? ⟨g, 5, none⟩ = some (.int .i64 p.cf.f2) ∧ w.cell? ⟨g, 6, none⟩ = some (.int .i64 p.cf.f3) ∧ w.cell? ⟨g, 7, none⟩ = some (.int .i64 p.cf.f4) ∧ w.cell? ⟨g, 8, none⟩ = some (.int .i64 p.cf.f5) ∧ w.cell? ⟨g, 9, none⟩ = some (.int .i64 p.cf.f6) ∧ w.cell? ⟨g, 10, none⟩ = some (.int .i64 p.cf.f7) ∧ w.cell? ⟨g, 11, none⟩ = some (.int .i64 p.cf.f8) ∧ w.cell? ⟨g, 12, none⟩ = some (.int .i64 p.cf.f9) ∧ w.cell? ⟨g, 13, none⟩ = some (.int .i64 p.cf.f10) ∧ w.cell? ⟨g, 14, none⟩ = some (.int .i64 p.cf.f11) ∧ w.cell? ⟨g, 15, none⟩ = some (.int .i64 p.cf.f12) ∧ w.cell? ⟨g, 16, none⟩ = some (.bool p.cf.sk) ∧ w.cell? ⟨g, 17, none⟩ = some (.slice a.C p.cf.ms.length a.e) ∧ w.cell? ⟨g, 18, none⟩ = some (.slice a.A p.its.length a.c) ∧ w.cell? ⟨g, 19, none⟩ = some (.slice a.B p.kps.length a.d) ∧ w.cell? ⟨g, 20, none⟩ = some (.int .u8 p.rf.st) ∧ w.cell? ⟨g, 21, none⟩ = some (.int .i64 p.rf.fr) ∧ w.cell? ⟨g, 22, none⟩ = some (.int .i64 p.rf.to_) ∧ w.cell? ⟨g, 23, none⟩ = some (.int .i64 p.rf.step) ∧ w.cell? ⟨g, 24, none⟩ = some (.bool p.rf.paused) ∧ w.cell? ⟨g, 25, none⟩ = some (.int .i64 p.rf.since) ∧ w.cell? ⟨g, 26, none⟩ = some (.int .i64 p.rf.fails) := ⟨h.cell 0, h.cell 1, h.cell 2, h.cell 3, h.cell 4, h.cell 5, h.cell 6, h.cell 7, h.cell 8, h.cell 9, h.cell 10, h.cell 11, h.cell 12, h.cell 13, h.cell 14, h.cell 15, h.cell 16, h.cell 17, h.cell 18, h.cell 19, h.cell 20, h.cell 21, h.cell 22, h.cell 23, h.cell 24, h.cell 25, h.cell 26⟩

end Go.Proofs.YtplejbgecihnpaaDoor

namespace Go.Proofs.YtplejbgecihnpaaDoor
open Go.RowKit Go.Shelf

end Go.Proofs.YtplejbgecihnpaaDoor

namespace Go.Proofs.YtplejbgecihnpaaDoor
open Go.RowKit Go.Shelf

set_option maxRecDepth 100000 in
set_option maxHeartbeats 4000000 in
theorem rownB_any (p : Br) (a : Ad) (Z : Nat) (w : World) (hr : RdB_ w Z p a) (hZ : Z ≤ w.heap.size) (hm : p.cf.ms.length ≤ 1000) (hi : p.its.length ≤ 1000) (hk : p.kps.length ≤ 1000) :
    Calls Tryd.prog 25 #[brV p a] w (BrPost w.heap.size p w) := by
  obtain ⟨hb, w0, w1⟩ := two_new w 30 30 (brC p a) (brC br0 ad0)
  obtain ⟨V, hV⟩ : ∃ V, (w.alloc (.cells (brC p a) 30)).alloc (.cells (brC br0 ad0) 30) = V := ⟨_, rfl⟩
  rw [hV] at hb w0 w1
  have HR := Lib.hid (hr.below (hb.mono hZ))
  have HB := Lib.hid hb
  have X0 := Lib.hid w0
  have X1 := Lib.hid w1
  have HV := Lib.hid hV
  have HZ := Lib.hid (show Z ≤ V.heap.size from Nat.le_trans hZ hb.size)
  have HZw := Lib.hid hZ
  clear hb w0 w1 hr hZ hV
  go_enter Tryd.func25, Tryd.ntmps25
  go_upto_region 1 with fail
  refine wpV (fun V2 hV2 => ?_)
  obtain rfl : V = V2 := HV.out.symm.trans hV2
  clear HV hV2
  have b3 := (Below.refl V.heap.size V).alloc (Nat.le_refl _) (.cells #[] 3)
  obtain ⟨C1, e1, W1, hrun, ho, hb⟩ := fresh_ms V Z a.C p.cf.ms.length a.e p.cf.ms HR.out.ms HZ.out hm
  have s0 : (V.alloc (.cells #[] 3)).cell? ⟨w.heap.size, 17, none⟩ = some (.slice a.C p.cf.ms.length a.e) := (X0.out.under b3).cell 17
  have g0 := X0.out.under hb
  have x0 : W1.cell? ⟨w.heap.size, 17, none⟩ = some (.slice a.C p.cf.ms.length a.e) := g0.cell 17
  have y0 := g0.frozen 17
  have HRun := Lib.hid hrun
  have G0 := Lib.hid g0
  have O1 := Lib.hid ho
  have X1_ := Lib.hid (X1.out.under hb)
  have HB_ := Lib.hid (HB.out.trans (hb.mono HB.out.size))
  have HR_ := Lib.hid (HR.out.below (hb.mono HZ.out))
  have HZ_ := Lib.hid (Nat.le_trans HZ.out hb.size)
  have Sz1 := Lib.hid HB.out.size
  clear hrun g0 ho hb b3 X0 X1 HB HR HZ 
  go_upto_region 2 with (at_builtin; refine wpList_app (by rfl) _ _ 22 rfl _ _ _ W1 (by rfl) (by rfl) HRun.out ?_)
  refine wpV (fun V1 hV1 => ?_)
  have k := Only.set W1 w.heap.size 17 (.slice C1 p.cf.ms.length e1)
  have e0 := set17 G0.out C1 e1
  rw [hV1] at k e0
  have X0 := Lib.hid e0
  have X1 := Lib.hid (k.far X1_.out (by omega))
  have HB := Lib.hid (k.bel HB_.out (Nat.le_refl _))
  have HR := Lib.hid (show RdB_ V1 Z p a from HR_.out.below (k.bel (Below.refl Z _) HZw.out))
  have HZ := Lib.hid (show Z ≤ V1.heap.size by rw [k.size]; exact HZ_.out)
  have O1' := Lib.hid (k.own O1.out G0.out (by decide))
  clear k e0 hV1 s0 x0 y0 HRun G0 X1_ HB_ HR_ HZ_  O1
  have O1 := O1'
  clear O1'
  have b3 := (Below.refl V1.heap.size V1).alloc (Nat.le_refl _) (.cells #[] 34)
  obtain ⟨A1, c1, W2, hrun, ho, hb⟩ := fresh_its V1 Z a.A a.c p.its HR.out.its HZ.out hi
  have s0 : (V1.alloc (.cells #[] 34)).cell? ⟨w.heap.size, 18, none⟩ = some (.slice a.A p.its.length a.c) := (X0.out.under b3).cell 18
  have g0 := X0.out.under hb
  have x0 : W2.cell? ⟨w.heap.size, 18, none⟩ = some (.slice a.A p.its.length a.c) := g0.cell 18
  have y0 := g0.frozen 18
  have HRun := Lib.hid hrun
  have G0 := Lib.hid g0
  have O2 := Lib.hid ho
  have X1_ := Lib.hid (X1.out.under hb)
  have HB_ := Lib.hid (HB.out.trans (hb.mono HB.out.size))
  have HR_ := Lib.hid (HR.out.below (hb.mono HZ.out))
  have HZ_ := Lib.hid (Nat.le_trans HZ.out hb.size)
  have Sz2 := Lib.hid HB.out.size
  have O1_ := Lib.hid (own_under O1.out hb)
  clear hrun g0 ho hb b3 X0 X1 HB HR HZ O1
  go_upto_region 3 with (at_builtin; refine wpList_app (by rfl) _ _ 25 rfl _ _ _ W2 (by rfl) (by rfl) HRun.out ?_)
  refine wpV (fun V2 hV2 => ?_)
  have k := Only.set W2 w.heap.size 18 (.slice A1 p.its.length c1)
  have e0 := set18 G0.out A1 c1
  rw [hV2] at k e0
  have X0 := Lib.hid e0
  have X1 := Lib.hid (k.far X1_.out (by omega))
  have HB := Lib.hid (k.bel HB_.out (Nat.le_refl _))
  have HR := Lib.hid (show RdB_ V2 Z p a from HR_.out.below (k.bel (Below.refl Z _) HZw.out))
  have HZ := Lib.hid (show Z ≤ V2.heap.size by rw [k.size]; exact HZ_.out)
  have O1' := Lib.hid (k.own O1_.out G0.out (by decide))
  have O2' := Lib.hid (O2.out.only k G0.out (by decide))
  clear k e0 hV2 s0 x0 y0 HRun G0 X1_ HB_ HR_ HZ_ O1_ O2
  have O1 := O1'
  clear O1'
  have O2 := O2'
  clear O2'
  have b3 := (Below.refl V2.heap.size V2).alloc (Nat.le_refl _) (.cells #[] 32)
  obtain ⟨B1, d1, W3, hrun, ho, hb⟩ := fresh_kps V2 Z a.B a.d p.kps HR.out.kps HZ.out hk
  have s0 : (V2.alloc (.cells #[] 32)).cell? ⟨w.heap.size, 19, none⟩ = some (.slice a.B p.kps.length a.d) := (X0.out.under b3).cell 19
  have g0 := X0.out.under hb
  have x0 : W3.cell? ⟨w.heap.size, 19, none⟩ = some (.slice a.B p.kps.length a.d) := g0.cell 19
  have y0 := g0.frozen 19
  have HRun := Lib.hid hrun
  have G0 := Lib.hid g0
  have O3 := Lib.hid ho
  have X1_ := Lib.hid (X1.out.under hb)
  have HB_ := Lib.hid (HB.out.trans (hb.mono HB.out.size))
  have HR_ := Lib.hid (HR.out.below (hb.mono HZ.out))
  have HZ_ := Lib.hid (Nat.le_trans HZ.out hb.size)
  have Sz3 := Lib.hid HB.out.size
  have O1_ := Lib.hid (own_under O1.out hb)
  have O2_ := Lib.hid (O2.out.under hb)
  clear hrun g0 ho hb b3 X0 X1 HB HR HZ O1 O2
  go_upto_region 4 with (at_builtin; refine wpList_app (by rfl) _ _ 26 rfl _ _ _ W3 (by rfl) (by rfl) HRun.out ?_)
  refine wpV (fun V3 hV3 => ?_)
  have k := Only.set W3 w.heap.size 19 (.slice B1 p.kps.length d1)
  have e0 := set19 G0.out B1 d1
  rw [hV3] at k e0
  have X0 := Lib.hid e0
  have X1 := Lib.hid (k.far X1_.out (by omega))
  have HB := Lib.hid (k.bel HB_.out (Nat.le_refl _))
  have HR := Lib.hid (show RdB_ V3 Z p a from HR_.out.below (k.bel (Below.refl Z _) HZw.out))
  have HZ := Lib.hid (show Z ≤ V3.heap.size by rw [k.size]; exact HZ_.out)
  have O1' := Lib.hid (k.own O1_.out G0.out (by decide))
  have O2' := Lib.hid (O2_.out.only k G0.out (by decide))
  have O3' := Lib.hid (O3.out.only k G0.out (by decide))
  clear k e0 hV3 s0 x0 y0 HRun G0 X1_ HB_ HR_ HZ_ O1_ O2_ O3
  have O1 := O1'
  clear O1'
  have O2 := O2'
  clear O2'
  have O3 := O3'
  clear O3'
  have HA : Hid ((brC p ⟨C1, e1, A1, c1, B1, d1⟩).all (·.oneCell') = true) := Lib.hid (brC_one _ _)
  go_wp2_with (first | refine wpList_load_row (by rfl) 30 _ rfl w.heap.size (by rfl) 30 _ (0, 0) _ X0.out Tryd.underlying30 rfl (by kernel_rfl) ?_ | refine wpList_store_row (by rfl) 30 _ _ rfl (w.heap.size + 1) (brC p ⟨C1, e1, A1, c1, B1, d1⟩) (by rfl) (by rfl) 30 _ X1.out (by kernel_rfl) rfl HA.out ?_)
  have hown : OwB w.heap.size V3 p ⟨C1, e1, A1, c1, B1, d1⟩ := ⟨own_weaker O1.out Sz1.out, O2.out.weaker Sz2.out, O3.out.weaker Sz3.out⟩
  exact brain_end (k := 2) rfl (by rfl) (setRow_heap _ _ _ _ _ _ X1.out) rfl ⟨⟨C1, e1, A1, c1, B1, d1⟩, rfl, hown.rowset X1.out (by decide) (by decide) (by decide) _, below_rowsetB HB.out (by omega) _⟩

end Go.Proofs.YtplejbgecihnpaaDoor

namespace Go.Proofs.YtplejbgecihnpaaDoor
open Go.RowKit Go.Shelf

end Go.Proofs.YtplejbgecihnpaaDoor

namespace Go.Proofs.YtplejbgecihnpaaDoor
open Go.RowKit Go.Shelf

set_option maxRecDepth 100000 in
theorem exec_load_brain {W : World} {g : Nat} {p : Br} {a : Ad} {ρ : Operand → Value} {x : Operand} {dst : Option Tmp} {ty : TypeId} {pos : String} {after : Array Edge} {gd : Option (Nat × Bool)} (hx : ρ x = .pointer (some ⟨g, 0, none⟩)) (h : Whole W g 30 (brC p a)) : (execOp ρ { dst := dst, op := .load 30 x, type := ty, pos := pos, after := after, guard := gd }).run Tryd.prog W = .ok (.value (brV p a)) W := by
  unfold execOp
  simp only [hx, Instr.loadAt, Instr.sureAddr, Sem.run_bind, Sem.run_pure, Result.andThen_ok, run_loadVar_row (P := Tryd.prog) W g 30 30 (brC p a) (0, 0) _ h Tryd.underlying30 rfl (by kernel_rfl)]

end Go.Proofs.YtplejbgecihnpaaDoor

namespace Go.Proofs.YtplejbgecihnpaaDoor
open Go.RowKit Go.Shelf

set_option maxRecDepth 100000 in
theorem refGoes_any (z : Int) (w : World) : Calls Tryd.prog 24 #[.int .u8 z] w fun e w' => e = .returned (.bool (goesI z)) ∧ w' = w := by
  rcases (by omega : z = 5 ∨ z = 6 ∨ z = 7 ∨ z = 8 ∨ (¬ z = 5 ∧ ¬ z = 6 ∧ ¬ z = 7 ∧ ¬ z = 8)) with rfl | rfl | rfl | rfl | ⟨h1, h2, h3, h4⟩
  all_goals
    go_enter Tryd.func24, Tryd.ntmps24
    go_wp2_with fail
    go_ret
  · exact ⟨rfl, rfl⟩
  · exact ⟨rfl, rfl⟩
  · exact ⟨rfl, rfl⟩
  · exact ⟨rfl, rfl⟩
  · exact ⟨by simp [goesI, h1, h2, h3, h4], rfl⟩
-- GEN
end Go.Proofs.YtplejbgecihnpaaDoor
