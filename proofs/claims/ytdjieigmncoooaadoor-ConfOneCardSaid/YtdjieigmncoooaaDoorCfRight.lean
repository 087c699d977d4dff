/-
  The walk of 'right' of package conf: which groups may be. Conditions: those that each theorem names.
-/
import Derived.Test.YtdjieigmncoooaaDoorCfFields
import Derived.Test.YtdjieigmncoooaaDoorCfFloor
import Derived.Test.YtdjieigmncoooaaDoorCfMarked
import Derived.Test.YtdjieigmncoooaaDoorRoundHeld
namespace Go.Proofs.YtdjieigmncoooaaDoor
open Go.RowKit Go.Shelf
attribute [local go_sem] Oper.semAt_some

set_option maxRecDepth 100000 in
theorem inBox_own (x : Cf) (w : World) {W1 W2 : World} {row : Option Nat} (B : Nat) (hB : w.heap.size ≤ B) (h : InBox x w W1) (hg : W1.grownBy W2 row) (hr : ∀ r, row = some r → B ≤ r ∧ ∃ o : Obj, W1.heap[r]? = some o ∧ o.isCells = false) : InBox x w W2 :=
  ⟨h.1.turn hg (fun r e => (hr r e).2), h.2.grown hg h.2.size (fun k e => by have := (hr k e).1; omega)⟩

/-- What holds between two rounds. -/
structure RightAt (x : Cf) (w : World) (pre : List Nat) (W : World) : Prop where
  fit : ∀ k, k < pre.length → fitK x k = true
  box : InBox x w W
set_option maxRecDepth 100000 in
theorem rightAt_own (x : Cf) (w : World) (B : Nat) (hB : w.heap.size ≤ B) : OwnFrom B (RightAt x w) := by
  intro pre W1 W2 row h hg hr
  exact ⟨h.fit, inBox_own x w B hB h.box hg hr⟩
def NotRight (x : Cf) (w W : World) : Prop := may x = false ∧ Below w.heap.size w W
set_option maxRecDepth 100000 in
theorem notRight_own (x : Cf) (w : World) (B : Nat) (hB : w.heap.size ≤ B) : OwnFrom B (fun (c : Code) W => c = .goto 0 ∧ NotRight x w W) := by
  intro c W1 W2 row h hg hr
  exact ⟨h.1, h.2.1, h.2.2.grown hg h.2.2.size (fun k e => by have := (hr k e).1; omega)⟩
def RightTail (x : Cf) (w : World) (a' : Act) (W : World) : Prop :=
  ∃ (D : Nat) (u0 u1 u2 u3 u4 u5 u6 u7 u8 u9 u10 u11 u12 u13 u14 u15 u16 u17 u18 u19 u20 u21 u22 u23 u24 u25 u26 u27 u28 u29 u30 u31 u32 : Value), a' = { tmps := #[u0, u1, u2, u3, u4, u5, u6, u7, u8, u9, u10, u11, u12, u13, u14, u15, u16, u17, u18, u19, u20, u21, u22, u23, u24, u25, u26, u27, u28, u29, u30, u31, u32], defers := [{ target := .collected D, args := #[] }] } ∧ w.heap.size ≤ D ∧ W.heap[D]? = some (.deferred (some [])) ∧ NotRight x w W

set_option maxRecDepth 100000 in
set_option maxHeartbeats 2000000 in
theorem right_any (x : Cf) (B : Nat) (w : World) (hx : Lies x w B) (hB : B ≤ w.heap.size) (hT : Tab w) : Calls Tryd.prog 22 #[x.v] w (BoolPost (may x) w) := by
  have HX := Lib.hid (hx.more hB)
  have HT := Lib.hid hT
  clear hx hB hT
  refine (callsIn_wide (n := 6)).1 ?_
  refine callsIn_of_wp_marks Tryd.func22 rfl trivial ?_ rfl
  simp only [Tryd.ntmps22, List.size_toArray, List.length_cons, List.length_nil, Nat.reduceAdd, Nat.reduceSub, Array.replicate_succ, Array.replicate_zero, List.push_toArray, List.append_toArray, List.nil_append, List.cons_append]
  gi_wp2_with fail
  refine wpIn_wide.2 (wp_scope_fwd 0 (RightTail x w) rfl (wpIn_wide (n := 6).1 ?first) (fun a' w' hJ => wpIn_wide (n := 6).1 ?tail))
  case tail =>
    obtain ⟨D, u0, u1, u2, u3, u4, u5, u6, u7, u8, u9, u10, u11, u12, u13, u14, u15, u16, u17, u18, u19, u20, u21, u22, u23, u24, u25, u26, u27, u28, u29, u30, u31, u32, rfl, hD, hK, hno, hb⟩ := hJ
    gi_wp2_with fail
    simp only [Exit.jump]
    refine ⟨by simp, .inl ⟨_, _, rfl, run_takeDeferred hK, ?_⟩⟩
    refine ⟨.bool false, by simp [results, Tryd.results22], by rw [hno], ?_⟩
    exact hb.trans ((Below.refl _ _).grown (grownBy_putObj' w' D (.deferred none)) hb.size (fun k e => by cases e; omega))
  case first =>
    gi_wp2_with (refine ⟨trivial, ?_⟩; gi_at_call 23; refine (callsIn_wide.2 (fields_any _ _)).mono ?_; rintro e w2 ⟨rfl, rfl⟩)
    have hbox := InBox.new x w
    obtain ⟨W1, hW1⟩ : ∃ W1, w.alloc (.cells x.cells 24) = W1 := ⟨_, rfl⟩
    rw [hW1] at hbox
    have hs1 : W1.heap.size = w.heap.size + 1 := by rw [← hW1]; simp
    obtain ⟨W0, hW0⟩ : ∃ W0, W1.alloc (.cells #[.pointer (some ⟨w.heap.size, 0, none⟩)] 46) = W0 := ⟨_, rfl⟩
    have hs0 : W0.heap.size = w.heap.size + 1 + 1 := by rw [← hW0]; simp [hs1]
    have hbx : InBox x w W0 := by rw [← hW0]; exact hbox.under ((Below.refl _ _).alloc (Nat.le_refl _) _)
    have hinv : RightAt x w [] W0 := ⟨fun k hk => absurd hk (by simp), hbx⟩
    have hbn : W0.cell? ⟨w.heap.size + 1, 0, none⟩ = some (.pointer (some ⟨w.heap.size, 0, none⟩)) := by
      rw [← hW0]
      have := (Whole.new W1 46 #[.pointer (some ⟨w.heap.size, 0, none⟩)]).cell 0
      rwa [hs1] at this
    rw [hW1, hW0]
    clear hW0 hW1 hbox hs1
    refine wpIn_range_mem (by omega) (gf := 32) (lb := #[.pointer (some ⟨w.heap.size + 1, 0, none⟩)]) rfl (enters_of Tryd.func32 (by kernel_rfl) rfl) (encs := fun k : Nat => #[Value.int .i64 (k : Int), Value.pointer (some ⟨w.heap.size, k, none⟩)])
      (fields_mem 5 (w.heap.size + 1) w.heap.size W0 (by omega) hbn)
      (fun h k => kpP_t h k) (fun W l o o' _ h h1 _ => kpP_b W l o o' h h1) (Below.refl _ _) (fun _ => rfl)
      (RightAt x w) (fun c W => c = .goto 0 ∧ NotRight x w W)
      (rightAt_own _ _ _ (by omega)) (notRight_own _ _ _ (by omega)) hinv
      (fun pre k a' W => (k = pre.length ∧ k < 13) ∧ a' = { tmps := #[x.v, .pointer (some ⟨w.heap.size, 0, none⟩), .bool false, .int .i64 (k : Int), .pointer (some ⟨w.heap.size, k, none⟩), .func (.func 32) #[] #[.pointer (some ⟨w.heap.size + 1, 0, none⟩)], .int .i64 (k : Int), .pointer (some ⟨w.heap.size, k, none⟩), undef, undef, undef, undef, undef, undef, undef, undef, undef, undef, undef, undef, undef, undef, undef, undef, undef, undef, undef, undef, undef, undef, undef, undef, undef], defers := [] })
      (fun a' p X Y row hs hg hr => hs) ?assign ?body ?done ?stop
    case assign =>
      intro l pre k W K hI hOk hK
      have HOk := Lib.hid hOk
      clear hOk
      gi_wp2
      exact hK _ _ (KeepsFrom.refl _ _) kpP_refl hI ⟨HOk.out, rfl⟩
    case body =>
      rintro l pre k a' W hl hI ⟨⟨hk, hk13⟩, rfl⟩
      have hb := hI.box
      have hTW : Tab W := HT.out.under hb.2
      have HC := Lib.hid (show W.drew.cell? ⟨w.heap.size, k, none⟩ = some (.int .i64 (x.at k)) ∧ W.drew.cell? ⟨0, k * 2, none⟩ = some (.int .i64 (loB k)) ∧ W.drew.cell? ⟨0, k * 2 + 1, none⟩ = some (.int .i64 (hiB k)) from ⟨hb.1.confK hk13, hTW.2 k hk13⟩)
      have HL := Lib.hid (fun (W' : World) (h : W'.cell? ⟨w.heap.size, k, none⟩ = some (.int .i64 (x.at k)) ∧ W'.cell? ⟨0, k * 2, none⟩ = some (.int .i64 (loB k)) ∧ W'.cell? ⟨0, k * 2 + 1, none⟩ = some (.int .i64 (hiB k))) => h)
      have HI := Lib.hid hI
      have hk13i : (k : Int) < 13 := by omega
      have HNo := Lib.hid (not_inB (x := x) hk13)
      have HK := Lib.hid hk
      clear hI hb hTW hk
      by_cases h1 : x.at k < loB k
      · have hd1 : decide (x.at k < loB k) = true := decide_eq_true h1
        gi_wp2_with fail
        refine region_round_held (S := fun W' : World => W'.cell? ⟨w.heap.size, k, none⟩ = some (.int .i64 (x.at k)) ∧ W'.cell? ⟨0, k * 2, none⟩ = some (.int .i64 (loB k)) ∧ W'.cell? ⟨0, k * 2 + 1, none⟩ = some (.int .i64 (hiB k))) (by kernel_rfl) (by kernel_rfl) ?_ ?_
        · exact fun ⟨_, _, h⟩ => h
        refine takeH (i := 0) (v := ?_) rfl (by kernel_rfl) (by kernel_rfl) (by kernel_rfl) (fun _ _ _ h => by first | exact h | exact h.elim) (by rfl) ?_ HC.out ?_
        rotate_left
        · intro W' hW; obtain ⟨c0, c1, c2⟩ := HL.out W' hW; go_simp <;> with_reducible rfl
        simp only [Act.put, List.setIfInBounds_toArray, List.set_cons_zero, List.set_cons_succ]
        refine takeH (i := 1) (v := ?_) rfl (by kernel_rfl) (by kernel_rfl) (by kernel_rfl) (fun _ _ _ h => by first | exact h | exact h.elim) (by rfl) ?_ HC.out ?_
        rotate_left
        · intro W' hW; obtain ⟨c0, c1, c2⟩ := HL.out W' hW; go_simp <;> with_reducible rfl
        simp only [Act.put, List.setIfInBounds_toArray, List.set_cons_zero, List.set_cons_succ]
        refine takeH (i := 2) (v := ?_) rfl (by kernel_rfl) (by kernel_rfl) (by kernel_rfl) (fun _ _ _ h => by first | exact h | exact h.elim) (by rfl) ?_ HC.out ?_
        rotate_left
        · intro W' hW; obtain ⟨c0, c1, c2⟩ := HL.out W' hW; go_simp <;> with_reducible rfl
        simp only [Act.put, List.setIfInBounds_toArray, List.set_cons_zero, List.set_cons_succ]
        refine takeH (i := 3) (v := ?_) rfl (by kernel_rfl) (by kernel_rfl) (by kernel_rfl) (fun _ _ _ h => by first | exact h | exact h.elim) (by rfl) ?_ HC.out ?_
        rotate_left
        · intro W' hW; obtain ⟨c0, c1, c2⟩ := HL.out W' hW; go_simp <;> with_reducible rfl
        simp only [Act.put, List.setIfInBounds_toArray, List.set_cons_zero, List.set_cons_succ]
        refine takeH (i := 4) (v := ?_) rfl (by kernel_rfl) (by kernel_rfl) (by kernel_rfl) (fun _ _ _ h => by first | exact h | exact h.elim) (by rfl) ?_ HC.out ?_
        rotate_left
        · intro W' hW; obtain ⟨c0, c1, c2⟩ := HL.out W' hW; go_simp <;> with_reducible rfl
        simp only [Act.put, List.setIfInBounds_toArray, List.set_cons_zero, List.set_cons_succ]
        refine takeH (i := 5) (v := ?_) rfl (by kernel_rfl) (by kernel_rfl) (by kernel_rfl) (fun _ _ _ h => by first | exact h | exact h.elim) (by rfl) ?_ HC.out ?_
        rotate_left
        · intro W' hW; obtain ⟨c0, c1, c2⟩ := HL.out W' hW; go_simp <;> with_reducible rfl
        simp only [Act.put, List.setIfInBounds_toArray, List.set_cons_zero, List.set_cons_succ]
        refine takeH (i := 6) (v := ?_) rfl (by kernel_rfl) (by kernel_rfl) (by kernel_rfl) (fun _ _ _ h => by first | exact h | exact h.elim) (by rfl) ?_ HC.out ?_
        rotate_left
        · intro W' hW; obtain ⟨c0, c1, c2⟩ := HL.out W' hW; go_simp <;> with_reducible rfl
        simp only [Act.put, List.setIfInBounds_toArray, List.set_cons_zero, List.set_cons_succ]
        refine takeH (i := 7) (v := ?_) rfl (by kernel_rfl) (by kernel_rfl) (by kernel_rfl) (fun _ _ _ h => by first | exact h | exact h.elim) (by rfl) ?_ HC.out ?_
        rotate_left
        · intro W' hW; obtain ⟨c0, c1, c2⟩ := HL.out W' hW; go_simp <;> with_reducible rfl
        simp only [Act.put, List.setIfInBounds_toArray, List.set_cons_zero, List.set_cons_succ]
        refine takeH (i := 8) (v := ?_) rfl (by kernel_rfl) (by kernel_rfl) (by kernel_rfl) (fun _ _ _ h => by first | exact h | exact h.elim) (by rfl) ?_ HC.out ?_
        rotate_left
        · intro W' hW; obtain ⟨c0, c1, c2⟩ := HL.out W' hW; go_simp <;> with_reducible rfl
        simp only [Act.put, List.setIfInBounds_toArray, List.set_cons_zero, List.set_cons_succ]
        refine skipH (i := 9) rfl (by kernel_rfl) (by kernel_rfl) (by kernel_rfl) (fun _ _ _ h => by first | exact h | exact h.elim) (by rfl) HC.out ?_
        simp only [Act.put, List.setIfInBounds_toArray, List.set_cons_zero, List.set_cons_succ]
        refine skipH (i := 10) rfl (by kernel_rfl) (by kernel_rfl) (by kernel_rfl) (fun _ _ _ h => by first | exact h | exact h.elim) (by rfl) HC.out ?_
        simp only [Act.put, List.setIfInBounds_toArray, List.set_cons_zero, List.set_cons_succ]
        refine skipH (i := 11) rfl (by kernel_rfl) (by kernel_rfl) (by kernel_rfl) (fun _ _ _ h => by first | exact h | exact h.elim) (by rfl) HC.out ?_
        simp only [Act.put, List.setIfInBounds_toArray, List.set_cons_zero, List.set_cons_succ]
        refine skipH (i := 12) rfl (by kernel_rfl) (by kernel_rfl) (by kernel_rfl) (fun _ _ _ h => by first | exact h | exact h.elim) (by rfl) HC.out ?_
        simp only [Act.put, List.setIfInBounds_toArray, List.set_cons_zero, List.set_cons_succ]
        refine skipH (i := 13) rfl (by kernel_rfl) (by kernel_rfl) (by kernel_rfl) (fun _ _ _ h => by first | exact h | exact h.elim) (by rfl) HC.out ?_
        simp only [Act.put, List.setIfInBounds_toArray, List.set_cons_zero, List.set_cons_succ]
        refine skipH (i := 14) rfl (by kernel_rfl) (by kernel_rfl) (by kernel_rfl) (fun _ _ _ h => by first | exact h | exact h.elim) (by rfl) HC.out ?_
        simp only [Act.put, List.setIfInBounds_toArray, List.set_cons_zero, List.set_cons_succ]
        refine skipH (i := 15) rfl (by kernel_rfl) (by kernel_rfl) (by kernel_rfl) (fun _ _ _ h => by first | exact h | exact h.elim) (by rfl) HC.out ?_
        simp only [Act.put, List.setIfInBounds_toArray, List.set_cons_zero, List.set_cons_succ]
        refine skipH (i := 16) rfl (by kernel_rfl) (by kernel_rfl) (by kernel_rfl) (fun _ _ _ h => by first | exact h | exact h.elim) (by rfl) HC.out ?_
        simp only [Act.put, List.setIfInBounds_toArray, List.set_cons_zero, List.set_cons_succ]
        refine takeH (i := 17) (v := ?_) rfl (by kernel_rfl) (by kernel_rfl) (by kernel_rfl) (fun _ _ _ h => by first | exact h | exact h.elim) (by rfl) ?_ HC.out ?_
        rotate_left
        · intro W' hW; obtain ⟨c0, c1, c2⟩ := HL.out W' hW; go_simp <;> with_reducible rfl
        simp only [Act.put, List.setIfInBounds_toArray, List.set_cons_zero, List.set_cons_succ]
        refine wpAnyH_done (by kernel_rfl) ?_ _
        gi_wp2_with fail
        refine wpIn_goto ?_
        exact ⟨(KeepsOthers.drew _).from _, rfl, HNo.out (.inl h1), HI.out.box.2.drew⟩
      · have hd1 : decide (x.at k < loB k) = false := decide_eq_false h1
        by_cases h2 : hiB k < x.at k
        · have hd2 : decide (hiB k < x.at k) = true := decide_eq_true h2
          gi_wp2_with fail
          refine region_round_held (S := fun W' : World => W'.cell? ⟨w.heap.size, k, none⟩ = some (.int .i64 (x.at k)) ∧ W'.cell? ⟨0, k * 2, none⟩ = some (.int .i64 (loB k)) ∧ W'.cell? ⟨0, k * 2 + 1, none⟩ = some (.int .i64 (hiB k))) (by kernel_rfl) (by kernel_rfl) (fun ⟨_, _, h⟩ => h) ?_
          refine takeH (i := 0) (v := ?_) rfl (by kernel_rfl) (by kernel_rfl) (by kernel_rfl) (fun _ _ _ h => by first | exact h | exact h.elim) (by rfl) ?_ HC.out ?_
          rotate_left
          · intro W' hW; obtain ⟨c0, c1, c2⟩ := HL.out W' hW; go_simp <;> with_reducible rfl
          simp only [Act.put, List.setIfInBounds_toArray, List.set_cons_zero, List.set_cons_succ]
          refine takeH (i := 1) (v := ?_) rfl (by kernel_rfl) (by kernel_rfl) (by kernel_rfl) (fun _ _ _ h => by first | exact h | exact h.elim) (by rfl) ?_ HC.out ?_
          rotate_left
          · intro W' hW; obtain ⟨c0, c1, c2⟩ := HL.out W' hW; go_simp <;> with_reducible rfl
          simp only [Act.put, List.setIfInBounds_toArray, List.set_cons_zero, List.set_cons_succ]
          refine takeH (i := 2) (v := ?_) rfl (by kernel_rfl) (by kernel_rfl) (by kernel_rfl) (fun _ _ _ h => by first | exact h | exact h.elim) (by rfl) ?_ HC.out ?_
          rotate_left
          · intro W' hW; obtain ⟨c0, c1, c2⟩ := HL.out W' hW; go_simp <;> with_reducible rfl
          simp only [Act.put, List.setIfInBounds_toArray, List.set_cons_zero, List.set_cons_succ]
          refine takeH (i := 3) (v := ?_) rfl (by kernel_rfl) (by kernel_rfl) (by kernel_rfl) (fun _ _ _ h => by first | exact h | exact h.elim) (by rfl) ?_ HC.out ?_
          rotate_left
          · intro W' hW; obtain ⟨c0, c1, c2⟩ := HL.out W' hW; go_simp <;> with_reducible rfl
          simp only [Act.put, List.setIfInBounds_toArray, List.set_cons_zero, List.set_cons_succ]
          refine takeH (i := 4) (v := ?_) rfl (by kernel_rfl) (by kernel_rfl) (by kernel_rfl) (fun _ _ _ h => by first | exact h | exact h.elim) (by rfl) ?_ HC.out ?_
          rotate_left
          · intro W' hW; obtain ⟨c0, c1, c2⟩ := HL.out W' hW; go_simp <;> with_reducible rfl
          simp only [Act.put, List.setIfInBounds_toArray, List.set_cons_zero, List.set_cons_succ]
          refine takeH (i := 5) (v := ?_) rfl (by kernel_rfl) (by kernel_rfl) (by kernel_rfl) (fun _ _ _ h => by first | exact h | exact h.elim) (by rfl) ?_ HC.out ?_
          rotate_left
          · intro W' hW; obtain ⟨c0, c1, c2⟩ := HL.out W' hW; go_simp <;> with_reducible rfl
          simp only [Act.put, List.setIfInBounds_toArray, List.set_cons_zero, List.set_cons_succ]
          refine takeH (i := 6) (v := ?_) rfl (by kernel_rfl) (by kernel_rfl) (by kernel_rfl) (fun _ _ _ h => by first | exact h | exact h.elim) (by rfl) ?_ HC.out ?_
          rotate_left
          · intro W' hW; obtain ⟨c0, c1, c2⟩ := HL.out W' hW; go_simp <;> with_reducible rfl
          simp only [Act.put, List.setIfInBounds_toArray, List.set_cons_zero, List.set_cons_succ]
          refine takeH (i := 7) (v := ?_) rfl (by kernel_rfl) (by kernel_rfl) (by kernel_rfl) (fun _ _ _ h => by first | exact h | exact h.elim) (by rfl) ?_ HC.out ?_
          rotate_left
          · intro W' hW; obtain ⟨c0, c1, c2⟩ := HL.out W' hW; go_simp <;> with_reducible rfl
          simp only [Act.put, List.setIfInBounds_toArray, List.set_cons_zero, List.set_cons_succ]
          refine takeH (i := 8) (v := ?_) rfl (by kernel_rfl) (by kernel_rfl) (by kernel_rfl) (fun _ _ _ h => by first | exact h | exact h.elim) (by rfl) ?_ HC.out ?_
          rotate_left
          · intro W' hW; obtain ⟨c0, c1, c2⟩ := HL.out W' hW; go_simp <;> with_reducible rfl
          simp only [Act.put, List.setIfInBounds_toArray, List.set_cons_zero, List.set_cons_succ]
          refine takeH (i := 9) (v := ?_) rfl (by kernel_rfl) (by kernel_rfl) (by kernel_rfl) (fun _ _ _ h => by first | exact h | exact h.elim) (by rfl) ?_ HC.out ?_
          rotate_left
          · intro W' hW; obtain ⟨c0, c1, c2⟩ := HL.out W' hW; go_simp <;> with_reducible rfl
          simp only [Act.put, List.setIfInBounds_toArray, List.set_cons_zero, List.set_cons_succ]
          refine takeH (i := 10) (v := ?_) rfl (by kernel_rfl) (by kernel_rfl) (by kernel_rfl) (fun _ _ _ h => by first | exact h | exact h.elim) (by rfl) ?_ HC.out ?_
          rotate_left
          · intro W' hW; obtain ⟨c0, c1, c2⟩ := HL.out W' hW; go_simp <;> with_reducible rfl
          simp only [Act.put, List.setIfInBounds_toArray, List.set_cons_zero, List.set_cons_succ]
          refine takeH (i := 11) (v := ?_) rfl (by kernel_rfl) (by kernel_rfl) (by kernel_rfl) (fun _ _ _ h => by first | exact h | exact h.elim) (by rfl) ?_ HC.out ?_
          rotate_left
          · intro W' hW; obtain ⟨c0, c1, c2⟩ := HL.out W' hW; go_simp <;> with_reducible rfl
          simp only [Act.put, List.setIfInBounds_toArray, List.set_cons_zero, List.set_cons_succ]
          refine takeH (i := 12) (v := ?_) rfl (by kernel_rfl) (by kernel_rfl) (by kernel_rfl) (fun _ _ _ h => by first | exact h | exact h.elim) (by rfl) ?_ HC.out ?_
          rotate_left
          · intro W' hW; obtain ⟨c0, c1, c2⟩ := HL.out W' hW; go_simp <;> with_reducible rfl
          simp only [Act.put, List.setIfInBounds_toArray, List.set_cons_zero, List.set_cons_succ]
          refine takeH (i := 13) (v := ?_) rfl (by kernel_rfl) (by kernel_rfl) (by kernel_rfl) (fun _ _ _ h => by first | exact h | exact h.elim) (by rfl) ?_ HC.out ?_
          rotate_left
          · intro W' hW; obtain ⟨c0, c1, c2⟩ := HL.out W' hW; go_simp <;> with_reducible rfl
          simp only [Act.put, List.setIfInBounds_toArray, List.set_cons_zero, List.set_cons_succ]
          refine takeH (i := 14) (v := ?_) rfl (by kernel_rfl) (by kernel_rfl) (by kernel_rfl) (fun _ _ _ h => by first | exact h | exact h.elim) (by rfl) ?_ HC.out ?_
          rotate_left
          · intro W' hW; obtain ⟨c0, c1, c2⟩ := HL.out W' hW; go_simp <;> with_reducible rfl
          simp only [Act.put, List.setIfInBounds_toArray, List.set_cons_zero, List.set_cons_succ]
          refine takeH (i := 15) (v := ?_) rfl (by kernel_rfl) (by kernel_rfl) (by kernel_rfl) (fun _ _ _ h => by first | exact h | exact h.elim) (by rfl) ?_ HC.out ?_
          rotate_left
          · intro W' hW; obtain ⟨c0, c1, c2⟩ := HL.out W' hW; go_simp <;> with_reducible rfl
          simp only [Act.put, List.setIfInBounds_toArray, List.set_cons_zero, List.set_cons_succ]
          refine takeH (i := 16) (v := ?_) rfl (by kernel_rfl) (by kernel_rfl) (by kernel_rfl) (fun _ _ _ h => by first | exact h | exact h.elim) (by rfl) ?_ HC.out ?_
          rotate_left
          · intro W' hW; obtain ⟨c0, c1, c2⟩ := HL.out W' hW; go_simp <;> with_reducible rfl
          simp only [Act.put, List.setIfInBounds_toArray, List.set_cons_zero, List.set_cons_succ]
          refine takeH (i := 17) (v := ?_) rfl (by kernel_rfl) (by kernel_rfl) (by kernel_rfl) (fun _ _ _ h => by first | exact h | exact h.elim) (by rfl) ?_ HC.out ?_
          rotate_left
          · intro W' hW; obtain ⟨c0, c1, c2⟩ := HL.out W' hW; go_simp <;> with_reducible rfl
          simp only [Act.put, List.setIfInBounds_toArray, List.set_cons_zero, List.set_cons_succ]
          refine wpAnyH_done (by kernel_rfl) ?_ _
          gi_wp2_with fail
          refine wpIn_goto ?_
          exact ⟨(KeepsOthers.drew _).from _, rfl, HNo.out (.inr h2), HI.out.box.2.drew⟩
        · have hd2 : decide (hiB k < x.at k) = false := decide_eq_false h2
          gi_wp2_with fail
          refine region_round_held (S := fun W' : World => W'.cell? ⟨w.heap.size, k, none⟩ = some (.int .i64 (x.at k)) ∧ W'.cell? ⟨0, k * 2, none⟩ = some (.int .i64 (loB k)) ∧ W'.cell? ⟨0, k * 2 + 1, none⟩ = some (.int .i64 (hiB k))) (by kernel_rfl) (by kernel_rfl) (fun ⟨_, _, h⟩ => h) ?_
          refine takeH (i := 0) (v := ?_) rfl (by kernel_rfl) (by kernel_rfl) (by kernel_rfl) (fun _ _ _ h => by first | exact h | exact h.elim) (by rfl) ?_ HC.out ?_
          rotate_left
          · intro W' hW; obtain ⟨c0, c1, c2⟩ := HL.out W' hW; go_simp <;> with_reducible rfl
          simp only [Act.put, List.setIfInBounds_toArray, List.set_cons_zero, List.set_cons_succ]
          refine takeH (i := 1) (v := ?_) rfl (by kernel_rfl) (by kernel_rfl) (by kernel_rfl) (fun _ _ _ h => by first | exact h | exact h.elim) (by rfl) ?_ HC.out ?_
          rotate_left
          · intro W' hW; obtain ⟨c0, c1, c2⟩ := HL.out W' hW; go_simp <;> with_reducible rfl
          simp only [Act.put, List.setIfInBounds_toArray, List.set_cons_zero, List.set_cons_succ]
          refine takeH (i := 2) (v := ?_) rfl (by kernel_rfl) (by kernel_rfl) (by kernel_rfl) (fun _ _ _ h => by first | exact h | exact h.elim) (by rfl) ?_ HC.out ?_
          rotate_left
          · intro W' hW; obtain ⟨c0, c1, c2⟩ := HL.out W' hW; go_simp <;> with_reducible rfl
          simp only [Act.put, List.setIfInBounds_toArray, List.set_cons_zero, List.set_cons_succ]
          refine takeH (i := 3) (v := ?_) rfl (by kernel_rfl) (by kernel_rfl) (by kernel_rfl) (fun _ _ _ h => by first | exact h | exact h.elim) (by rfl) ?_ HC.out ?_
          rotate_left
          · intro W' hW; obtain ⟨c0, c1, c2⟩ := HL.out W' hW; go_simp <;> with_reducible rfl
          simp only [Act.put, List.setIfInBounds_toArray, List.set_cons_zero, List.set_cons_succ]
          refine takeH (i := 4) (v := ?_) rfl (by kernel_rfl) (by kernel_rfl) (by kernel_rfl) (fun _ _ _ h => by first | exact h | exact h.elim) (by rfl) ?_ HC.out ?_
          rotate_left
          · intro W' hW; obtain ⟨c0, c1, c2⟩ := HL.out W' hW; go_simp <;> with_reducible rfl
          simp only [Act.put, List.setIfInBounds_toArray, List.set_cons_zero, List.set_cons_succ]
          refine takeH (i := 5) (v := ?_) rfl (by kernel_rfl) (by kernel_rfl) (by kernel_rfl) (fun _ _ _ h => by first | exact h | exact h.elim) (by rfl) ?_ HC.out ?_
          rotate_left
          · intro W' hW; obtain ⟨c0, c1, c2⟩ := HL.out W' hW; go_simp <;> with_reducible rfl
          simp only [Act.put, List.setIfInBounds_toArray, List.set_cons_zero, List.set_cons_succ]
          refine takeH (i := 6) (v := ?_) rfl (by kernel_rfl) (by kernel_rfl) (by kernel_rfl) (fun _ _ _ h => by first | exact h | exact h.elim) (by rfl) ?_ HC.out ?_
          rotate_left
          · intro W' hW; obtain ⟨c0, c1, c2⟩ := HL.out W' hW; go_simp <;> with_reducible rfl
          simp only [Act.put, List.setIfInBounds_toArray, List.set_cons_zero, List.set_cons_succ]
          refine takeH (i := 7) (v := ?_) rfl (by kernel_rfl) (by kernel_rfl) (by kernel_rfl) (fun _ _ _ h => by first | exact h | exact h.elim) (by rfl) ?_ HC.out ?_
          rotate_left
          · intro W' hW; obtain ⟨c0, c1, c2⟩ := HL.out W' hW; go_simp <;> with_reducible rfl
          simp only [Act.put, List.setIfInBounds_toArray, List.set_cons_zero, List.set_cons_succ]
          refine takeH (i := 8) (v := ?_) rfl (by kernel_rfl) (by kernel_rfl) (by kernel_rfl) (fun _ _ _ h => by first | exact h | exact h.elim) (by rfl) ?_ HC.out ?_
          rotate_left
          · intro W' hW; obtain ⟨c0, c1, c2⟩ := HL.out W' hW; go_simp <;> with_reducible rfl
          simp only [Act.put, List.setIfInBounds_toArray, List.set_cons_zero, List.set_cons_succ]
          refine takeH (i := 9) (v := ?_) rfl (by kernel_rfl) (by kernel_rfl) (by kernel_rfl) (fun _ _ _ h => by first | exact h | exact h.elim) (by rfl) ?_ HC.out ?_
          rotate_left
          · intro W' hW; obtain ⟨c0, c1, c2⟩ := HL.out W' hW; go_simp <;> with_reducible rfl
          simp only [Act.put, List.setIfInBounds_toArray, List.set_cons_zero, List.set_cons_succ]
          refine takeH (i := 10) (v := ?_) rfl (by kernel_rfl) (by kernel_rfl) (by kernel_rfl) (fun _ _ _ h => by first | exact h | exact h.elim) (by rfl) ?_ HC.out ?_
          rotate_left
          · intro W' hW; obtain ⟨c0, c1, c2⟩ := HL.out W' hW; go_simp <;> with_reducible rfl
          simp only [Act.put, List.setIfInBounds_toArray, List.set_cons_zero, List.set_cons_succ]
          refine takeH (i := 11) (v := ?_) rfl (by kernel_rfl) (by kernel_rfl) (by kernel_rfl) (fun _ _ _ h => by first | exact h | exact h.elim) (by rfl) ?_ HC.out ?_
          rotate_left
          · intro W' hW; obtain ⟨c0, c1, c2⟩ := HL.out W' hW; go_simp <;> with_reducible rfl
          simp only [Act.put, List.setIfInBounds_toArray, List.set_cons_zero, List.set_cons_succ]
          refine takeH (i := 12) (v := ?_) rfl (by kernel_rfl) (by kernel_rfl) (by kernel_rfl) (fun _ _ _ h => by first | exact h | exact h.elim) (by rfl) ?_ HC.out ?_
          rotate_left
          · intro W' hW; obtain ⟨c0, c1, c2⟩ := HL.out W' hW; go_simp <;> with_reducible rfl
          simp only [Act.put, List.setIfInBounds_toArray, List.set_cons_zero, List.set_cons_succ]
          refine takeH (i := 13) (v := ?_) rfl (by kernel_rfl) (by kernel_rfl) (by kernel_rfl) (fun _ _ _ h => by first | exact h | exact h.elim) (by rfl) ?_ HC.out ?_
          rotate_left
          · intro W' hW; obtain ⟨c0, c1, c2⟩ := HL.out W' hW; go_simp <;> with_reducible rfl
          simp only [Act.put, List.setIfInBounds_toArray, List.set_cons_zero, List.set_cons_succ]
          refine takeH (i := 14) (v := ?_) rfl (by kernel_rfl) (by kernel_rfl) (by kernel_rfl) (fun _ _ _ h => by first | exact h | exact h.elim) (by rfl) ?_ HC.out ?_
          rotate_left
          · intro W' hW; obtain ⟨c0, c1, c2⟩ := HL.out W' hW; go_simp <;> with_reducible rfl
          simp only [Act.put, List.setIfInBounds_toArray, List.set_cons_zero, List.set_cons_succ]
          refine takeH (i := 15) (v := ?_) rfl (by kernel_rfl) (by kernel_rfl) (by kernel_rfl) (fun _ _ _ h => by first | exact h | exact h.elim) (by rfl) ?_ HC.out ?_
          rotate_left
          · intro W' hW; obtain ⟨c0, c1, c2⟩ := HL.out W' hW; go_simp <;> with_reducible rfl
          simp only [Act.put, List.setIfInBounds_toArray, List.set_cons_zero, List.set_cons_succ]
          refine takeH (i := 16) (v := ?_) rfl (by kernel_rfl) (by kernel_rfl) (by kernel_rfl) (fun _ _ _ h => by first | exact h | exact h.elim) (by rfl) ?_ HC.out ?_
          rotate_left
          · intro W' hW; obtain ⟨c0, c1, c2⟩ := HL.out W' hW; go_simp <;> with_reducible rfl
          simp only [Act.put, List.setIfInBounds_toArray, List.set_cons_zero, List.set_cons_succ]
          refine takeH (i := 17) (v := ?_) rfl (by kernel_rfl) (by kernel_rfl) (by kernel_rfl) (fun _ _ _ h => by first | exact h | exact h.elim) (by rfl) ?_ HC.out ?_
          rotate_left
          · intro W' hW; obtain ⟨c0, c1, c2⟩ := HL.out W' hW; go_simp <;> with_reducible rfl
          simp only [Act.put, List.setIfInBounds_toArray, List.set_cons_zero, List.set_cons_succ]
          refine wpAnyH_done (by kernel_rfl) ?_ _
          gi_wp2_with fail
          have hf : fitK x k = true := by unfold fitK; rw [decide_eq_true (show loB k ≤ x.at k by omega), decide_eq_true (show x.at k ≤ hiB k by omega)]; rfl
          refine ⟨(KeepsOthers.drew _).from _, kpP_below ((Below.refl _ _).drew), fun j hj => ?_, HI.out.box.drew⟩
          rw [List.length_append, List.length_singleton] at hj
          have hkk := HK.out
          rcases (by omega : j < pre.length ∨ j = k) with h3 | rfl
          · exact HI.out.fit j h3
          · exact hf
    case done =>
      rintro D ys W1 hD hys hI hK
      have hin : inB x = true := inB_all (fun k hk => hI.fit k (by rw [hys]; exact hk))
      have hlx : Lies x W1 w.heap.size := HX.out.below hI.box.2
      have HM := Lib.hid (marked_any x.A x.n x.c x.ms w.heap.size W1 hlx.rd)
      have HRm := Lib.hid (roomy_any x hin)
      obtain ⟨c0, c1, c2, c3, c4, c5, c6, c7, c8, c9, c10, c11, c12, c13, c14⟩ := hI.box.1.conf
      have HI := Lib.hid hI
      have HK := Lib.hid hK
      have HIn := Lib.hid hin
      clear hI hK hys hin hlx
      by_cases hm : marksB x.ms = true
      · rw [hm] at HM
        have HMy : Hid (may x = roomB x) := Lib.hid (by unfold may; rw [HIn.out, hm]; rfl)
        clear hm
        gi_wp2_with (first | (refine ⟨trivial, ?_⟩; gi_at_call 30; refine (callsIn_wide.2 (HM.out)).mono ?_; rintro e w2 ⟨rfl, rfl⟩) | (refine ⟨trivial, ?_⟩; gi_at_call 31; refine (callsIn_wide.2 (HRm.out _)).mono ?_; rintro e w3 ⟨rfl, hb3⟩))
        have hK3 := (hb3.block D (Array.getElem?_eq_some_iff.1 HK.out).1).trans HK.out
        have hbw := HI.out.box.2.trans (hb3.mono HI.out.box.2.size)
        simp only [Exit.jump]
        refine ⟨by simp, .inl ⟨_, _, rfl, run_takeDeferred hK3, ?_⟩⟩
        refine ⟨.bool (roomB x), by simp [results, Tryd.results22], by rw [HMy.out], ?_⟩
        exact hbw.trans ((Below.refl _ _).grown (grownBy_putObj' w3 D (.deferred none)) hbw.size (fun k e => by cases e; omega))
      · have hm' : marksB x.ms = false := by simpa using hm
        rw [hm'] at HM
        have HMy : Hid (may x = false) := Lib.hid (by unfold may; rw [HIn.out, hm']; rfl)
        clear hm hm'
        gi_wp2_with (first | (refine ⟨trivial, ?_⟩; gi_at_call 30; refine (callsIn_wide.2 (HM.out)).mono ?_; rintro e w2 ⟨rfl, rfl⟩))
        refine ⟨trivial, ?_⟩
        gi_wp2_with fail
        have hbw := HI.out.box.2
        simp only [Exit.jump]
        refine ⟨by simp, .inl ⟨_, _, rfl, run_takeDeferred HK.out, ?_⟩⟩
        refine ⟨.bool false, by simp [results, Tryd.results22], by rw [HMy.out], ?_⟩
        exact hbw.trans ((Below.refl _ _).grown (grownBy_putObj' w2 D (.deferred none)) hbw.size (fun k e => by cases e; omega))
    case stop =>
      rintro D c W hD ⟨rfl, hWr⟩ hK
      refine wpIn_goto ?_
      exact ⟨rfl, D, _, _, _, _, _, _, _, _, _, _, _, _, _, _, _, _, _, _, _, _, _, _, _, _, _, _, _, _, _, _, _, _, _, rfl, by omega, hK, hWr⟩

end Go.Proofs.YtdjieigmncoooaaDoor
