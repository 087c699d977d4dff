/-
  Texts that the walk of a statement over brains leans on, joined (CfRight, CfBasic, BrOwn, CfVals, IntsEqual). Conditions: those that each theorem names.
-/
import Derived.Test.YtdaimejlcfhfiaaGreatDoorKQ
import Derived.Test.YtdaimejlcfhfiaaGreatDoorK0
import Derived.Test.YtdaimejlcfhfiaaGreatDoorK2
import Derived.Test.YtdaimejlcfhfiaaGreatDoorK4
import Derived.Laws.Rows
import Derived.Laws.Tables
set_option maxRecDepth 100000

namespace Go.Proofs.YtdaimejlcfhfiaaGreatDoor
open Go.RowKit Go.Shelf
attribute [local go_sem] Oper.semAt_some

theorem inBox_own (x : Cf) (w : World) {W1 W2 : World} {row : Option Nat} (B : Nat) (hB : w.heap.size ≤ B) (h : InBox x w W1) (hg : W1.grownBy W2 row) (hr : ∀ r, row = some r → B ≤ r ∧ ∃ o : Obj, W1.heap[r]? = some o ∧ o.isCells = false) : InBox x w W2 :=
  ⟨h.1.turn hg (fun r e => (hr r e).2), h.2.grown hg h.2.size (fun k e => by have := (hr k e).1; omega)⟩

/-- What holds between two rounds. -/
structure RightAt (x : Cf) (w : World) (pre : List Nat) (W : World) : Prop where
  fit : ∀ k, k < pre.length → fitK x k = true
  box : InBox x w W
theorem rightAt_own (x : Cf) (w : World) (B : Nat) (hB : w.heap.size ≤ B) : OwnFrom B (RightAt x w) := by
  intro pre W1 W2 row h hg hr
  exact ⟨h.fit, inBox_own x w B hB h.box hg hr⟩
def NotRight (x : Cf) (w W : World) : Prop := may x = false ∧ Below w.heap.size w W
theorem notRight_own (x : Cf) (w : World) (B : Nat) (hB : w.heap.size ≤ B) : OwnFrom B (fun (c : Code) W => c = .goto 0 ∧ NotRight x w W) := by
  intro c W1 W2 row h hg hr
  exact ⟨h.1, h.2.1, h.2.2.grown hg h.2.2.size (fun k e => by have := (hr k e).1; omega)⟩
def RightTail (x : Cf) (w : World) (a' : Act) (W : World) : Prop :=
  ∃ (D : Nat) (u0 u1 u2 u3 u4 u5 u6 u7 u8 u9 u10 u11 u12 u13 u14 u15 u16 u17 u18 u19 u20 u21 u22 u23 u24 u25 u26 u27 u28 u29 u30 u31 u32 : Value), a' = { tmps := #[u0, u1, u2, u3, u4, u5, u6, u7, u8, u9, u10, u11, u12, u13, u14, u15, u16, u17, u18, u19, u20, u21, u22, u23, u24, u25, u26, u27, u28, u29, u30, u31, u32], defers := [{ target := .collected D, args := #[] }] } ∧ w.heap.size ≤ D ∧ W.heap[D]? = some (.deferred (some [])) ∧ NotRight x w W

set_option maxHeartbeats 2000000 in
theorem confRight_any (x : Cf) (B : Nat) (w : World) (hx : Lies x w B) (hB : B ≤ w.heap.size) (hT : Tab w) : Calls Tryz.prog 115 #[x.v] w (BoolPost (may x) w) := by
  have HX := Lib.hid (hx.more hB)
  have HT := Lib.hid hT
  clear hx hB hT
  refine (callsIn_wide (n := 6)).1 ?_
  refine callsIn_of_wp_marks Tryz.func115 rfl trivial ?_ rfl
  simp only [Tryz.ntmps115, List.size_toArray, List.length_cons, List.length_nil, Nat.reduceAdd, Nat.reduceSub, Array.replicate_succ, Array.replicate_zero, List.push_toArray, List.append_toArray, List.nil_append, List.cons_append]
  gi_wp2_with fail
  refine wpIn_wide.2 (wp_scope_fwd 0 (RightTail x w) rfl (wpIn_wide (n := 6).1 ?first) (fun a' w' hJ => wpIn_wide (n := 6).1 ?tail))
  case tail =>
    obtain ⟨D, u0, u1, u2, u3, u4, u5, u6, u7, u8, u9, u10, u11, u12, u13, u14, u15, u16, u17, u18, u19, u20, u21, u22, u23, u24, u25, u26, u27, u28, u29, u30, u31, u32, rfl, hD, hK, hno, hb⟩ := hJ
    gi_wp2_with fail
    simp only [Exit.jump]
    refine ⟨by simp, .inl ⟨_, _, rfl, run_takeDeferred hK, ?_⟩⟩
    refine ⟨.bool false, by simp [results, Tryz.results115], by rw [hno], ?_⟩
    exact hb.trans ((Below.refl _ _).grown (grownBy_putObj' w' D (.deferred none)) hb.size (fun k e => by cases e; omega))
  case first =>
    gi_wp2_with (refine ⟨trivial, ?_⟩; gi_at_call 116; refine (callsIn_wide.2 (fields_any _ _)).mono ?_; rintro e w2 ⟨rfl, rfl⟩)
    have hbox := InBox.new x w
    obtain ⟨W1, hW1⟩ : ∃ W1, w.alloc (.cells x.cells 24) = W1 := ⟨_, rfl⟩
    rw [hW1] at hbox
    have hs1 : W1.heap.size = w.heap.size + 1 := by rw [← hW1]; simp
    obtain ⟨W0, hW0⟩ : ∃ W0, W1.alloc (.cells #[.pointer (some ⟨w.heap.size, 0, none⟩)] 103) = W0 := ⟨_, rfl⟩
    have hs0 : W0.heap.size = w.heap.size + 1 + 1 := by rw [← hW0]; simp [hs1]
    have hbx : InBox x w W0 := by rw [← hW0]; exact hbox.under ((Below.refl _ _).alloc (Nat.le_refl _) _)
    have hinv : RightAt x w [] W0 := ⟨fun k hk => absurd hk (by simp), hbx⟩
    have hbn : W0.cell? ⟨w.heap.size + 1, 0, none⟩ = some (.pointer (some ⟨w.heap.size, 0, none⟩)) := by
      rw [← hW0]
      have := (Whole.new W1 103 #[.pointer (some ⟨w.heap.size, 0, none⟩)]).cell 0
      rwa [hs1] at this
    rw [hW1, hW0]
    clear hW0 hW1 hbox hs1
    refine wpIn_range_mem (by omega) (gf := 124) (lb := #[.pointer (some ⟨w.heap.size + 1, 0, none⟩)]) rfl (enters_of Tryz.func124 (by kernel_rfl) rfl) (encs := fun k : Nat => #[Value.int .i64 (k : Int), Value.pointer (some ⟨w.heap.size, k, none⟩)])
      (fields_mem 5 (w.heap.size + 1) w.heap.size W0 (by omega) hbn)
      (fun h k => kpP_t h k) (fun W l o o' _ h h1 _ => kpP_b W l o o' h h1) (Below.refl _ _) (fun _ => rfl)
      (RightAt x w) (fun c W => c = .goto 0 ∧ NotRight x w W)
      (rightAt_own _ _ _ (by omega)) (notRight_own _ _ _ (by omega)) hinv
      (fun pre k a' W => (k = pre.length ∧ k < 13) ∧ a' = { tmps := #[x.v, .pointer (some ⟨w.heap.size, 0, none⟩), .bool false, .int .i64 (k : Int), .pointer (some ⟨w.heap.size, k, none⟩), .func (.func 124) #[] #[.pointer (some ⟨w.heap.size + 1, 0, none⟩)], .int .i64 (k : Int), .pointer (some ⟨w.heap.size, k, none⟩), undef, undef, undef, undef, undef, undef, undef, undef, undef, undef, undef, undef, undef, undef, undef, undef, undef, undef, undef, undef, undef, undef, undef, undef, undef], defers := [] })
      (fun a' p X Y row hs hg hr => hs) ?assign ?body ?done ?stop
    case assign =>
      intro l pre k W K hI hOk hK
      have HOk := Lib.hid hOk
      clear hOk
      gi_wp2
      exact hK _ _ (KeepsFrom.refl _ _) kpP_refl hI ⟨HOk.out, rfl⟩
    case body =>
      rintro l pre k a' W hl hI ⟨⟨hk, hk13⟩, rfl⟩
      have hb := hI.box
      have hTW : Tab W := HT.out.under hb.2
      have HC := Lib.hid (show W.drew.cell? ⟨w.heap.size, k, none⟩ = some (.int .i64 (x.at k)) ∧ W.drew.cell? ⟨1, k * 2, none⟩ = some (.int .i64 (loB k)) ∧ W.drew.cell? ⟨1, k * 2 + 1, none⟩ = some (.int .i64 (hiB k)) from ⟨hb.1.confK hk13, hTW.2 k hk13⟩)
      have HL := Lib.hid (fun (W' : World) (h : W'.cell? ⟨w.heap.size, k, none⟩ = some (.int .i64 (x.at k)) ∧ W'.cell? ⟨1, k * 2, none⟩ = some (.int .i64 (loB k)) ∧ W'.cell? ⟨1, k * 2 + 1, none⟩ = some (.int .i64 (hiB k))) => h)
      have HI := Lib.hid hI
      have hk13i : (k : Int) < 13 := by omega
      have HNo := Lib.hid (not_inB (x := x) hk13)
      have HK := Lib.hid hk
      clear hI hb hTW hk
      by_cases h1 : x.at k < loB k
      · have hd1 : decide (x.at k < loB k) = true := decide_eq_true h1
        gi_wp2_with fail
        refine region_round_held (S := fun W' : World => W'.cell? ⟨w.heap.size, k, none⟩ = some (.int .i64 (x.at k)) ∧ W'.cell? ⟨1, k * 2, none⟩ = some (.int .i64 (loB k)) ∧ W'.cell? ⟨1, k * 2 + 1, none⟩ = some (.int .i64 (hiB k))) (by kernel_rfl) (by kernel_rfl) ?_ ?_
        · exact fun ⟨_, _, h⟩ => h
        refine takeH (i := 0) (v := ?_) rfl (by kernel_rfl) (by kernel_rfl) (by kernel_rfl) (fun _ _ _ h => by first | exact h | exact h.elim) (by rfl) ?_ HC.out ?_
        rotate_left
        · intro W' hW; obtain ⟨c0, c1, c2⟩ := HL.out W' hW; go_simp <;> with_reducible rfl
        simp only [Act.put, lA, lZ, lS]
        refine takeH (i := 1) (v := ?_) rfl (by kernel_rfl) (by kernel_rfl) (by kernel_rfl) (fun _ _ _ h => by first | exact h | exact h.elim) (by rfl) ?_ HC.out ?_
        rotate_left
        · intro W' hW; obtain ⟨c0, c1, c2⟩ := HL.out W' hW; go_simp <;> with_reducible rfl
        simp only [Act.put, lA, lZ, lS]
        refine takeH (i := 2) (v := ?_) rfl (by kernel_rfl) (by kernel_rfl) (by kernel_rfl) (fun _ _ _ h => by first | exact h | exact h.elim) (by rfl) ?_ HC.out ?_
        rotate_left
        · intro W' hW; obtain ⟨c0, c1, c2⟩ := HL.out W' hW; go_simp <;> with_reducible rfl
        simp only [Act.put, lA, lZ, lS]
        refine takeH (i := 3) (v := ?_) rfl (by kernel_rfl) (by kernel_rfl) (by kernel_rfl) (fun _ _ _ h => by first | exact h | exact h.elim) (by rfl) ?_ HC.out ?_
        rotate_left
        · intro W' hW; obtain ⟨c0, c1, c2⟩ := HL.out W' hW; go_simp <;> with_reducible rfl
        simp only [Act.put, lA, lZ, lS]
        refine takeH (i := 4) (v := ?_) rfl (by kernel_rfl) (by kernel_rfl) (by kernel_rfl) (fun _ _ _ h => by first | exact h | exact h.elim) (by rfl) ?_ HC.out ?_
        rotate_left
        · intro W' hW; obtain ⟨c0, c1, c2⟩ := HL.out W' hW; go_simp <;> with_reducible rfl
        simp only [Act.put, lA, lZ, lS]
        refine takeH (i := 5) (v := ?_) rfl (by kernel_rfl) (by kernel_rfl) (by kernel_rfl) (fun _ _ _ h => by first | exact h | exact h.elim) (by rfl) ?_ HC.out ?_
        rotate_left
        · intro W' hW; obtain ⟨c0, c1, c2⟩ := HL.out W' hW; go_simp <;> with_reducible rfl
        simp only [Act.put, lA, lZ, lS]
        refine takeH (i := 6) (v := ?_) rfl (by kernel_rfl) (by kernel_rfl) (by kernel_rfl) (fun _ _ _ h => by first | exact h | exact h.elim) (by rfl) ?_ HC.out ?_
        rotate_left
        · intro W' hW; obtain ⟨c0, c1, c2⟩ := HL.out W' hW; go_simp <;> with_reducible rfl
        simp only [Act.put, lA, lZ, lS]
        refine takeH (i := 7) (v := ?_) rfl (by kernel_rfl) (by kernel_rfl) (by kernel_rfl) (fun _ _ _ h => by first | exact h | exact h.elim) (by rfl) ?_ HC.out ?_
        rotate_left
        · intro W' hW; obtain ⟨c0, c1, c2⟩ := HL.out W' hW; go_simp <;> with_reducible rfl
        simp only [Act.put, lA, lZ, lS]
        refine takeH (i := 8) (v := ?_) rfl (by kernel_rfl) (by kernel_rfl) (by kernel_rfl) (fun _ _ _ h => by first | exact h | exact h.elim) (by rfl) ?_ HC.out ?_
        rotate_left
        · intro W' hW; obtain ⟨c0, c1, c2⟩ := HL.out W' hW; go_simp <;> with_reducible rfl
        simp only [Act.put, lA, lZ, lS]
        refine skipH (i := 9) rfl (by kernel_rfl) (by kernel_rfl) (by kernel_rfl) (fun _ _ _ h => by first | exact h | exact h.elim) (by rfl) HC.out ?_
        simp only [Act.put, lA, lZ, lS]
        refine skipH (i := 10) rfl (by kernel_rfl) (by kernel_rfl) (by kernel_rfl) (fun _ _ _ h => by first | exact h | exact h.elim) (by rfl) HC.out ?_
        simp only [Act.put, lA, lZ, lS]
        refine skipH (i := 11) rfl (by kernel_rfl) (by kernel_rfl) (by kernel_rfl) (fun _ _ _ h => by first | exact h | exact h.elim) (by rfl) HC.out ?_
        simp only [Act.put, lA, lZ, lS]
        refine skipH (i := 12) rfl (by kernel_rfl) (by kernel_rfl) (by kernel_rfl) (fun _ _ _ h => by first | exact h | exact h.elim) (by rfl) HC.out ?_
        simp only [Act.put, lA, lZ, lS]
        refine skipH (i := 13) rfl (by kernel_rfl) (by kernel_rfl) (by kernel_rfl) (fun _ _ _ h => by first | exact h | exact h.elim) (by rfl) HC.out ?_
        simp only [Act.put, lA, lZ, lS]
        refine skipH (i := 14) rfl (by kernel_rfl) (by kernel_rfl) (by kernel_rfl) (fun _ _ _ h => by first | exact h | exact h.elim) (by rfl) HC.out ?_
        simp only [Act.put, lA, lZ, lS]
        refine skipH (i := 15) rfl (by kernel_rfl) (by kernel_rfl) (by kernel_rfl) (fun _ _ _ h => by first | exact h | exact h.elim) (by rfl) HC.out ?_
        simp only [Act.put, lA, lZ, lS]
        refine skipH (i := 16) rfl (by kernel_rfl) (by kernel_rfl) (by kernel_rfl) (fun _ _ _ h => by first | exact h | exact h.elim) (by rfl) HC.out ?_
        simp only [Act.put, lA, lZ, lS]
        refine takeH (i := 17) (v := ?_) rfl (by kernel_rfl) (by kernel_rfl) (by kernel_rfl) (fun _ _ _ h => by first | exact h | exact h.elim) (by rfl) ?_ HC.out ?_
        rotate_left
        · intro W' hW; obtain ⟨c0, c1, c2⟩ := HL.out W' hW; go_simp <;> with_reducible rfl
        simp only [Act.put, lA, lZ, lS]
        refine wpAnyH_done (by kernel_rfl) ?_ _
        gi_wp2_with fail
        refine wpIn_goto ?_
        exact ⟨(KeepsOthers.drew _).from _, rfl, HNo.out (.inl h1), HI.out.box.2.drew⟩
      · have hd1 : decide (x.at k < loB k) = false := decide_eq_false h1
        by_cases h2 : hiB k < x.at k
        · have hd2 : decide (hiB k < x.at k) = true := decide_eq_true h2
          gi_wp2_with fail
          refine region_round_held (S := fun W' : World => W'.cell? ⟨w.heap.size, k, none⟩ = some (.int .i64 (x.at k)) ∧ W'.cell? ⟨1, k * 2, none⟩ = some (.int .i64 (loB k)) ∧ W'.cell? ⟨1, k * 2 + 1, none⟩ = some (.int .i64 (hiB k))) (by kernel_rfl) (by kernel_rfl) (fun ⟨_, _, h⟩ => h) ?_
          refine takeH (i := 0) (v := ?_) rfl (by kernel_rfl) (by kernel_rfl) (by kernel_rfl) (fun _ _ _ h => by first | exact h | exact h.elim) (by rfl) ?_ HC.out ?_
          rotate_left
          · intro W' hW; obtain ⟨c0, c1, c2⟩ := HL.out W' hW; go_simp <;> with_reducible rfl
          simp only [Act.put, lA, lZ, lS]
          refine takeH (i := 1) (v := ?_) rfl (by kernel_rfl) (by kernel_rfl) (by kernel_rfl) (fun _ _ _ h => by first | exact h | exact h.elim) (by rfl) ?_ HC.out ?_
          rotate_left
          · intro W' hW; obtain ⟨c0, c1, c2⟩ := HL.out W' hW; go_simp <;> with_reducible rfl
          simp only [Act.put, lA, lZ, lS]
          refine takeH (i := 2) (v := ?_) rfl (by kernel_rfl) (by kernel_rfl) (by kernel_rfl) (fun _ _ _ h => by first | exact h | exact h.elim) (by rfl) ?_ HC.out ?_
          rotate_left
          · intro W' hW; obtain ⟨c0, c1, c2⟩ := HL.out W' hW; go_simp <;> with_reducible rfl
          simp only [Act.put, lA, lZ, lS]
          refine takeH (i := 3) (v := ?_) rfl (by kernel_rfl) (by kernel_rfl) (by kernel_rfl) (fun _ _ _ h => by first | exact h | exact h.elim) (by rfl) ?_ HC.out ?_
          rotate_left
          · intro W' hW; obtain ⟨c0, c1, c2⟩ := HL.out W' hW; go_simp <;> with_reducible rfl
          simp only [Act.put, lA, lZ, lS]
          refine takeH (i := 4) (v := ?_) rfl (by kernel_rfl) (by kernel_rfl) (by kernel_rfl) (fun _ _ _ h => by first | exact h | exact h.elim) (by rfl) ?_ HC.out ?_
          rotate_left
          · intro W' hW; obtain ⟨c0, c1, c2⟩ := HL.out W' hW; go_simp <;> with_reducible rfl
          simp only [Act.put, lA, lZ, lS]
          refine takeH (i := 5) (v := ?_) rfl (by kernel_rfl) (by kernel_rfl) (by kernel_rfl) (fun _ _ _ h => by first | exact h | exact h.elim) (by rfl) ?_ HC.out ?_
          rotate_left
          · intro W' hW; obtain ⟨c0, c1, c2⟩ := HL.out W' hW; go_simp <;> with_reducible rfl
          simp only [Act.put, lA, lZ, lS]
          refine takeH (i := 6) (v := ?_) rfl (by kernel_rfl) (by kernel_rfl) (by kernel_rfl) (fun _ _ _ h => by first | exact h | exact h.elim) (by rfl) ?_ HC.out ?_
          rotate_left
          · intro W' hW; obtain ⟨c0, c1, c2⟩ := HL.out W' hW; go_simp <;> with_reducible rfl
          simp only [Act.put, lA, lZ, lS]
          refine takeH (i := 7) (v := ?_) rfl (by kernel_rfl) (by kernel_rfl) (by kernel_rfl) (fun _ _ _ h => by first | exact h | exact h.elim) (by rfl) ?_ HC.out ?_
          rotate_left
          · intro W' hW; obtain ⟨c0, c1, c2⟩ := HL.out W' hW; go_simp <;> with_reducible rfl
          simp only [Act.put, lA, lZ, lS]
          refine takeH (i := 8) (v := ?_) rfl (by kernel_rfl) (by kernel_rfl) (by kernel_rfl) (fun _ _ _ h => by first | exact h | exact h.elim) (by rfl) ?_ HC.out ?_
          rotate_left
          · intro W' hW; obtain ⟨c0, c1, c2⟩ := HL.out W' hW; go_simp <;> with_reducible rfl
          simp only [Act.put, lA, lZ, lS]
          refine takeH (i := 9) (v := ?_) rfl (by kernel_rfl) (by kernel_rfl) (by kernel_rfl) (fun _ _ _ h => by first | exact h | exact h.elim) (by rfl) ?_ HC.out ?_
          rotate_left
          · intro W' hW; obtain ⟨c0, c1, c2⟩ := HL.out W' hW; go_simp <;> with_reducible rfl
          simp only [Act.put, lA, lZ, lS]
          refine takeH (i := 10) (v := ?_) rfl (by kernel_rfl) (by kernel_rfl) (by kernel_rfl) (fun _ _ _ h => by first | exact h | exact h.elim) (by rfl) ?_ HC.out ?_
          rotate_left
          · intro W' hW; obtain ⟨c0, c1, c2⟩ := HL.out W' hW; go_simp <;> with_reducible rfl
          simp only [Act.put, lA, lZ, lS]
          refine takeH (i := 11) (v := ?_) rfl (by kernel_rfl) (by kernel_rfl) (by kernel_rfl) (fun _ _ _ h => by first | exact h | exact h.elim) (by rfl) ?_ HC.out ?_
          rotate_left
          · intro W' hW; obtain ⟨c0, c1, c2⟩ := HL.out W' hW; go_simp <;> with_reducible rfl
          simp only [Act.put, lA, lZ, lS]
          refine takeH (i := 12) (v := ?_) rfl (by kernel_rfl) (by kernel_rfl) (by kernel_rfl) (fun _ _ _ h => by first | exact h | exact h.elim) (by rfl) ?_ HC.out ?_
          rotate_left
          · intro W' hW; obtain ⟨c0, c1, c2⟩ := HL.out W' hW; go_simp <;> with_reducible rfl
          simp only [Act.put, lA, lZ, lS]
          refine takeH (i := 13) (v := ?_) rfl (by kernel_rfl) (by kernel_rfl) (by kernel_rfl) (fun _ _ _ h => by first | exact h | exact h.elim) (by rfl) ?_ HC.out ?_
          rotate_left
          · intro W' hW; obtain ⟨c0, c1, c2⟩ := HL.out W' hW; go_simp <;> with_reducible rfl
          simp only [Act.put, lA, lZ, lS]
          refine takeH (i := 14) (v := ?_) rfl (by kernel_rfl) (by kernel_rfl) (by kernel_rfl) (fun _ _ _ h => by first | exact h | exact h.elim) (by rfl) ?_ HC.out ?_
          rotate_left
          · intro W' hW; obtain ⟨c0, c1, c2⟩ := HL.out W' hW; go_simp <;> with_reducible rfl
          simp only [Act.put, lA, lZ, lS]
          refine takeH (i := 15) (v := ?_) rfl (by kernel_rfl) (by kernel_rfl) (by kernel_rfl) (fun _ _ _ h => by first | exact h | exact h.elim) (by rfl) ?_ HC.out ?_
          rotate_left
          · intro W' hW; obtain ⟨c0, c1, c2⟩ := HL.out W' hW; go_simp <;> with_reducible rfl
          simp only [Act.put, lA, lZ, lS]
          refine takeH (i := 16) (v := ?_) rfl (by kernel_rfl) (by kernel_rfl) (by kernel_rfl) (fun _ _ _ h => by first | exact h | exact h.elim) (by rfl) ?_ HC.out ?_
          rotate_left
          · intro W' hW; obtain ⟨c0, c1, c2⟩ := HL.out W' hW; go_simp <;> with_reducible rfl
          simp only [Act.put, lA, lZ, lS]
          refine takeH (i := 17) (v := ?_) rfl (by kernel_rfl) (by kernel_rfl) (by kernel_rfl) (fun _ _ _ h => by first | exact h | exact h.elim) (by rfl) ?_ HC.out ?_
          rotate_left
          · intro W' hW; obtain ⟨c0, c1, c2⟩ := HL.out W' hW; go_simp <;> with_reducible rfl
          simp only [Act.put, lA, lZ, lS]
          refine wpAnyH_done (by kernel_rfl) ?_ _
          gi_wp2_with fail
          refine wpIn_goto ?_
          exact ⟨(KeepsOthers.drew _).from _, rfl, HNo.out (.inr h2), HI.out.box.2.drew⟩
        · have hd2 : decide (hiB k < x.at k) = false := decide_eq_false h2
          gi_wp2_with fail
          refine region_round_held (S := fun W' : World => W'.cell? ⟨w.heap.size, k, none⟩ = some (.int .i64 (x.at k)) ∧ W'.cell? ⟨1, k * 2, none⟩ = some (.int .i64 (loB k)) ∧ W'.cell? ⟨1, k * 2 + 1, none⟩ = some (.int .i64 (hiB k))) (by kernel_rfl) (by kernel_rfl) (fun ⟨_, _, h⟩ => h) ?_
          refine takeH (i := 0) (v := ?_) rfl (by kernel_rfl) (by kernel_rfl) (by kernel_rfl) (fun _ _ _ h => by first | exact h | exact h.elim) (by rfl) ?_ HC.out ?_
          rotate_left
          · intro W' hW; obtain ⟨c0, c1, c2⟩ := HL.out W' hW; go_simp <;> with_reducible rfl
          simp only [Act.put, lA, lZ, lS]
          refine takeH (i := 1) (v := ?_) rfl (by kernel_rfl) (by kernel_rfl) (by kernel_rfl) (fun _ _ _ h => by first | exact h | exact h.elim) (by rfl) ?_ HC.out ?_
          rotate_left
          · intro W' hW; obtain ⟨c0, c1, c2⟩ := HL.out W' hW; go_simp <;> with_reducible rfl
          simp only [Act.put, lA, lZ, lS]
          refine takeH (i := 2) (v := ?_) rfl (by kernel_rfl) (by kernel_rfl) (by kernel_rfl) (fun _ _ _ h => by first | exact h | exact h.elim) (by rfl) ?_ HC.out ?_
          rotate_left
          · intro W' hW; obtain ⟨c0, c1, c2⟩ := HL.out W' hW; go_simp <;> with_reducible rfl
          simp only [Act.put, lA, lZ, lS]
          refine takeH (i := 3) (v := ?_) rfl (by kernel_rfl) (by kernel_rfl) (by kernel_rfl) (fun _ _ _ h => by first | exact h | exact h.elim) (by rfl) ?_ HC.out ?_
          rotate_left
          · intro W' hW; obtain ⟨c0, c1, c2⟩ := HL.out W' hW; go_simp <;> with_reducible rfl
          simp only [Act.put, lA, lZ, lS]
          refine takeH (i := 4) (v := ?_) rfl (by kernel_rfl) (by kernel_rfl) (by kernel_rfl) (fun _ _ _ h => by first | exact h | exact h.elim) (by rfl) ?_ HC.out ?_
          rotate_left
          · intro W' hW; obtain ⟨c0, c1, c2⟩ := HL.out W' hW; go_simp <;> with_reducible rfl
          simp only [Act.put, lA, lZ, lS]
          refine takeH (i := 5) (v := ?_) rfl (by kernel_rfl) (by kernel_rfl) (by kernel_rfl) (fun _ _ _ h => by first | exact h | exact h.elim) (by rfl) ?_ HC.out ?_
          rotate_left
          · intro W' hW; obtain ⟨c0, c1, c2⟩ := HL.out W' hW; go_simp <;> with_reducible rfl
          simp only [Act.put, lA, lZ, lS]
          refine takeH (i := 6) (v := ?_) rfl (by kernel_rfl) (by kernel_rfl) (by kernel_rfl) (fun _ _ _ h => by first | exact h | exact h.elim) (by rfl) ?_ HC.out ?_
          rotate_left
          · intro W' hW; obtain ⟨c0, c1, c2⟩ := HL.out W' hW; go_simp <;> with_reducible rfl
          simp only [Act.put, lA, lZ, lS]
          refine takeH (i := 7) (v := ?_) rfl (by kernel_rfl) (by kernel_rfl) (by kernel_rfl) (fun _ _ _ h => by first | exact h | exact h.elim) (by rfl) ?_ HC.out ?_
          rotate_left
          · intro W' hW; obtain ⟨c0, c1, c2⟩ := HL.out W' hW; go_simp <;> with_reducible rfl
          simp only [Act.put, lA, lZ, lS]
          refine takeH (i := 8) (v := ?_) rfl (by kernel_rfl) (by kernel_rfl) (by kernel_rfl) (fun _ _ _ h => by first | exact h | exact h.elim) (by rfl) ?_ HC.out ?_
          rotate_left
          · intro W' hW; obtain ⟨c0, c1, c2⟩ := HL.out W' hW; go_simp <;> with_reducible rfl
          simp only [Act.put, lA, lZ, lS]
          refine takeH (i := 9) (v := ?_) rfl (by kernel_rfl) (by kernel_rfl) (by kernel_rfl) (fun _ _ _ h => by first | exact h | exact h.elim) (by rfl) ?_ HC.out ?_
          rotate_left
          · intro W' hW; obtain ⟨c0, c1, c2⟩ := HL.out W' hW; go_simp <;> with_reducible rfl
          simp only [Act.put, lA, lZ, lS]
          refine takeH (i := 10) (v := ?_) rfl (by kernel_rfl) (by kernel_rfl) (by kernel_rfl) (fun _ _ _ h => by first | exact h | exact h.elim) (by rfl) ?_ HC.out ?_
          rotate_left
          · intro W' hW; obtain ⟨c0, c1, c2⟩ := HL.out W' hW; go_simp <;> with_reducible rfl
          simp only [Act.put, lA, lZ, lS]
          refine takeH (i := 11) (v := ?_) rfl (by kernel_rfl) (by kernel_rfl) (by kernel_rfl) (fun _ _ _ h => by first | exact h | exact h.elim) (by rfl) ?_ HC.out ?_
          rotate_left
          · intro W' hW; obtain ⟨c0, c1, c2⟩ := HL.out W' hW; go_simp <;> with_reducible rfl
          simp only [Act.put, lA, lZ, lS]
          refine takeH (i := 12) (v := ?_) rfl (by kernel_rfl) (by kernel_rfl) (by kernel_rfl) (fun _ _ _ h => by first | exact h | exact h.elim) (by rfl) ?_ HC.out ?_
          rotate_left
          · intro W' hW; obtain ⟨c0, c1, c2⟩ := HL.out W' hW; go_simp <;> with_reducible rfl
          simp only [Act.put, lA, lZ, lS]
          refine takeH (i := 13) (v := ?_) rfl (by kernel_rfl) (by kernel_rfl) (by kernel_rfl) (fun _ _ _ h => by first | exact h | exact h.elim) (by rfl) ?_ HC.out ?_
          rotate_left
          · intro W' hW; obtain ⟨c0, c1, c2⟩ := HL.out W' hW; go_simp <;> with_reducible rfl
          simp only [Act.put, lA, lZ, lS]
          refine takeH (i := 14) (v := ?_) rfl (by kernel_rfl) (by kernel_rfl) (by kernel_rfl) (fun _ _ _ h => by first | exact h | exact h.elim) (by rfl) ?_ HC.out ?_
          rotate_left
          · intro W' hW; obtain ⟨c0, c1, c2⟩ := HL.out W' hW; go_simp <;> with_reducible rfl
          simp only [Act.put, lA, lZ, lS]
          refine takeH (i := 15) (v := ?_) rfl (by kernel_rfl) (by kernel_rfl) (by kernel_rfl) (fun _ _ _ h => by first | exact h | exact h.elim) (by rfl) ?_ HC.out ?_
          rotate_left
          · intro W' hW; obtain ⟨c0, c1, c2⟩ := HL.out W' hW; go_simp <;> with_reducible rfl
          simp only [Act.put, lA, lZ, lS]
          refine takeH (i := 16) (v := ?_) rfl (by kernel_rfl) (by kernel_rfl) (by kernel_rfl) (fun _ _ _ h => by first | exact h | exact h.elim) (by rfl) ?_ HC.out ?_
          rotate_left
          · intro W' hW; obtain ⟨c0, c1, c2⟩ := HL.out W' hW; go_simp <;> with_reducible rfl
          simp only [Act.put, lA, lZ, lS]
          refine takeH (i := 17) (v := ?_) rfl (by kernel_rfl) (by kernel_rfl) (by kernel_rfl) (fun _ _ _ h => by first | exact h | exact h.elim) (by rfl) ?_ HC.out ?_
          rotate_left
          · intro W' hW; obtain ⟨c0, c1, c2⟩ := HL.out W' hW; go_simp <;> with_reducible rfl
          simp only [Act.put, lA, lZ, lS]
          refine wpAnyH_done (by kernel_rfl) ?_ _
          gi_wp2_with fail
          have hf : fitK x k = true := by unfold fitK; rw [decide_eq_true (show loB k ≤ x.at k by omega), decide_eq_true (show x.at k ≤ hiB k by omega)]; rfl
          refine ⟨(KeepsOthers.drew _).from _, kpP_below ((Below.refl _ _).drew), fun j hj => ?_, HI.out.box.drew⟩
          rw [List.length_append, List.length_singleton] at hj
          have hkk := HK.out
          rcases (by omega : j < pre.length ∨ j = k) with h3 | rfl
          · exact HI.out.fit j h3
          · exact hf
    case done =>
      rintro D ys W1 hD hys hI hK
      have hin : inB x = true := inB_all (fun k hk => hI.fit k (by rw [hys]; exact hk))
      have hlx : Lies x W1 w.heap.size := HX.out.below hI.box.2
      have HM := Lib.hid (marked_any x.A x.n x.c x.ms w.heap.size W1 hlx.rd)
      have HRm := Lib.hid (roomy_any x hin)
      obtain ⟨c0, c1, c2, c3, c4, c5, c6, c7, c8, c9, c10, c11, c12, c13, c14⟩ := hI.box.1.conf
      have HI := Lib.hid hI
      have HK := Lib.hid hK
      have HIn := Lib.hid hin
      clear hI hK hys hin hlx
      by_cases hm : marksB x.ms = true
      · rw [hm] at HM
        have HMy : Hid (may x = roomB x) := Lib.hid (by unfold may; rw [HIn.out, hm]; rfl)
        clear hm
        gi_wp2_with (first | (refine ⟨trivial, ?_⟩; gi_at_call 122; refine (callsIn_wide.2 (HM.out)).mono ?_; rintro e w2 ⟨rfl, rfl⟩) | (refine ⟨trivial, ?_⟩; gi_at_call 123; refine (callsIn_wide.2 (HRm.out _)).mono ?_; rintro e w3 ⟨rfl, hb3⟩))
        have hK3 := (hb3.block D (Array.getElem?_eq_some_iff.1 HK.out).1).trans HK.out
        have hbw := HI.out.box.2.trans (hb3.mono HI.out.box.2.size)
        simp only [Exit.jump]
        refine ⟨by simp, .inl ⟨_, _, rfl, run_takeDeferred hK3, ?_⟩⟩
        refine ⟨.bool (roomB x), by simp [results, Tryz.results115], by rw [HMy.out], ?_⟩
        exact hbw.trans ((Below.refl _ _).grown (grownBy_putObj' w3 D (.deferred none)) hbw.size (fun k e => by cases e; omega))
      · have hm' : marksB x.ms = false := by simpa using hm
        rw [hm'] at HM
        have HMy : Hid (may x = false) := Lib.hid (by unfold may; rw [HIn.out, hm']; rfl)
        clear hm hm'
        gi_wp2_with (first | (refine ⟨trivial, ?_⟩; gi_at_call 122; refine (callsIn_wide.2 (HM.out)).mono ?_; rintro e w2 ⟨rfl, rfl⟩))
        refine ⟨trivial, ?_⟩
        gi_wp2_with fail
        have hbw := HI.out.box.2
        simp only [Exit.jump]
        refine ⟨by simp, .inl ⟨_, _, rfl, run_takeDeferred HK.out, ?_⟩⟩
        refine ⟨.bool false, by simp [results, Tryz.results115], by rw [HMy.out], ?_⟩
        exact hbw.trans ((Below.refl _ _).grown (grownBy_putObj' w2 D (.deferred none)) hbw.size (fun k e => by cases e; omega))
    case stop =>
      rintro D c W hD ⟨rfl, hWr⟩ hK
      refine wpIn_goto ?_
      exact ⟨rfl, D, _, _, _, _, _, _, _, _, _, _, _, _, _, _, _, _, _, _, _, _, _, _, _, _, _, _, _, _, _, _, _, _, _, rfl, by omega, hK, hWr⟩

end Go.Proofs.YtdaimejlcfhfiaaGreatDoor

namespace Go.Proofs.YtdaimejlcfhfiaaGreatDoor
open Go.RowKit Go.Shelf

/-- What the contracts of a group ask: where it lies, and the table. -/
structure Has (x : Cf) (w : World) : Prop where
  lies : Lies x w w.heap.size
  tab : Tab w
theorem Has.under {x : Cf} {w w' : World} (h : Has x w) (hb : Below w.heap.size w w') : Has x w' := ⟨(h.lies.below hb).more hb.size, h.tab.under hb⟩
theorem Has.right {x : Cf} {w : World} (h : Has x w) : Calls Tryz.prog 115 #[x.v] w (BoolPost (may x) w) := confRight_any x w.heap.size w h.lies (Nat.le_refl _) h.tab

set_option maxHeartbeats 1000000 in
theorem check_any (x : Cf) (w : World) (h : Has x w) : Calls Tryz.prog 66 #[x.v] w (IntPost (er (may x)) w) := by
  have hb : Below w.heap.size w (w.alloc (.cells x.cells 24)) := (Below.refl _ w).alloc (Nat.le_refl _) _
  have HR := Lib.hid (h.under hb).right
  have HB := Lib.hid hb
  clear h hb
  by_cases hm : may x = true
  · rw [hm] at HR ⊢
    clear hm
    go_enter Tryz.func66, Tryz.ntmps66
    go_wp2_with fail
    refine (HR.out).mono ?_
    rintro e w1 ⟨rfl, b1⟩
    have HB1 := Lib.hid (HB.out.trans (b1.mono HB.out.size))
    clear b1 HR
    go_wp2_with fail
    go_ret
    exact ⟨rfl, HB1.out⟩
  · have hm : may x = false := by simpa using hm
    rw [hm] at HR ⊢
    clear hm
    go_enter Tryz.func66, Tryz.ntmps66
    go_wp2_with fail
    refine (HR.out).mono ?_
    rintro e w1 ⟨rfl, b1⟩
    have HB1 := Lib.hid (HB.out.trans (b1.mono HB.out.size))
    clear b1 HR
    go_wp2_with fail
    go_ret
    exact ⟨rfl, HB1.out⟩

end Go.Proofs.YtdaimejlcfhfiaaGreatDoor

namespace Go.Proofs.YtdaimejlcfhfiaaGreatDoor
open Go.RowKit Go.Shelf

/-- The end of a function that tells a brain out of a box. -/
theorem brain_end {fn : Func} {k b : Nat} (hres : fn.results = #[.cell k 30]) {tm : Array Value} {W : World} {cs : Array Value} {R : Ending → World → Prop} (h2 : tm[k]? = some (.pointer (some ⟨b, 0, none⟩))) (hw : Whole W b 30 cs) (hcs : cs.size = 27) (hR : R (.returned (.agg cs)) W) : bodyPost Tryz.prog fn R .ret { tmps := tm, defers := [] } W := by
  have hl := run_loadVar_row (P := Tryz.prog) W b 30 30 cs (0, 0) _ hw Tryz.underlying30 rfl (by rw [hcs]; kernel_rfl)
  refine bodyPost_ret (v := .agg cs) ?_ rfl hR
  simp [results, hres, h2, hl, asAddr]

def ad0 : Ad := ⟨none, 0, none, 0, none, 0⟩
theorem brC_one (p : Br) (a : Ad) : (brC p a).all (·.oneCell') = true := by simp [Value.oneCell']
theorem below_rowsetB {w w' : World} {B g : Nat} (h : Below B w w') (hg : B ≤ g) (cs : Array Value) : Below B w (w'.setRow g cs) :=
  ⟨h.os, h.tape, h.output, by rw [setRow_size]; exact h.size, fun i hi => (setRow_other w' g i cs (by omega)).trans (h.block i hi)⟩
theorem own_rowsetB {w : World} {base n g : Nat} {e : TypeId} {size : Nat} {v : Value} {xs : List Value} (ho : w.ownsRow base e size v n xs) (hne : v.ownBlock ≠ some g) (c' : Array Value) : (w.setRow g c').ownsRow base e size v n xs := by
  refine ho.kept (row := some g) ⟨rfl, rfl, rfl, Nat.le_of_eq (setRow_size w g c').symm, fun k hk hkg => setRow_other w g k c' (fun e => hkg (by rw [e]))⟩ ?_
  rcases ho.2 with ⟨rfl, _⟩ | ⟨k, cap, cur, rfl, _⟩
  · exact .inl rfl
  · exact .inr hne
theorem OwB.rowset {base : Nat} {w : World} {p : Br} {a : Ad} {g : Nat} {t : TypeId} {cs : Array Value} (h : OwB base w p a) (hw : Whole w g t cs) (h1 : 3 ≠ t) (h2 : 45 ≠ t) (h3 : 47 ≠ t) (c' : Array Value) : OwB base (w.setRow g c') p a :=
  ⟨own_rowsetB h.ms (own_apart_F h1 h.ms hw) c', own_rowsetB h.its (own_apart_F h2 h.its hw) c', own_rowsetB h.kps (own_apart_F h3 h.kps hw) c'⟩
theorem OwB.only {base : Nat} {w w' : World} {p : Br} {a : Ad} {g : Nat} {t : TypeId} {cs : Array Value} (h : OwB base w p a) (k : Only g w w') (hw : Whole w g t cs) (h1 : 3 ≠ t) (h2 : 45 ≠ t) (h3 : 47 ≠ t) : OwB base w' p a :=
  ⟨k.own h.ms hw h1, h.its.only k hw h2, h.kps.only k hw h3⟩
theorem set17 {w : World} {g : Nat} {p : Br} {a : Ad} (h : Whole w g 30 (brC p a)) (C : Option Addr) (e : Nat) : Whole (w.setCell ⟨g, 17, none⟩ (.slice C p.cf.ms.length e)) g 30 (brC p ⟨C, e, a.A, a.c, a.B, a.d⟩) := by
  have h1 := h.set 17 (.slice C p.cf.ms.length e)
  simp only [List.setIfInBounds_toArray, List.set_cons_zero, List.set_cons_succ] at h1
  exact h1
theorem set18 {w : World} {g : Nat} {p : Br} {a : Ad} (h : Whole w g 30 (brC p a)) (A : Option Addr) (c : Nat) : Whole (w.setCell ⟨g, 18, none⟩ (.slice A p.its.length c)) g 30 (brC p ⟨a.C, a.e, A, c, a.B, a.d⟩) := by
  have h1 := h.set 18 (.slice A p.its.length c)
  simp only [List.setIfInBounds_toArray, List.set_cons_zero, List.set_cons_succ] at h1
  exact h1
theorem set19 {w : World} {g : Nat} {p : Br} {a : Ad} (h : Whole w g 30 (brC p a)) (B : Option Addr) (d : Nat) : Whole (w.setCell ⟨g, 19, none⟩ (.slice B p.kps.length d)) g 30 (brC p ⟨a.C, a.e, a.A, a.c, B, d⟩) := by
  have h1 := h.set 19 (.slice B p.kps.length d)
  simp only [List.setIfInBounds_toArray, List.set_cons_zero, List.set_cons_succ] at h1
  exact h1

/-- 'append([]int{}, l...)'. -/
theorem fresh_ms (V : World) (Z : Nat) (A : Option Addr) (n c : Nat) (ms : List Int) (hr : Rd V Z A n (iv ms)) (hZ : Z ≤ V.heap.size) (hn : n ≤ 1000) :
    ∃ A' c' W1, (Builtin.append_ #[22, 22] 22 #[.slice (some ⟨V.heap.size, 0, none⟩) 0 0, .slice A n c]).run Tryz.prog (V.alloc (.cells #[] 3)) = .ok (.slice A' n c') W1 ∧ W1.ownsRow V.heap.size 3 1 (.slice A' n c') n (iv ms) ∧ Below V.heap.size V W1 := by
  have b3 := (Below.refl V.heap.size V).alloc (Nat.le_refl _) (.cells #[] 3)
  have ho0 : (V.alloc (.cells #[] 3)).ownsRow V.heap.size 3 1 (.slice (some ⟨V.heap.size, 0, none⟩) 0 0) 0 [] := World.ownsRow_made (base := V.heap.size) (e := 3) (size := 1) V #[] 0 (Nat.le_refl _) (Nat.zero_le _) rfl
  obtain ⟨v', W1, h1, h2, h3⟩ := run_appI (V.alloc (.cells #[] 3)) V.heap.size _ 0 [] ho0 Z A n c ms (hr.below (b3.mono hZ)) (by omega) b3.size
  rw [Nat.zero_add, List.nil_append] at h2
  obtain ⟨A', c', rfl⟩ := own_form h2
  exact ⟨A', c', W1, h1, h2, b3.grown h3 b3.size (by simp [Value.ownBlock])⟩
theorem fresh_its (V : World) (Z : Nat) (A : Option Addr) (c : Nat) (l : List It) (hr : RdI V Z A l.length l) (hZ : Z ≤ V.heap.size) (hn : l.length ≤ 1000) :
    ∃ A' c' W1, (Builtin.append_ #[25, 25] 25 #[.slice (some ⟨V.heap.size, 0, none⟩) 0 0, .slice A l.length c]).run Tryz.prog (V.alloc (.cells #[] 45)) = .ok (.slice A' l.length c') W1 ∧ ItsAt V.heap.size W1 (.slice A' l.length c') l ∧ Below V.heap.size V W1 := by
  have b3 := (Below.refl V.heap.size V).alloc (Nat.le_refl _) (.cells #[] 45)
  have ho0 : ItsAt V.heap.size (V.alloc (.cells #[] 45)) (.slice (some ⟨V.heap.size, 0, none⟩) 0 0) [] := World.ownsRow_made (base := V.heap.size) (e := 45) (size := 4) V #[] 0 (Nat.le_refl _) (Nat.zero_le _) rfl
  obtain ⟨A', c', W1, h1, h2, h3, _⟩ := its_app (V.alloc (.cells #[] 45)) V.heap.size _ [] ho0 Z A l.length c l (hr.below (b3.mono hZ)) (by simp; omega) b3.size
  simp only [List.length_nil, Nat.zero_add, List.nil_append] at h1 h2
  exact ⟨A', c', W1, h1, h2, b3.grown h3 b3.size (by simp [Value.ownBlock])⟩
theorem fresh_kps (V : World) (Z : Nat) (A : Option Addr) (c : Nat) (l : List Kp) (hr : RdK V Z A l.length l) (hZ : Z ≤ V.heap.size) (hn : l.length ≤ 1000) :
    ∃ A' c' W1, (Builtin.append_ #[26, 26] 26 #[.slice (some ⟨V.heap.size, 0, none⟩) 0 0, .slice A l.length c]).run Tryz.prog (V.alloc (.cells #[] 47)) = .ok (.slice A' l.length c') W1 ∧ KpsAt V.heap.size W1 (.slice A' l.length c') l ∧ Below V.heap.size V W1 := by
  have b3 := (Below.refl V.heap.size V).alloc (Nat.le_refl _) (.cells #[] 47)
  have ho0 : KpsAt V.heap.size (V.alloc (.cells #[] 47)) (.slice (some ⟨V.heap.size, 0, none⟩) 0 0) [] := World.ownsRow_made (base := V.heap.size) (e := 47) (size := 8) V #[] 0 (Nat.le_refl _) (Nat.zero_le _) rfl
  obtain ⟨A', c', W1, h1, h2, h3, _⟩ := kps_app (V.alloc (.cells #[] 47)) V.heap.size _ [] ho0 Z A l.length c l (hr.below (b3.mono hZ)) (by simp; omega) b3.size
  simp only [List.length_nil, Nat.zero_add, List.nil_append] at h1 h2
  exact ⟨A', c', W1, h1, h2, b3.grown h3 b3.size (by simp [Value.ownBlock])⟩

end Go.Proofs.YtdaimejlcfhfiaaGreatDoor

namespace Go.Proofs.YtdaimejlcfhfiaaGreatDoor
open Go.RowKit Go.Shelf
attribute [local go_sem] Oper.semAt_some

/-- A group's numbers, as values. -/
def Cf.arr (x : Cf) : Array Value := #[.int .i64 x.f0, .int .i64 x.f1, .int .i64 x.f2, .int .i64 x.f3, .int .i64 x.f4, .int .i64 x.f5, .int .i64 x.f6, .int .i64 x.f7, .int .i64 x.f8, .int .i64 x.f9, .int .i64 x.f10, .int .i64 x.f11, .int .i64 x.f12]
/-- The first k of them, noughts behind. -/
def arrTo (x : Cf) (k : Nat) : Array Value := ((x.fs.take k ++ List.replicate (13 - k) 0).map (Value.int .i64)).toArray
theorem arrTo_step (x : Cf) {k : Nat} (hk : k < 13) : (arrTo x k).setIfInBounds k (.int .i64 (x.at k)) = arrTo x (k + 1) := by
  rcases (by omega : k = 0 ∨ k = 1 ∨ k = 2 ∨ k = 3 ∨ k = 4 ∨ k = 5 ∨ k = 6 ∨ k = 7 ∨ k = 8 ∨ k = 9 ∨ k = 10 ∨ k = 11 ∨ k = 12) with rfl | rfl | rfl | rfl | rfl | rfl | rfl | rfl | rfl | rfl | rfl | rfl | rfl <;> rfl
theorem arrTo_cell (x : Cf) {k : Nat} (hk : k < 13) : (arrTo x k)[k]? = some (.int .i64 0) := by
  rcases (by omega : k = 0 ∨ k = 1 ∨ k = 2 ∨ k = 3 ∨ k = 4 ∨ k = 5 ∨ k = 6 ∨ k = 7 ∨ k = 8 ∨ k = 9 ∨ k = 10 ∨ k = 11 ∨ k = 12) with rfl | rfl | rfl | rfl | rfl | rfl | rfl | rfl | rfl | rfl | rfl | rfl | rfl <;> rfl
theorem arrTo_all (x : Cf) : arrTo x 13 = x.arr := rfl
/-- What holds between two rounds. -/
structure ValAt (x : Cf) (w : World) (Bc : Nat) (pre : List Nat) (W : World) : Prop where
  res : Whole W w.heap.size 86 #[.int .i64 0, .int .i64 0, .int .i64 0, .int .i64 0, .int .i64 0, .int .i64 0, .int .i64 0, .int .i64 0, .int .i64 0, .int .i64 0, .int .i64 0, .int .i64 0, .int .i64 0]
  row : Whole W (w.heap.size + 1) 86 (arrTo x pre.length)
  box : Whole W Bc 24 x.cells
  below : Below w.heap.size w W
theorem valAt_own (x : Cf) (w : World) (Bc B : Nat) (hB : w.heap.size ≤ B) : OwnFrom B (ValAt x w Bc) := by
  intro pre W1 W2 row h hg hr
  have hr' : ∀ r, row = some r → ∃ o : Obj, W1.heap[r]? = some o ∧ o.isCells = false := fun r e => (hr r e).2
  exact ⟨h.res.turn hg hr', h.row.turn hg hr', h.box.turn hg hr', h.below.grown hg h.below.size (fun k e => by have := (hr k e).1; omega)⟩

/-- A store of a whole row, in a fence. -/
theorem wpListIn_store_row {F : Fence} {m : Nat} {P : Program} {ops : Array Oper} {rest : List Oper} {o : Oper} {a : Act} {w : World} {Q : Exit → Act → World → Prop} (hgd : o.guard = none) (ty : TypeId) (x y : Operand) (ho : o.op = .store ty x y)
    (g : Nat) (cells : Array Value) (hx : a.eval x = .pointer (some ⟨g, 0, none⟩)) (hy : a.eval y = .agg cells)
    (t : TypeId) (old : Array Value) (hg : w.heap[g]? = some (.cells old t (0, 0))) (hi : (P.info? ty).map (·.size) = some cells.size)
    (hold : old.size = cells.size) (h1 : cells.all (·.oneCell') = true)
    (h : wpListIn F m P ops Q rest (a.put o.dst undef) (w.setRow g cells)) : wpListIn F m P ops Q (o :: rest) a w := by
  refine wpListIn_plain hgd fun K hK => ?_
  unfold Oper.wpIn
  refine ⟨by simp [Oper.about, ho], ?_⟩
  rw [Oper.semAt_plain F _ _ (by rw [ho]; intro c hc; cases hc)]
  unfold execOp
  simp only [ho, hx, hy, Instr.storeAt, Instr.sureAddr, Sem.run_bind, Sem.run_pure, Result.andThen_ok, run_storeVar_row w g t ty old cells hg hi hold h1]
  exact hK _ _ h

def ArrPost (x : Cf) (w : World) (e : Ending) (w' : World) : Prop := e = .returned (.agg x.arr) ∧ Below w.heap.size w w'

set_option maxHeartbeats 2000000 in
theorem values_any (x : Cf) (Bc : Nat) (w : World) (hbox : Whole w Bc 24 x.cells) : Calls Tryz.prog 69 #[.pointer (some ⟨Bc, 0, none⟩)] w (ArrPost x w) := by
  have HX := Lib.hid hbox
  clear hbox
  refine (callsIn_wide (n := 6)).1 ?_
  refine callsIn_of_wp_marks Tryz.func69 rfl trivial ?_ rfl
  simp only [Tryz.ntmps69, List.size_toArray, List.length_cons, List.length_nil, Nat.reduceAdd, Nat.reduceSub, Array.replicate_succ, Array.replicate_zero, List.push_toArray, List.append_toArray, List.nil_append, List.cons_append]
  gi_wp2_with (refine ⟨trivial, ?_⟩; gi_at_call 116; refine (callsIn_wide.2 (fields_any _ _)).mono ?_; rintro e w2 ⟨rfl, rfl⟩)
  obtain ⟨W0, hW0⟩ : ∃ W0, ((w.alloc (.cells #[.int .i64 0, .int .i64 0, .int .i64 0, .int .i64 0, .int .i64 0, .int .i64 0, .int .i64 0, .int .i64 0, .int .i64 0, .int .i64 0, .int .i64 0, .int .i64 0, .int .i64 0] 86)).alloc (.cells #[.int .i64 0, .int .i64 0, .int .i64 0, .int .i64 0, .int .i64 0, .int .i64 0, .int .i64 0, .int .i64 0, .int .i64 0, .int .i64 0, .int .i64 0, .int .i64 0, .int .i64 0] 86)).alloc (.cells #[.pointer (some ⟨Bc, 0, none⟩)] 103) = W0 := ⟨_, rfl⟩
  have hs0 : W0.heap.size = w.heap.size + 1 + 1 + 1 := by rw [← hW0]; simp
  have hb0 : Below w.heap.size w W0 := by rw [← hW0]; exact (((Below.refl _ w).alloc (Nat.le_refl _) _).alloc (by simp) _).alloc (by simp; omega) _
  have hinv : ValAt x w Bc [] W0 := by
    refine ⟨?_, ?_, HX.out.under hb0, hb0⟩
    · rw [← hW0]; exact ((Whole.new w _ _).alloc _).alloc _
    · rw [← hW0]
      have := (Whole.new (w.alloc (.cells #[.int .i64 0, .int .i64 0, .int .i64 0, .int .i64 0, .int .i64 0, .int .i64 0, .int .i64 0, .int .i64 0, .int .i64 0, .int .i64 0, .int .i64 0, .int .i64 0, .int .i64 0] 86)) 86 #[.int .i64 0, .int .i64 0, .int .i64 0, .int .i64 0, .int .i64 0, .int .i64 0, .int .i64 0, .int .i64 0, .int .i64 0, .int .i64 0, .int .i64 0, .int .i64 0, .int .i64 0]).alloc (.cells #[.pointer (some ⟨Bc, 0, none⟩)] 103)
      rwa [World.size_alloc] at this
  have hbn : W0.cell? ⟨w.heap.size + 1 + 1, 0, none⟩ = some (.pointer (some ⟨Bc, 0, none⟩)) := by
    rw [← hW0]
    have := (Whole.new ((w.alloc (.cells #[.int .i64 0, .int .i64 0, .int .i64 0, .int .i64 0, .int .i64 0, .int .i64 0, .int .i64 0, .int .i64 0, .int .i64 0, .int .i64 0, .int .i64 0, .int .i64 0, .int .i64 0] 86)).alloc (.cells #[.int .i64 0, .int .i64 0, .int .i64 0, .int .i64 0, .int .i64 0, .int .i64 0, .int .i64 0, .int .i64 0, .int .i64 0, .int .i64 0, .int .i64 0, .int .i64 0, .int .i64 0] 86)) 103 #[.pointer (some ⟨Bc, 0, none⟩)]).cell 0
    rwa [World.size_alloc, World.size_alloc] at this
  rw [hW0]
  clear hW0
  refine wpIn_range_mem (by omega) (gf := 124) (lb := #[.pointer (some ⟨w.heap.size + 1 + 1, 0, none⟩)]) rfl (enters_of Tryz.func124 (by kernel_rfl) rfl) (encs := fun k : Nat => #[Value.int .i64 (k : Int), Value.pointer (some ⟨Bc, k, none⟩)])
    (fields_mem 5 (w.heap.size + 1 + 1) Bc W0 (by omega) hbn)
    (fun h k => kpP_t h k) (fun W l o o' _ h h1 _ => kpP_b W l o o' h h1) (Below.refl _ _) (fun _ => rfl)
    (ValAt x w Bc) (fun _ _ => False)
    (valAt_own _ _ _ _ (by omega)) (fun c W W' row h hg hr => h) hinv
    (fun pre k a' W => (k = pre.length ∧ k < 13) ∧ a' = { tmps := #[.pointer (some ⟨Bc, 0, none⟩), undef, .pointer (some ⟨w.heap.size, 0, none⟩), .pointer (some ⟨w.heap.size + 1, 0, none⟩), .int .i64 (k : Int), .pointer (some ⟨Bc, k, none⟩), .pointer (some ⟨Bc, 0, none⟩), .func (.func 124) #[] #[.pointer (some ⟨w.heap.size + 1 + 1, 0, none⟩)], .int .i64 (k : Int), .pointer (some ⟨Bc, k, none⟩), undef, undef, undef, undef, undef, undef], defers := [] })
    (fun a' p X Y row hs hg hr => hs) ?assign ?body ?done ?stop
  case assign =>
    intro l pre k W K hI hOk hK
    have HOk := Lib.hid hOk
    clear hOk
    gi_wp2
    exact hK _ _ (KeepsFrom.refl _ _) kpP_refl hI ⟨HOk.out, rfl⟩
  case body =>
    rintro l pre k a' W hl hI ⟨⟨hk, hk13⟩, rfl⟩
    have c0 := hI.box.confK hk13
    have hrow := hI.row
    rw [← hk] at hrow
    have c1 := hrow.cell k
    rw [arrTo_cell x hk13] at c1
    have f1 := hrow.frozen k
    have hk13i : (k : Int) < 13 := by omega
    have HI := Lib.hid hI
    have HK := Lib.hid hk
    have HRow := Lib.hid hrow
    clear hI hk hrow
    gi_wp2_with fail
    have hr2 := HRow.out.set k (.int .i64 (x.at k))
    rw [arrTo_step x hk13] at hr2
    have hfar : ∀ {b : Nat} {t : TypeId} {cs : Array Value}, Whole W b t cs → t ≠ 86 ∨ b ≠ w.heap.size + 1 → Whole (W.setCell ⟨w.heap.size + 1, k, none⟩ (.int .i64 (x.at k))) b t cs := fun h hne => h.far (p := ⟨w.heap.size + 1, k, none⟩) (by
      rcases hne with hne | hne
      · rintro rfl
        have h2 := HRow.out
        unfold Whole at h h2
        rw [h] at h2
        cases h2
        exact hne rfl
      · exact hne) _
    refine ⟨(KeepsOthers.setCell _ _ _).from _, kpP_set HRow.out (by decide) _, hfar HI.out.res (.inr (by omega)), ?_, hfar HI.out.box (.inl (by decide)), HI.out.below.setCell (p := ⟨w.heap.size + 1, k, none⟩) (Nat.le_succ _) _⟩
    rw [List.length_append, List.length_singleton, ← HK.out]
    exact hr2
  case done =>
    rintro D ys W hD hys hI hK
    have hrow := hI.row
    rw [hys, arrTo_all] at hrow
    have q0 := hrow.cell 0
    have q1 := hrow.cell 1
    have q2 := hrow.cell 2
    have q3 := hrow.cell 3
    have q4 := hrow.cell 4
    have q5 := hrow.cell 5
    have q6 := hrow.cell 6
    have q7 := hrow.cell 7
    have q8 := hrow.cell 8
    have q9 := hrow.cell 9
    have q10 := hrow.cell 10
    have q11 := hrow.cell 11
    have q12 := hrow.cell 12
    simp only [Cf.arr, List.getElem?_toArray, List.getElem?_cons_zero, List.getElem?_cons_succ] at q0 q1 q2 q3 q4 q5 q6 q7 q8 q9 q10 q11 q12
    have HI := Lib.hid hI
    have HK := Lib.hid hK
    clear hI hK hrow hys
    have HR1 : Hid (x.arr.all (·.oneCell') = true) := Lib.hid (by simp [Cf.arr, Value.oneCell'])
    gi_wp2_with (refine wpListIn_store_row rfl 86 _ _ rfl w.heap.size x.arr (by rfl) (by rfl) 86 _ HI.out.res (by kernel_rfl) rfl HR1.out ?_)
    have h4 : Whole (W.setRow w.heap.size x.arr) w.heap.size 86 x.arr := setRow_heap W _ _ _ _ _ HI.out.res
    have hb4 : Below w.heap.size w (W.setRow w.heap.size x.arr) := below_rowset HI.out.below (Nat.le_refl _) _
    have hK4 : (W.setRow w.heap.size x.arr).heap[D]? = some (.deferred (some [])) := (setRow_other _ _ _ _ (by omega)).trans HK.out
    clear q0 q1 q2 q3 q4 q5 q6 q7 q8 q9 q10 q11 q12 HR1
    generalize W.setRow w.heap.size x.arr = W1 at h4 hb4 hK4 ⊢
    have hg' := grownBy_putObj' W1 D (.deferred none)
    have hr' : ∀ r, (some D) = some r → ∃ o : Obj, W1.heap[r]? = some o ∧ o.isCells = false := fun r e => by cases e; exact ⟨_, hK4, rfl⟩
    have h5 := h4.turn hg' hr'
    have p0 := h5.cell 0
    have p1 := h5.cell 1
    have p2 := h5.cell 2
    have p3 := h5.cell 3
    have p4 := h5.cell 4
    have p5 := h5.cell 5
    have p6 := h5.cell 6
    have p7 := h5.cell 7
    have p8 := h5.cell 8
    have p9 := h5.cell 9
    have p10 := h5.cell 10
    have p11 := h5.cell 11
    have p12 := h5.cell 12
    simp only [Cf.arr, List.getElem?_toArray, List.getElem?_cons_zero, List.getElem?_cons_succ] at p0 p1 p2 p3 p4 p5 p6 p7 p8 p9 p10 p11 p12
    refine ⟨by simp, .inl ⟨_, _, rfl, run_takeDeferred hK4, ?_⟩⟩
    refine ⟨.agg x.arr, by simp [results, Tryz.results69, go_sem, p0, p1, p2, p3, p4, p5, p6, p7, p8, p9, p10, p11, p12, Cf.arr], rfl, ?_⟩
    exact hb4.trans ((Below.refl _ _).grown hg' hb4.size (fun k e => by cases e; omega))
  case stop =>
    rintro D c W hD h hK
    exact h.elim

end Go.Proofs.YtdaimejlcfhfiaaGreatDoor

namespace Go.Proofs.YtdaimejlcfhfiaaGreatDoor
open Go.RowKit Go.Shelf

/-- A bool, and no block that was there turns but by draws. -/
def QuietBool (v : Bool) (w : World) (e : Ending) (w' : World) : Prop := e = .returned (.bool v) ∧ ∃ k, w' = w.drewN k

theorem take_grow {zs zs' : List Int} {j : Nat} {x : Int} (h : zs.take j = zs'.take j) (h1 : zs[j]? = some x) (h2 : zs'[j]? = some x) : zs.take (j + 1) = zs'.take (j + 1) := by
  have l1 : j < zs.length := (List.getElem?_eq_some_iff.1 h1).1
  have l2 : j < zs'.length := (List.getElem?_eq_some_iff.1 h2).1
  rw [List.take_succ_eq_append_getElem l1, List.take_succ_eq_append_getElem l2, h]
  rw [List.getElem?_eq_getElem l1] at h1
  rw [List.getElem?_eq_getElem l2] at h2
  rw [Option.some.inj h1, Option.some.inj h2]

set_option maxHeartbeats 1000000 in
theorem equal_any (A A' : Option Addr) (n c n' c' : Nat) (zs zs' : List Int) (B B' : Nat) (w : World) (hr : Rd w B A n (iv zs)) (hr' : Rd w B' A' n' (iv zs')) (hn : n ≤ 1000000) :
    Calls Tryz.prog 70 #[.slice A n c, .slice A' n' c'] w (QuietBool (decide (zs = zs')) w) := by
  have hl : zs.length = n := by have := hr.1; rwa [iv_length] at this
  have hl' : zs'.length = n' := by have := hr'.1; rwa [iv_length] at this
  by_cases hne : n = n'
  · subst hne
    have HR := Lib.hid hr
    have HR' := Lib.hid hr'
    have HL := Lib.hid hl
    have HL' := Lib.hid hl'
    clear hr hr' hl hl'
    go_enter Tryz.func70, Tryz.ntmps70
    go_wp2_with fail
    go_loopw [5, 13] (fun _ i wr => ∃ j : Nat, i = .int .i64 (j : Int) ∧ j ≤ n ∧ zs.take j = zs'.take j ∧ ∃ k, wr = w.drewN k) (fun _ i _ => n - (intOf i).toNat)
    case atStart => exact ⟨0, rfl, Nat.zero_le _, rfl, 0, rfl⟩
    case round =>
      obtain ⟨j, rfl, hj, hT, k, rfl⟩ := hrel
      have HT := Lib.hid hT
      clear hT
      by_cases hlt : j < n
      · obtain ⟨b, off, rfl, _, hc⟩ := HR.out.2 (by omega)
        obtain ⟨b', off', rfl, _, hc'⟩ := HR'.out.2 (by omega)
        have hjl : j < zs.length := by rw [HL.out]; exact hlt
        have hjl' : j < zs'.length := by rw [HL'.out]; exact hlt
        obtain ⟨x, hx⟩ : ∃ x, zs[j]? = some x := ⟨_, List.getElem?_eq_getElem hjl⟩
        obtain ⟨y, hy⟩ : ∃ y, zs'[j]? = some y := ⟨_, List.getElem?_eq_getElem hjl'⟩
        have h1 := hc j hlt
        have h2 := hc' j hlt
        rw [show (iv zs)[j]? = some (.int .i64 x) by simp [iv, hx]] at h1
        rw [show (iv zs')[j]? = some (.int .i64 y) by simp [iv, hy]] at h2
        have hI : (j : Int) < (n : Int) := by omega
        have HX := Lib.hid hx
        have HY := Lib.hid hy
        clear hc hc' hx hy hjl hjl'
        by_cases hxy : x = y
        · subst hxy
          go_wp2_with fail
          go_quiet (fail)
          go_wp2_with fail
          go_roundw
          case rel => exact ⟨j + 1, by go_num, by omega, take_grow HT.out HX.out HY.out, _, rfl⟩
          case measure => simp [intOf]; omega
        · have hb : (x == y) = false := by rw [beq_eq_false_iff_ne]; exact hxy
          have hb2 : (x != y) = true := by simp [bne, hb]
          have HF := Lib.hid (show decide (zs = zs') = false by rw [decide_eq_false_iff_not]; rintro rfl; have h3 := HX.out; rw [HY.out] at h3; exact hxy (Option.some.inj h3).symm)
          clear hxy
          go_wp2_with fail
          go_quiet (fail)
          go_wp2_with fail
          go_ret
          exact ⟨by rw [HF.out]; rfl, _, World.drewN_drewN _ _ _⟩
      · have HF := Lib.hid (show decide (zs = zs') = true by
          rw [decide_eq_true_eq]
          have h1 := HT.out
          rwa [List.take_of_length_le (by have := HL.out; omega), List.take_of_length_le (by have := HL'.out; omega)] at h1)
        go_wp2_with fail
        go_ret
        exact ⟨by rw [HF.out]; rfl, _, rfl⟩
  · have HF := Lib.hid (show decide (zs = zs') = false by rw [decide_eq_false_iff_not]; rintro rfl; omega)
    rw [HF.out]
    have hb : ((n : Int) == (n' : Int)) = false := by rw [beq_eq_false_iff_ne]; omega
    have hb2 : ((n : Int) != (n' : Int)) = true := by simp [bne, hb]
    clear hr hr' hl hl' hne HF
    go_enter Tryz.func70, Tryz.ntmps70
    go_wp2_with fail
    go_ret
    exact ⟨rfl, 0, rfl⟩

end Go.Proofs.YtdaimejlcfhfiaaGreatDoor
