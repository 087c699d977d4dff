/-
  The walk of 'take' of package net at tells: a row without what stands at a place, and that. Conditions: those that each theorem names.
-/
import Derived.Test.YtcbbjloojngoiaaNtOwn
import Derived.Test.YtcbbjloojngoiaaNtPut
import Derived.Test.YtcbbjloojngoiaaHand
namespace Go.Proofs.Ytcbbjloojngoiaa
open Go.RowKit Go.Shelf
attribute [local go_sem] Oper.semAt_some

/-- What comes of it. -/
def TakeT (l : List TE) (z : Int) (w : World) (e : Ending) (w' : World) : Prop :=
  ∃ A' c' x, e = .returned (.tuple #[.slice A' (l.eraseIdx (placeN z l.length)).length c', .agg #[.int .i64 x.call, .int .u8 x.kind, .int .u8 x.code, .int .i64 x.id, .slice x.A x.n x.c, .bool x.more], .bool (decide (0 < l.length))]) ∧ x = (l[placeN z l.length]?).getD ⟨0, 0, 0, 0, none, 0, 0, false, []⟩ ∧ w'.ownsRow w.heap.size 30 6 ((.slice A' (l.eraseIdx (placeN z l.length)).length c')) (l.eraseIdx (placeN z l.length)).length ((l.eraseIdx (placeN z l.length)).flatMap TE.vs) ∧ Below w.heap.size w w'

set_option maxRecDepth 100000 in
set_option maxHeartbeats 2000000 in
theorem takeT_none (A : Option Addr) (c : Nat) (z : Int) (w : World) :
    Calls Try.prog 37 #[.slice A 0 c, .int .i64 z] w (TakeT [] z w) := by
  refine (callsIn_wide (n := 6)).1 ?_
  refine callsIn_of_wp_marks Try.func37 rfl trivial ?_ rfl
  simp only [Try.ntmps37, List.size_toArray, List.length_cons, List.length_nil, Nat.reduceAdd, Nat.reduceSub, Array.replicate_succ, Array.replicate_zero, List.push_toArray, List.append_toArray, List.nil_append, List.cons_append]
  gi_wp2_with fail
  obtain ⟨W, hW⟩ : ∃ W, (((w.alloc (.cells #[.int .i64 z] 3)).alloc (.cells #[.slice none 0 0] 23)).alloc (.cells #[.int .i64 0, .int .u8 0, .int .u8 0, .int .i64 0, .slice none 0 0, .bool false] 30)).alloc (.cells #[.bool false] 4) = W := ⟨_, rfl⟩
  rw [hW]
  have hb : Below w.heap.size w W := by rw [← hW]; exact ((((Below.refl _ w).alloc (Nat.le_refl _) _).alloc (by simp) _).alloc (by simp; omega) _).alloc (by simp; omega) _
  have hs : W.heap.size = w.heap.size + 1 + 1 + 1 + 1 := by rw [← hW]; simp
  have hz : Whole W w.heap.size 3 #[.int .i64 z] := by rw [← hW]; exact (((Whole.new w _ _).alloc _).alloc _).alloc _
  have hT : Whole W (w.heap.size + 1) 23 #[.slice none 0 0] ∧ Whole W (w.heap.size + 1 + 1) 30 #[.int .i64 0, .int .u8 0, .int .u8 0, .int .i64 0, .slice none 0 0, .bool false] ∧ Whole W (w.heap.size + 1 + 1 + 1) 4 #[.bool false] := by
    rw [← hW]
    refine ⟨?_, ?_, ?_⟩
    · have := ((Whole.new (w.alloc (.cells #[.int .i64 z] 3)) 23 #[.slice none 0 0]).alloc (.cells #[.int .i64 0, .int .u8 0, .int .u8 0, .int .i64 0, .slice none 0 0, .bool false] 30)).alloc (.cells #[.bool false] 4)
      simpa using this
    · have := (Whole.new ((w.alloc (.cells #[.int .i64 z] 3)).alloc (.cells #[.slice none 0 0] 23)) 30 #[.int .i64 0, .int .u8 0, .int .u8 0, .int .i64 0, .slice none 0 0, .bool false]).alloc (.cells #[.bool false] 4)
      simpa using this
    · have := Whole.new (((w.alloc (.cells #[.int .i64 z] 3)).alloc (.cells #[.slice none 0 0] 23)).alloc (.cells #[.int .i64 0, .int .u8 0, .int .u8 0, .int .i64 0, .slice none 0 0, .bool false] 30)) 4 #[.bool false]
      simpa using this
  have HB := Lib.hid hb
  have HT := Lib.hid hT
  clear hb hT hW hs hz
  refine wpIn_wide.2 (wp_scope_fwd 0 (fun a' w' => w' = W ∧ ∃ u7 u8 u9 u10 u11 u12 u13 u14 u15 u16 u17 u18 u19 u20 u21 u22 u23 u24 u25 u26 u27, a' = { tmps := #[.slice A 0 c, .int .i64 z, undef, .pointer (some ⟨w.heap.size, 0, none⟩), .pointer (some ⟨w.heap.size + 1, 0, none⟩), .pointer (some ⟨w.heap.size + 1 + 1, 0, none⟩), .pointer (some ⟨w.heap.size + 1 + 1 + 1, 0, none⟩), u7, u8, u9, u10, u11, u12, u13, u14, u15, u16, u17, u18, u19, u20, u21, u22, u23, u24, u25, u26, u27, undef, undef, undef], defers := [] }) rfl (wpIn_wide (n := 6).1 ?first) (fun a' w' hJ => wpIn_wide (n := 6).1 ?tail))
  case first =>
    gi_wp2_with fail
    refine wpIn_goto ?_
    exact ⟨rfl, rfl, _, _, _, _, _, _, _, _, _, _, _, _, _, _, _, _, _, _, _, _, _, rfl⟩
  case tail =>
    obtain ⟨rfl, u7, u8, u9, u10, u11, u12, u13, u14, u15, u16, u17, u18, u19, u20, u21, u22, u23, u24, u25, u26, u27, rfl⟩ := hJ
    gi_wp2_with fail
    have HT0 : Hid ((fun V' => Whole V' (w.heap.size + 1) 23 #[.slice none 0 0] ∧ Whole V' (w.heap.size + 1 + 1) 30 #[.int .i64 0, .int .u8 0, .int .u8 0, .int .i64 0, .slice none 0 0, .bool false] ∧ Whole V' (w.heap.size + 1 + 1 + 1) 4 #[.bool false]) w'.drew) := Lib.hid HT.out
    have HL : Hid (∀ V', (fun V' => Whole V' (w.heap.size + 1) 23 #[.slice none 0 0] ∧ Whole V' (w.heap.size + 1 + 1) 30 #[.int .i64 0, .int .u8 0, .int .u8 0, .int .i64 0, .slice none 0 0, .bool false] ∧ Whole V' (w.heap.size + 1 + 1 + 1) 4 #[.bool false]) V' → V'.cell? ⟨w.heap.size + 1, 0, none⟩ = some (.slice none 0 0) ∧ (V'.cell? ⟨w.heap.size + 1 + 1, 0, none⟩ = some (.int .i64 0) ∧ V'.cell? ⟨w.heap.size + 1 + 1, 1, none⟩ = some (.int .u8 0) ∧ V'.cell? ⟨w.heap.size + 1 + 1, 2, none⟩ = some (.int .u8 0) ∧ V'.cell? ⟨w.heap.size + 1 + 1, 3, none⟩ = some (.int .i64 0) ∧ V'.cell? ⟨w.heap.size + 1 + 1, 4, none⟩ = some (.slice none 0 0) ∧ V'.cell? ⟨w.heap.size + 1 + 1, 5, none⟩ = some (.bool false)) ∧ V'.cell? ⟨w.heap.size + 1 + 1 + 1, 0, none⟩ = some (.bool false)) := Lib.hid (fun V' h => ⟨h.1.cell 0, cellsW6 h.2.1, h.2.2.cell 0⟩)
    obtain ⟨y0, ⟨z0, z1, z2, z3, z4, z5⟩, b0⟩ := HL.out _ HT.out
    have v0 := HT.out.1.frozen 0
    have u0_ := HT.out.2.1.frozen 0
    have u1_ := HT.out.2.1.frozen 1
    have u2_ := HT.out.2.1.frozen 2
    have u3_ := HT.out.2.1.frozen 3
    have u4_ := HT.out.2.1.frozen 4
    have u5_ := HT.out.2.1.frozen 5
    have a0 := HT.out.2.2.frozen 0
    refine wpIn_wide.2 (wp_mono (Q := fun e a9 w9 => e = .normal ∧ a9 = { tmps := #[.slice A 0 c, .int .i64 z, undef, .pointer (some ⟨w.heap.size, 0, none⟩), .pointer (some ⟨w.heap.size + 1, 0, none⟩), .pointer (some ⟨w.heap.size + 1 + 1, 0, none⟩), .pointer (some ⟨w.heap.size + 1 + 1 + 1, 0, none⟩), u7, u8, u9, u10, u11, u12, u13, u14, u15, u16, u17, u18, u19, u20, u21, u22, u23, u24, u25, u26, u27, .slice none 0 0, .agg #[.int .i64 0, .int .u8 0, .int .u8 0, .int .i64 0, .slice none 0 0, .bool false], .bool false], defers := [] } ∧ w9 = w'.drew) (wp_region_T (ls := []) (T := (fun V' => Whole V' (w.heap.size + 1) 23 #[.slice none 0 0] ∧ Whole V' (w.heap.size + 1 + 1) 30 #[.int .i64 0, .int .u8 0, .int .u8 0, .int .i64 0, .slice none 0 0, .bool false] ∧ Whole V' (w.heap.size + 1 + 1 + 1) 4 #[.bool false])) (by kernel_rfl) ?_) ?_)
    · refine takeT (i := 0) (v := ?_) rfl (by kernel_rfl) (by kernel_rfl) (by kernel_rfl) (by kernel_rfl) (fun _ _ _ h => (by cases h.1)) (by rfl) ?_ HT0.out ?_
      rotate_left
      · intro V' hV; obtain ⟨y0, ⟨z0, z1, z2, z3, z4, z5⟩, b0⟩ := HL.out V' hV; go_simp <;> with_reducible rfl
      simp only [Act.put, List.setIfInBounds_toArray, List.set_cons_zero, List.set_cons_succ]
      refine takeT (i := 1) (v := ?_) rfl (by kernel_rfl) (by kernel_rfl) (by kernel_rfl) (by kernel_rfl) (fun _ _ _ h => (by cases h.1)) (by rfl) ?_ HT0.out ?_
      rotate_left
      · intro V' hV; obtain ⟨y0, ⟨z0, z1, z2, z3, z4, z5⟩, b0⟩ := HL.out V' hV; go_simp <;> with_reducible rfl
      simp only [Act.put, List.setIfInBounds_toArray, List.set_cons_zero, List.set_cons_succ]
      refine takeT (i := 2) (v := ?_) rfl (by kernel_rfl) (by kernel_rfl) (by kernel_rfl) (by kernel_rfl) (fun _ _ _ h => (by cases h.1)) (by rfl) ?_ HT0.out ?_
      rotate_left
      · intro V' hV; obtain ⟨y0, ⟨z0, z1, z2, z3, z4, z5⟩, b0⟩ := HL.out V' hV; go_simp <;> with_reducible rfl
      simp only [Act.put, List.setIfInBounds_toArray, List.set_cons_zero, List.set_cons_succ]
      refine oneT (i := 3) rfl (by kernel_rfl) (by rfl) (fun K hK => ?_)
      go_simp
      rw [same1 HT.out.1]
      refine hK.out _ _ (fun _ => HT0.out) ?_
      clear hK K
      refine oneT (i := 4) rfl (by kernel_rfl) (by rfl) (fun K hK => ?_)
      go_simp
      rw [same6 HT.out.2.1]
      refine hK.out _ _ (fun _ => HT0.out) ?_
      clear hK K
      refine oneT (i := 5) rfl (by kernel_rfl) (by rfl) (fun K hK => ?_)
      go_simp
      rw [same1 HT.out.2.2]
      refine hK.out _ _ (fun _ => HT0.out) ?_
      clear hK K
      refine doneT (by kernel_rfl) ?_ _
      exact ⟨rfl, rfl, rfl⟩
    clear HL HT0 y0 z0 z1 z2 z3 z4 z5 b0 v0 u0_ u1_ u2_ u3_ u4_ u5_ a0
    rintro e a' V9 ⟨rfl, rfl, rfl⟩
    gi_wp2_with fail
    simp only [Exit.jump]
    obtain ⟨y0, ⟨z0, z1, z2, z3, z4, z5⟩, b0⟩ : w'.cell? ⟨w.heap.size + 1, 0, none⟩ = some (.slice none 0 0) ∧ (w'.cell? ⟨w.heap.size + 1 + 1, 0, none⟩ = some (.int .i64 0) ∧ w'.cell? ⟨w.heap.size + 1 + 1, 1, none⟩ = some (.int .u8 0) ∧ w'.cell? ⟨w.heap.size + 1 + 1, 2, none⟩ = some (.int .u8 0) ∧ w'.cell? ⟨w.heap.size + 1 + 1, 3, none⟩ = some (.int .i64 0) ∧ w'.cell? ⟨w.heap.size + 1 + 1, 4, none⟩ = some (.slice none 0 0) ∧ w'.cell? ⟨w.heap.size + 1 + 1, 5, none⟩ = some (.bool false)) ∧ w'.cell? ⟨w.heap.size + 1 + 1 + 1, 0, none⟩ = some (.bool false) := ⟨HT.out.1.cell 0, cellsW6 HT.out.2.1, HT.out.2.2.cell 0⟩
    refine ⟨.tuple #[.slice none 0 0, .agg #[.int .i64 0, .int .u8 0, .int .u8 0, .int .i64 0, .slice none 0 0, .bool false], .bool false], by simp [results, Try.results37, go_sem, y0, z0, z1, z2, z3, z4, z5, b0], none, 0, ⟨0, 0, 0, 0, none, 0, 0, false, []⟩, by simp, by simp, World.ownsRow_nil _ _ _ _, HB.out.drew⟩

theorem takeT_step {l : List TE} {j k : Nat} {q : TE} (h : l[j]? = some q) : (l.take (j + 1)).eraseIdx k = (if j = k then (l.take j).eraseIdx k else (l.take j).eraseIdx k ++ [q]) := by
  have hj := List.getElem?_eq_some_iff.1 h
  have hl : (l.take j).length = j := by rw [List.length_take]; have := hj.1; omega
  rw [List.take_succ_eq_append_getElem hj.1, hj.2]
  split
  · rename_i e
    subst e
    have e1 : [q].eraseIdx 0 = [] := rfl
    rw [List.eraseIdx_append_of_length_le (by omega), hl, Nat.sub_self, e1, List.append_nil, List.eraseIdx_of_length_le (by omega)]
  · rename_i e
    rcases Nat.lt_or_gt_of_ne e with e | e
    · rw [List.eraseIdx_of_length_le (by simp; omega), List.eraseIdx_of_length_le (by omega)]
    · rw [List.eraseIdx_append_of_lt_length (by omega)]

/-- Where the loop stands. -/
structure TkT (w : World) (l : List TE) (k : Nat) (pre : List (Nat × TE)) (W : World) : Prop where
  row : ∃ v, Whole W (w.heap.size + 1) 23 #[v] ∧ W.ownsRow (w.heap.size + 1 + 1 + 1 + 1 + 1) 30 6 (v) ((l.take pre.length).eraseIdx k).length (((l.take pre.length).eraseIdx k).flatMap TE.vs)
  x : ∃ q : TE, Whole W (w.heap.size + 1 + 1) 30 #[.int .i64 q.call, .int .u8 q.kind, .int .u8 q.code, .int .i64 q.id, .slice q.A q.n q.c, .bool q.more] ∧ (k < pre.length → l[k]? = some q)
  ok : Whole W (w.heap.size + 1 + 1 + 1) 4 #[.bool (decide (k < pre.length))]
  pl : Whole W w.heap.size 3 #[.int .i64 (k : Int)]
  below : Below w.heap.size w W
  sz : w.heap.size + 1 + 1 + 1 + 1 + 1 ≤ W.heap.size
theorem tkT_own (w : World) (l : List TE) (k : Nat) (B : Nat) (hB : w.heap.size ≤ B) : OwnFrom B (TkT w l k) := by
  intro pre W1 W2 row h hg hr
  have hr' : ∀ r, row = some r → ∃ o : Obj, W1.heap[r]? = some o ∧ o.isCells = false := fun r e => (hr r e).2
  obtain ⟨v, h1, h2⟩ := h.row
  obtain ⟨q, h3, h4⟩ := h.x
  exact ⟨⟨v, h1.turn hg hr', own_turn h2 hg hr'⟩, ⟨q, h3.turn hg hr', h4⟩, h.ok.turn hg hr', h.pl.turn hg hr', h.below.grown hg h.below.size (fun k e => by have := (hr k e).1; omega), Nat.le_trans h.sz hg.size⟩
theorem TkT.under {w : World} {l : List TE} {k : Nat} {pre : List (Nat × TE)} {W W' : World} (h : TkT w l k pre W) (hb : Below W.heap.size W W') : TkT w l k pre W' := by
  obtain ⟨v, h1, h2⟩ := h.row
  obtain ⟨q, h3, h4⟩ := h.x
  exact ⟨⟨v, h1.under hb, own_under h2 hb⟩, ⟨q, h3.under hb, h4⟩, h.ok.under hb, h.pl.under hb, h.below.trans (hb.mono h.below.size), Nat.le_trans h.sz hb.size⟩

set_option maxRecDepth 100000 in
set_option maxHeartbeats 2000000 in
theorem takeT_some (A : Option Addr) (n c : Nat) (l : List TE) (z : Int) (w : World) (hr : RdF 6 TE.vs w w.heap.size A n l) (h0 : 0 < n) (hn : n ≤ 100) :
    Calls Try.prog 37 #[.slice A n c, .int .i64 z] w (TakeT l z w) := by
  have hlen : l.length = n := hr.1
  obtain ⟨k, hk⟩ : ∃ k, placeN z n = k := ⟨_, rfl⟩
  have hkn : k < n := by rw [← hk]; exact placeN_lt h0 z
  have HKP := Lib.hid hk
  have HR := Lib.hid hr
  clear hr
  refine (callsIn_wide (n := 6)).1 ?_
  refine callsIn_of_wp_marks Try.func37 rfl trivial ?_ rfl
  simp only [Try.ntmps37, List.size_toArray, List.length_cons, List.length_nil, Nat.reduceAdd, Nat.reduceSub, Array.replicate_succ, Array.replicate_zero, List.push_toArray, List.append_toArray, List.nil_append, List.cons_append]
  gi_wp2_with fail
  obtain ⟨W, hW⟩ : ∃ W, (((w.alloc (.cells #[.int .i64 z] 3)).alloc (.cells #[.slice none 0 0] 23)).alloc (.cells #[.int .i64 0, .int .u8 0, .int .u8 0, .int .i64 0, .slice none 0 0, .bool false] 30)).alloc (.cells #[.bool false] 4) = W := ⟨_, rfl⟩
  rw [hW]
  have hb : Below w.heap.size w W := by rw [← hW]; exact ((((Below.refl _ w).alloc (Nat.le_refl _) _).alloc (by simp) _).alloc (by simp; omega) _).alloc (by simp; omega) _
  have hs : W.heap.size = w.heap.size + 1 + 1 + 1 + 1 := by rw [← hW]; simp
  have hz : Whole W w.heap.size 3 #[.int .i64 z] := by rw [← hW]; exact (((Whole.new w _ _).alloc _).alloc _).alloc _
  have hT : Whole W (w.heap.size + 1) 23 #[.slice none 0 0] ∧ Whole W (w.heap.size + 1 + 1) 30 #[.int .i64 0, .int .u8 0, .int .u8 0, .int .i64 0, .slice none 0 0, .bool false] ∧ Whole W (w.heap.size + 1 + 1 + 1) 4 #[.bool false] := by
    rw [← hW]
    refine ⟨?_, ?_, ?_⟩
    · have := ((Whole.new (w.alloc (.cells #[.int .i64 z] 3)) 23 #[.slice none 0 0]).alloc (.cells #[.int .i64 0, .int .u8 0, .int .u8 0, .int .i64 0, .slice none 0 0, .bool false] 30)).alloc (.cells #[.bool false] 4)
      simpa using this
    · have := (Whole.new ((w.alloc (.cells #[.int .i64 z] 3)).alloc (.cells #[.slice none 0 0] 23)) 30 #[.int .i64 0, .int .u8 0, .int .u8 0, .int .i64 0, .slice none 0 0, .bool false]).alloc (.cells #[.bool false] 4)
      simpa using this
    · have := Whole.new (((w.alloc (.cells #[.int .i64 z] 3)).alloc (.cells #[.slice none 0 0] 23)).alloc (.cells #[.int .i64 0, .int .u8 0, .int .u8 0, .int .i64 0, .slice none 0 0, .bool false] 30)) 4 #[.bool false]
      simpa using this
  have HB := Lib.hid hb
  have HT := Lib.hid hT
  have HZ := Lib.hid hz
  have z0 := hz.cell 0
  have f0 := hz.frozen 0
  simp only [List.getElem?_toArray, List.getElem?_cons_zero] at z0
  have e0 : ((n : Int) == 0) = false := by simp; omega
  clear hb hT hW hz
  refine wpIn_wide.2 (wp_scope_fwd 0 (fun a' w' => False) rfl (wpIn_wide (n := 6).1 ?first) (fun a' w' hJ => hJ.elim))
  case first =>
  gi_wp2_with (first | (refine ⟨trivial, ?_⟩; gi_at_call 31; refine (callsIn_wide.2 (eachT_any _ _ _ _)).mono ?_; rintro e w2 ⟨rfl, rfl⟩) | (refine ⟨trivial, ?_⟩; gi_at_call 43; refine (callsIn_wide.2 (place_any z n h0 (by omega) _)).mono ?_; rintro e w2 ⟨rfl, h2⟩; have h2 := h2.symm; subst h2; rw [HKP.out]))
  obtain ⟨W0, hW0⟩ : ∃ W0, (W.setCell ⟨w.heap.size, 0, none⟩ (.int .i64 (k : Int))).alloc (.cells #[.slice A n c] 23) = W0 := ⟨_, rfl⟩
  rw [hW0]
  have ko := Only.set W w.heap.size 0 (.int .i64 (k : Int))
  have bA := (Below.refl W.heap.size (W.setCell ⟨w.heap.size, 0, none⟩ (.int .i64 (k : Int)))).alloc (by rw [ko.size]; exact Nat.le_refl _) (.cells #[.slice A n c] 23)
  rw [hW0] at bA
  have bA' : Below (W.setCell ⟨w.heap.size, 0, none⟩ (.int .i64 (k : Int))).heap.size (W.setCell ⟨w.heap.size, 0, none⟩ (.int .i64 (k : Int))) W0 := by rw [ko.size]; exact bA
  have hs0 : W0.heap.size = w.heap.size + 1 + 1 + 1 + 1 + 1 := by rw [← hW0, World.size_alloc, ko.size, hs]
  have hb0 : Below w.heap.size w W0 := (ko.bel HB.out (Nat.le_refl _)).trans (bA.mono (by omega))
  have hinv : TkT w l k [] W0 := by
    obtain ⟨t1, t2, t3⟩ := HT.out
    refine ⟨⟨.slice none 0 0, (ko.far t1 (by omega)).under bA', ?_⟩, ⟨⟨0, 0, 0, 0, none, 0, 0, false, []⟩, (ko.far t2 (by omega)).under bA', by simp⟩, by simpa using (ko.far t3 (by omega)).under bA', ?_, hb0, by omega⟩
    · simpa using World.ownsRow_nil _ _ _ _
    · have := HZ.out.set 0 (.int .i64 (k : Int))
      simp only [List.setIfInBounds_toArray, List.set_cons_zero] at this
      exact this.under bA'
  have hbn : W0.cell? ⟨w.heap.size + 1 + 1 + 1 + 1, 0, none⟩ = some (.slice A n c) := by
    rw [← hW0]
    have := (Whole.new (W.setCell ⟨w.heap.size, 0, none⟩ (.int .i64 (k : Int))) 23 #[.slice A n c]).cell 0
    rw [ko.size, hs] at this
    simpa using this
  clear hW0 z0 f0 bA bA' ko
  refine wpIn_range_mem (by omega) (gf := 41) (lb := #[.pointer (some ⟨w.heap.size + 1 + 1 + 1 + 1, 0, none⟩)]) rfl (enters_of Try.func41 (by kernel_rfl) rfl) (encs := encT)
    (eachT_mem 5 (w.heap.size + 1 + 1 + 1 + 1) w.heap.size A n c l (by omega) W0 (by omega) (by omega) hbn (HR.out.below hb0))
    (fun h k => kpB_t h k) (kpB_b (by omega) (by omega)) (Below.refl _ _) (fun _ => rfl)
    (TkT w l k) (fun _ _ => False)
    (tkT_own _ _ _ _ (by omega)) (fun _ _ _ _ h _ _ => h.elim) hinv
    (fun pre x a' W => (x.1 = pre.length ∧ l[pre.length]? = some x.2) ∧ ∃ g, a' = { tmps := #[.slice A n c, .int .i64 z, undef, .pointer (some ⟨w.heap.size, 0, none⟩), .pointer (some ⟨w.heap.size + 1, 0, none⟩), .pointer (some ⟨w.heap.size + 1 + 1, 0, none⟩), .pointer (some ⟨w.heap.size + 1 + 1 + 1, 0, none⟩), .int .i64 (x.1 : Int), .pointer (some ⟨g, 0, none⟩), .slice A n c, .int .i64 (n : Int), .bool false, .int .i64 z, .slice A n c, .int .i64 (n : Int), .int .i64 (k : Int), .slice A n c, .func (.func 41) #[] #[.pointer (some ⟨w.heap.size + 1 + 1 + 1 + 1, 0, none⟩)], .int .i64 (x.1 : Int), .agg #[.int .i64 x.2.call, .int .u8 x.2.kind, .int .u8 x.2.code, .int .i64 x.2.id, .slice x.2.A x.2.n x.2.c, .bool x.2.more], undef, undef, undef, undef, undef, undef, undef, undef, undef, undef, undef], defers := [] } ∧ w.heap.size + 1 + 1 + 1 + 1 + 1 ≤ g ∧ Whole W g 30 #[.int .i64 x.2.call, .int .u8 x.2.kind, .int .u8 x.2.code, .int .i64 x.2.id, .slice x.2.A x.2.n x.2.c, .bool x.2.more])
    (fun a' p X Y row hs hg hr => ⟨hs.1, by obtain ⟨g, e, hb2, hb⟩ := hs.2; exact ⟨g, e, hb2, Whole.turn hb hg (fun r e => (hr r e).2)⟩⟩) ?assign ?body ?done ?stop
  case assign =>
    rintro lp pre x V K hI hOk hK
    have HOk : Hid (x.1 = pre.length ∧ l[pre.length]? = some x.2) := Lib.hid ⟨hOk.1, by have := hOk.2; rw [hOk.1] at this; exact this⟩
    have HI := Lib.hid hI
    clear hOk hI
    unfold encT
    gi_wp2
    have hbu : Below V.heap.size V (V.alloc (.cells #[.int .i64 x.2.call, .int .u8 x.2.kind, .int .u8 x.2.code, .int .i64 x.2.id, .slice x.2.A x.2.n x.2.c, .bool x.2.more] 30)) := (Below.refl _ _).alloc (Nat.le_refl _) _
    exact hK _ _ (keepsFrom_alloc _ _ _) (kpB_under hbu HI.out.below.size (by have := HI.out.sz; omega)) (HI.out.under hbu) ⟨HOk.out, _, rfl, HI.out.sz, Whole.new _ _ _⟩
  case body =>
    rintro lp pre ⟨i, y⟩ a' V hlp hI ⟨⟨hi, hx⟩, g, rfl, hg, hsn⟩
    simp only at hi hx hsn
    subst hi
    obtain ⟨v1, hr1, ho1⟩ := hI.row
    obtain ⟨q1, hq1, hq2⟩ := hI.x
    obtain ⟨s0, s1, s2, s3, s4, s5⟩ := cellsW6 hsn
    have p0 := hI.pl.cell 0
    simp only [List.getElem?_toArray, List.getElem?_cons_zero] at p0
    have hst := takeT_step (k := k) hx
    by_cases hjk : pre.length = k
    · rw [if_pos hjk] at hst
      have ejk : ((pre.length : Int) == (k : Int)) = true := by simp; omega
      obtain ⟨x0, x1, x2, x3, x4, x5⟩ := cellsW6 hq1
      have g0 := hq1.frozen 0
      have g1 := hq1.frozen 1
      have g2 := hq1.frozen 2
      have g3 := hq1.frozen 3
      have g4 := hq1.frozen 4
      have g5 := hq1.frozen 5
      have b0 := hI.ok.cell 0
      have b1 := hI.ok.frozen 0
      simp only [List.getElem?_toArray, List.getElem?_cons_zero] at b0
      have HI := Lib.hid hI
      have HX := Lib.hid hx
      have HST := Lib.hid hst
      have HJK := Lib.hid hjk
      have HQ1 := Lib.hid hq1
      have HR1 := Lib.hid hr1
      have HO1 := Lib.hid ho1
      clear hI hx hst hjk hq1 hq2 hr1 ho1 hsn hinv hbn
      gi_wp2_with fail
      obtain ⟨e1, ko1⟩ := put6 HQ1.out (.int .i64 y.call) (.int .u8 y.kind) (.int .u8 y.code) (.int .i64 y.id) (.slice y.A y.n y.c) (.bool y.more)
      have hok1 := (ko1.far HI.out.ok (by omega)).set 0 (.bool true)
      simp only [List.setIfInBounds_toArray, List.set_cons_zero] at hok1
      have ko2 := fun V' => Only.set V' (w.heap.size + 1 + 1 + 1) 0 (.bool true)
      have hsz := HI.out.sz
      have hlen2 : (pre ++ [(pre.length, y)]).length = pre.length + 1 := by simp
      refine ⟨(ko1.keeps.trans (ko2 _).keeps).from _, kpB_t (kpB_only ko1 (by omega) (by omega) (by omega)) (kpB_only (ko2 _) (by omega) (by omega) (by rw [ko1.size]; omega)), ⟨v1, (ko2 _).far (ko1.far HR1.out (by omega)) (by omega), ?_⟩, ⟨y, (ko2 _).far e1 (by omega), fun _ => ?_⟩, ?_, (ko2 _).far (ko1.far HI.out.pl (by omega)) (by omega), (ko2 _).bel (ko1.bel HI.out.below (by omega)) (by omega), by rw [(ko2 _).size, ko1.size]; exact hsz⟩
      · rw [hlen2, HST.out]; exact (ko2 _).ownB (ko1.ownB HO1.out (by omega)) (by omega)
      · rw [← HJK.out]; exact HX.out
      · rw [hlen2, show decide (k < pre.length + 1) = true by have := HJK.out; simp; omega]; exact hok1
    · rw [if_neg hjk] at hst
      have ejk : ((pre.length : Int) == (k : Int)) = false := by simp; omega
      have hk2 : ((l.take pre.length).eraseIdx k).length ≤ 1000 := by
        have h1 := List.length_eraseIdx_le (l.take pre.length) k
        rw [List.length_take] at h1
        omega
      obtain ⟨A1, c1, rfl⟩ := own_formF ho1
      obtain ⟨A2, c2, W2, hrun, ho2, hb2, hkf, hwh, _⟩ := rowT_put V (w.heap.size + 1 + 1 + 1 + 1 + 1) _ _ ho1 y hk2 hI.sz V.heap.size rfl
      obtain ⟨m, hm⟩ : ∃ m, ((l.take pre.length).eraseIdx k).length = m := ⟨_, rfl⟩
      rw [hm] at hr1 hrun ho2
      have r0 := hr1.cell 0
      have hr2 := hwh _ _ _ hr1 (by decide)
      have q0 := hr2.cell 0
      have f0 := hr2.frozen 0
      simp only [List.getElem?_toArray, List.getElem?_cons_zero] at r0 q0
      have HI := Lib.hid hI
      have HX := Lib.hid hx
      have HST := Lib.hid hst
      have HJK := Lib.hid hjk
      have HQ1 := Lib.hid (hq1.below hb2 (by omega))
      have HQ2 := Lib.hid hq2
      have HM := Lib.hid hm
      have HRun := Lib.hid hrun
      have HO2 := Lib.hid ho2
      have HB2 := Lib.hid hb2
      have HKF := Lib.hid hkf
      have HR2 := Lib.hid hr2
      clear hI hx hst hjk hq1 hq2 hr1 ho1 hsn hinv hbn hm hrun ho2 hb2 hkf hwh hr2 hk2
      gi_wp2_with (refine wpListIn_app (by rfl) _ _ 23 rfl _ _ _ W2 (by rfl) (by rfl) HRun.out ?_)
      have hw3 := HR2.out.set 0 (.slice A2 (m + 1) c2)
      simp only [List.setIfInBounds_toArray, List.set_cons_zero] at hw3
      have ko := Only.set W2 (w.heap.size + 1) 0 (.slice A2 (m + 1) c2)
      have hsz := HI.out.sz
      have hlen2 : (pre ++ [(pre.length, y)]).length = pre.length + 1 := by simp
      have h2s := HB2.out.size
      refine ⟨(HKF.out.trans ko.keeps).from _, kpB_t ⟨HB2.out.mono (by omega), HB2.out.block _ (by omega)⟩ (kpB_only ko (by omega) (by omega) (by omega)), ⟨_, hw3, ?_⟩, ⟨q1, ko.far HQ1.out (by omega), fun h => HQ2.out (by have := HJK.out; omega)⟩, ?_, ko.far (HI.out.pl.below HB2.out (by omega)) (by omega), ko.bel (HI.out.below.trans (HB2.out.mono (by omega))) (by omega), by rw [ko.size]; omega⟩
      · rw [hlen2, HST.out, List.length_append, HM.out]; exact ko.ownB HO2.out (by omega)
      · rw [hlen2, show decide (k < pre.length + 1) = decide (k < pre.length) by have := HJK.out; simp; omega]; exact ko.far (HI.out.ok.below HB2.out (by omega)) (by omega)
  case done =>
    rintro D ys V hD hys hI hK
    obtain ⟨v1, hr1, ho1⟩ := hI.row
    obtain ⟨q, hq1, hq2⟩ := hI.x
    have hok := hI.ok
    rw [hys] at hq2 hok
    rw [decide_eq_true hkn] at hok
    rw [show l.take ys.length = l by rw [List.take_of_length_le]; rw [hys, hlen]; exact Nat.le_refl _] at ho1
    obtain ⟨A1, c1, rfl⟩ := own_formF ho1
    have hlq := hq2 hkn
    obtain ⟨m, hm⟩ : ∃ m, (l.eraseIdx k).length = m := ⟨_, rfl⟩
    rw [hm] at hr1 ho1
    have HT9 : Hid (Whole V (w.heap.size + 1) 23 #[.slice A1 m c1] ∧ Whole V (w.heap.size + 1 + 1) 30 #[.int .i64 q.call, .int .u8 q.kind, .int .u8 q.code, .int .i64 q.id, .slice q.A q.n q.c, .bool q.more] ∧ Whole V (w.heap.size + 1 + 1 + 1) 4 #[.bool true]) := Lib.hid ⟨hr1, hq1, hok⟩
    have HI := Lib.hid hI
    have HK := Lib.hid hK
    have HO := Lib.hid ho1
    have HQ := Lib.hid hlq
    have HM := Lib.hid hm
    clear HT HZ HB hI hr1 hq1 hok ho1 hlq hq2 hm hK hys hinv hbn
    have HT := HT9
    clear HT9
    gi_wp2_with fail
    refine wpIn_label ?_
    gi_wp2_with fail
    have HT0 : Hid ((fun V' => Whole V' (w.heap.size + 1) 23 #[.slice A1 m c1] ∧ Whole V' (w.heap.size + 1 + 1) 30 #[.int .i64 q.call, .int .u8 q.kind, .int .u8 q.code, .int .i64 q.id, .slice q.A q.n q.c, .bool q.more] ∧ Whole V' (w.heap.size + 1 + 1 + 1) 4 #[.bool true]) V.drew) := Lib.hid HT.out
    have HL : Hid (∀ V', (fun V' => Whole V' (w.heap.size + 1) 23 #[.slice A1 m c1] ∧ Whole V' (w.heap.size + 1 + 1) 30 #[.int .i64 q.call, .int .u8 q.kind, .int .u8 q.code, .int .i64 q.id, .slice q.A q.n q.c, .bool q.more] ∧ Whole V' (w.heap.size + 1 + 1 + 1) 4 #[.bool true]) V' → V'.cell? ⟨w.heap.size + 1, 0, none⟩ = some (.slice A1 m c1) ∧ (V'.cell? ⟨w.heap.size + 1 + 1, 0, none⟩ = some (.int .i64 q.call) ∧ V'.cell? ⟨w.heap.size + 1 + 1, 1, none⟩ = some (.int .u8 q.kind) ∧ V'.cell? ⟨w.heap.size + 1 + 1, 2, none⟩ = some (.int .u8 q.code) ∧ V'.cell? ⟨w.heap.size + 1 + 1, 3, none⟩ = some (.int .i64 q.id) ∧ V'.cell? ⟨w.heap.size + 1 + 1, 4, none⟩ = some (.slice q.A q.n q.c) ∧ V'.cell? ⟨w.heap.size + 1 + 1, 5, none⟩ = some (.bool q.more)) ∧ V'.cell? ⟨w.heap.size + 1 + 1 + 1, 0, none⟩ = some (.bool true)) := Lib.hid (fun V' h => ⟨h.1.cell 0, cellsW6 h.2.1, h.2.2.cell 0⟩)
    obtain ⟨y0, ⟨z0, z1, z2, z3, z4, z5⟩, b0⟩ := HL.out _ HT.out
    have v0 := HT.out.1.frozen 0
    have u0_ := HT.out.2.1.frozen 0
    have u1_ := HT.out.2.1.frozen 1
    have u2_ := HT.out.2.1.frozen 2
    have u3_ := HT.out.2.1.frozen 3
    have u4_ := HT.out.2.1.frozen 4
    have u5_ := HT.out.2.1.frozen 5
    have a0 := HT.out.2.2.frozen 0
    refine wpIn_wide.2 (wp_mono (Q := fun e a9 w9 => e = .normal ∧ a9 = { tmps := #[.slice A n c, .int .i64 z, undef, .pointer (some ⟨w.heap.size, 0, none⟩), .pointer (some ⟨w.heap.size + 1, 0, none⟩), .pointer (some ⟨w.heap.size + 1 + 1, 0, none⟩), .pointer (some ⟨w.heap.size + 1 + 1 + 1, 0, none⟩), undef, undef, .slice A n c, .int .i64 (n : Int), .bool false, .int .i64 z, .slice A n c, .int .i64 (n : Int), .int .i64 (k : Int), .slice A n c, .func (.func 41) #[] #[.pointer (some ⟨w.heap.size + 1 + 1 + 1 + 1, 0, none⟩)], undef, undef, undef, undef, undef, undef, undef, undef, undef, undef, .slice A1 m c1, .agg #[.int .i64 q.call, .int .u8 q.kind, .int .u8 q.code, .int .i64 q.id, .slice q.A q.n q.c, .bool q.more], .bool true], defers := [{ target := .collected D, args := #[] }] } ∧ w9 = V.drew) (wp_region_T (ls := []) (T := (fun V' => Whole V' (w.heap.size + 1) 23 #[.slice A1 m c1] ∧ Whole V' (w.heap.size + 1 + 1) 30 #[.int .i64 q.call, .int .u8 q.kind, .int .u8 q.code, .int .i64 q.id, .slice q.A q.n q.c, .bool q.more] ∧ Whole V' (w.heap.size + 1 + 1 + 1) 4 #[.bool true])) (by kernel_rfl) ?_) ?_)
    · refine takeT (i := 0) (v := ?_) rfl (by kernel_rfl) (by kernel_rfl) (by kernel_rfl) (by kernel_rfl) (fun _ _ _ h => (by cases h.1)) (by rfl) ?_ HT0.out ?_
      rotate_left
      · intro V' hV; obtain ⟨y0, ⟨z0, z1, z2, z3, z4, z5⟩, b0⟩ := HL.out V' hV; go_simp <;> with_reducible rfl
      simp only [Act.put, List.setIfInBounds_toArray, List.set_cons_zero, List.set_cons_succ]
      refine takeT (i := 1) (v := ?_) rfl (by kernel_rfl) (by kernel_rfl) (by kernel_rfl) (by kernel_rfl) (fun _ _ _ h => (by cases h.1)) (by rfl) ?_ HT0.out ?_
      rotate_left
      · intro V' hV; obtain ⟨y0, ⟨z0, z1, z2, z3, z4, z5⟩, b0⟩ := HL.out V' hV; go_simp <;> with_reducible rfl
      simp only [Act.put, List.setIfInBounds_toArray, List.set_cons_zero, List.set_cons_succ]
      refine takeT (i := 2) (v := ?_) rfl (by kernel_rfl) (by kernel_rfl) (by kernel_rfl) (by kernel_rfl) (fun _ _ _ h => (by cases h.1)) (by rfl) ?_ HT0.out ?_
      rotate_left
      · intro V' hV; obtain ⟨y0, ⟨z0, z1, z2, z3, z4, z5⟩, b0⟩ := HL.out V' hV; go_simp <;> with_reducible rfl
      simp only [Act.put, List.setIfInBounds_toArray, List.set_cons_zero, List.set_cons_succ]
      refine oneT (i := 3) rfl (by kernel_rfl) (by rfl) (fun K hK => ?_)
      go_simp
      rw [same1 HT.out.1]
      refine hK.out _ _ (fun _ => HT0.out) ?_
      clear hK K
      refine oneT (i := 4) rfl (by kernel_rfl) (by rfl) (fun K hK => ?_)
      go_simp
      rw [same6 HT.out.2.1]
      refine hK.out _ _ (fun _ => HT0.out) ?_
      clear hK K
      refine oneT (i := 5) rfl (by kernel_rfl) (by rfl) (fun K hK => ?_)
      go_simp
      rw [same1 HT.out.2.2]
      refine hK.out _ _ (fun _ => HT0.out) ?_
      clear hK K
      refine doneT (by kernel_rfl) ?_ _
      exact ⟨rfl, rfl, rfl⟩
    clear HL HT0 y0 z0 z1 z2 z3 z4 z5 b0 v0 u0_ u1_ u2_ u3_ u4_ u5_ a0
    rintro e a' V9 ⟨rfl, rfl, rfl⟩
    gi_wp2_with fail
    simp only [Exit.jump]
    have hK3 : V.drew.heap[D]? = some (.deferred (some [])) := HK.out
    have hg1 := grownBy_putObj' V.drew D (.deferred none)
    have hr1 : ∀ r, (some D) = some r → ∃ o : Obj, V.drew.heap[r]? = some o ∧ o.isCells = false := fun r e => by cases e; exact ⟨_, hK3, rfl⟩
    obtain ⟨t1, t2, t3⟩ := HT.out
    have y0 := (Whole.turn (W := V.drew) t1 hg1 hr1).cell 0
    obtain ⟨z0, z1, z2, z3, z4, z5⟩ := cellsW6 (Whole.turn (W := V.drew) t2 hg1 hr1)
    have b0 := (Whole.turn (W := V.drew) t3 hg1 hr1).cell 0
    simp only [List.getElem?_toArray, List.getElem?_cons_zero] at y0 b0
    refine ⟨by simp, .inl ⟨_, _, rfl, run_takeDeferred hK3, ?_⟩⟩
    refine ⟨.tuple #[.slice A1 m c1, .agg #[.int .i64 q.call, .int .u8 q.kind, .int .u8 q.code, .int .i64 q.id, .slice q.A q.n q.c, .bool q.more], .bool true], by simp [results, Try.results37, go_sem, y0, z0, z1, z2, z3, z4, z5, b0], A1, c1, q, ?_, ?_, ?_, ?_⟩
    · rw [hlen, HKP.out, HM.out, decide_eq_true h0]
    · rw [hlen, HKP.out, HQ.out]; rfl
    · rw [hlen, HKP.out, HM.out]; exact own_weaker (own_turn (own_under HO.out (Below.refl _ V).drew) hg1 hr1) (by omega)
    · exact HI.out.below.drew.trans ((Below.refl _ _).grown hg1 HI.out.below.size (fun k e => by cases e; omega))
  case stop =>
    rintro D c W hD h hK
    exact h.elim

end Go.Proofs.Ytcbbjloojngoiaa
