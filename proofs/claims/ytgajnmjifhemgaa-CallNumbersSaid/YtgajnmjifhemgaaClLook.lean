/-
  The walk of 'look' of package call: it comes to its end just if the calls may be. Conditions: those that each theorem names.
-/
import Derived.Test.YtgajnmjifhemgaaClEach
import Derived.Test.YtgajnmjifhemgaaClAsked
import Derived.Test.YtgajnmjifhemgaaRegT
namespace Go.Proofs.Ytgajnmjifhemgaa
open Go.RowKit Go.Shelf
attribute [local go_sem] Oper.semAt_some

set_option maxRecDepth 100000 in
set_option maxHeartbeats 2000000 in
theorem look_out (ep nx : Int) (A : Option Addr) (n k : Nat) (w : World) (h : headB ep nx = false) :
    Calls Try.prog 37 #[.agg #[.int .i64 ep, .int .i64 nx, .slice A n k]] w (EndsIf false w) := by
  have HB := Lib.hid ((Below.refl _ w).alloc (Nat.le_refl _) (.cells #[.int .i64 ep, .int .i64 nx, .slice A n k] 24))
  have HY := Lib.hid (fun W => must_yes W)
  have HN := Lib.hid (fun W => must_no W)
  unfold headB at h
  cases h1 : decide (0 ≤ ep) with
  | false =>
    clear h
    go_enter Try.func37, Try.ntmps37
    go_wp2_with fail
    refine (HN.out _).mono ?_
    rintro e w1 ⟨rfl, rfl⟩
    go_wp2_with fail
    exact ⟨rfl, HB.out, .inr ⟨rfl, rfl⟩⟩
  | true =>
  cases h2 : decide (ep ≤ 524288) with
  | false =>
    clear h
    go_enter Try.func37, Try.ntmps37
    go_wp2_with fail
    refine (HN.out _).mono ?_
    rintro e w1 ⟨rfl, rfl⟩
    go_wp2_with fail
    exact ⟨rfl, HB.out, .inr ⟨rfl, rfl⟩⟩
  | true =>
  cases h3 : decide (1 ≤ nx) with
  | false =>
    clear h
    go_enter Try.func37, Try.ntmps37
    go_wp2_with fail
    refine (HY.out _).mono ?_
    rintro e w1 ⟨rfl, rfl⟩
    go_wp2_with fail
    refine (HN.out _).mono ?_
    rintro e w1 ⟨rfl, rfl⟩
    go_wp2_with fail
    exact ⟨rfl, HB.out, .inr ⟨rfl, rfl⟩⟩
  | true =>
  cases h4 : decide (nx ≤ 1048576) with
  | false =>
    clear h
    go_enter Try.func37, Try.ntmps37
    go_wp2_with fail
    refine (HY.out _).mono ?_
    rintro e w1 ⟨rfl, rfl⟩
    go_wp2_with fail
    refine (HN.out _).mono ?_
    rintro e w1 ⟨rfl, rfl⟩
    go_wp2_with fail
    exact ⟨rfl, HB.out, .inr ⟨rfl, rfl⟩⟩
  | true =>
    simp [h1, h2, h3, h4] at h

-- GEN
/-- What holds between two rounds. -/
structure LkAt (w : World) (ep nx : Int) (A : Option Addr) (n k : Nat) (l : List Cl) (pre : List Cl) (W : World) : Prop where
  ok : okToC (ep * 1048576) nx l pre.length = true
  map : AskMap (l.take pre.length) (w.heap.size + 1) W
  mbox : Whole W (w.heap.size + 1 + 1 + 1) 65 #[.map (some (w.heap.size + 1))]
  last : Whole W (w.heap.size + 1 + 1 + 1 + 1) 3 #[.int .i64 (lastC (ep * 1048576) (l.take pre.length))]
  cb : Whole W w.heap.size 24 #[.int .i64 ep, .int .i64 nx, .slice A n k]
  nb : Whole W (w.heap.size + 1 + 1 + 1 + 1 + 1) 22 #[.slice A n k]
  below : Below w.heap.size w W
  sz : w.heap.size + 1 + 1 + 1 + 1 + 1 + 1 ≤ W.heap.size
theorem lkAt_own (w : World) (ep nx : Int) (A : Option Addr) (n k : Nat) (l : List Cl) (B : Nat) (hB : w.heap.size + 1 < B) : OwnFrom B (LkAt w ep nx A n k l) := by
  intro pre W1 W2 row h hg hr
  have hr' : ∀ r, row = some r → ∃ o : Obj, W1.heap[r]? = some o ∧ o.isCells = false := fun r e => (hr r e).2
  exact ⟨h.ok, h.map.kept hg (fun e => by have := (hr _ e.symm).1; omega), h.mbox.turn hg hr', h.last.turn hg hr', h.cb.turn hg hr', h.nb.turn hg hr', h.below.grown hg h.below.size (fun k e => by have := (hr k e).1; omega), Nat.le_trans h.sz hg.size⟩
theorem LkAt.under {w : World} {ep nx : Int} {A : Option Addr} {n k : Nat} {l : List Cl} {pre : List Cl} {W W' : World} (h : LkAt w ep nx A n k l pre W) (hb : Below W.heap.size W W') : LkAt w ep nx A n k l pre W' :=
  ⟨h.ok, h.map.under hb, h.mbox.under hb, h.last.under hb, h.cb.under hb, h.nb.under hb, h.below.trans (hb.mono h.below.size), Nat.le_trans h.sz hb.size⟩

set_option maxRecDepth 100000 in
set_option maxHeartbeats 4000000 in
theorem look_in (ep nx : Int) (A : Option Addr) (n k : Nat) (l : List Cl) (w : World) (hr : RdC w w.heap.size A n l) (hn : n ≤ 1000) (h : headB ep nx = true) :
    Calls Try.prog 37 #[.agg #[.int .i64 ep, .int .i64 nx, .slice A n k]] w (EndsIf (okToC (ep * 1048576) nx l l.length) w) := by
  refine calls_of_wpK (n := 6) Try.func37 rfl ?_
  simp only [Try.ntmps37, List.size_toArray, List.length_cons, List.length_nil, Nat.reduceAdd, Nat.reduceSub, Array.replicate_succ, Array.replicate_zero, List.push_toArray, List.append_toArray, List.nil_append, List.cons_append]
  simp only [headB, Bool.and_eq_true, decide_eq_true_eq] at h
  obtain ⟨⟨h1, h2⟩, h3, h4⟩ := h
  have HR := Lib.hid hr
  have HY := Lib.hid (fun W => must_yes W)
  have HN := Lib.hid (fun W => must_no W)
  have HM := Lib.hid (fun b W => must_any b W)
  have HBs := Lib.hid (fun W => base_any ep nx A n k h1 h2 W)
  have HWr := Lib.hid (wrapI_mid (n := ep * 1048576 + nx) (by omega) (by omega))
  have e1 : decide (0 ≤ ep) = true := decide_eq_true h1
  have e2 : decide (ep ≤ 524288) = true := decide_eq_true h2
  have e3 : decide (1 ≤ nx) = true := decide_eq_true h3
  have e4 : decide (nx ≤ 1048576) = true := decide_eq_true h4
  have hmm := @run_makeMap Try.prog
  clear hr
  refine wpK_seq (n := 6) ?_
  gi_wp2_with fail
  refine wpK_seq (n := 6) ?_
  gi_wp2_with (refine ⟨trivial, ?_⟩; gi_at_call 46; refine (callsIn_wide.2 (HY.out _)).mono ?_; rintro e w2 ⟨rfl, rfl⟩)
  refine wpK_seq (n := 6) ?_
  gi_wp2_with (refine ⟨trivial, ?_⟩; gi_at_call 46; refine (callsIn_wide.2 (HY.out _)).mono ?_; rintro e w2 ⟨rfl, rfl⟩)
  refine wpK_seq (n := 6) ?_
  gi_wp2_with (refine ⟨trivial, ?_⟩; gi_at_call 30; refine (callsIn_wide.2 (HBs.out _)).mono ?_; rintro e w2 ⟨rfl, rfl⟩)
  refine wpK_seq (n := 6) ?_
  gi_wp2_with (refine ⟨trivial, ?_⟩; gi_at_call 47; refine (callsIn_wide.2 (each_any _ _ _ _)).mono ?_; rintro e w2 ⟨rfl, rfl⟩)
  refine wpK_block ?_
  clear e1 e2 e3 e4 hmm
  obtain ⟨W0, hW0⟩ : ∃ W0, (((((w.alloc (.cells #[.int .i64 ep, .int .i64 nx, .slice A n k] 24)).alloc (.map #[] 0)).alloc (.cells #[.int .i64 ep, .int .i64 nx, .slice A n k] 24)).alloc (.cells #[.map (some (w.heap.size + 1))] 65)).alloc (.cells #[.int .i64 (ep * 1048576)] 3)).alloc (.cells #[.slice A n k] 22) = W0 := ⟨_, rfl⟩
  have hs0 : W0.heap.size = w.heap.size + 1 + 1 + 1 + 1 + 1 + 1 := by rw [← hW0]; simp
  have hb0 : Below w.heap.size w W0 := by rw [← hW0]; exact ((((((Below.refl _ w).alloc (Nat.le_refl _) _).alloc (by simp) _).alloc (by simp; omega) _).alloc (by simp; omega) _).alloc (by simp; omega) _).alloc (by simp; omega) _
  have hinv : LkAt w ep nx A n k l [] W0 := by
    obtain ⟨V1, hV1⟩ : ∃ V1, w.alloc (.cells #[.int .i64 ep, .int .i64 nx, .slice A n k] 24) = V1 := ⟨_, rfl⟩
    have k1 : V1.heap.size = w.heap.size + 1 := by rw [← hV1]; simp
    have w1 : Whole V1 w.heap.size 24 #[.int .i64 ep, .int .i64 nx, .slice A n k] := by rw [← hV1]; exact Whole.new _ _ _
    rw [hV1] at hW0
    obtain ⟨V2, hV2⟩ : ∃ V2, V1.alloc (.map #[] 0) = V2 := ⟨_, rfl⟩
    have k2 : V2.heap.size = w.heap.size + 1 + 1 := by rw [← hV2]; simp [k1]
    have m2 : AskMap [] (w.heap.size + 1) V2 := by rw [← hV2, ← k1]; exact World.alloc_heap_new _ _
    have b2 : Below V1.heap.size V1 V2 := by rw [← hV2]; exact (Below.refl _ _).alloc (Nat.le_refl _) _
    rw [hV2] at hW0
    obtain ⟨V3, hV3⟩ : ∃ V3, V2.alloc (.cells #[.int .i64 ep, .int .i64 nx, .slice A n k] 24) = V3 := ⟨_, rfl⟩
    have k3 : V3.heap.size = w.heap.size + 1 + 1 + 1 := by rw [← hV3]; simp [k2]
    have b3 : Below V2.heap.size V2 V3 := by rw [← hV3]; exact (Below.refl _ _).alloc (Nat.le_refl _) _
    rw [hV3] at hW0
    obtain ⟨V4, hV4⟩ : ∃ V4, V3.alloc (.cells #[.map (some (w.heap.size + 1))] 65) = V4 := ⟨_, rfl⟩
    have k4 : V4.heap.size = w.heap.size + 1 + 1 + 1 + 1 := by rw [← hV4]; simp [k3]
    have w4 : Whole V4 (w.heap.size + 1 + 1 + 1) 65 #[.map (some (w.heap.size + 1))] := by rw [← hV4, ← k3]; exact Whole.new _ _ _
    have b4 : Below V3.heap.size V3 V4 := by rw [← hV4]; exact (Below.refl _ _).alloc (Nat.le_refl _) _
    rw [hV4] at hW0
    obtain ⟨V5, hV5⟩ : ∃ V5, V4.alloc (.cells #[.int .i64 (ep * 1048576)] 3) = V5 := ⟨_, rfl⟩
    have k5 : V5.heap.size = w.heap.size + 1 + 1 + 1 + 1 + 1 := by rw [← hV5]; simp [k4]
    have w5 : Whole V5 (w.heap.size + 1 + 1 + 1 + 1) 3 #[.int .i64 (ep * 1048576)] := by rw [← hV5, ← k4]; exact Whole.new _ _ _
    have b5 : Below V4.heap.size V4 V5 := by rw [← hV5]; exact (Below.refl _ _).alloc (Nat.le_refl _) _
    rw [hV5] at hW0
    have w6 : Whole W0 (w.heap.size + 1 + 1 + 1 + 1 + 1) 22 #[.slice A n k] := by rw [← hW0, ← k5]; exact Whole.new _ _ _
    have b6 : Below V5.heap.size V5 W0 := by rw [← hW0]; exact (Below.refl _ _).alloc (Nat.le_refl _) _
    exact ⟨rfl, (((m2.under b3).under b4).under b5).under b6, (w4.under b5).under b6, w5.under b6, ((((w1.under b2).under b3).under b4).under b5).under b6, w6, hb0, by omega⟩
  have hbn : W0.cell? ⟨w.heap.size + 1 + 1 + 1 + 1 + 1, 0, none⟩ = some (.slice A n k) := hinv.nb.cell 0
  rw [hW0]
  clear hW0
  obtain ⟨L, hL⟩ : ∃ L, okToC (ep * 1048576) nx l l.length = L := ⟨_, rfl⟩
  rw [hL]
  have HL := Lib.hid hL
  clear hL
  refine wpK_range_mem (n := 6) (gf := 48) (lb := #[.pointer (some ⟨w.heap.size + 1 + 1 + 1 + 1 + 1, 0, none⟩)]) rfl (enters_of Try.func48 (by kernel_rfl) rfl) (encs := encC)
    (eachC_memP 5 (w.heap.size + 1 + 1 + 1 + 1 + 1) w.heap.size A n k l (by omega) W0 (by omega) (by omega) hbn (HR.out.below hb0))
    (fun h k => kpB_t h k) (kpB_b (by omega) (by omega)) (Below.refl _ _) (fun _ => rfl)
    (LkAt w ep nx A n k l) (fun ch W => ch = boom ∧ L = false ∧ Below w.heap.size w W)
    (lkAt_own _ _ _ _ _ _ _ _ (by omega)) hinv
    (fun pre x a' W => l[pre.length]? = some x ∧ ∃ g, a' = { tmps := #[.agg #[.int .i64 ep, .int .i64 nx, .slice A n k], .pointer (some ⟨w.heap.size, 0, none⟩), .pointer (some ⟨w.heap.size + 1 + 1 + 1, 0, none⟩), .pointer (some ⟨w.heap.size + 1 + 1 + 1 + 1, 0, none⟩), .pointer (some ⟨g, 0, none⟩), undef, .pointer (some ⟨w.heap.size, 0, none⟩), .int .i64 ep, .bool true, .bool true, .pointer (some ⟨w.heap.size, 0, none⟩), .int .i64 ep, .bool true, .bool true, .tuple #[], .pointer (some ⟨w.heap.size, 1, none⟩), .int .i64 nx, .bool true, .bool true, .pointer (some ⟨w.heap.size, 1, none⟩), .int .i64 nx, .bool true, .bool true, .tuple #[], .map (some (w.heap.size + 1)), .agg #[.int .i64 ep, .int .i64 nx, .slice A n k], .int .i64 (ep * 1048576), .pointer (some ⟨w.heap.size, 2, none⟩), .slice A n k, .func (.func 48) #[] #[.pointer (some ⟨w.heap.size + 1 + 1 + 1 + 1 + 1, 0, none⟩)], .agg #[.int .i64 x.id, .int .u8 x.kind, .int .i64 x.key, .int .i64 x.sent], undef, undef, undef, undef, undef, undef, undef, undef, undef, undef, undef, undef, undef, undef, undef, undef, undef, undef, undef, undef, undef, undef, undef, undef, undef, undef, undef, undef, undef, undef, undef, undef, undef, undef, undef], defers := [] } ∧ (w.heap.size + 1 + 1 + 1 + 1 + 1 + 1 ≤ g ∧ Whole W g 31 #[.int .i64 x.id, .int .u8 x.kind, .int .i64 x.key, .int .i64 x.sent]))
    (fun a' p X Y row hs hg hr => ⟨hs.1, by obtain ⟨g, e, hle, hb⟩ := hs.2; exact ⟨g, e, hle, Whole.turn hb hg (fun r e => (hr r e).2)⟩⟩) ?assign ?body ?done ?panic
  case assign =>
    rintro lp pre x W K hI hOk hK
    have HOk := Lib.hid hOk
    have HI := Lib.hid hI
    clear hOk hI
    unfold encC
    gi_wp2
    have hbu : Below W.heap.size W (W.alloc (.cells #[.int .i64 x.id, .int .u8 x.kind, .int .i64 x.key, .int .i64 x.sent] 31)) := (Below.refl _ _).alloc (Nat.le_refl _) _
    exact hK _ _ (keepsFrom_alloc _ _ _) (kpB_under hbu HI.out.below.size (by have := HI.out.sz; omega)) (HI.out.under hbu) ⟨HOk.out, _, rfl, HI.out.sz, Whole.new _ _ _⟩
  case body =>
    rintro lp pre x a' W hlp hI ⟨hx, g, rfl, hgl, hbx⟩
    have HI := Lib.hid hI
    have HX := Lib.hid hx
    have HBX := Lib.hid hbx
    have HNot : Hid (okAtC (ep * 1048576) nx (l.take pre.length) x = false → L = false) := Lib.hid (fun h => by rw [← HL.out]; exact okToC_not HX.out h)
    obtain ⟨la, hla⟩ : ∃ la, lastC (ep * 1048576) (l.take pre.length) = la := ⟨_, rfl⟩
    have HLa := Lib.hid hla
    have HT0 : Hid ((fun V' => Whole V' g 31 #[.int .i64 x.id, .int .u8 x.kind, .int .i64 x.key, .int .i64 x.sent] ∧ Whole V' (w.heap.size + 1 + 1 + 1 + 1) 3 #[.int .i64 la] ∧ Whole V' w.heap.size 24 #[.int .i64 ep, .int .i64 nx, .slice A n k]) W.drew) := Lib.hid ⟨hbx, by rw [← hla]; exact hI.last, hI.cb⟩
    have HLL : Hid (∀ V', (fun V' => Whole V' g 31 #[.int .i64 x.id, .int .u8 x.kind, .int .i64 x.key, .int .i64 x.sent] ∧ Whole V' (w.heap.size + 1 + 1 + 1 + 1) 3 #[.int .i64 la] ∧ Whole V' w.heap.size 24 #[.int .i64 ep, .int .i64 nx, .slice A n k]) V' → (V'.cell? ⟨g, 0, none⟩ = some (.int .i64 x.id) ∧ V'.cell? ⟨g, 1, none⟩ = some (.int .u8 x.kind) ∧ V'.cell? ⟨g, 2, none⟩ = some (.int .i64 x.key) ∧ V'.cell? ⟨g, 3, none⟩ = some (.int .i64 x.sent)) ∧ V'.cell? ⟨w.heap.size + 1 + 1 + 1 + 1, 0, none⟩ = some (.int .i64 la) ∧ V'.cell? ⟨w.heap.size, 0, none⟩ = some (.int .i64 ep) ∧ V'.cell? ⟨w.heap.size, 1, none⟩ = some (.int .i64 nx) ∧ V'.cell? ⟨w.heap.size, 2, none⟩ = some (.slice A n k)) := Lib.hid (fun V' h => ⟨cells4 h.1, cells1 h.2.1, cells3 h.2.2⟩)
    clear hI hbx hx hla
    cases d1 : decide (la < x.id) with
    | false =>
      have HF := Lib.hid (HNot.out (by simp only [okAtC, HLa.out, d1, Bool.false_and]))
      gi_wp2_with fail
      refine wpIn_region_T (ls := []) (T := (fun V' => Whole V' g 31 #[.int .i64 x.id, .int .u8 x.kind, .int .i64 x.key, .int .i64 x.sent] ∧ Whole V' (w.heap.size + 1 + 1 + 1 + 1) 3 #[.int .i64 la] ∧ Whole V' w.heap.size 24 #[.int .i64 ep, .int .i64 nx, .slice A n k])) (by kernel_rfl) (by kernel_rfl) (fun a w h => h) ?_
      refine takeT (i := 0) (v := ?_) rfl (by kernel_rfl) (by kernel_rfl) (by kernel_rfl) (by kernel_rfl) (fun _ _ _ h => h) (by rfl) ?_ HT0.out ?_
      rotate_left
      · intro V' hV; obtain ⟨⟨y0, y1, y2, y3⟩, y4, y5, y6, y7⟩ := HLL.out V' hV; go_simp <;> with_reducible rfl
      simp only [Act.put, List.setIfInBounds_toArray, List.set_cons_zero, List.set_cons_succ]
      refine takeT (i := 1) (v := ?_) rfl (by kernel_rfl) (by kernel_rfl) (by kernel_rfl) (by kernel_rfl) (fun _ _ _ h => h) (by rfl) ?_ HT0.out ?_
      rotate_left
      · intro V' hV; obtain ⟨⟨y0, y1, y2, y3⟩, y4, y5, y6, y7⟩ := HLL.out V' hV; go_simp <;> with_reducible rfl
      simp only [Act.put, List.setIfInBounds_toArray, List.set_cons_zero, List.set_cons_succ]
      refine takeT (i := 2) (v := ?_) rfl (by kernel_rfl) (by kernel_rfl) (by kernel_rfl) (by kernel_rfl) (fun _ _ _ h => h) (by rfl) ?_ HT0.out ?_
      rotate_left
      · intro V' hV; obtain ⟨⟨y0, y1, y2, y3⟩, y4, y5, y6, y7⟩ := HLL.out V' hV; go_simp <;> with_reducible rfl
      simp only [Act.put, List.setIfInBounds_toArray, List.set_cons_zero, List.set_cons_succ]
      refine takeP (i := 3) (v := ?_) rfl (by kernel_rfl) (by kernel_rfl) (by kernel_rfl) (by kernel_rfl) (fun _ _ _ h => h) (by rfl) ?_ (fun _ => HT0.out) ?_
      rotate_left
      · intro V'; go_simp <;> with_reducible rfl
      simp only [Act.put, List.setIfInBounds_toArray, List.set_cons_zero, List.set_cons_succ]
      refine takeP (i := 4) (v := ?_) rfl (by kernel_rfl) (by kernel_rfl) (by kernel_rfl) (by kernel_rfl) (fun _ _ _ h => h) (by rfl) ?_ (fun _ => HT0.out) ?_
      rotate_left
      · intro V'; go_simp <;> with_reducible rfl
      simp only [Act.put, List.setIfInBounds_toArray, List.set_cons_zero, List.set_cons_succ]
      refine skipT (i := 5) rfl (by kernel_rfl) (by kernel_rfl) (by kernel_rfl) (by kernel_rfl) (fun _ _ _ h => h) (by rfl) (fun _ => HT0.out) ?_
      simp only [Act.put, List.setIfInBounds_toArray, List.set_cons_zero, List.set_cons_succ]
      refine skipT (i := 6) rfl (by kernel_rfl) (by kernel_rfl) (by kernel_rfl) (by kernel_rfl) (fun _ _ _ h => h) (by rfl) (fun _ => HT0.out) ?_
      simp only [Act.put, List.setIfInBounds_toArray, List.set_cons_zero, List.set_cons_succ]
      refine skipT (i := 7) rfl (by kernel_rfl) (by kernel_rfl) (by kernel_rfl) (by kernel_rfl) (fun _ _ _ h => h) (by rfl) (fun _ => HT0.out) ?_
      simp only [Act.put, List.setIfInBounds_toArray, List.set_cons_zero, List.set_cons_succ]
      refine skipT (i := 8) rfl (by kernel_rfl) (by kernel_rfl) (by kernel_rfl) (by kernel_rfl) (fun _ _ _ h => h) (by rfl) (fun _ => HT0.out) ?_
      simp only [Act.put, List.setIfInBounds_toArray, List.set_cons_zero, List.set_cons_succ]
      refine skipT (i := 9) rfl (by kernel_rfl) (by kernel_rfl) (by kernel_rfl) (by kernel_rfl) (fun _ _ _ h => h) (by rfl) (fun _ => HT0.out) ?_
      simp only [Act.put, List.setIfInBounds_toArray, List.set_cons_zero, List.set_cons_succ]
      refine skipT (i := 10) rfl (by kernel_rfl) (by kernel_rfl) (by kernel_rfl) (by kernel_rfl) (fun _ _ _ h => h) (by rfl) (fun _ => HT0.out) ?_
      simp only [Act.put, List.setIfInBounds_toArray, List.set_cons_zero, List.set_cons_succ]
      refine skipT (i := 11) rfl (by kernel_rfl) (by kernel_rfl) (by kernel_rfl) (by kernel_rfl) (fun _ _ _ h => h) (by rfl) (fun _ => HT0.out) ?_
      simp only [Act.put, List.setIfInBounds_toArray, List.set_cons_zero, List.set_cons_succ]
      refine skipT (i := 12) rfl (by kernel_rfl) (by kernel_rfl) (by kernel_rfl) (by kernel_rfl) (fun _ _ _ h => h) (by rfl) (fun _ => HT0.out) ?_
      simp only [Act.put, List.setIfInBounds_toArray, List.set_cons_zero, List.set_cons_succ]
      refine takeP (i := 13) (v := ?_) rfl (by kernel_rfl) (by kernel_rfl) (by kernel_rfl) (by kernel_rfl) (fun _ _ _ h => h) (by rfl) ?_ (fun _ => HT0.out) ?_
      rotate_left
      · intro V'; go_simp <;> with_reducible rfl
      simp only [Act.put, List.setIfInBounds_toArray, List.set_cons_zero, List.set_cons_succ]
      refine oneT (i := 14) rfl (by kernel_rfl) (by rfl) (fun K hK => ?_)
      go_simp
      go_at_call 46
      refine (HN.out _).mono ?_
      rintro e y2 ⟨rfl, rfl⟩
      exact ⟨rfl, keepsFrom_under _ ((Below.refl W.heap.size W).drew), rfl, HF.out, HI.out.below.trans (((Below.refl W.heap.size W).drew).mono HI.out.below.size)⟩
    | true =>
    cases d2 : decide (x.id < ep * 1048576 + nx) with
    | false =>
      have HF := Lib.hid (HNot.out (by simp only [okAtC, HLa.out, d1, d2, Bool.and_false, Bool.false_and]))
      gi_wp2_with fail
      refine wpIn_region_T (ls := []) (T := (fun V' => Whole V' g 31 #[.int .i64 x.id, .int .u8 x.kind, .int .i64 x.key, .int .i64 x.sent] ∧ Whole V' (w.heap.size + 1 + 1 + 1 + 1) 3 #[.int .i64 la] ∧ Whole V' w.heap.size 24 #[.int .i64 ep, .int .i64 nx, .slice A n k])) (by kernel_rfl) (by kernel_rfl) (fun a w h => h) ?_
      refine takeT (i := 0) (v := ?_) rfl (by kernel_rfl) (by kernel_rfl) (by kernel_rfl) (by kernel_rfl) (fun _ _ _ h => h) (by rfl) ?_ HT0.out ?_
      rotate_left
      · intro V' hV; obtain ⟨⟨y0, y1, y2, y3⟩, y4, y5, y6, y7⟩ := HLL.out V' hV; go_simp <;> with_reducible rfl
      simp only [Act.put, List.setIfInBounds_toArray, List.set_cons_zero, List.set_cons_succ]
      refine takeT (i := 1) (v := ?_) rfl (by kernel_rfl) (by kernel_rfl) (by kernel_rfl) (by kernel_rfl) (fun _ _ _ h => h) (by rfl) ?_ HT0.out ?_
      rotate_left
      · intro V' hV; obtain ⟨⟨y0, y1, y2, y3⟩, y4, y5, y6, y7⟩ := HLL.out V' hV; go_simp <;> with_reducible rfl
      simp only [Act.put, List.setIfInBounds_toArray, List.set_cons_zero, List.set_cons_succ]
      refine takeT (i := 2) (v := ?_) rfl (by kernel_rfl) (by kernel_rfl) (by kernel_rfl) (by kernel_rfl) (fun _ _ _ h => h) (by rfl) ?_ HT0.out ?_
      rotate_left
      · intro V' hV; obtain ⟨⟨y0, y1, y2, y3⟩, y4, y5, y6, y7⟩ := HLL.out V' hV; go_simp <;> with_reducible rfl
      simp only [Act.put, List.setIfInBounds_toArray, List.set_cons_zero, List.set_cons_succ]
      refine takeP (i := 3) (v := ?_) rfl (by kernel_rfl) (by kernel_rfl) (by kernel_rfl) (by kernel_rfl) (fun _ _ _ h => h) (by rfl) ?_ (fun _ => HT0.out) ?_
      rotate_left
      · intro V'; go_simp <;> with_reducible rfl
      simp only [Act.put, List.setIfInBounds_toArray, List.set_cons_zero, List.set_cons_succ]
      refine takeP (i := 4) (v := ?_) rfl (by kernel_rfl) (by kernel_rfl) (by kernel_rfl) (by kernel_rfl) (fun _ _ _ h => h) (by rfl) ?_ (fun _ => HT0.out) ?_
      rotate_left
      · intro V'; go_simp <;> with_reducible rfl
      simp only [Act.put, List.setIfInBounds_toArray, List.set_cons_zero, List.set_cons_succ]
      refine takeT (i := 5) (v := ?_) rfl (by kernel_rfl) (by kernel_rfl) (by kernel_rfl) (by kernel_rfl) (fun _ _ _ h => h) (by rfl) ?_ HT0.out ?_
      rotate_left
      · intro V' hV; obtain ⟨⟨y0, y1, y2, y3⟩, y4, y5, y6, y7⟩ := HLL.out V' hV; go_simp <;> with_reducible rfl
      simp only [Act.put, List.setIfInBounds_toArray, List.set_cons_zero, List.set_cons_succ]
      refine takeT (i := 6) (v := ?_) rfl (by kernel_rfl) (by kernel_rfl) (by kernel_rfl) (by kernel_rfl) (fun _ _ _ h => h) (by rfl) ?_ HT0.out ?_
      rotate_left
      · intro V' hV; obtain ⟨⟨y0, y1, y2, y3⟩, y4, y5, y6, y7⟩ := HLL.out V' hV; go_simp <;> with_reducible rfl
      simp only [Act.put, List.setIfInBounds_toArray, List.set_cons_zero, List.set_cons_succ]
      refine takeT (i := 7) (v := ?_) rfl (by kernel_rfl) (by kernel_rfl) (by kernel_rfl) (by kernel_rfl) (fun _ _ _ h => h) (by rfl) ?_ HT0.out ?_
      rotate_left
      · intro V' hV; obtain ⟨⟨y0, y1, y2, y3⟩, y4, y5, y6, y7⟩ := HLL.out V' hV; go_simp <;> with_reducible rfl
      simp only [Act.put, List.setIfInBounds_toArray, List.set_cons_zero, List.set_cons_succ]
      refine takeT (i := 9) (v := ?_) rfl (by kernel_rfl) (by kernel_rfl) (by kernel_rfl) (by kernel_rfl) (fun _ _ _ h => h) (by rfl) ?_ HT0.out ?_
      rotate_left
      · intro V' hV; obtain ⟨⟨y0, y1, y2, y3⟩, y4, y5, y6, y7⟩ := HLL.out V' hV; go_simp <;> with_reducible rfl
      simp only [Act.put, List.setIfInBounds_toArray, List.set_cons_zero, List.set_cons_succ]
      refine takeT (i := 10) (v := ?_) rfl (by kernel_rfl) (by kernel_rfl) (by kernel_rfl) (by kernel_rfl) (fun _ _ _ h => h) (by rfl) ?_ HT0.out ?_
      rotate_left
      · intro V' hV; obtain ⟨⟨y0, y1, y2, y3⟩, y4, y5, y6, y7⟩ := HLL.out V' hV; go_simp <;> with_reducible rfl
      simp only [Act.put, List.setIfInBounds_toArray, List.set_cons_zero, List.set_cons_succ]
      refine oneT (i := 8) rfl (by kernel_rfl) (by rfl) (fun K hK => ?_)
      go_simp
      go_at_call 30
      refine (HBs.out _).mono ?_
      rintro e y1 ⟨rfl, hy1⟩
      have bA : Below W.heap.size W y1 := by rw [hy1]; exact ((Below.refl W.heap.size W).drew).alloc (Nat.le_refl _) _
      have HT1 : Hid ((fun V' => Whole V' g 31 #[.int .i64 x.id, .int .u8 x.kind, .int .i64 x.key, .int .i64 x.sent] ∧ Whole V' (w.heap.size + 1 + 1 + 1 + 1) 3 #[.int .i64 la] ∧ Whole V' w.heap.size 24 #[.int .i64 ep, .int .i64 nx, .slice A n k]) y1) := Lib.hid ⟨HT0.out.1.under (by rw [hy1]; exact (Below.refl _ _).alloc (Nat.le_refl _) _), HT0.out.2.1.under (by rw [hy1]; exact (Below.refl _ _).alloc (Nat.le_refl _) _), HT0.out.2.2.under (by rw [hy1]; exact (Below.refl _ _).alloc (Nat.le_refl _) _)⟩
      have BA := Lib.hid bA
      clear bA hy1
      refine hK.out _ _ (fun _ => HT1.out) ?_
      clear hK K
      refine takeT (i := 11) (v := ?_) rfl (by kernel_rfl) (by kernel_rfl) (by kernel_rfl) (by kernel_rfl) (fun _ _ _ h => h) (by rfl) ?_ HT1.out ?_
      rotate_left
      · intro V' hV; have hwr := HWr.out; go_simp <;> with_reducible rfl
      simp only [Act.put, List.setIfInBounds_toArray, List.set_cons_zero, List.set_cons_succ]
      refine takeP (i := 12) (v := ?_) rfl (by kernel_rfl) (by kernel_rfl) (by kernel_rfl) (by kernel_rfl) (fun _ _ _ h => h) (by rfl) ?_ (fun _ => HT1.out) ?_
      rotate_left
      · intro V'; go_simp <;> with_reducible rfl
      simp only [Act.put, List.setIfInBounds_toArray, List.set_cons_zero, List.set_cons_succ]
      refine takeP (i := 13) (v := ?_) rfl (by kernel_rfl) (by kernel_rfl) (by kernel_rfl) (by kernel_rfl) (fun _ _ _ h => h) (by rfl) ?_ (fun _ => HT1.out) ?_
      rotate_left
      · intro V'; go_simp <;> with_reducible rfl
      simp only [Act.put, List.setIfInBounds_toArray, List.set_cons_zero, List.set_cons_succ]
      refine oneT (i := 14) rfl (by kernel_rfl) (by rfl) (fun K hK => ?_)
      go_simp
      go_at_call 46
      refine (HN.out _).mono ?_
      rintro e y2 ⟨rfl, rfl⟩
      exact ⟨rfl, keepsFrom_under _ BA.out, rfl, HF.out, HI.out.below.trans (BA.out.mono HI.out.below.size)⟩
    | true =>
    have HAt : Hid (okAtC (ep * 1048576) nx (l.take pre.length) x = (oneB x && !anyC (l.take pre.length) x.kind x.key)) := Lib.hid (by simp only [okAtC, HLa.out, d1, d2, Bool.true_and])
    gi_wp2_with fail
    refine wpIn_region_T (ls := []) (T := (fun V' => Whole V' g 31 #[.int .i64 x.id, .int .u8 x.kind, .int .i64 x.key, .int .i64 x.sent] ∧ Whole V' (w.heap.size + 1 + 1 + 1 + 1) 3 #[.int .i64 la] ∧ Whole V' w.heap.size 24 #[.int .i64 ep, .int .i64 nx, .slice A n k])) (by kernel_rfl) (by kernel_rfl) (fun a w h => h) ?_
    refine takeT (i := 0) (v := ?_) rfl (by kernel_rfl) (by kernel_rfl) (by kernel_rfl) (by kernel_rfl) (fun _ _ _ h => h) (by rfl) ?_ HT0.out ?_
    rotate_left
    · intro V' hV; obtain ⟨⟨y0, y1, y2, y3⟩, y4, y5, y6, y7⟩ := HLL.out V' hV; go_simp <;> with_reducible rfl
    simp only [Act.put, List.setIfInBounds_toArray, List.set_cons_zero, List.set_cons_succ]
    refine takeT (i := 1) (v := ?_) rfl (by kernel_rfl) (by kernel_rfl) (by kernel_rfl) (by kernel_rfl) (fun _ _ _ h => h) (by rfl) ?_ HT0.out ?_
    rotate_left
    · intro V' hV; obtain ⟨⟨y0, y1, y2, y3⟩, y4, y5, y6, y7⟩ := HLL.out V' hV; go_simp <;> with_reducible rfl
    simp only [Act.put, List.setIfInBounds_toArray, List.set_cons_zero, List.set_cons_succ]
    refine takeT (i := 2) (v := ?_) rfl (by kernel_rfl) (by kernel_rfl) (by kernel_rfl) (by kernel_rfl) (fun _ _ _ h => h) (by rfl) ?_ HT0.out ?_
    rotate_left
    · intro V' hV; obtain ⟨⟨y0, y1, y2, y3⟩, y4, y5, y6, y7⟩ := HLL.out V' hV; go_simp <;> with_reducible rfl
    simp only [Act.put, List.setIfInBounds_toArray, List.set_cons_zero, List.set_cons_succ]
    refine takeP (i := 3) (v := ?_) rfl (by kernel_rfl) (by kernel_rfl) (by kernel_rfl) (by kernel_rfl) (fun _ _ _ h => h) (by rfl) ?_ (fun _ => HT0.out) ?_
    rotate_left
    · intro V'; go_simp <;> with_reducible rfl
    simp only [Act.put, List.setIfInBounds_toArray, List.set_cons_zero, List.set_cons_succ]
    refine takeP (i := 4) (v := ?_) rfl (by kernel_rfl) (by kernel_rfl) (by kernel_rfl) (by kernel_rfl) (fun _ _ _ h => h) (by rfl) ?_ (fun _ => HT0.out) ?_
    rotate_left
    · intro V'; go_simp <;> with_reducible rfl
    simp only [Act.put, List.setIfInBounds_toArray, List.set_cons_zero, List.set_cons_succ]
    refine takeT (i := 5) (v := ?_) rfl (by kernel_rfl) (by kernel_rfl) (by kernel_rfl) (by kernel_rfl) (fun _ _ _ h => h) (by rfl) ?_ HT0.out ?_
    rotate_left
    · intro V' hV; obtain ⟨⟨y0, y1, y2, y3⟩, y4, y5, y6, y7⟩ := HLL.out V' hV; go_simp <;> with_reducible rfl
    simp only [Act.put, List.setIfInBounds_toArray, List.set_cons_zero, List.set_cons_succ]
    refine takeT (i := 6) (v := ?_) rfl (by kernel_rfl) (by kernel_rfl) (by kernel_rfl) (by kernel_rfl) (fun _ _ _ h => h) (by rfl) ?_ HT0.out ?_
    rotate_left
    · intro V' hV; obtain ⟨⟨y0, y1, y2, y3⟩, y4, y5, y6, y7⟩ := HLL.out V' hV; go_simp <;> with_reducible rfl
    simp only [Act.put, List.setIfInBounds_toArray, List.set_cons_zero, List.set_cons_succ]
    refine takeT (i := 7) (v := ?_) rfl (by kernel_rfl) (by kernel_rfl) (by kernel_rfl) (by kernel_rfl) (fun _ _ _ h => h) (by rfl) ?_ HT0.out ?_
    rotate_left
    · intro V' hV; obtain ⟨⟨y0, y1, y2, y3⟩, y4, y5, y6, y7⟩ := HLL.out V' hV; go_simp <;> with_reducible rfl
    simp only [Act.put, List.setIfInBounds_toArray, List.set_cons_zero, List.set_cons_succ]
    refine takeT (i := 9) (v := ?_) rfl (by kernel_rfl) (by kernel_rfl) (by kernel_rfl) (by kernel_rfl) (fun _ _ _ h => h) (by rfl) ?_ HT0.out ?_
    rotate_left
    · intro V' hV; obtain ⟨⟨y0, y1, y2, y3⟩, y4, y5, y6, y7⟩ := HLL.out V' hV; go_simp <;> with_reducible rfl
    simp only [Act.put, List.setIfInBounds_toArray, List.set_cons_zero, List.set_cons_succ]
    refine takeT (i := 10) (v := ?_) rfl (by kernel_rfl) (by kernel_rfl) (by kernel_rfl) (by kernel_rfl) (fun _ _ _ h => h) (by rfl) ?_ HT0.out ?_
    rotate_left
    · intro V' hV; obtain ⟨⟨y0, y1, y2, y3⟩, y4, y5, y6, y7⟩ := HLL.out V' hV; go_simp <;> with_reducible rfl
    simp only [Act.put, List.setIfInBounds_toArray, List.set_cons_zero, List.set_cons_succ]
    refine oneT (i := 8) rfl (by kernel_rfl) (by rfl) (fun K hK => ?_)
    go_simp
    go_at_call 30
    refine (HBs.out _).mono ?_
    rintro e y1 ⟨rfl, hy1⟩
    have bA : Below W.heap.size W y1 := by rw [hy1]; exact ((Below.refl W.heap.size W).drew).alloc (Nat.le_refl _) _
    have HT1 : Hid ((fun V' => Whole V' g 31 #[.int .i64 x.id, .int .u8 x.kind, .int .i64 x.key, .int .i64 x.sent] ∧ Whole V' (w.heap.size + 1 + 1 + 1 + 1) 3 #[.int .i64 la] ∧ Whole V' w.heap.size 24 #[.int .i64 ep, .int .i64 nx, .slice A n k]) y1) := Lib.hid ⟨HT0.out.1.under (by rw [hy1]; exact (Below.refl _ _).alloc (Nat.le_refl _) _), HT0.out.2.1.under (by rw [hy1]; exact (Below.refl _ _).alloc (Nat.le_refl _) _), HT0.out.2.2.under (by rw [hy1]; exact (Below.refl _ _).alloc (Nat.le_refl _) _)⟩
    have BA := Lib.hid bA
    clear bA hy1
    refine hK.out _ _ (fun _ => HT1.out) ?_
    clear hK K
    refine takeT (i := 11) (v := ?_) rfl (by kernel_rfl) (by kernel_rfl) (by kernel_rfl) (by kernel_rfl) (fun _ _ _ h => h) (by rfl) ?_ HT1.out ?_
    rotate_left
    · intro V' hV; have hwr := HWr.out; go_simp <;> with_reducible rfl
    simp only [Act.put, List.setIfInBounds_toArray, List.set_cons_zero, List.set_cons_succ]
    refine takeP (i := 12) (v := ?_) rfl (by kernel_rfl) (by kernel_rfl) (by kernel_rfl) (by kernel_rfl) (fun _ _ _ h => h) (by rfl) ?_ (fun _ => HT1.out) ?_
    rotate_left
    · intro V'; go_simp <;> with_reducible rfl
    simp only [Act.put, List.setIfInBounds_toArray, List.set_cons_zero, List.set_cons_succ]
    refine takeP (i := 13) (v := ?_) rfl (by kernel_rfl) (by kernel_rfl) (by kernel_rfl) (by kernel_rfl) (fun _ _ _ h => h) (by rfl) ?_ (fun _ => HT1.out) ?_
    rotate_left
    · intro V'; go_simp <;> with_reducible rfl
    simp only [Act.put, List.setIfInBounds_toArray, List.set_cons_zero, List.set_cons_succ]
    refine oneT (i := 14) rfl (by kernel_rfl) (by rfl) (fun K hK => ?_)
    go_simp
    go_at_call 46
    refine (HY.out _).mono ?_
    rintro e y2 ⟨rfl, rfl⟩
    refine hK.out _ _ (fun _ => HT1.out) ?_
    clear hK K
    refine doneT (by kernel_rfl) ?_ _
    have I1 := HI.out.under BA.out
    have X1 := HBX.out.under BA.out
    obtain ⟨x0, x1, x2, x3⟩ := cells4 X1
    have HI1 := Lib.hid I1
    have HX1 := Lib.hid X1
    clear I1 X1 HT0 HT1 HLL d1 d2
    gi_wp2_with fail
    refine ⟨trivial, ?_⟩
    gi_at_call 45
    refine (CallsIn.inRound lp (callsIn_wide.2 (lookAtOne_any x _))).mono ?_
    rintro e y3 ⟨b3, ⟨hone, rfl⟩ | ⟨hone, rfl⟩⟩
    rotate_left
    · have HF := Lib.hid (HNot.out (by rw [HAt.out, hone, Bool.false_and]))
      have HB3 := Lib.hid (BA.out.trans (b3.mono BA.out.size))
      clear b3 hone x0 x1 x2 x3
      gi_wp2_with fail
      exact ⟨rfl, keepsFrom_under _ HB3.out, rfl, HF.out, HI.out.below.trans (HB3.out.mono HI.out.below.size)⟩
    have HB3 := Lib.hid (BA.out.trans (b3.mono BA.out.size))
    have HI3 := Lib.hid (HI1.out.under b3)
    have HX3 := Lib.hid (HX1.out.under b3)
    have HOne := Lib.hid hone
    clear b3 hone x0 x1 x2 x3 HI1 HX1 BA
    obtain ⟨x0, x1, x2, x3⟩ := cells4 HX3.out
    have m0 := cells1 HI3.out.mbox
    obtain ⟨l', hl'⟩ : ∃ l', l.take pre.length = l' := ⟨_, rfl⟩
    rw [hl'] at HLa HAt
    have hmap := HI3.out.map
    rw [hl'] at hmap
    obtain ⟨V3, hV3⟩ : ∃ V3, y3.alloc (.cells #[.int .u8 x.kind, .int .i64 x.key] 67) = V3 := ⟨_, rfl⟩
    have hb3 : Below y3.heap.size y3 V3 := by rw [← hV3]; exact (Below.refl _ _).alloc (Nat.le_refl _) _
    have hw3 : Whole V3 y3.heap.size 67 #[.int .u8 x.kind, .int .i64 x.key] := by rw [← hV3]; exact Whole.new _ _ _
    have hm3 := hmap.under hb3
    have lk := hm3.look x
    have v0 := cells1 (HI3.out.mbox.under hb3)
    have v1 := cells2 hw3
    have HL' := Lib.hid hl'
    have HB4 := Lib.hid hb3
    have HW3 := Lib.hid hw3
    have HM3 := Lib.hid hm3
    clear hl' hmap hb3 hw3 hm3
    cases ha : anyC l' x.kind x.key with
    | true =>
      have HF := Lib.hid (HNot.out (by rw [HL'.out, HAt.out, ha, Bool.not_true, Bool.and_false]))
      simp only [ha, if_true] at lk
      have HB5 := Lib.hid (HB3.out.trans ((HB4.out).mono HB3.out.size))
      clear ha
      gi_wp2_with (refine ⟨trivial, ?_⟩; gi_at_call 46; refine (CallsIn.inRound lp (callsIn_wide.2 (HN.out _))).mono ?_; rintro e w2 ⟨rfl, rfl⟩)
      exact ⟨rfl, keepsFrom_under _ HB5.out, rfl, HF.out, HI.out.below.trans (HB5.out.mono HI.out.below.size)⟩
    | false =>
    have HAtT := Lib.hid (show okAtC (ep * 1048576) nx (l.take pre.length) x = true by rw [HL'.out, HAt.out, HOne.out, ha]; rfl)
    have HA := Lib.hid ha
    simp only [ha, Bool.false_eq_true, if_false] at lk
    clear ha
    gi_wp2_with (refine ⟨trivial, ?_⟩; gi_at_call 46; refine (CallsIn.inRound lp (callsIn_wide.2 (HY.out _))).mono ?_; rintro e V3 ⟨rfl, rfl⟩)
    have HVs := Lib.hid (show V3.heap.size = y3.heap.size + 1 by rw [← hV3]; simp)
    clear hV3 lk v0 v1 x0 x1 x2 x3 m0
    have HT0 : Hid ((fun V' => Whole V' (w.heap.size + 1 + 1 + 1) 65 #[.map (some (w.heap.size + 1))] ∧ Whole V' y3.heap.size 67 #[.int .u8 x.kind, .int .i64 x.key] ∧ (AskMap l' (w.heap.size + 1) V' ∨ AskMap0 l' x (w.heap.size + 1) V')) V3.drew) := Lib.hid ⟨HI3.out.mbox.under HB4.out.drew, HW3.out, .inl HM3.out⟩
    have HLL : Hid (∀ V', (fun V' => Whole V' (w.heap.size + 1 + 1 + 1) 65 #[.map (some (w.heap.size + 1))] ∧ Whole V' y3.heap.size 67 #[.int .u8 x.kind, .int .i64 x.key] ∧ (AskMap l' (w.heap.size + 1) V' ∨ AskMap0 l' x (w.heap.size + 1) V')) V' → V'.cell? ⟨w.heap.size + 1 + 1 + 1, 0, none⟩ = some (.map (some (w.heap.size + 1))) ∧ V'.cell? ⟨y3.heap.size, 0, none⟩ = some (.int .u8 x.kind) ∧ V'.cell? ⟨y3.heap.size, 1, none⟩ = some (.int .i64 x.key)) := Lib.hid (fun V' h => ⟨cells1 h.1, cells2 h.2.1⟩)
    have HLk : Hid (∀ V', (fun V' => Whole V' (w.heap.size + 1 + 1 + 1) 65 #[.map (some (w.heap.size + 1))] ∧ Whole V' y3.heap.size 67 #[.int .u8 x.kind, .int .i64 x.key] ∧ (AskMap l' (w.heap.size + 1) V' ∨ AskMap0 l' x (w.heap.size + 1) V')) V' → (Instr.lookup 65 (.map (some (w.heap.size + 1))) (.agg #[.int .u8 x.kind, .int .i64 x.key]) false).run Try.prog V' = .ok (.int .i64 0) V') := Lib.hid (fun V' h => by
      rcases h.2.2 with h | h
      · have lk := h.look x
        rw [HA.out] at lk
        simpa using lk
      · exact h.look HA.out)
    obtain ⟨W4, run4, m4, g4, s4⟩ := AskMap.entry (W := V3.drew) HM3.out x HA.out
    have HT4 : Hid ((fun V' => Whole V' (w.heap.size + 1 + 1 + 1) 65 #[.map (some (w.heap.size + 1))] ∧ Whole V' y3.heap.size 67 #[.int .u8 x.kind, .int .i64 x.key] ∧ (AskMap l' (w.heap.size + 1) V' ∨ AskMap0 l' x (w.heap.size + 1) V')) W4) := Lib.hid ⟨HT0.out.1.grown g4 (by simp <;> omega), HT0.out.2.1.grown g4 (by have := HI3.out.sz; simp <;> omega), .inr m4⟩
    obtain ⟨W5, run5, m5, g5, s5⟩ := m4.store
    have G4 := Lib.hid g4
    have G5 := Lib.hid g5
    have M5 := Lib.hid m5
    have S4 := Lib.hid s4
    have S5 := Lib.hid s5
    clear g4 g5 m4 m5 s4 s5
    refine wpIn_region_T (ls := [6]) (T := (fun V' => Whole V' (w.heap.size + 1 + 1 + 1) 65 #[.map (some (w.heap.size + 1))] ∧ Whole V' y3.heap.size 67 #[.int .u8 x.kind, .int .i64 x.key] ∧ (AskMap l' (w.heap.size + 1) V' ∨ AskMap0 l' x (w.heap.size + 1) V'))) (by kernel_rfl) (by kernel_rfl) (fun a w h => h) ?_
    refine takeT (i := 0) (v := ?_) rfl (by kernel_rfl) (by kernel_rfl) (by kernel_rfl) (by kernel_rfl) (fun _ _ _ h => h) (by rfl) ?_ HT0.out ?_
    rotate_left
    · intro V' hV; obtain ⟨y0, y1, y2⟩ := HLL.out V' hV; go_simp <;> with_reducible rfl
    simp only [Act.put, List.setIfInBounds_toArray, List.set_cons_zero, List.set_cons_succ]
    refine takeT (i := 1) (v := ?_) rfl (by kernel_rfl) (by kernel_rfl) (by kernel_rfl) (by kernel_rfl) (fun _ _ _ h => h) (by rfl) ?_ HT0.out ?_
    rotate_left
    · intro V' hV; obtain ⟨y0, y1, y2⟩ := HLL.out V' hV; go_simp <;> with_reducible rfl
    simp only [Act.put, List.setIfInBounds_toArray, List.set_cons_zero, List.set_cons_succ]
    refine takeT (i := 2) (v := ?_) rfl (by kernel_rfl) (by kernel_rfl) (by kernel_rfl) (by kernel_rfl) (fun _ _ _ h => h) (by rfl) ?_ HT0.out ?_
    rotate_left
    · intro V' hV; have lk := HLk.out V' hV; go_simp <;> with_reducible rfl
    simp only [Act.put, List.setIfInBounds_toArray, List.set_cons_zero, List.set_cons_succ]
    refine takeP (i := 3) (v := .int .i64 1) rfl (by kernel_rfl) (by kernel_rfl) (by kernel_rfl) (by kernel_rfl) (fun _ _ _ h => h) (by rfl) ?_ (fun _ => HT0.out) ?_
    · intro V'; have e1 : IntKind.i64.wrap 1 = 1 := rfl; go_simp <;> with_reducible rfl
    simp only [Act.put, List.setIfInBounds_toArray, List.set_cons_zero, List.set_cons_succ]
    refine oneT (i := 4) rfl (by kernel_rfl) (by rfl) (fun K hK => ?_)
    go_simp
    refine hK.out _ _ (fun _ => HT4.out) ?_
    clear hK K
    refine takeP (i := 5) (v := ?_) rfl (by kernel_rfl) (by kernel_rfl) (by kernel_rfl) (by kernel_rfl) (fun _ _ _ h => h) (by rfl) ?_ (fun _ => HT4.out) ?_
    rotate_left
    · intro V'; go_simp <;> with_reducible rfl
    simp only [Act.put, List.setIfInBounds_toArray, List.set_cons_zero, List.set_cons_succ]
    refine oneL (i := 6) (by kernel_rfl) rfl (by kernel_rfl) (by rfl) (fun K hK => ?_)
    go_simp
    refine hK.out _ _ ?_
    clear hK K
    refine doneT (by kernel_rfl) ?_ _
    have sz := HI3.out.sz
    have hy := HB4.out.size
    have hg5 : g ≠ w.heap.size + 1 := by omega
    have c5 := (((HX3.out.under HB4.out).under (Below.refl _ _).drew).grown G4.out (by simp <;> omega)).grown G5.out (by simp <;> omega)
    have p5 := (((HI3.out.last.under HB4.out).under (Below.refl _ _).drew).grown G4.out (by simp <;> omega)).grown G5.out (by simp <;> omega)
    obtain ⟨c0, c1, c2, c3⟩ := cells4 c5
    have z0 := cells1 p5
    have z1 := p5.frozen 0
    have C5 := Lib.hid c5
    have P5 := Lib.hid p5
    clear c5 p5 run4 run5 HLL HLk HT0
    gi_wp2_with fail
    obtain ⟨e6, k6⟩ := put1 P5.out (.int .i64 x.id)
    have q5 : Below W.heap.size W V3.drew := (HB3.out.trans (HB4.out.mono HB3.out.size)).drew
    have w5 : Below w.heap.size w V3.drew := HI.out.below.trans (q5.mono HI.out.below.size)
    have f4 : Below w.heap.size V3.drew W4 := (Below.refl _ _).grown G4.out (by have := w5.size; omega) (by intro k e; cases e; omega)
    have f5 : Below w.heap.size W4 W5 := (Below.refl _ _).grown G5.out (by have := w5.size; have := f4.size; omega) (by intro k e; cases e; omega)
    have hlen : (pre ++ [x]).length = pre.length + 1 := by simp
    refine ⟨keepsFrom_t (keepsFrom_under _ q5) (keepsFrom_t (KeepsFrom.of_grownBy G4.out (by intro j e; cases e; omega)) (keepsFrom_t (KeepsFrom.of_grownBy G5.out (by intro j e; cases e; omega)) ((KeepsOthers.setCell _ _ _).from _))), ?_, ?_, ?_, ?_, ?_, ?_, ?_, ?_, ?_⟩
    · refine kpB_t (kpB_under q5 HI.out.below.size (by have := HI.out.sz; omega)) (kpB_t (B := W4) ⟨f4, G4.out.block _ (by have := q5.size; have := HI.out.sz; omega) (by simp <;> omega)⟩ (kpB_t (B := W5) ⟨f5, G5.out.block _ (by rw [S4.out]; have := q5.size; have := HI.out.sz; omega) (by simp <;> omega)⟩ (kpB_only k6 (by omega) (by omega) (by rw [S5.out, S4.out]; have := q5.size; have := HI.out.sz; omega))))
    · rw [hlen]; exact okToC_step HX.out HI.out.ok HAtT.out
    · rw [hlen, List.take_succ_eq_append_getElem (List.getElem?_eq_some_iff.1 HX.out).1, (List.getElem?_eq_some_iff.1 HX.out).2, HL'.out]
      exact M5.out.kept k6.grown (by simp <;> omega)
    · exact k6.far ((((HI3.out.mbox.under HB4.out).under (Below.refl _ _).drew).grown G4.out (by simp <;> omega)).grown G5.out (by simp <;> omega)) (by omega)
    · rw [hlen, lastC_take HX.out]; exact e6
    · exact k6.far ((((HI3.out.cb.under HB4.out).under (Below.refl _ _).drew).grown G4.out (by simp <;> omega)).grown G5.out (by simp <;> omega)) (by omega)
    · exact k6.far ((((HI3.out.nb.under HB4.out).under (Below.refl _ _).drew).grown G4.out (by simp <;> omega)).grown G5.out (by simp <;> omega)) (by omega)
    · exact k6.bel ((w5.trans f4).trans f5) (by omega)
    · rw [k6.size, S5.out, S4.out]; have := q5.size; have := HI.out.sz; omega
  case done =>
    rintro D ys W hD hys hI hK
    have HK := Lib.hid hK
    have HI := Lib.hid hI
    have HE := Lib.hid (show L = true by rw [← HL.out]; have h1 := hI.ok; rwa [show ys.length = l.length by rw [HR.out.len]; exact hys] at h1)
    clear hK hI
    simp only [Exit.inBlock]
    have hg' := grownBy_putObj' W D (.deferred none)
    refine ⟨by simp, .inl ⟨_, _, rfl, run_takeDeferred HK.out, ?_⟩⟩
    refine ⟨.tuple #[], by simp [results, Try.results37, go_sem], HI.out.below.trans ((Below.refl _ _).grown hg' HI.out.below.size (fun k e => by cases e; omega)), .inl ⟨HE.out, rfl⟩⟩
  case panic =>
    rintro D ch W hD ⟨rfl, hF, hb⟩ hK
    simp only [Exit.inBlock]
    have hg' := grownBy_putObj' W D (.deferred none)
    refine ⟨by simp, .inl ⟨_, _, rfl, run_takeDeferred hK, ?_⟩⟩
    exact ⟨hb.trans ((Below.refl _ _).grown hg' hb.size (fun k e => by cases e; omega)), .inr ⟨hF, rfl⟩⟩

end Go.Proofs.Ytgajnmjifhemgaa
