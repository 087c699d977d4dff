/-
  The walk of 'Legal' of package phase. Conditions: those that each theorem names.
-/
import Derived.Test.YtgjipbhhdiacmaaDoorPhAfter
import Derived.RangeFuncFrom
namespace Go.Proofs.YtgjipbhhdiacmaaDoor
open Go.RowKit Go.Shelf
attribute [local go_sem] Oper.semAt_some

theorem legalP_no {a b : Nat} (h : ∀ y ∈ nxs a, ¬ y = b) : legalP a b = false := by
  unfold legalP
  rw [Bool.eq_false_iff]
  intro h1
  simp only [List.contains_eq_mem, decide_eq_true_eq] at h1
  exact h b h1 rfl
theorem legalP_yes {a b : Nat} {pre : List Nat} (h : pre ++ [b] <+: nxs a) : legalP a b = true := by
  unfold legalP
  simp only [List.contains_eq_mem, decide_eq_true_eq]
  exact h.subset (by simp)

/-- What holds between two rounds, and where one has left. -/
structure LgAt (b : Nat) (w : World) (pre : List Nat) (W : World) : Prop where
  no : ∀ y ∈ pre, ¬ y = b
  is_ : Boxed W w.heap.size 5 (.int .u8 (b : Int))
  res : Boxed W (w.heap.size + 1) 4 (.bool false)
  below : Below w.heap.size w W
structure LgOut (b : Nat) (w : World) (pre : List Nat) (W : World) : Prop where
  yes : ∃ p, pre = p ++ [b]
  res : Boxed W (w.heap.size + 1) 4 (.bool true)
  below : Below w.heap.size w W
theorem lgAt_own (b : Nat) (w : World) (B : Nat) (hB : w.heap.size ≤ B) : OwnFrom B (LgAt b w) := by
  intro pre W W' row h hg hr
  have hr' : ∀ r, row = some r → ∃ o : Obj, W.heap[r]? = some o ∧ o.isCells = false := fun r e => (hr r e).2
  exact ⟨h.no, boxed_turn h.is_ hg hr', boxed_turn h.res hg hr', h.below.grown hg h.below.size (fun k e => by have := (hr k e).1; omega)⟩
theorem lgOut_own (b : Nat) (w : World) (B : Nat) (hB : w.heap.size ≤ B) : OwnFrom B (LgOut b w) := by
  intro pre W W' row h hg hr
  have hr' : ∀ r, row = some r → ∃ o : Obj, W.heap[r]? = some o ∧ o.isCells = false := fun r e => (hr r e).2
  exact ⟨h.yes, boxed_turn h.res hg hr', h.below.grown hg h.below.size (fun k e => by have := (hr k e).1; omega)⟩

set_option maxRecDepth 100000 in
set_option maxHeartbeats 1000000 in
theorem legal_any (a b : Nat) (ha : a < 256) (w : World) : Calls Tryd.prog 9 #[.int .u8 (a : Int), .int .u8 (b : Int)] w (BoolPost (legalP a b) w) := by
  refine (callsIn_wide (n := 6)).1 ?_
  refine callsIn_of_wp_marks Tryd.func9 rfl trivial ?_ rfl
  simp only [Tryd.ntmps9, List.size_toArray, List.length_cons, List.length_nil, Nat.reduceAdd, Nat.reduceSub, Array.replicate_succ, Array.replicate_zero, List.push_toArray, List.append_toArray, List.nil_append, List.cons_append]
  obtain ⟨hb0, w0, w1⟩ := two_new w 5 4 #[.int .u8 (b : Int)] #[.bool false]
  obtain ⟨V, hV⟩ : ∃ V, (w.alloc (.cells #[.int .u8 (b : Int)] 5)).alloc (.cells #[.bool false] 4) = V := ⟨_, rfl⟩
  have hs : V.heap.size = w.heap.size + 1 + 1 := by rw [← hV]; simp
  rw [hV] at hb0 w0 w1
  have HB0 := Lib.hid hb0
  have W0 := Lib.hid w0
  have W1 := Lib.hid w1
  have HS := Lib.hid hs
  have HV := Lib.hid hV
  clear hb0 w0 w1 hV hs
  gi_wp2_with fail
  rw [HV.out]
  clear HV
  refine ⟨trivial, (callsIn_wide.2 (after_any (a : Int) V)).mono ?_⟩
  rintro e W1_ ⟨rfl, hW1⟩
  have hX : Whole W1_ V.heap.size 5 #[.int .u8 (a : Int)] := by rw [hW1]; exact Whole.new _ _ _
  have hbv : Below V.heap.size V W1_ := by rw [hW1]; exact (Below.refl _ _).alloc (Nat.le_refl _) _
  have hInv : LgAt b w [] W1_ := ⟨by simp, W0.out.under hbv, W1.out.under hbv, HB0.out.trans (hbv.mono HB0.out.size)⟩
  have HX := Lib.hid hX
  have HI0 := Lib.hid hInv
  have HSz := Lib.hid (show w.heap.size + 1 + 1 + 1 = W1_.heap.size by rw [hW1, World.size_alloc, HS.out])
  clear hW1 hX hbv hInv
  gi_wp2_with fail
  refine wpIn_rangeFunc_ownF rfl (by omega) (gf := 18) (lb := #[.pointer (some ⟨V.heap.size, 0, none⟩)]) rfl trivial (enters_of Tryd.func18 (by kernel_rfl) rfl)
    (after_stops 5 V.heap.size a ha W1_ (HX.out.cell 0) HX.out.lt) kpR2_t (fun W l o o' _ h1 h2 _ => kpR2_b W l o o' h1 h2) (Below.refl _ _) (fun _ => rfl)
    (LgAt b w) (fun k pre W => k = .ret ∧ LgOut b w pre W)
    (lgAt_own _ _ _ (by have := HSz.out; omega)) (fun k pre W W' row h hg hr => ⟨h.1, lgOut_own b w W1_.heap.size (by have := HSz.out; omega) pre W W' row h.2 hg hr⟩) HI0.out
    (fun x => { tmps := #[.int .u8 (a : Int), .int .u8 (b : Int), undef, .pointer (some ⟨w.heap.size, 0, none⟩), .pointer (some ⟨w.heap.size + 1, 0, none⟩), .int .u8 (x : Int), .int .u8 (a : Int), .func (.func 18) #[] #[.pointer (some ⟨V.heap.size, 0, none⟩)], .int .u8 (x : Int), undef, undef, undef], defers := [] }) ?assign ?body ?done ?stop
  case assign =>
    intro l x W K hK
    gi_wp2
    exact hK
  case body =>
    rintro l pre x W hI hlen
    have c0 := hI.is_.cell
    have c2 := hI.res.cell
    have f2 := hI.res.frozen
    have HI := Lib.hid hI
    clear hI
    by_cases hxb : x = b
    · subst hxb
      gi_wp2_with fail
      exact ⟨KeepsOthers.setCell _ _ _, rfl, ⟨pre, rfl⟩, HI.out.res.set _, HI.out.below.setCell (p := ⟨w.heap.size + 1, 0, none⟩) (Nat.le_succ _) _⟩
    · have HN := Lib.hid hxb
      gi_wp2_with fail
      refine ⟨KeepsOthers.refl _, kpR2_refl, ?_, HI.out.is_, HI.out.res, HI.out.below⟩
      intro y hy
      rcases List.mem_append.1 hy with h | h
      · exact HI.out.no y h
      · rw [List.mem_singleton.1 h]; exact HN.out
  case done =>
    rintro D ys W hD rfl hI hK
    have c2 := hI.res.cell
    have f2 := hI.res.frozen
    have HK := Lib.hid hK
    have HI := Lib.hid hI
    clear hK hI
    gi_wp2_with fail
    have hK1 : (W.setCell ⟨w.heap.size + 1, 0, none⟩ (.bool false)).heap[D]? = some (.deferred (some [])) := (KeepsOthers.setCell _ _ _).same D _ HK.out rfl
    have r1 := HI.out.res.set (.bool false)
    have hb : Below w.heap.size w (W.setCell ⟨w.heap.size + 1, 0, none⟩ (.bool false)) := HI.out.below.setCell (p := ⟨w.heap.size + 1, 0, none⟩) (Nat.le_succ _) _
    obtain ⟨W1, hW1⟩ : ∃ W1, W.setCell ⟨w.heap.size + 1, 0, none⟩ (.bool false) = W1 := ⟨_, rfl⟩
    rw [hW1] at hK1 r1 hb ⊢
    have hg' := grownBy_putObj' W1 D (.deferred none)
    have hr' : ∀ r, (some D) = some r → ∃ o : Obj, W1.heap[r]? = some o ∧ o.isCells = false := fun r e => by cases e; exact ⟨_, hK1, rfl⟩
    have q1 := (boxed_turn r1 hg' hr').cell
    refine ⟨by simp, .inl ⟨_, _, rfl, run_takeDeferred hK1, ?_⟩⟩
    refine ⟨.bool false, by simp [results, Tryd.results9, go_sem, q1], by rw [legalP_no HI.out.no], ?_⟩
    exact hb.trans ((Below.refl _ _).grown hg' hb.size (fun k e => by cases e; have := HSz.out; omega))
  case stop =>
    rintro D k pre W hD hpre ⟨rfl, hO⟩ hK
    obtain ⟨⟨p, rfl⟩, h2, h3⟩ := hO
    gi_wp2_with fail
    have hg' := grownBy_putObj' W D (.deferred none)
    have hr' : ∀ r, (some D) = some r → ∃ o : Obj, W.heap[r]? = some o ∧ o.isCells = false := fun r e => by cases e; exact ⟨_, hK, rfl⟩
    have q1 := (boxed_turn h2 hg' hr').cell
    refine ⟨by simp, .inl ⟨_, _, rfl, run_takeDeferred hK, ?_⟩⟩
    refine ⟨.bool true, by simp [results, Tryd.results9, go_sem, q1], by rw [legalP_yes hpre], ?_⟩
    exact h3.trans ((Below.refl _ _).grown hg' h3.size (fun k e => by cases e; have := HSz.out; omega))

end Go.Proofs.YtgjipbhhdiacmaaDoor
