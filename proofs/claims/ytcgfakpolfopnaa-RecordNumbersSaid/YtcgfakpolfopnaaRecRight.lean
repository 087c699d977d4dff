/-
  The walk of 'Right' of package record. Conditions: those that each theorem names.
-/
import Derived.Test.YtcgfakpolfopnaaNumUse
import Derived.Test.YtcgfakpolfopnaaRecIter
namespace Go.Proofs.Ytcgfakpolfopnaa
open Go.RowKit Go.Shelf
attribute [local go_sem] Oper.semAt_some

theorem mayB_short {k : Nat} {zs : List Int} (h : zs.length < lo k) : mayB k zs = false := by
  have h1 : ¬ lo k ≤ zs.length := by omega
  simp [mayB, h1]
theorem mayB_long {k : Nat} {zs : List Int} (h : hi k < zs.length) : mayB k zs = false := by
  have h1 : ¬ zs.length ≤ hi k := by omega
  simp [mayB, h1]

def BoolPost (v : Bool) (w : World) (e : Ending) (w' : World) : Prop := e = .returned (.bool v) ∧ Below w.heap.size w w'

set_option maxRecDepth 100000 in
set_option maxHeartbeats 400000 in
theorem right_out (k : Nat) (A : Option Addr) (n c : Nat) (w : World) (h : n < lo k ∨ (lo k ≤ n ∧ hi k < n)) :
    Calls Try.prog 16 #[.agg #[.int .u8 (k : Int), .slice A n c]] w (BoolPost false w) := by
  obtain ⟨L, hL⟩ : ∃ L, lo k = L := ⟨_, rfl⟩
  obtain ⟨H, hH⟩ : ∃ H, hi k = H := ⟨_, rfl⟩
  have HM := Lib.hid (fun W => many_any k W)
  rw [hL, hH] at HM h
  clear hL hH
  rcases h with h | ⟨h1, h⟩
  all_goals
    go_enter Try.func16, Try.ntmps16
    go_wp2_with fail
    refine (HM.out _).mono ?_
    rintro e w1 ⟨rfl, rfl⟩
    go_wp2_with fail
    refine bodyPost_ret (v := .bool false) (by simp [results, Try.results16, go_sem]) rfl ⟨rfl, ?_⟩
    exact (((Below.refl _ w).alloc (Nat.le_refl _) _).alloc (by simp) _)

/-- What holds between two rounds, and where one has left: s + 1: the result's cell. -/
structure RightAt (v : Bool) (w : World) (pre : List Int) (W : World) : Prop where
  num : pre.all isNum = v
  res : Boxed W (w.heap.size + 1) 4 (.bool false)
  below : Below w.heap.size w W
theorem rightAt_own (v : Bool) (w : World) (B : Nat) (hB : w.heap.size ≤ B) : OwnFrom B (RightAt v w) := by
  intro pre W W' row h hg hr
  have hr' : ∀ r, row = some r → ∃ o : Obj, W.heap[r]? = some o ∧ o.isCells = false := fun r e => (hr r e).2
  exact ⟨h.num, boxed_turn h.res hg hr', h.below.grown hg (by have := h.below.size; omega) (fun k e => by have := (hr k e).1; omega)⟩
theorem kpB_refl {n₀ Bn : Nat} {W : World} : KpB n₀ Bn W W := ⟨Below.refl _ _, rfl⟩

set_option maxRecDepth 100000 in
set_option maxHeartbeats 400000 in
theorem right_in (k : Nat) (hk : k < 256) (A : Option Addr) (n c : Nat) (zs : List Int) (w : World) (hr : Rd w w.heap.size A n (iv zs)) (h1 : lo k ≤ n) (h2 : n ≤ hi k) :
    Calls Try.prog 16 #[.agg #[.int .u8 (k : Int), .slice A n c]] w (BoolPost (zs.all isNum) w) := by
  obtain ⟨L, hL⟩ : ∃ L, lo k = L := ⟨_, rfl⟩
  obtain ⟨H, hH⟩ : ∃ H, hi k = H := ⟨_, rfl⟩
  have HM := Lib.hid (fun W => many_any k W)
  have hn : n ≤ 18 := by have := hi_le k; omega
  rw [hL, hH] at HM
  rw [hL] at h1
  rw [hH] at h2
  clear hL hH
  have Hr := Lib.hid hr
  clear hr
  have d1 : decide (n < L) = false := by simp; omega
  have d2 : decide (H < n) = false := by simp; omega
  clear h1 h2
  refine (callsIn_wide (n := 5)).1 ?_
  refine callsIn_of_wp_marks Try.func16 rfl trivial ?_ rfl
  simp only [Try.ntmps16, List.size_toArray, List.length_cons, List.length_nil, Nat.reduceAdd, Nat.reduceSub, Array.replicate_succ, Array.replicate_zero, List.push_toArray, List.append_toArray, List.nil_append, List.cons_append]
  gi_wp2_with (first | (refine ⟨trivial, ?_⟩; gi_at_call 31; refine (callsIn_wide.2 (HM.out _)).mono ?_; rintro e w1 ⟨rfl, rfl⟩) | (refine ⟨trivial, ?_⟩; gi_at_call 27; refine (callsIn_wide.2 (rowOf_any _ _ _ _ _)).mono ?_; rintro e w2 ⟨rfl, rfl⟩))
  obtain ⟨W0, hW0⟩ : ∃ W0, ((w.alloc (.cells #[.int .u8 (k : Int), .slice A n c] 24)).alloc (.cells #[.bool false] 4)).alloc (.cells #[.int .u8 (k : Int), .slice A n c] 24) = W0 := ⟨_, rfl⟩
  have hs0 : W0.heap.size = w.heap.size + 1 + 1 + 1 := by rw [← hW0]; simp
  have bRec : Whole W0 (w.heap.size + 1 + 1) 24 #[.int .u8 (k : Int), .slice A n c] := by
    rw [← hW0]; have := Whole.new ((w.alloc (.cells #[.int .u8 (k : Int), .slice A n c] 24)).alloc (.cells #[.bool false] 4)) 24 #[.int .u8 (k : Int), .slice A n c]; simpa using this
  have hInv : RightAt true w [] W0 := by
    refine ⟨rfl, ?_, ?_⟩
    · rw [← hW0]; have := (Boxed.new (w.alloc (.cells #[.int .u8 (k : Int), .slice A n c] 24)) 4 (.bool false)).alloc (.cells #[.int .u8 (k : Int), .slice A n c] 24); simpa using this
    · rw [← hW0]; exact (((Below.refl _ w).alloc (Nat.le_refl _) _).alloc (by simp) _).alloc (by simp; omega) _
  rw [hW0]
  clear hW0
  refine wpIn_rangeFunc_ownF rfl (by omega) (gf := 39) (lb := #[.pointer (some ⟨w.heap.size + 1 + 1, 0, none⟩)]) rfl trivial (enters_of Try.func39 (by kernel_rfl) rfl)
    (rowOf_stops 4 (w.heap.size + 1 + 1) w.heap.size k hk A n c zs (by unfold maxLen; omega) W0 (by omega) (by omega) (by simpa using bRec.cell 0) (by simpa using bRec.cell 1) (Hr.out.below hInv.below)) (fun h k => kpB_t h k) (kpB_b (by omega) (by omega)) (Below.refl _ _) (fun _ => rfl)
    (RightAt true w) (fun k pre W => k = .ret ∧ RightAt false w pre W)
    (rightAt_own _ _ _ (by omega)) (fun k pre W W' row h hg hr => ⟨h.1, rightAt_own false w W0.heap.size (by omega) pre W W' row h.2 hg hr⟩) hInv
    (fun x => { tmps := #[.agg #[.int .u8 (k : Int), .slice A n c], .pointer (some ⟨w.heap.size, 0, none⟩), .pointer (some ⟨w.heap.size + 1, 0, none⟩), .int .i64 (L : Int), .int .i64 (H : Int), .int .i64 x, .tuple #[.int .i64 (L : Int), .int .i64 (H : Int)], .pointer (some ⟨w.heap.size, 0, none⟩), .int .u8 (k : Int), .tuple #[.int .i64 (L : Int), .int .i64 (H : Int)], .int .i64 (L : Int), .int .i64 (H : Int), .pointer (some ⟨w.heap.size, 1, none⟩), .slice A n c, .int .i64 (n : Int), .int .i64 (L : Int), .bool false, .bool false, .pointer (some ⟨w.heap.size, 1, none⟩), .slice A n c, .int .i64 (n : Int), .int .i64 (H : Int), .bool false, .bool false, .agg #[.int .u8 (k : Int), .slice A n c], .func (.func 39) #[] #[.pointer (some ⟨w.heap.size + 1 + 1, 0, none⟩)], .int .i64 x, undef, undef, undef, undef, undef, undef], defers := [] }) ?assign ?body ?done ?stop
  case assign =>
    intro l x W K hK
    gi_wp2
    exact hK
  case body =>
    rintro l pre x W hI hlen
    have c2 := hI.res.cell
    have f2 := hI.res.frozen
    have HI := Lib.hid hI
    clear hI
    by_cases hx0 : 0 ≤ x
    · by_cases hx1 : x ≤ 1099511627776
      · have HN := Lib.hid (isNum_yes hx0 hx1)
        gi_wp2_with fail
        exact ⟨KeepsOthers.refl _, kpB_refl, by rw [List.all_append, HI.out.num]; simp [HN.out], HI.out.res, HI.out.below⟩
      · have HN := Lib.hid (show isNum x = false by simp [isNum, hx1])
        gi_wp2_with fail
        exact ⟨KeepsOthers.setCell _ _ _, rfl, by rw [List.all_append]; simp [HN.out], HI.out.res.set _, HI.out.below.setCell (p := ⟨w.heap.size + 1, 0, none⟩) (Nat.le_succ _) _⟩
    · have HN := Lib.hid (show isNum x = false by simp [isNum, hx0])
      gi_wp2_with fail
      exact ⟨KeepsOthers.setCell _ _ _, rfl, by rw [List.all_append]; simp [HN.out], HI.out.res.set _, HI.out.below.setCell (p := ⟨w.heap.size + 1, 0, none⟩) (Nat.le_succ _) _⟩
  case done =>
    rintro D ys W hD rfl hI hK
    have c2 := hI.res.cell
    have f2 := hI.res.frozen
    have HK := Lib.hid hK
    have HI := Lib.hid hI
    clear hK hI
    gi_wp2_with fail
    have hK1 : (W.setCell ⟨w.heap.size + 1, 0, none⟩ (.bool true)).heap[D]? = some (.deferred (some [])) := (KeepsOthers.setCell _ _ _).same D _ HK.out rfl
    have r1 := HI.out.res.set (.bool true)
    have hb : Below w.heap.size w (W.setCell ⟨w.heap.size + 1, 0, none⟩ (.bool true)) := HI.out.below.setCell (p := ⟨w.heap.size + 1, 0, none⟩) (Nat.le_succ _) _
    have hnum : zs.all isNum = true := by have := HI.out.num; simp only [List.all_cons, Bool.and_eq_true] at this; exact this.2
    obtain ⟨W1, hW1⟩ : ∃ W1, W.setCell ⟨w.heap.size + 1, 0, none⟩ (.bool true) = W1 := ⟨_, rfl⟩
    rw [hW1] at hK1 r1 hb ⊢
    have hg' := grownBy_putObj' W1 D (.deferred none)
    have hr' : ∀ r, (some D) = some r → ∃ o : Obj, W1.heap[r]? = some o ∧ o.isCells = false := fun r e => by cases e; exact ⟨_, hK1, rfl⟩
    have q1 := (boxed_turn r1 hg' hr').cell
    refine ⟨by simp, .inl ⟨_, _, rfl, run_takeDeferred hK1, ?_⟩⟩
    refine ⟨.bool true, by simp [results, Try.results16, go_sem, q1], by rw [hnum], ?_⟩
    exact hb.trans ((Below.refl _ _).grown hg' hb.size (fun k e => by cases e; omega))
  case stop =>
    rintro D k pre W hD hpre ⟨rfl, hO⟩ hK
    gi_wp2_with fail
    have hg' := grownBy_putObj' W D (.deferred none)
    have hr' : ∀ r, (some D) = some r → ∃ o : Obj, W.heap[r]? = some o ∧ o.isCells = false := fun r e => by cases e; exact ⟨_, hK, rfl⟩
    have q1 := (boxed_turn hO.res hg' hr').cell
    have hnum : zs.all isNum = false := by
      obtain ⟨t, ht⟩ := hpre
      have h1 : ((k : Int) :: zs).all isNum = false := by rw [← ht, List.all_append, hO.num]; rfl
      have h2 : isNum (k : Int) = true := isNum_yes (by omega) (by omega)
      simpa [List.all_cons, h2] using h1
    refine ⟨by simp, .inl ⟨_, _, rfl, run_takeDeferred hK, ?_⟩⟩
    refine ⟨.bool false, by simp [results, Try.results16, go_sem, q1], by rw [hnum], ?_⟩
    exact hO.below.trans ((Below.refl _ _).grown hg' hO.below.size (fun k e => by cases e; omega))

/-- Whether it may be. -/
theorem right_rec (k : Nat) (hk : k < 256) (A : Option Addr) (n c : Nat) (zs : List Int) (B : Nat) (w : World) (hr : Rd w B A n (iv zs)) (hB : B ≤ w.heap.size) :
    Calls Try.prog 16 #[.agg #[.int .u8 (k : Int), .slice A n c]] w (BoolPost (mayB k zs) w) := by
  have hl : zs.length = n := by have := hr.1; rwa [iv_length] at this
  by_cases h1 : lo k ≤ n
  · by_cases h2 : n ≤ hi k
    · have e : mayB k zs = zs.all isNum := by simp [mayB, hl, h1, h2]
      rw [e]
      exact right_in k hk A n c zs w (hr.more hB) h1 h2
    · rw [mayB_long (by omega)]
      exact right_out k A n c w (.inr ⟨h1, by omega⟩)
  · rw [mayB_short (by omega)]
    exact right_out k A n c w (.inl (by omega))

end Go.Proofs.Ytcgfakpolfopnaa
