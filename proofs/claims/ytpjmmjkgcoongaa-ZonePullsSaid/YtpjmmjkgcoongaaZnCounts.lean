/-
  The walk of 'Counts' of package zone. Conditions: those that each theorem names.
-/
import Derived.Test.YtpjmmjkgcoongaaZnSum
namespace Go.Proofs.Ytpjmmjkgcoongaa
open Go.RowKit Go.Shelf
attribute [local go_sem] Oper.semAt_some

/-- How many there are of each zone, as values. -/
def cnts (l : List Int) : Array Value := #[.int .i64 (cn 0 l), .int .i64 (cn 1 l), .int .i64 (cn 2 l), .int .i64 (cn 3 l)]
/-- What holds between two rounds. -/
structure CntAt (w : World) (A : Option Addr) (n c : Nat) (pre : List Int) (W : World) : Prop where
  res : Whole W w.heap.size 31 #[.int .i64 0, .int .i64 0, .int .i64 0, .int .i64 0]
  many : Whole W (w.heap.size + 1) 31 (cnts pre)
  bn : Whole W (w.heap.size + 1 + 1) 29 #[.slice A n c]
  below : Below w.heap.size w W
theorem cntAt_own (w : World) (A : Option Addr) (n c : Nat) (B : Nat) (hB : w.heap.size ≤ B) : OwnFrom B (CntAt w A n c) := by
  intro pre W1 W2 row h hg hr
  have hr' : ∀ r, row = some r → ∃ o : Obj, W1.heap[r]? = some o ∧ o.isCells = false := fun r e => (hr r e).2
  exact ⟨h.res.turn hg hr', h.many.turn hg hr', h.bn.turn hg hr', h.below.grown hg h.below.size (fun k e => by have := (hr k e).1; omega)⟩

/-- A round that has counted a zone. -/
theorem cntAt_step {w : World} {A : Option Addr} {n c : Nat} {pre : List Int} {W : World} (h : CntAt w A n c pre W) (x : Int) (i : Nat) (v : Int) (hc : (cnts pre).setIfInBounds i (.int .i64 v) = cnts (pre ++ [x])) :
    KeepsOthers W (W.setCell ⟨w.heap.size + 1, i, none⟩ (.int .i64 v)) ∧ KpB w.heap.size (w.heap.size + 1 + 1) W (W.setCell ⟨w.heap.size + 1, i, none⟩ (.int .i64 v)) ∧ CntAt w A n c (pre ++ [x]) (W.setCell ⟨w.heap.size + 1, i, none⟩ (.int .i64 v)) := by
  have h2 := h.many.set i (.int .i64 v)
  rw [hc] at h2
  have h3 : Whole (W.setCell ⟨w.heap.size + 1, i, none⟩ (.int .i64 v)) (w.heap.size + 1 + 1) 29 #[.slice A n c] := h.bn.far (p := ⟨w.heap.size + 1, i, none⟩) (by simp) _
  refine ⟨KeepsOthers.setCell _ _ _, ⟨(Below.refl _ W).setCell (p := ⟨w.heap.size + 1, i, none⟩) (by simp) _, h3.trans h.bn.symm⟩, h.res.far (p := ⟨w.heap.size + 1, i, none⟩) (by simp) _, h2, h3, h.below.setCell (p := ⟨w.heap.size + 1, i, none⟩) (by simp) _⟩

def CntPost (l : List Int) (w : World) (e : Ending) (w' : World) : Prop := e = .returned (.agg (cnts l)) ∧ Below w.heap.size w w'

set_option maxRecDepth 100000 in
set_option maxHeartbeats 1000000 in
theorem counts_any (A : Option Addr) (n c : Nat) (l : List Int) (B : Nat) (w : World) (hr : Rd w B A n (iv l)) (hB : B ≤ w.heap.size) (hn : n ≤ 1000) (hc : n ≤ c) :
    Calls Try.prog 12 #[.slice A n c] w (CntPost l w) := by
  have hl : l.length = n := by have := hr.1; rwa [iv_length] at this
  have HR := Lib.hid (hr.more hB)
  have HL := Lib.hid hl
  have HF := Lib.hid (fun W => zfirst_any A n c hn hc W)
  clear hr hB hl hc
  refine (callsIn_wide (n := 6)).1 ?_
  refine callsIn_of_wp_marks Try.func12 rfl trivial ?_ rfl
  simp only [Try.ntmps12, List.size_toArray, List.length_cons, List.length_nil, Nat.reduceAdd, Nat.reduceSub, Array.replicate_succ, Array.replicate_zero, List.push_toArray, List.append_toArray, List.nil_append, List.cons_append]
  gi_wp2_with (first | (refine ⟨trivial, ?_⟩; gi_at_call 19; refine (callsIn_wide.2 (HF.out _)).mono ?_; rintro e w1 ⟨rfl, rfl⟩) | (refine ⟨trivial, ?_⟩; gi_at_call 18; refine (callsIn_wide.2 (each_any _ _ _ _)).mono ?_; rintro e w2 ⟨rfl, rfl⟩))
  obtain ⟨W0, hW0⟩ : ∃ W0, ((w.alloc (.cells #[.int .i64 0, .int .i64 0, .int .i64 0, .int .i64 0] 31)).alloc (.cells #[.int .i64 0, .int .i64 0, .int .i64 0, .int .i64 0] 31)).alloc (.cells #[.slice A n c] 29) = W0 := ⟨_, rfl⟩
  have hs0 : W0.heap.size = w.heap.size + 1 + 1 + 1 := by rw [← hW0]; simp
  have hb0 : Below w.heap.size w W0 := by rw [← hW0]; exact (((Below.refl _ w).alloc (Nat.le_refl _) _).alloc (by simp) _).alloc (by simp; omega) _
  have hinv : CntAt w A n c [] W0 := by
    refine ⟨?_, ?_, ?_, hb0⟩
    · rw [← hW0]; exact ((Whole.new w _ _).alloc _).alloc _
    · rw [← hW0]; have := (Whole.new (w.alloc (.cells #[.int .i64 0, .int .i64 0, .int .i64 0, .int .i64 0] 31)) 31 #[.int .i64 0, .int .i64 0, .int .i64 0, .int .i64 0]).alloc (.cells #[.slice A n c] 29); simpa [cnts, cn] using this
    · rw [← hW0]; have := Whole.new ((w.alloc (.cells #[.int .i64 0, .int .i64 0, .int .i64 0, .int .i64 0] 31)).alloc (.cells #[.int .i64 0, .int .i64 0, .int .i64 0, .int .i64 0] 31)) 29 #[.slice A n c]; simpa using this
  rw [hW0]
  clear hW0
  refine wpIn_rangeFunc_ownF rfl (by omega) (gf := 21) (lb := #[.pointer (some ⟨w.heap.size + 1 + 1, 0, none⟩)]) rfl trivial (enters_of Try.func21 (by kernel_rfl) rfl)
    (each_stops 5 (w.heap.size + 1 + 1) w.heap.size A n c l (by unfold maxLen; omega) W0 (by omega) (by omega) (by simpa using hinv.bn.cell 0) (HR.out.below hb0)) (fun h k => kpB_t h k) (kpB_b (by omega) (by omega)) (Below.refl _ _) (fun _ => rfl)
    (CntAt w A n c) (fun _ _ _ => False)
    (cntAt_own _ _ _ _ _ (by omega)) (fun k pre W W' row h hg hr => h) hinv
    (fun x => { tmps := #[.slice A n c, undef, .pointer (some ⟨w.heap.size, 0, none⟩), .pointer (some ⟨w.heap.size + 1, 0, none⟩), .int .i64 x, .slice A n c, .slice A n c, .func (.func 21) #[] #[.pointer (some ⟨w.heap.size + 1 + 1, 0, none⟩)], .int .i64 x, undef, undef, undef, undef, undef, undef, undef], defers := [] }) ?assign ?body ?done ?stop
  case assign =>
    intro l x W K hK
    gi_wp2
    exact hK
  case body =>
    rintro lp pre x W hI hlen
    have q0 := hI.many.cell 0
    have q1 := hI.many.cell 1
    have q2 := hI.many.cell 2
    have q3 := hI.many.cell 3
    have f0 := hI.many.frozen 0
    have f1 := hI.many.frozen 1
    have f2 := hI.many.frozen 2
    have f3 := hI.many.frozen 3
    simp only [cnts, List.getElem?_toArray, List.getElem?_cons_zero, List.getElem?_cons_succ] at q0 q1 q2 q3
    have hl2 : l.length ≤ 1000 := by rw [HL.out]; exact hn
    have b0 := cn_bd 0 pre
    have b1 := cn_bd 1 pre
    have b2 := cn_bd 2 pre
    have b3 := cn_bd 3 pre
    have HI := Lib.hid hI
    have HRs := Lib.hid (fun W => rest_any x W)
    have hk : x % 4 = 0 ∨ x % 4 = 1 ∨ x % 4 = 2 ∨ x % 4 = 3 := by omega
    have hst : cnts (pre ++ [x]) = #[.int .i64 (cn 0 pre + if x % 4 = 0 then 1 else 0), .int .i64 (cn 1 pre + if x % 4 = 1 then 1 else 0), .int .i64 (cn 2 pre + if x % 4 = 2 then 1 else 0), .int .i64 (cn 3 pre + if x % 4 = 3 then 1 else 0)] := by simp only [cnts, cn_snoc]
    have HC : Hid (cnts pre = #[.int .i64 (cn 0 pre), .int .i64 (cn 1 pre), .int .i64 (cn 2 pre), .int .i64 (cn 3 pre)]) := Lib.hid rfl
    have hlt : pre.length < 1000 := by omega
    have HS := Lib.hid hst
    clear hI hst
    generalize cn 0 pre = c0 at *
    generalize cn 1 pre = c1 at *
    generalize cn 2 pre = c2 at *
    generalize cn 3 pre = c3 at *
    rcases hk with hk | hk | hk | hk
    all_goals
      rw [hk] at HRs HS
      clear hk
      gi_wp2_with (refine ⟨trivial, ?_⟩; gi_at_call 16; refine (CallsIn.inRound lp (callsIn_wide.2 (HRs.out _))).mono ?_; rintro e w' ⟨rfl, rfl⟩)
      refine cntAt_step HI.out x _ _ ?_
      rw [HS.out, HC.out]
      simp
  case done =>
    rintro D ys W hD rfl hI hK
    have q0 := hI.many.cell 0
    have q1 := hI.many.cell 1
    have q2 := hI.many.cell 2
    have q3 := hI.many.cell 3
    simp only [cnts, List.getElem?_toArray, List.getElem?_cons_zero, List.getElem?_cons_succ] at q0 q1 q2 q3
    have r0 := hI.res.cell 0
    have r1 := hI.res.cell 1
    have r2 := hI.res.cell 2
    have r3 := hI.res.cell 3
    simp only [List.getElem?_toArray, List.getElem?_cons_zero, List.getElem?_cons_succ] at r0 r1 r2 r3
    have f0 := hI.res.frozen 0
    have f1 := hI.res.frozen 1
    have f2 := hI.res.frozen 2
    have f3 := hI.res.frozen 3
    have HK := Lib.hid hK
    have HI := Lib.hid hI
    clear hK hI
    gi_wp2_with fail
    have h4 := (((HI.out.res.set 0 (.int .i64 (cn 0 ys))).set 1 (.int .i64 (cn 1 ys))).set 2 (.int .i64 (cn 2 ys))).set 3 (.int .i64 (cn 3 ys))
    have hb4 := (((HI.out.below.setCell (p := ⟨w.heap.size, 0, none⟩) (Nat.le_refl _) (.int .i64 (cn 0 ys))).setCell (p := ⟨w.heap.size, 1, none⟩) (Nat.le_refl _) (.int .i64 (cn 1 ys))).setCell (p := ⟨w.heap.size, 2, none⟩) (Nat.le_refl _) (.int .i64 (cn 2 ys))).setCell (p := ⟨w.heap.size, 3, none⟩) (Nat.le_refl _) (.int .i64 (cn 3 ys))
    have hK4 := ((((KeepsOthers.setCell W ⟨w.heap.size, 0, none⟩ (.int .i64 (cn 0 ys))).trans (KeepsOthers.setCell _ ⟨w.heap.size, 1, none⟩ (.int .i64 (cn 1 ys)))).trans (KeepsOthers.setCell _ ⟨w.heap.size, 2, none⟩ (.int .i64 (cn 2 ys)))).trans (KeepsOthers.setCell _ ⟨w.heap.size, 3, none⟩ (.int .i64 (cn 3 ys)))).same D _ HK.out rfl
    generalize ((((W.setCell ⟨w.heap.size, 0, none⟩ (.int .i64 (cn 0 ys))).setCell ⟨w.heap.size, 1, none⟩ (.int .i64 (cn 1 ys))).setCell ⟨w.heap.size, 2, none⟩ (.int .i64 (cn 2 ys))).setCell ⟨w.heap.size, 3, none⟩ (.int .i64 (cn 3 ys))) = W1 at h4 hb4 hK4 ⊢
    have hg' := grownBy_putObj' W1 D (.deferred none)
    have hr' : ∀ r, (some D) = some r → ∃ o : Obj, W1.heap[r]? = some o ∧ o.isCells = false := fun r e => by cases e; exact ⟨_, hK4, rfl⟩
    have h5 := h4.turn hg' hr'
    have p0 := h5.cell 0
    have p1 := h5.cell 1
    have p2 := h5.cell 2
    have p3 := h5.cell 3
    simp at p0 p1 p2 p3
    refine ⟨by simp, .inl ⟨_, _, rfl, run_takeDeferred hK4, ?_⟩⟩
    refine ⟨.agg (cnts ys), by simp [results, Try.results12, go_sem, p0, p1, p2, p3, cnts], rfl, ?_⟩
    exact hb4.trans ((Below.refl _ _).grown hg' hb4.size (fun k e => by cases e; omega))
  case stop =>
    rintro D k pre W hD hpre h hK
    exact h.elim

end Go.Proofs.Ytpjmmjkgcoongaa
