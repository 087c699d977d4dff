/-
  The walk of 'Next' of package page: the id behind which it goes on. Conditions: those that each theorem names.
-/
import Derived.Test.YtdoaakohgmohkaaPgWithin
namespace Go.Proofs.Ytdoaakohgmohkaa
open Go.RowKit Go.Shelf
attribute [local go_sem] Oper.semAt_some

/-- A row of what is shown in a block of its own. -/
def SnInN (W : World) (g : Nat) (x : Sn) : Prop := Whole W g 35 #[.int .i64 x.id, .int .i64 x.tok, .int .i64 x.ver, .int .i64 x.zone, .bool x.on, .bool x.well, .bool x.inn]

/-- What holds between two rounds. -/
structure NxAt (w : World) (b : Int) (pre : List Sn) (W : World) : Prop where
  bi : Whole W w.heap.size 3 #[.int .i64 (nextOf pre b)]
  below : Below w.heap.size w W
  sz : w.heap.size + 1 + 1 + 1 ≤ W.heap.size
set_option maxRecDepth 100000 in
theorem nxAt_own (w : World) (b : Int) (B : Nat) (hB : w.heap.size ≤ B) : OwnFrom B (NxAt w b) := by
  intro pre W1 W2 row h hg hr
  have hr' : ∀ r, row = some r → ∃ o : Obj, W1.heap[r]? = some o ∧ o.isCells = false := fun r e => (hr r e).2
  exact ⟨h.bi.turn hg hr', h.below.grown hg h.below.size (fun k e => by have := (hr k e).1; omega), Nat.le_trans h.sz hg.size⟩
set_option maxRecDepth 100000 in
theorem NxAt.under {w : World} {b : Int} {pre : List Sn} {W W' : World} (h : NxAt w b pre W) (hb : Below W.heap.size W W') : NxAt w b pre W' := ⟨h.bi.under hb, h.below.trans (hb.mono h.below.size), Nat.le_trans h.sz hb.size⟩

def IntPostN (i : Int) (w : World) (e : Ending) (w' : World) : Prop := e = .returned (.int .i64 i) ∧ Below w.heap.size w w'

set_option maxRecDepth 100000 in
set_option maxHeartbeats 2000000 in
theorem next_any (A : Option Addr) (n c : Nat) (l : List Sn) (b : Int) (w : World) (hr : RdSn w w.heap.size A n l) (hn : n ≤ 1000) :
    Calls Try.prog 11 #[.slice A n c, .int .i64 b] w (IntPostN (nextOf l b) w) := by
  have HR := Lib.hid hr
  clear hr
  refine (callsIn_wide (n := 6)).1 ?_
  refine callsIn_of_wp_marks Try.func11 rfl trivial ?_ rfl
  simp only [Try.ntmps11, List.size_toArray, List.length_cons, List.length_nil, Nat.reduceAdd, Nat.reduceSub, Array.replicate_succ, Array.replicate_zero, List.push_toArray, List.append_toArray, List.nil_append, List.cons_append]
  gi_wp2_with (refine ⟨trivial, ?_⟩; gi_at_call 21; refine (callsIn_wide.2 (within_any _ _ _ _)).mono ?_; rintro e w2 ⟨rfl, rfl⟩)
  obtain ⟨W0, hW0⟩ : ∃ W0, ((w.alloc (.cells #[.int .i64 b] 3)).alloc (.cells #[.slice A n c] 28)).alloc (.cells #[.slice (some ⟨w.heap.size + 1, 0, none⟩) 1 1] 27) = W0 := ⟨_, rfl⟩
  rw [hW0]
  have hs0 : W0.heap.size = w.heap.size + 1 + 1 + 1 := by rw [← hW0]; simp
  have hb0 : Below w.heap.size w W0 := by rw [← hW0]; exact (((Below.refl _ w).alloc (Nat.le_refl _) _).alloc (by simp) _).alloc (by simp; omega) _
  have hi0 : Whole W0 w.heap.size 3 #[.int .i64 b] := by rw [← hW0]; exact ((Whole.new w 3 #[.int .i64 b]).alloc _).alloc _
  have hl0 : Whole W0 (w.heap.size + 1) 28 #[.slice A n c] := by
    rw [← hW0]; have := (Whole.new (w.alloc (.cells #[.int .i64 b] 3)) 28 #[.slice A n c]).alloc (.cells #[.slice (some ⟨w.heap.size + 1, 0, none⟩) 1 1] 27); rwa [World.size_alloc] at this
  have hp0 : Whole W0 (w.heap.size + 1 + 1) 27 #[.slice (some ⟨w.heap.size + 1, 0, none⟩) 1 1] := by
    rw [← hW0]; have := Whole.new ((w.alloc (.cells #[.int .i64 b] 3)).alloc (.cells #[.slice A n c] 28)) 27 #[.slice (some ⟨w.heap.size + 1, 0, none⟩) 1 1]; rw [World.size_alloc, World.size_alloc] at this; exact this
  clear hW0
  obtain ⟨G, hG⟩ : ∃ G : Nat → Prop, G = fun k => k ≠ w.heap.size ∧ k < w.heap.size + 1 + 1 + 1 := ⟨_, rfl⟩
  have hGl : ∀ k, G k → k < W0.heap.size := fun k hk => by rw [hG] at hk; rw [hs0]; exact hk.2
  have hGe : ¬ G w.heap.size := fun hk => by rw [hG] at hk; exact hk.1 rfl
  have hGp : G (w.heap.size + 1 + 1) := by rw [hG]; exact ⟨by omega, by omega⟩
  have hrd : RdP W0 G (some ⟨w.heap.size + 1, 0, none⟩) 1 [⟨A, n, c, l⟩] := by
    refine ⟨rfl, fun _ => ⟨w.heap.size + 1, 0, rfl, by rw [hG]; exact ⟨by omega, by omega⟩, ?_⟩, ?_⟩
    · rintro (_ | j) x hx
      · simp only [List.getElem?_cons_zero, Option.some.injEq] at hx
        subst hx
        exact hl0.cell 0
      · simp at hx
    · intro x hx
      simp only [List.mem_cons, List.not_mem_nil, or_false] at hx
      subst hx
      exact RdG.of (HR.out.below hb0) (fun k hk => by rw [hG]; exact ⟨by omega, by omega⟩)
  have HGl := Lib.hid hGl
  have HGe := Lib.hid hGe
  clear hG hGl hGe
  refine wpIn_range_mem (by omega) (gf := 27) (lb := #[.pointer (some ⟨w.heap.size + 1 + 1, 0, none⟩)]) rfl (enters_of Try.func27 (by kernel_rfl) rfl) (encs := snEnc)
    (within_mem 5 (w.heap.size + 1 + 1) G (some ⟨w.heap.size + 1, 0, none⟩) 1 1 [⟨A, n, c, l⟩] (by omega) (by simpa using hn) W0 HGl.out hGp hp0 hrd)
    (fun h k => kpG_t h k) (kpG_b HGl.out) (Below.refl _ _) (fun _ => rfl)
    (NxAt w b) (fun _ _ => False)
    (nxAt_own _ _ _ (by omega)) (fun _ _ _ _ h => h.elim) ⟨hi0, hb0, by omega⟩
    (fun pre s a' W => ∃ g, a' = { tmps := #[.slice A n c, .int .i64 b, undef, .pointer (some ⟨w.heap.size, 0, none⟩), .int .i64 0, .pointer (some ⟨g, 0, none⟩), .slice A n c, .slice (some ⟨w.heap.size + 1, 0, none⟩) 1 1, .func (.func 27) #[] #[.pointer (some ⟨w.heap.size + 1 + 1, 0, none⟩)], .agg #[.int .i64 s.id, .int .i64 s.tok, .int .i64 s.ver, .int .i64 s.zone, .bool s.on, .bool s.well, .bool s.inn], undef, undef, undef, undef, undef], defers := [] } ∧ SnInN W g s)
    (fun a' p X Y row hs hg hr => by obtain ⟨g, e, hb⟩ := hs; exact ⟨g, e, Whole.turn hb hg (fun r e => (hr r e).2)⟩) ?assign ?body ?done ?stop
  case assign =>
    rintro lp pre s W K hI hOk hK
    have HI := Lib.hid hI
    clear hOk hI
    unfold snEnc Sn.vs
    gi_wp2
    have hbu : Below W.heap.size W (W.alloc (.cells #[.int .i64 s.id, .int .i64 s.tok, .int .i64 s.ver, .int .i64 s.zone, .bool s.on, .bool s.well, .bool s.inn] 35)) := (Below.refl _ _).alloc (Nat.le_refl _) _
    exact hK _ _ (keepsFrom_alloc _ _ _) (kpG_under (fun k hk => Nat.lt_of_lt_of_le (HGl.out k hk) (by have := HI.out.sz; omega)) hbu) (HI.out.under hbu) ⟨_, rfl, Whole.new _ _ _⟩
  case body =>
    rintro lp pre s a' W hlp hI ⟨g, rfl, hsn⟩
    have i0 := hI.bi.cell 0
    have z0 := hI.bi.frozen 0
    have s0 := hsn.cell 0
    simp only [List.getElem?_toArray, List.getElem?_cons_zero] at i0 s0
    have HI := Lib.hid hI
    clear hI hsn
    gi_wp2_with fail
    · have e : nextOf (pre ++ [s]) b = s.id := by rw [nextOf_append]; exact Int.max_eq_right (by omega)
      refine ⟨(KeepsOthers.setCell _ _ _).from _, kpG_set _ _ HGe.out _, ?_, HI.out.below.setCell (p := ⟨w.heap.size, 0, none⟩) (Nat.le_refl _) _, by have := HI.out.sz; simp; omega⟩
      rw [e]; exact HI.out.bi.set 0 _
    · have e : nextOf (pre ++ [s]) b = nextOf pre b := by rw [nextOf_append]; exact Int.max_eq_left (by omega)
      refine ⟨(KeepsOthers.setCell _ _ _).from _, kpG_set _ _ HGe.out _, ?_, HI.out.below.setCell (p := ⟨w.heap.size, 0, none⟩) (Nat.le_refl _) _, by have := HI.out.sz; simp; omega⟩
      rw [e]; exact HI.out.bi.set 0 _
  case done =>
    rintro D ys W hD rfl hI hK
    have i0 := hI.bi.cell 0
    simp only [List.getElem?_toArray, List.getElem?_cons_zero] at i0
    have HI := Lib.hid hI
    have HK := Lib.hid hK
    clear hI hK
    gi_wp2_with fail
    have hg' := grownBy_putObj' W D (.deferred none)
    have hr' : ∀ r, (some D) = some r → ∃ o : Obj, W.heap[r]? = some o ∧ o.isCells = false := fun r e => by cases e; exact ⟨_, HK.out, rfl⟩
    refine ⟨by simp, .inl ⟨_, _, rfl, run_takeDeferred HK.out, ?_⟩⟩
    refine ⟨.int .i64 (nextOf (joinP [⟨A, n, c, l⟩]) b), by simp [results, Try.results11, go_sem], ?_, ?_⟩
    · unfold joinP; simp
    · exact HI.out.below.trans ((Below.refl _ _).grown hg' HI.out.below.size (fun k e => by cases e; omega))
  case stop => exact fun _ _ _ _ h => h.elim

end Go.Proofs.Ytdoaakohgmohkaa
