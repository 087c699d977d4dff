/-
  The regions of EventRight and EventEach in which an event of a row is done, what comes of it laid into a box: whatever the order. Conditions: those that each theorem names.
-/
import Derived.Test.YtoiegffnmjlkdaaEvRegKit
namespace Go.Proofs.Ytoiegffnmjlkdaa
open Go.RowKit Go.Shelf

abbrev drDs : List Nat := [6, 26, 27, 28, 29, 30, 31]

/-- What holds behind any operations of the region that have come up. -/
structure DRI (a0 : Act) (W0 : World) (A : Option Addr) (n c : Nat) (fl dr nw : Int) (tg : Bool) (b off m cl j : Nat) (e : Ev) (N : Nat) (Ls : List Bx) (fl2 dr2 nw2 : Int) (tg2 : Bool) (L : Nat → Bool) (a : Act) (w : World) : Prop where
  agree : Agree drDs a0 a
  bel : Below W0.heap.size W0 w
  x0 : L 0 = true → a.eval (.tmp 26) = .agg #[.slice A n c, .int .i64 fl, .int .i64 dr, .int .i64 nw, .bool tg]
  x1 : L 1 = true → a.eval (.tmp 27) = .slice (some ⟨b, off, none⟩) m cl
  x2 : L 2 = true → a.eval (.tmp 28) = .int .i64 (j : Int)
  x3 : L 3 = true → a.eval (.tmp 29) = .pointer (some ⟨b, off + j * 3, none⟩)
  x4 : L 4 = true → a.eval (.tmp 30) = .agg #[.int .u8 e.kind, .int .i64 e.a, .int .i64 e.b]
  s5 : L 5 = true → ∃ A' c', RdX w w.heap.size A' N Ls ∧ a.eval (.tmp 31) = .agg #[.slice A' N c', .int .i64 fl2, .int .i64 dr2, .int .i64 nw2, .bool tg2] ∧ (L 7 = true → ∃ g, W0.heap.size ≤ g ∧ a.eval (.tmp 6) = .pointer (some ⟨g, 0, none⟩) ∧ Whole w g 24 #[.slice A' N c', .int .i64 fl2, .int .i64 dr2, .int .i64 nw2, .bool tg2])
  q6 : L 6 = true → L 7 = false → ∃ g, W0.heap.size ≤ g ∧ a.eval (.tmp 6) = .pointer (some ⟨g, 0, none⟩) ∧ Whole w g 24 #[.slice none 0 0, .int .i64 0, .int .i64 0, .int .i64 0, .bool false]

set_option maxHeartbeats 2000000 in
theorem dr_region {ops : Array Oper} {Q : Exit → Act → World → Prop} {id : Nat} (hsize : ops.size = 8) (hlow : lowOnly ops = true)
    {t0 : TypeId} {t1 : TypeId} {t2 : TypeId} {t3 : TypeId} {t4 : TypeId} {t5 : TypeId} {t6 : TypeId} {t7 : TypeId}
    (o0 : At ops 0 (some 26) (.load 24 (.tmp 2)) t0 [])
    (o1 : At ops 1 (some 27) (.move (.tmp 1)) t1 [])
    (o2 : At ops 2 (some 28) (.move (.tmp 5)) t2 [])
    (o3 : At ops 3 (some 29) (.indexAddr 27 (.tmp 27) (.tmp 28)) t3 [1, 2])
    (o4 : At ops 4 (some 30) (.load 26 (.tmp 29)) t4 [3])
    (o5 : At ops 5 (some 31) (.call { callee := .value (.func 10), args := #[.tmp 26, .tmp 30], argTypes := #[24, 26] }) t5 [0, 4])
    (o6 : At ops 6 (some 6) (.alloc 24) t6 [])
    (o7 : At ops 7 none (.store 24 (.tmp 6) (.tmp 31)) t7 [5, 6])
    (a0 : Act) (W0 : World) (A : Option Addr) (n c : Nat) (fl dr nw : Int) (tg : Bool) (b off m cl j : Nat) (e : Ev) (N : Nat) (Ls : List Bx) (fl2 dr2 nw2 : Int) (tg2 : Bool) (g2 : Nat) (hds : ∀ d ∈ drDs, d < a0.tmps.size)
    (hc : a0.eval (.tmp 2) = .pointer (some ⟨g2, 0, none⟩)) (hli : a0.eval (.tmp 1) = .slice (some ⟨b, off, none⟩) m cl) (hi0 : a0.eval (.tmp 5) = .int .i64 (j : Int))
    (hC : Whole W0 g2 24 #[.slice A n c, .int .i64 fl, .int .i64 dr, .int .i64 nw, .bool tg]) (hE : EvB W0 b (off + j * 3) e) (hj : (j : Int) < (m : Int))
    (hdo : ∀ W, Below W0.heap.size W0 W → Calls Try.prog 10 #[.agg #[.slice A n c, .int .i64 fl, .int .i64 dr, .int .i64 nw, .bool tg], .agg #[.int .u8 e.kind, .int .i64 e.a, .int .i64 e.b]] W fun e w' => ∃ A' c', e = .returned (.agg #[.slice A' N c', .int .i64 fl2, .int .i64 dr2, .int .i64 nw2, .bool tg2]) ∧ RdX w' w'.heap.size A' N Ls ∧ Below W.heap.size W w')
    (fin : ∀ (σ : Nat → Value) W A' c' g, σ 6 = .pointer (some ⟨g, 0, none⟩) → W0.heap.size ≤ g → RdX W W.heap.size A' N Ls → Whole W g 24 #[.slice A' N c', .int .i64 fl2, .int .i64 dr2, .int .i64 nw2, .bool tg2] → Below W0.heap.size W0 W → Q .normal (lay σ drDs a0) W) :
    (Code.region id ops true).wp Try.prog Q a0 W0 := by
  refine region_clo (by kernel_rfl) hlow (fun L a w => DRI a0 W0 A n c fl dr nw tg b off m cl j e N Ls fl2 dr2 nw2 tg2 L a w) ?_ ?_ ?_
  · exact ⟨Agree.refl _ _, (Below.refl _ _).drew, by simp, by simp, by simp, by simp, by simp, by simp, by simp⟩
  · rintro i o L a w ho hi hclo hall J
    have hlt : i < 8 := by rw [← hsize]; exact (Array.getElem?_eq_some_iff.1 ho).1
    have hz : ∀ d ∈ drDs, d < a.tmps.size := fun d hd => by rw [J.agree.size]; exact hds d hd
    rcases (by omega : i = 0 ∨ i = 1 ∨ i = 2 ∨ i = 3 ∨ i = 4 ∨ i = 5 ∨ i = 6 ∨ i = 7) with rfl | rfl | rfl | rfl | rfl | rfl | rfl | rfl
    · have hd := o0.needs ho hall
      refine o0.run fun _ _ => opF_loadC ((J.agree.eval (by decide)).trans hc) (hC.under J.bel) ⟨J.agree.put (by decide) _, ?_, ?_, ?_, ?_, ?_, ?_, ?_, ?_⟩
      · simpa [eval_old] using J.bel
      · intro _; exact eval_new (hz _ (by decide)) _
      · simpa [eval_old] using J.x1
      · simpa [eval_old] using J.x2
      · simpa [eval_old] using J.x3
      · simpa [eval_old] using J.x4
      · simpa [eval_old] using J.s5
      · simpa [eval_old] using J.q6
    · have hd := o1.needs ho hall
      refine o1.run fun _ _ => opF_move ((J.agree.eval (by decide)).trans hli) ⟨J.agree.put (by decide) _, ?_, ?_, ?_, ?_, ?_, ?_, ?_, ?_⟩
      · simpa [eval_old] using J.bel
      · simpa [eval_old] using J.x0
      · intro _; exact eval_new (hz _ (by decide)) _
      · simpa [eval_old] using J.x2
      · simpa [eval_old] using J.x3
      · simpa [eval_old] using J.x4
      · simpa [eval_old] using J.s5
      · simpa [eval_old] using J.q6
    · have hd := o2.needs ho hall
      refine o2.run fun _ _ => opF_move ((J.agree.eval (by decide)).trans hi0) ⟨J.agree.put (by decide) _, ?_, ?_, ?_, ?_, ?_, ?_, ?_, ?_⟩
      · simpa [eval_old] using J.bel
      · simpa [eval_old] using J.x0
      · simpa [eval_old] using J.x1
      · intro _; exact eval_new (hz _ (by decide)) _
      · simpa [eval_old] using J.x3
      · simpa [eval_old] using J.x4
      · simpa [eval_old] using J.s5
      · simpa [eval_old] using J.q6
    · have hd := o3.needs ho hall
      refine o3.run fun _ _ => opF_idxE (J.x1 (hd 1 (by simp))) (J.x2 (hd 2 (by simp))) hj ⟨J.agree.put (by decide) _, ?_, ?_, ?_, ?_, ?_, ?_, ?_, ?_⟩
      · simpa [eval_old] using J.bel
      · simpa [eval_old] using J.x0
      · simpa [eval_old] using J.x1
      · simpa [eval_old] using J.x2
      · intro _; exact eval_new (hz _ (by decide)) _
      · simpa [eval_old] using J.x4
      · simpa [eval_old] using J.s5
      · simpa [eval_old] using J.q6
    · have hd := o4.needs ho hall
      refine o4.run fun _ _ => opF_loadEv (J.x3 (hd 3 (by simp))) (hE.under J.bel).2 ⟨J.agree.put (by decide) _, ?_, ?_, ?_, ?_, ?_, ?_, ?_, ?_⟩
      · simpa [eval_old] using J.bel
      · simpa [eval_old] using J.x0
      · simpa [eval_old] using J.x1
      · simpa [eval_old] using J.x2
      · simpa [eval_old] using J.x3
      · intro _; exact eval_new (hz _ (by decide)) _
      · simpa [eval_old] using J.s5
      · simpa [eval_old] using J.q6
    · have hd := o5.needs ho hall
      have n7 := o7.not hclo (j := 5) (by simp) hi
      refine o5.run fun _ _ => opF_evDo (J.x0 (hd 0 (by simp))) (J.x4 (hd 4 (by simp))) (hdo w J.bel) ?_
      rintro e w' ⟨A', c', rfl, r2, b2⟩
      refine ⟨_, rfl, J.agree.put (by decide) _, ?_, ?_, ?_, ?_, ?_, ?_, ?_, ?_⟩
      · exact J.bel.trans (b2.mono J.bel.size)
      · simpa [eval_old] using J.x0
      · simpa [eval_old] using J.x1
      · simpa [eval_old] using J.x2
      · simpa [eval_old] using J.x3
      · simpa [eval_old] using J.x4
      · intro _
        exact ⟨A', c', r2, eval_new (hz _ (by decide)) _, by simp [n7]⟩
      · intro h6 h7
        obtain ⟨g, g1, g2, g3⟩ := J.q6 (by simpa using h6) (by simpa using h7)
        exact ⟨g, g1, by simpa [eval_old] using g2, g3.under b2⟩
    · have n7 := o7.not hclo (j := 6) (by simp) hi
      have bA := (Below.refl w.heap.size w).alloc (Nat.le_refl _) (.cells #[.slice none 0 0, .int .i64 0, .int .i64 0, .int .i64 0, .bool false] 24)
      refine o6.run fun _ _ => opF_allocC ⟨J.agree.put (by decide) _, ?_, ?_, ?_, ?_, ?_, ?_, ?_, ?_⟩
      · exact J.bel.trans (bA.mono J.bel.size)
      · simpa [eval_old] using J.x0
      · simpa [eval_old] using J.x1
      · simpa [eval_old] using J.x2
      · simpa [eval_old] using J.x3
      · simpa [eval_old] using J.x4
      · intro h5
        obtain ⟨A', c', rd, e33, e11⟩ := J.s5 (by simpa using h5)
        exact ⟨A', c', rd.up bA, by simpa [eval_old] using e33, by simp [n7]⟩
      · intro _ _
        exact ⟨w.heap.size, J.bel.size, eval_new (hz _ (by decide)) _, Whole.new w _ _⟩
    · have hd := o7.needs ho hall
      obtain ⟨A', c', rd, e33, e11⟩ := J.s5 (hd 5 (by simp))
      obtain ⟨g, g1, g3, g4⟩ := J.q6 (hd 6 (by simp)) hi
      have kp := kept5 g4 (.slice A' N c') (.int .i64 fl2) (.int .i64 dr2) (.int .i64 nw2) (.bool tg2)
      refine o7.run fun _ _ => opF_storeC g3 e33 g4 ⟨J.agree, ?_, ?_, ?_, ?_, ?_, ?_, ?_, ?_⟩
      · exact kp.2.bel _ _ g1 J.bel
      · simpa using J.x0
      · simpa using J.x1
      · simpa using J.x2
      · simpa using J.x3
      · simpa using J.x4
      · intro _
        exact ⟨A', c', kp.2.rows _ _ _ rd, e33, fun _ => ⟨g, g1, g3, kp.1⟩⟩
      · intro _ h; simp at h
  · intro L a w hall J
    obtain ⟨A', c', rd, _, e11⟩ := J.s5 (hall 5 (by omega))
    obtain ⟨g, g1, g3, g4⟩ := e11 (hall 7 (by omega))
    rw [J.agree.lay hds]
    exact fin (fun d => a.eval (.tmp d)) w A' c' g g3 g1 rd g4 J.bel

abbrev deDs : List Nat := [7, 28, 29, 30, 31, 32, 33]

/-- What holds behind any operations of the region that have come up. -/
structure DEI (a0 : Act) (W0 : World) (A : Option Addr) (n c : Nat) (fl dr nw : Int) (tg : Bool) (b off m cl j : Nat) (e : Ev) (N : Nat) (Ls : List Bx) (fl2 dr2 nw2 : Int) (tg2 : Bool) (L : Nat → Bool) (a : Act) (w : World) : Prop where
  agree : Agree deDs a0 a
  bel : Below W0.heap.size W0 w
  x0 : L 0 = true → a.eval (.tmp 28) = .agg #[.slice A n c, .int .i64 fl, .int .i64 dr, .int .i64 nw, .bool tg]
  x1 : L 1 = true → a.eval (.tmp 29) = .slice (some ⟨b, off, none⟩) m cl
  x2 : L 2 = true → a.eval (.tmp 30) = .int .i64 (j : Int)
  x3 : L 3 = true → a.eval (.tmp 31) = .pointer (some ⟨b, off + j * 3, none⟩)
  x4 : L 4 = true → a.eval (.tmp 32) = .agg #[.int .u8 e.kind, .int .i64 e.a, .int .i64 e.b]
  s5 : L 5 = true → ∃ A' c', RdX w w.heap.size A' N Ls ∧ a.eval (.tmp 33) = .agg #[.slice A' N c', .int .i64 fl2, .int .i64 dr2, .int .i64 nw2, .bool tg2] ∧ (L 7 = true → ∃ g, W0.heap.size ≤ g ∧ a.eval (.tmp 7) = .pointer (some ⟨g, 0, none⟩) ∧ Whole w g 24 #[.slice A' N c', .int .i64 fl2, .int .i64 dr2, .int .i64 nw2, .bool tg2])
  q6 : L 6 = true → L 7 = false → ∃ g, W0.heap.size ≤ g ∧ a.eval (.tmp 7) = .pointer (some ⟨g, 0, none⟩) ∧ Whole w g 24 #[.slice none 0 0, .int .i64 0, .int .i64 0, .int .i64 0, .bool false]

set_option maxHeartbeats 2000000 in
theorem de_region {ops : Array Oper} {Q : Exit → Act → World → Prop} {id : Nat} (hsize : ops.size = 8) (hlow : lowOnly ops = true)
    {t0 : TypeId} {t1 : TypeId} {t2 : TypeId} {t3 : TypeId} {t4 : TypeId} {t5 : TypeId} {t6 : TypeId} {t7 : TypeId}
    (o0 : At ops 0 (some 28) (.load 24 (.tmp 2)) t0 [])
    (o1 : At ops 1 (some 29) (.move (.tmp 1)) t1 [])
    (o2 : At ops 2 (some 30) (.move (.tmp 6)) t2 [])
    (o3 : At ops 3 (some 31) (.indexAddr 27 (.tmp 29) (.tmp 30)) t3 [1, 2])
    (o4 : At ops 4 (some 32) (.load 26 (.tmp 31)) t4 [3])
    (o5 : At ops 5 (some 33) (.call { callee := .value (.func 10), args := #[.tmp 28, .tmp 32], argTypes := #[24, 26] }) t5 [0, 4])
    (o6 : At ops 6 (some 7) (.alloc 24) t6 [])
    (o7 : At ops 7 none (.store 24 (.tmp 7) (.tmp 33)) t7 [5, 6])
    (a0 : Act) (W0 : World) (A : Option Addr) (n c : Nat) (fl dr nw : Int) (tg : Bool) (b off m cl j : Nat) (e : Ev) (N : Nat) (Ls : List Bx) (fl2 dr2 nw2 : Int) (tg2 : Bool) (g2 : Nat) (hds : ∀ d ∈ deDs, d < a0.tmps.size)
    (hc : a0.eval (.tmp 2) = .pointer (some ⟨g2, 0, none⟩)) (hli : a0.eval (.tmp 1) = .slice (some ⟨b, off, none⟩) m cl) (hi0 : a0.eval (.tmp 6) = .int .i64 (j : Int))
    (hC : Whole W0 g2 24 #[.slice A n c, .int .i64 fl, .int .i64 dr, .int .i64 nw, .bool tg]) (hE : EvB W0 b (off + j * 3) e) (hj : (j : Int) < (m : Int))
    (hdo : ∀ W, Below W0.heap.size W0 W → Calls Try.prog 10 #[.agg #[.slice A n c, .int .i64 fl, .int .i64 dr, .int .i64 nw, .bool tg], .agg #[.int .u8 e.kind, .int .i64 e.a, .int .i64 e.b]] W fun e w' => ∃ A' c', e = .returned (.agg #[.slice A' N c', .int .i64 fl2, .int .i64 dr2, .int .i64 nw2, .bool tg2]) ∧ RdX w' w'.heap.size A' N Ls ∧ Below W.heap.size W w')
    (fin : ∀ (σ : Nat → Value) W A' c' g, σ 7 = .pointer (some ⟨g, 0, none⟩) → W0.heap.size ≤ g → RdX W W.heap.size A' N Ls → Whole W g 24 #[.slice A' N c', .int .i64 fl2, .int .i64 dr2, .int .i64 nw2, .bool tg2] → Below W0.heap.size W0 W → Q .normal (lay σ deDs a0) W) :
    (Code.region id ops true).wp Try.prog Q a0 W0 := by
  refine region_clo (by kernel_rfl) hlow (fun L a w => DEI a0 W0 A n c fl dr nw tg b off m cl j e N Ls fl2 dr2 nw2 tg2 L a w) ?_ ?_ ?_
  · exact ⟨Agree.refl _ _, (Below.refl _ _).drew, by simp, by simp, by simp, by simp, by simp, by simp, by simp⟩
  · rintro i o L a w ho hi hclo hall J
    have hlt : i < 8 := by rw [← hsize]; exact (Array.getElem?_eq_some_iff.1 ho).1
    have hz : ∀ d ∈ deDs, d < a.tmps.size := fun d hd => by rw [J.agree.size]; exact hds d hd
    rcases (by omega : i = 0 ∨ i = 1 ∨ i = 2 ∨ i = 3 ∨ i = 4 ∨ i = 5 ∨ i = 6 ∨ i = 7) with rfl | rfl | rfl | rfl | rfl | rfl | rfl | rfl
    · have hd := o0.needs ho hall
      refine o0.run fun _ _ => opF_loadC ((J.agree.eval (by decide)).trans hc) (hC.under J.bel) ⟨J.agree.put (by decide) _, ?_, ?_, ?_, ?_, ?_, ?_, ?_, ?_⟩
      · simpa [eval_old] using J.bel
      · intro _; exact eval_new (hz _ (by decide)) _
      · simpa [eval_old] using J.x1
      · simpa [eval_old] using J.x2
      · simpa [eval_old] using J.x3
      · simpa [eval_old] using J.x4
      · simpa [eval_old] using J.s5
      · simpa [eval_old] using J.q6
    · have hd := o1.needs ho hall
      refine o1.run fun _ _ => opF_move ((J.agree.eval (by decide)).trans hli) ⟨J.agree.put (by decide) _, ?_, ?_, ?_, ?_, ?_, ?_, ?_, ?_⟩
      · simpa [eval_old] using J.bel
      · simpa [eval_old] using J.x0
      · intro _; exact eval_new (hz _ (by decide)) _
      · simpa [eval_old] using J.x2
      · simpa [eval_old] using J.x3
      · simpa [eval_old] using J.x4
      · simpa [eval_old] using J.s5
      · simpa [eval_old] using J.q6
    · have hd := o2.needs ho hall
      refine o2.run fun _ _ => opF_move ((J.agree.eval (by decide)).trans hi0) ⟨J.agree.put (by decide) _, ?_, ?_, ?_, ?_, ?_, ?_, ?_, ?_⟩
      · simpa [eval_old] using J.bel
      · simpa [eval_old] using J.x0
      · simpa [eval_old] using J.x1
      · intro _; exact eval_new (hz _ (by decide)) _
      · simpa [eval_old] using J.x3
      · simpa [eval_old] using J.x4
      · simpa [eval_old] using J.s5
      · simpa [eval_old] using J.q6
    · have hd := o3.needs ho hall
      refine o3.run fun _ _ => opF_idxE (J.x1 (hd 1 (by simp))) (J.x2 (hd 2 (by simp))) hj ⟨J.agree.put (by decide) _, ?_, ?_, ?_, ?_, ?_, ?_, ?_, ?_⟩
      · simpa [eval_old] using J.bel
      · simpa [eval_old] using J.x0
      · simpa [eval_old] using J.x1
      · simpa [eval_old] using J.x2
      · intro _; exact eval_new (hz _ (by decide)) _
      · simpa [eval_old] using J.x4
      · simpa [eval_old] using J.s5
      · simpa [eval_old] using J.q6
    · have hd := o4.needs ho hall
      refine o4.run fun _ _ => opF_loadEv (J.x3 (hd 3 (by simp))) (hE.under J.bel).2 ⟨J.agree.put (by decide) _, ?_, ?_, ?_, ?_, ?_, ?_, ?_, ?_⟩
      · simpa [eval_old] using J.bel
      · simpa [eval_old] using J.x0
      · simpa [eval_old] using J.x1
      · simpa [eval_old] using J.x2
      · simpa [eval_old] using J.x3
      · intro _; exact eval_new (hz _ (by decide)) _
      · simpa [eval_old] using J.s5
      · simpa [eval_old] using J.q6
    · have hd := o5.needs ho hall
      have n7 := o7.not hclo (j := 5) (by simp) hi
      refine o5.run fun _ _ => opF_evDo (J.x0 (hd 0 (by simp))) (J.x4 (hd 4 (by simp))) (hdo w J.bel) ?_
      rintro e w' ⟨A', c', rfl, r2, b2⟩
      refine ⟨_, rfl, J.agree.put (by decide) _, ?_, ?_, ?_, ?_, ?_, ?_, ?_, ?_⟩
      · exact J.bel.trans (b2.mono J.bel.size)
      · simpa [eval_old] using J.x0
      · simpa [eval_old] using J.x1
      · simpa [eval_old] using J.x2
      · simpa [eval_old] using J.x3
      · simpa [eval_old] using J.x4
      · intro _
        exact ⟨A', c', r2, eval_new (hz _ (by decide)) _, by simp [n7]⟩
      · intro h6 h7
        obtain ⟨g, g1, g2, g3⟩ := J.q6 (by simpa using h6) (by simpa using h7)
        exact ⟨g, g1, by simpa [eval_old] using g2, g3.under b2⟩
    · have n7 := o7.not hclo (j := 6) (by simp) hi
      have bA := (Below.refl w.heap.size w).alloc (Nat.le_refl _) (.cells #[.slice none 0 0, .int .i64 0, .int .i64 0, .int .i64 0, .bool false] 24)
      refine o6.run fun _ _ => opF_allocC ⟨J.agree.put (by decide) _, ?_, ?_, ?_, ?_, ?_, ?_, ?_, ?_⟩
      · exact J.bel.trans (bA.mono J.bel.size)
      · simpa [eval_old] using J.x0
      · simpa [eval_old] using J.x1
      · simpa [eval_old] using J.x2
      · simpa [eval_old] using J.x3
      · simpa [eval_old] using J.x4
      · intro h5
        obtain ⟨A', c', rd, e33, e11⟩ := J.s5 (by simpa using h5)
        exact ⟨A', c', rd.up bA, by simpa [eval_old] using e33, by simp [n7]⟩
      · intro _ _
        exact ⟨w.heap.size, J.bel.size, eval_new (hz _ (by decide)) _, Whole.new w _ _⟩
    · have hd := o7.needs ho hall
      obtain ⟨A', c', rd, e33, e11⟩ := J.s5 (hd 5 (by simp))
      obtain ⟨g, g1, g3, g4⟩ := J.q6 (hd 6 (by simp)) hi
      have kp := kept5 g4 (.slice A' N c') (.int .i64 fl2) (.int .i64 dr2) (.int .i64 nw2) (.bool tg2)
      refine o7.run fun _ _ => opF_storeC g3 e33 g4 ⟨J.agree, ?_, ?_, ?_, ?_, ?_, ?_, ?_, ?_⟩
      · exact kp.2.bel _ _ g1 J.bel
      · simpa using J.x0
      · simpa using J.x1
      · simpa using J.x2
      · simpa using J.x3
      · simpa using J.x4
      · intro _
        exact ⟨A', c', kp.2.rows _ _ _ rd, e33, fun _ => ⟨g, g1, g3, kp.1⟩⟩
      · intro _ h; simp at h
  · intro L a w hall J
    obtain ⟨A', c', rd, _, e11⟩ := J.s5 (hall 5 (by omega))
    obtain ⟨g, g1, g3, g4⟩ := e11 (hall 7 (by omega))
    rw [J.agree.lay hds]
    exact fin (fun d => a.eval (.tmp d)) w A' c' g g3 g1 rd g4 J.bel

end Go.Proofs.Ytoiegffnmjlkdaa
