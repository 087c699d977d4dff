/-
  The region of EventRight in which a box of each of two rows is laid into a box of its own: whatever the order. Conditions: those that each theorem names.
-/
import Derived.Test.YtoiegffnmjlkdaaCdRegKit
namespace Go.Proofs.Ytoiegffnmjlkdaa
open Go.RowKit Go.Shelf

abbrev erDs : List Nat := [8, 9, 76, 77, 78, 79, 80, 81, 82, 83, 84, 85]

/-- What holds behind any operations of the region that have come up. -/
structure ERI (a0 : Act) (W0 : World) (b off n c b2 off2 N cN j g2 g5 : Nat) (u y : Bx) (L : Nat → Bool) (a : Act) (w : World) : Prop where
  agree : Agree erDs a0 a
  bel : Below W0.heap.size W0 w
  x0 : L 0 = true → a.eval (.tmp 76) = .pointer (some ⟨g2, 0, none⟩)
  x1 : L 1 = true → a.eval (.tmp 77) = .slice (some ⟨b, off, none⟩) n c
  x2 : L 2 = true → a.eval (.tmp 78) = .int .i64 (j : Int)
  x3 : L 3 = true → a.eval (.tmp 79) = .pointer (some ⟨b, off + j * 11, none⟩)
  x4 : L 4 = true → a.eval (.tmp 80) = .agg #[.int .i64 u.id, .int .i64 u.tok, .int .i64 u.ver, .int .i64 u.zone, .bool u.tag, .bool u.on, .bool u.gone, .bool u.well, .int .u8 u.lb, .int .i64 u.unt, .int .i64 u.fen]
  x5 : L 5 = true → a.eval (.tmp 81) = .pointer (some ⟨g5, 0, none⟩)
  x6 : L 6 = true → a.eval (.tmp 82) = .slice (some ⟨b2, off2, none⟩) N cN
  x7 : L 7 = true → a.eval (.tmp 83) = .int .i64 (j : Int)
  x8 : L 8 = true → a.eval (.tmp 84) = .pointer (some ⟨b2, off2 + j * 11, none⟩)
  x9 : L 9 = true → a.eval (.tmp 85) = .agg #[.int .i64 y.id, .int .i64 y.tok, .int .i64 y.ver, .int .i64 y.zone, .bool y.tag, .bool y.on, .bool y.gone, .bool y.well, .int .u8 y.lb, .int .i64 y.unt, .int .i64 y.fen]
  qA : L 10 = true → ∃ g, W0.heap.size ≤ g ∧ a.eval (.tmp 8) = .pointer (some ⟨g, 0, none⟩) ∧ Whole w g 36 (if L 12 = true then #[.int .i64 u.id, .int .i64 u.tok, .int .i64 u.ver, .int .i64 u.zone, .bool u.tag, .bool u.on, .bool u.gone, .bool u.well, .int .u8 u.lb, .int .i64 u.unt, .int .i64 u.fen] else #[.int .i64 0, .int .i64 0, .int .i64 0, .int .i64 0, .bool false, .bool false, .bool false, .bool false, .int .u8 0, .int .i64 0, .int .i64 0])
  qB : L 11 = true → ∃ g, W0.heap.size ≤ g ∧ a.eval (.tmp 9) = .pointer (some ⟨g, 0, none⟩) ∧ Whole w g 36 (if L 13 = true then #[.int .i64 y.id, .int .i64 y.tok, .int .i64 y.ver, .int .i64 y.zone, .bool y.tag, .bool y.on, .bool y.gone, .bool y.well, .int .u8 y.lb, .int .i64 y.unt, .int .i64 y.fen] else #[.int .i64 0, .int .i64 0, .int .i64 0, .int .i64 0, .bool false, .bool false, .bool false, .bool false, .int .u8 0, .int .i64 0, .int .i64 0])
  qq : L 10 = true → L 11 = true → ∀ g g', a.eval (.tmp 8) = .pointer (some ⟨g, 0, none⟩) → a.eval (.tmp 9) = .pointer (some ⟨g', 0, none⟩) → g ≠ g'

set_option maxHeartbeats 4000000 in
theorem er_region {ops : Array Oper} {Q : Exit → Act → World → Prop} {id : Nat} (hsize : ops.size = 14) (hlow : lowOnly ops = true)
    {t0 : TypeId} {t1 : TypeId} {t2 : TypeId} {t3 : TypeId} {t4 : TypeId} {t5 : TypeId} {t6 : TypeId} {t7 : TypeId} {t8 : TypeId} {t9 : TypeId} {t10 : TypeId} {t11 : TypeId} {t12 : TypeId} {t13 : TypeId}
    (o0 : At ops 0 (some 76) (.fieldAddr 24 (.tmp 2) 0) t0 [])
    (o1 : At ops 1 (some 77) (.load 22 (.tmp 76)) t1 [0])
    (o2 : At ops 2 (some 78) (.move (.tmp 7)) t2 [])
    (o3 : At ops 3 (some 79) (.indexAddr 22 (.tmp 77) (.tmp 78)) t3 [1, 2])
    (o4 : At ops 4 (some 80) (.load 36 (.tmp 79)) t4 [3])
    (o5 : At ops 5 (some 81) (.fieldAddr 24 (.tmp 6) 0) t5 [])
    (o6 : At ops 6 (some 82) (.load 22 (.tmp 81)) t6 [5])
    (o7 : At ops 7 (some 83) (.move (.tmp 7)) t7 [])
    (o8 : At ops 8 (some 84) (.indexAddr 22 (.tmp 82) (.tmp 83)) t8 [6, 7])
    (o9 : At ops 9 (some 85) (.load 36 (.tmp 84)) t9 [8])
    (o10 : At ops 10 (some 8) (.alloc 36) t10 [])
    (o11 : At ops 11 (some 9) (.alloc 36) t11 [])
    (o12 : At ops 12 none (.store 36 (.tmp 8) (.tmp 80)) t12 [4, 10])
    (o13 : At ops 13 none (.store 36 (.tmp 9) (.tmp 85)) t13 [9, 11, 12])
    (a0 : Act) (W0 : World) (b off n c b2 off2 N cN j g2 g5 : Nat) (u y : Bx) (fl dr nw fl2 dr2 nw2 : Int) (tg tg2 : Bool) (hds : ∀ d ∈ erDs, d < a0.tmps.size)
    (h2 : a0.eval (.tmp 2) = .pointer (some ⟨g2, 0, none⟩)) (h5 : a0.eval (.tmp 6) = .pointer (some ⟨g5, 0, none⟩)) (h8 : a0.eval (.tmp 7) = .int .i64 (j : Int))
    (hC : Whole W0 g2 24 #[.slice (some ⟨b, off, none⟩) n c, .int .i64 fl, .int .i64 dr, .int .i64 nw, .bool tg]) (hD : Whole W0 g5 24 #[.slice (some ⟨b2, off2, none⟩) N cN, .int .i64 fl2, .int .i64 dr2, .int .i64 nw2, .bool tg2])
    (hu : BxAt W0 b (off + j * 11) u) (hy : BxAt W0 b2 (off2 + j * 11) y) (hbl : b < W0.heap.size) (hbl2 : b2 < W0.heap.size) (hj : (j : Int) < (n : Int)) (hjN : (j : Int) < (N : Int))
    (fin : ∀ (σ : Nat → Value) W g g', σ 8 = .pointer (some ⟨g, 0, none⟩) → σ 9 = .pointer (some ⟨g', 0, none⟩) → Whole W g 36 #[.int .i64 u.id, .int .i64 u.tok, .int .i64 u.ver, .int .i64 u.zone, .bool u.tag, .bool u.on, .bool u.gone, .bool u.well, .int .u8 u.lb, .int .i64 u.unt, .int .i64 u.fen] → Whole W g' 36 #[.int .i64 y.id, .int .i64 y.tok, .int .i64 y.ver, .int .i64 y.zone, .bool y.tag, .bool y.on, .bool y.gone, .bool y.well, .int .u8 y.lb, .int .i64 y.unt, .int .i64 y.fen] → Below W0.heap.size W0 W → Q .normal (lay σ erDs a0) W) :
    (Code.region id ops true).wp Try.prog Q a0 W0 := by
  refine region_clo (by kernel_rfl) hlow (fun L a w => ERI a0 W0 b off n c b2 off2 N cN j g2 g5 u y L a w) ?_ ?_ ?_
  · exact ⟨Agree.refl _ _, (Below.refl _ _).drew, by simp, by simp, by simp, by simp, by simp, by simp, by simp, by simp, by simp, by simp, by simp, by simp, by simp⟩
  · rintro i o L a w ho hi hclo hall J
    have hlt : i < 14 := by rw [← hsize]; exact (Array.getElem?_eq_some_iff.1 ho).1
    have hz : ∀ d ∈ erDs, d < a.tmps.size := fun d hd => by rw [J.agree.size]; exact hds d hd
    rcases (by omega : i = 0 ∨ i = 1 ∨ i = 2 ∨ i = 3 ∨ i = 4 ∨ i = 5 ∨ i = 6 ∨ i = 7 ∨ i = 8 ∨ i = 9 ∨ i = 10 ∨ i = 11 ∨ i = 12 ∨ i = 13) with rfl | rfl | rfl | rfl | rfl | rfl | rfl | rfl | rfl | rfl | rfl | rfl | rfl | rfl
    · have hd := o0.needs ho hall
      refine o0.run fun _ _ => opF_field0 ((J.agree.eval (by decide)).trans h2) ⟨J.agree.put (by decide) _, ?_, ?_, ?_, ?_, ?_, ?_, ?_, ?_, ?_, ?_, ?_, ?_, ?_, ?_⟩
      · simpa [eval_old] using J.bel
      · intro _; exact eval_new (hz _ (by decide)) _
      · simpa [eval_old] using J.x1
      · simpa [eval_old] using J.x2
      · simpa [eval_old] using J.x3
      · simpa [eval_old] using J.x4
      · simpa [eval_old] using J.x5
      · simpa [eval_old] using J.x6
      · simpa [eval_old] using J.x7
      · simpa [eval_old] using J.x8
      · simpa [eval_old] using J.x9
      · simpa [eval_old] using J.qA
      · simpa [eval_old] using J.qB
      · simpa [eval_old] using J.qq
    · have hd := o1.needs ho hall
      refine o1.run fun _ _ => opF_loadS (J.x0 (hd 0 (by simp))) (hC.under J.bel) ⟨J.agree.put (by decide) _, ?_, ?_, ?_, ?_, ?_, ?_, ?_, ?_, ?_, ?_, ?_, ?_, ?_, ?_⟩
      · simpa [eval_old] using J.bel
      · simpa [eval_old] using J.x0
      · intro _; exact eval_new (hz _ (by decide)) _
      · simpa [eval_old] using J.x2
      · simpa [eval_old] using J.x3
      · simpa [eval_old] using J.x4
      · simpa [eval_old] using J.x5
      · simpa [eval_old] using J.x6
      · simpa [eval_old] using J.x7
      · simpa [eval_old] using J.x8
      · simpa [eval_old] using J.x9
      · simpa [eval_old] using J.qA
      · simpa [eval_old] using J.qB
      · simpa [eval_old] using J.qq
    · have hd := o2.needs ho hall
      refine o2.run fun _ _ => opF_move ((J.agree.eval (by decide)).trans h8) ⟨J.agree.put (by decide) _, ?_, ?_, ?_, ?_, ?_, ?_, ?_, ?_, ?_, ?_, ?_, ?_, ?_, ?_⟩
      · simpa [eval_old] using J.bel
      · simpa [eval_old] using J.x0
      · simpa [eval_old] using J.x1
      · intro _; exact eval_new (hz _ (by decide)) _
      · simpa [eval_old] using J.x3
      · simpa [eval_old] using J.x4
      · simpa [eval_old] using J.x5
      · simpa [eval_old] using J.x6
      · simpa [eval_old] using J.x7
      · simpa [eval_old] using J.x8
      · simpa [eval_old] using J.x9
      · simpa [eval_old] using J.qA
      · simpa [eval_old] using J.qB
      · simpa [eval_old] using J.qq
    · have hd := o3.needs ho hall
      refine o3.run fun _ _ => opF_idxX (J.x1 (hd 1 (by simp))) (J.x2 (hd 2 (by simp))) hj ⟨J.agree.put (by decide) _, ?_, ?_, ?_, ?_, ?_, ?_, ?_, ?_, ?_, ?_, ?_, ?_, ?_, ?_⟩
      · simpa [eval_old] using J.bel
      · simpa [eval_old] using J.x0
      · simpa [eval_old] using J.x1
      · simpa [eval_old] using J.x2
      · intro _; exact eval_new (hz _ (by decide)) _
      · simpa [eval_old] using J.x4
      · simpa [eval_old] using J.x5
      · simpa [eval_old] using J.x6
      · simpa [eval_old] using J.x7
      · simpa [eval_old] using J.x8
      · simpa [eval_old] using J.x9
      · simpa [eval_old] using J.qA
      · simpa [eval_old] using J.qB
      · simpa [eval_old] using J.qq
    · have hd := o4.needs ho hall
      refine o4.run fun _ _ => opF_loadX (J.x3 (hd 3 (by simp))) (bxAt_of fun i hi => (J.bel.cell (p := ⟨b, off + j * 11 + i, none⟩) hbl).trans (hu.all i hi)) ⟨J.agree.put (by decide) _, ?_, ?_, ?_, ?_, ?_, ?_, ?_, ?_, ?_, ?_, ?_, ?_, ?_, ?_⟩
      · simpa [eval_old] using J.bel
      · simpa [eval_old] using J.x0
      · simpa [eval_old] using J.x1
      · simpa [eval_old] using J.x2
      · simpa [eval_old] using J.x3
      · intro _; exact eval_new (hz _ (by decide)) _
      · simpa [eval_old] using J.x5
      · simpa [eval_old] using J.x6
      · simpa [eval_old] using J.x7
      · simpa [eval_old] using J.x8
      · simpa [eval_old] using J.x9
      · simpa [eval_old] using J.qA
      · simpa [eval_old] using J.qB
      · simpa [eval_old] using J.qq
    · have hd := o5.needs ho hall
      refine o5.run fun _ _ => opF_field0 ((J.agree.eval (by decide)).trans h5) ⟨J.agree.put (by decide) _, ?_, ?_, ?_, ?_, ?_, ?_, ?_, ?_, ?_, ?_, ?_, ?_, ?_, ?_⟩
      · simpa [eval_old] using J.bel
      · simpa [eval_old] using J.x0
      · simpa [eval_old] using J.x1
      · simpa [eval_old] using J.x2
      · simpa [eval_old] using J.x3
      · simpa [eval_old] using J.x4
      · intro _; exact eval_new (hz _ (by decide)) _
      · simpa [eval_old] using J.x6
      · simpa [eval_old] using J.x7
      · simpa [eval_old] using J.x8
      · simpa [eval_old] using J.x9
      · simpa [eval_old] using J.qA
      · simpa [eval_old] using J.qB
      · simpa [eval_old] using J.qq
    · have hd := o6.needs ho hall
      refine o6.run fun _ _ => opF_loadS (J.x5 (hd 5 (by simp))) (hD.under J.bel) ⟨J.agree.put (by decide) _, ?_, ?_, ?_, ?_, ?_, ?_, ?_, ?_, ?_, ?_, ?_, ?_, ?_, ?_⟩
      · simpa [eval_old] using J.bel
      · simpa [eval_old] using J.x0
      · simpa [eval_old] using J.x1
      · simpa [eval_old] using J.x2
      · simpa [eval_old] using J.x3
      · simpa [eval_old] using J.x4
      · simpa [eval_old] using J.x5
      · intro _; exact eval_new (hz _ (by decide)) _
      · simpa [eval_old] using J.x7
      · simpa [eval_old] using J.x8
      · simpa [eval_old] using J.x9
      · simpa [eval_old] using J.qA
      · simpa [eval_old] using J.qB
      · simpa [eval_old] using J.qq
    · have hd := o7.needs ho hall
      refine o7.run fun _ _ => opF_move ((J.agree.eval (by decide)).trans h8) ⟨J.agree.put (by decide) _, ?_, ?_, ?_, ?_, ?_, ?_, ?_, ?_, ?_, ?_, ?_, ?_, ?_, ?_⟩
      · simpa [eval_old] using J.bel
      · simpa [eval_old] using J.x0
      · simpa [eval_old] using J.x1
      · simpa [eval_old] using J.x2
      · simpa [eval_old] using J.x3
      · simpa [eval_old] using J.x4
      · simpa [eval_old] using J.x5
      · simpa [eval_old] using J.x6
      · intro _; exact eval_new (hz _ (by decide)) _
      · simpa [eval_old] using J.x8
      · simpa [eval_old] using J.x9
      · simpa [eval_old] using J.qA
      · simpa [eval_old] using J.qB
      · simpa [eval_old] using J.qq
    · have hd := o8.needs ho hall
      refine o8.run fun _ _ => opF_idxX (J.x6 (hd 6 (by simp))) (J.x7 (hd 7 (by simp))) hjN ⟨J.agree.put (by decide) _, ?_, ?_, ?_, ?_, ?_, ?_, ?_, ?_, ?_, ?_, ?_, ?_, ?_, ?_⟩
      · simpa [eval_old] using J.bel
      · simpa [eval_old] using J.x0
      · simpa [eval_old] using J.x1
      · simpa [eval_old] using J.x2
      · simpa [eval_old] using J.x3
      · simpa [eval_old] using J.x4
      · simpa [eval_old] using J.x5
      · simpa [eval_old] using J.x6
      · simpa [eval_old] using J.x7
      · intro _; exact eval_new (hz _ (by decide)) _
      · simpa [eval_old] using J.x9
      · simpa [eval_old] using J.qA
      · simpa [eval_old] using J.qB
      · simpa [eval_old] using J.qq
    · have hd := o9.needs ho hall
      refine o9.run fun _ _ => opF_loadX (J.x8 (hd 8 (by simp))) (bxAt_of fun i hi => (J.bel.cell (p := ⟨b2, off2 + j * 11 + i, none⟩) hbl2).trans (hy.all i hi)) ⟨J.agree.put (by decide) _, ?_, ?_, ?_, ?_, ?_, ?_, ?_, ?_, ?_, ?_, ?_, ?_, ?_, ?_⟩
      · simpa [eval_old] using J.bel
      · simpa [eval_old] using J.x0
      · simpa [eval_old] using J.x1
      · simpa [eval_old] using J.x2
      · simpa [eval_old] using J.x3
      · simpa [eval_old] using J.x4
      · simpa [eval_old] using J.x5
      · simpa [eval_old] using J.x6
      · simpa [eval_old] using J.x7
      · simpa [eval_old] using J.x8
      · intro _; exact eval_new (hz _ (by decide)) _
      · simpa [eval_old] using J.qA
      · simpa [eval_old] using J.qB
      · simpa [eval_old] using J.qq
    · have n12 := o12.not hclo (j := 10) (by simp) hi
      have bA := (Below.refl w.heap.size w).alloc (Nat.le_refl _) (.cells #[.int .i64 0, .int .i64 0, .int .i64 0, .int .i64 0, .bool false, .bool false, .bool false, .bool false, .int .u8 0, .int .i64 0, .int .i64 0] 36)
      refine o10.run fun _ _ => opF_allocX ⟨J.agree.put (by decide) _, ?_, ?_, ?_, ?_, ?_, ?_, ?_, ?_, ?_, ?_, ?_, ?_, ?_, ?_⟩
      · exact J.bel.trans (bA.mono J.bel.size)
      · simpa [eval_old] using J.x0
      · simpa [eval_old] using J.x1
      · simpa [eval_old] using J.x2
      · simpa [eval_old] using J.x3
      · simpa [eval_old] using J.x4
      · simpa [eval_old] using J.x5
      · simpa [eval_old] using J.x6
      · simpa [eval_old] using J.x7
      · simpa [eval_old] using J.x8
      · simpa [eval_old] using J.x9
      · intro _
        refine ⟨w.heap.size, J.bel.size, eval_new (hz _ (by decide)) _, ?_⟩
        simpa [n12] using Whole.new w _ _
      · intro h
        obtain ⟨g, k1, k2, k3⟩ := J.qB (by simpa using h)
        exact ⟨g, k1, by simpa [eval_old] using k2, by simpa using k3.alloc _⟩
      · intro hA hB g g' e9 e10
        obtain ⟨gg, k1, k2, k3⟩ := J.qB (by simpa using hB)
        have hl := k3.ltS
        rw [eval_new (hz _ (by decide))] at e9
        have e10' : a.eval (.tmp 9) = .pointer (some ⟨g', 0, none⟩) := by simpa [eval_old] using e10
        rw [k2] at e10'
        simp only [Value.pointer.injEq, Option.some.injEq, Addr.mk.injEq, and_true] at e9 e10'
        omega
    · have n13 := o13.not hclo (j := 11) (by simp) hi
      have bA := (Below.refl w.heap.size w).alloc (Nat.le_refl _) (.cells #[.int .i64 0, .int .i64 0, .int .i64 0, .int .i64 0, .bool false, .bool false, .bool false, .bool false, .int .u8 0, .int .i64 0, .int .i64 0] 36)
      refine o11.run fun _ _ => opF_allocX ⟨J.agree.put (by decide) _, ?_, ?_, ?_, ?_, ?_, ?_, ?_, ?_, ?_, ?_, ?_, ?_, ?_, ?_⟩
      · exact J.bel.trans (bA.mono J.bel.size)
      · simpa [eval_old] using J.x0
      · simpa [eval_old] using J.x1
      · simpa [eval_old] using J.x2
      · simpa [eval_old] using J.x3
      · simpa [eval_old] using J.x4
      · simpa [eval_old] using J.x5
      · simpa [eval_old] using J.x6
      · simpa [eval_old] using J.x7
      · simpa [eval_old] using J.x8
      · simpa [eval_old] using J.x9
      · intro h
        obtain ⟨g, k1, k2, k3⟩ := J.qA (by simpa using h)
        exact ⟨g, k1, by simpa [eval_old] using k2, by simpa using k3.alloc _⟩
      · intro _
        refine ⟨w.heap.size, J.bel.size, eval_new (hz _ (by decide)) _, ?_⟩
        simpa [n13] using Whole.new w _ _
      · intro hA hB g g' e9 e10
        obtain ⟨gg, k1, k2, k3⟩ := J.qA (by simpa using hA)
        have hl := k3.ltS
        rw [eval_new (hz _ (by decide))] at e10
        have e9' : a.eval (.tmp 8) = .pointer (some ⟨g, 0, none⟩) := by simpa [eval_old] using e9
        rw [k2] at e9'
        simp only [Value.pointer.injEq, Option.some.injEq, Addr.mk.injEq, and_true] at e10 e9'
        omega
    · have hd := o12.needs ho hall
      obtain ⟨g, k1, k2, k3⟩ := J.qA (hd 10 (by simp))
      rw [hi] at k3
      simp only [Bool.false_eq_true, if_false] at k3
      have kp := kept11 k3 (.int .i64 u.id) (.int .i64 u.tok) (.int .i64 u.ver) (.int .i64 u.zone) (.bool u.tag) (.bool u.on) (.bool u.gone) (.bool u.well) (.int .u8 u.lb) (.int .i64 u.unt) (.int .i64 u.fen)
      refine o12.run fun _ _ => opF_storeX k2 (J.x4 (hd 4 (by simp))) k3 ⟨J.agree, ?_, ?_, ?_, ?_, ?_, ?_, ?_, ?_, ?_, ?_, ?_, ?_, ?_, ?_⟩
      · exact kp.2.bel _ _ k1 J.bel
      · simpa using J.x0
      · simpa using J.x1
      · simpa using J.x2
      · simpa using J.x3
      · simpa using J.x4
      · simpa using J.x5
      · simpa using J.x6
      · simpa using J.x7
      · simpa using J.x8
      · simpa using J.x9
      · intro _
        exact ⟨g, k1, k2, by simpa using kp.1⟩
      · intro h
        obtain ⟨g', m1, m2, m3⟩ := J.qB (by simpa using h)
        have hne := J.qq (hd 10 (by simp)) (by simpa using h) g g' k2 m2
        exact ⟨g', m1, m2, by simpa using kp.2.far _ _ _ (by omega) m3⟩
      · simpa using J.qq
    · have hd := o13.needs ho hall
      obtain ⟨g, k1, k2, k3⟩ := J.qB (hd 11 (by simp))
      rw [hi] at k3
      simp only [Bool.false_eq_true, if_false] at k3
      have kp := kept11 k3 (.int .i64 y.id) (.int .i64 y.tok) (.int .i64 y.ver) (.int .i64 y.zone) (.bool y.tag) (.bool y.on) (.bool y.gone) (.bool y.well) (.int .u8 y.lb) (.int .i64 y.unt) (.int .i64 y.fen)
      refine o13.run fun _ _ => opF_storeX k2 (J.x9 (hd 9 (by simp))) k3 ⟨J.agree, ?_, ?_, ?_, ?_, ?_, ?_, ?_, ?_, ?_, ?_, ?_, ?_, ?_, ?_⟩
      · exact kp.2.bel _ _ k1 J.bel
      · simpa using J.x0
      · simpa using J.x1
      · simpa using J.x2
      · simpa using J.x3
      · simpa using J.x4
      · simpa using J.x5
      · simpa using J.x6
      · simpa using J.x7
      · simpa using J.x8
      · simpa using J.x9
      · intro h
        obtain ⟨g', m1, m2, m3⟩ := J.qA (by simpa using h)
        have hne := J.qq (by simpa using h) (hd 11 (by simp)) g' g m2 k2
        exact ⟨g', m1, m2, by simpa using kp.2.far _ _ _ (by omega) m3⟩
      · intro _
        exact ⟨g, k1, k2, by simpa using kp.1⟩
      · simpa using J.qq
  · intro L a w hall J
    obtain ⟨g, _, g3, g4⟩ := J.qA (hall 10 (by omega))
    obtain ⟨g', _, k2, k3⟩ := J.qB (hall 11 (by omega))
    rw [hall 12 (by omega), if_pos rfl] at g4
    rw [hall 13 (by omega), if_pos rfl] at k3
    rw [J.agree.lay hds]
    exact fin (fun d => a.eval (.tmp d)) w g g' g3 k2 g4 k3 J.bel

end Go.Proofs.Ytoiegffnmjlkdaa
