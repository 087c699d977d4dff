/-
  The region of EventTwice in which a box dies once, and again: whatever the order. Conditions: those that each theorem names.
-/
import Derived.Test.YtoiegffnmjlkdaaEvRegKit
namespace Go.Proofs.Ytoiegffnmjlkdaa
open Go.RowKit Go.Shelf

theorem opF_loadEB {K : Act → World → Prop} {Q : Exit → Act → World → Prop} {a : Act} {w : World} {dst : Option Tmp} {t : TypeId} {pos : String} {after : Array Edge} {b : Nat} {x : Operand} {e : Ev} (hx : a.eval x = .pointer (some ⟨b, 0, none⟩)) (hw : Whole w b 26 #[.int .u8 e.kind, .int .i64 e.a, .int .i64 e.b]) (h : K (a.put dst (.agg #[.int .u8 e.kind, .int .i64 e.a, .int .i64 e.b])) w) :
    ({ dst := dst, op := .load 26 x, type := t, pos := pos, after := after, guard := none } : Oper).wp Try.prog a w K Q :=
  opF_loadEv hx ⟨hw.cell 0, hw.cell 1, hw.cell 2⟩ h

abbrev twDs : List Nat := [15, 16, 40, 41, 42, 43, 44, 45, 46, 47, 48, 49]

/-- What holds behind any operations of the region that have come up. -/
structure TWI (a0 : Act) (W0 : World) (A : Option Addr) (n c : Nat) (fl dr nw : Int) (tg : Bool) (d f : Ev) (N : Nat) (Ls : List Bx) (fl2 dr2 nw2 : Int) (tg2 : Bool) (L : Nat → Bool) (a : Act) (w : World) : Prop where
  agree : Agree twDs a0 a
  bel : Below W0.heap.size W0 w
  x0 : L 0 = true → a.eval (.tmp 40) = .agg #[.slice A n c, .int .i64 fl, .int .i64 dr, .int .i64 nw, .bool tg]
  x1 : L 1 = true → a.eval (.tmp 41) = .agg #[.int .u8 d.kind, .int .i64 d.a, .int .i64 d.b]
  x4 : L 4 = true → a.eval (.tmp 44) = .agg #[.slice A n c, .int .i64 fl, .int .i64 dr, .int .i64 nw, .bool tg]
  x5 : L 5 = true → a.eval (.tmp 45) = .agg #[.int .u8 d.kind, .int .i64 d.a, .int .i64 d.b]
  x6 : L 6 = true → a.eval (.tmp 46) = .agg #[.int .u8 f.kind, .int .i64 f.a, .int .i64 f.b]
  x7 : L 7 = true → a.eval (.tmp 47) = .agg #[.int .u8 d.kind, .int .i64 d.a, .int .i64 d.b]
  b2 : L 2 = true → L 3 = false → ∃ b, RdE w w.heap.size (some ⟨b, 0, none⟩) 1 [d] ∧ a.eval (.tmp 42) = .slice (some ⟨b, 0, none⟩) 1 1
  b8 : L 8 = true → L 9 = false → ∃ b, RdE w w.heap.size (some ⟨b, 0, none⟩) 3 [d, f, d] ∧ a.eval (.tmp 48) = .slice (some ⟨b, 0, none⟩) 3 3
  s3 : L 3 = true → ∃ A' c', RdX w w.heap.size A' N Ls ∧ a.eval (.tmp 43) = .agg #[.slice A' N c', .int .i64 fl2, .int .i64 dr2, .int .i64 nw2, .bool tg2] ∧ (L 12 = true → ∃ g, W0.heap.size ≤ g ∧ a.eval (.tmp 15) = .pointer (some ⟨g, 0, none⟩) ∧ Whole w g 24 #[.slice A' N c', .int .i64 fl2, .int .i64 dr2, .int .i64 nw2, .bool tg2])
  s9 : L 9 = true → ∃ A' c', RdX w w.heap.size A' N Ls ∧ a.eval (.tmp 49) = .agg #[.slice A' N c', .int .i64 fl2, .int .i64 dr2, .int .i64 nw2, .bool tg2] ∧ (L 13 = true → ∃ g, W0.heap.size ≤ g ∧ a.eval (.tmp 16) = .pointer (some ⟨g, 0, none⟩) ∧ Whole w g 24 #[.slice A' N c', .int .i64 fl2, .int .i64 dr2, .int .i64 nw2, .bool tg2])
  qA : L 10 = true → L 12 = false → ∃ g, W0.heap.size ≤ g ∧ a.eval (.tmp 15) = .pointer (some ⟨g, 0, none⟩) ∧ Whole w g 24 #[.slice none 0 0, .int .i64 0, .int .i64 0, .int .i64 0, .bool false]
  qB : L 11 = true → L 13 = false → ∃ g, W0.heap.size ≤ g ∧ a.eval (.tmp 16) = .pointer (some ⟨g, 0, none⟩) ∧ Whole w g 24 #[.slice none 0 0, .int .i64 0, .int .i64 0, .int .i64 0, .bool false]
  qq : L 10 = true → L 11 = true → ∀ g g', a.eval (.tmp 15) = .pointer (some ⟨g, 0, none⟩) → a.eval (.tmp 16) = .pointer (some ⟨g', 0, none⟩) → g ≠ g'

set_option maxHeartbeats 4000000 in
theorem tw_region {ops : Array Oper} {Q : Exit → Act → World → Prop} {id : Nat} (hsize : ops.size = 14) (hlow : lowOnly ops = true)
    {t0 : TypeId} {t1 : TypeId} {t2 : TypeId} {t3 : TypeId} {t4 : TypeId} {t5 : TypeId} {t6 : TypeId} {t7 : TypeId} {t8 : TypeId} {t9 : TypeId} {t10 : TypeId} {t11 : TypeId} {t12 : TypeId} {t13 : TypeId}
    (o0 : At ops 0 (some 40) (.load 24 (.tmp 4)) t0 [])
    (o1 : At ops 1 (some 41) (.load 26 (.tmp 12)) t1 [])
    (o2 : At ops 2 (some 42) (.buildSlice 27 1 #[(0, .tmp 41)]) t2 [1])
    (o3 : At ops 3 (some 43) (.call { callee := .value (.func 12), args := #[.tmp 40, .tmp 42], argTypes := #[24, 27] }) t3 [0, 2])
    (o4 : At ops 4 (some 44) (.load 24 (.tmp 4)) t4 [])
    (o5 : At ops 5 (some 45) (.load 26 (.tmp 12)) t5 [])
    (o6 : At ops 6 (some 46) (.load 26 (.tmp 10)) t6 [])
    (o7 : At ops 7 (some 47) (.load 26 (.tmp 12)) t7 [])
    (o8 : At ops 8 (some 48) (.buildSlice 27 3 #[(0, .tmp 45), (1, .tmp 46), (2, .tmp 47)]) t8 [5, 6, 7])
    (o9 : At ops 9 (some 49) (.call { callee := .value (.func 12), args := #[.tmp 44, .tmp 48], argTypes := #[24, 27] }) t9 [3, 4, 8])
    (o10 : At ops 10 (some 15) (.alloc 24) t10 [])
    (o11 : At ops 11 (some 16) (.alloc 24) t11 [])
    (o12 : At ops 12 none (.store 24 (.tmp 15) (.tmp 43)) t12 [3, 9, 10, 11])
    (o13 : At ops 13 none (.store 24 (.tmp 16) (.tmp 49)) t13 [9, 11, 12])
    (a0 : Act) (W0 : World) (A : Option Addr) (n c : Nat) (fl dr nw : Int) (tg : Bool) (d f : Ev) (N : Nat) (Ls : List Bx) (fl2 dr2 nw2 : Int) (tg2 : Bool) (g4 gd gf : Nat) (hds : ∀ d ∈ twDs, d < a0.tmps.size)
    (h4 : a0.eval (.tmp 4) = .pointer (some ⟨g4, 0, none⟩)) (hd12 : a0.eval (.tmp 12) = .pointer (some ⟨gd, 0, none⟩)) (hf10 : a0.eval (.tmp 10) = .pointer (some ⟨gf, 0, none⟩))
    (hC : Whole W0 g4 24 #[.slice A n c, .int .i64 fl, .int .i64 dr, .int .i64 nw, .bool tg]) (hD : Whole W0 gd 26 #[.int .u8 d.kind, .int .i64 d.a, .int .i64 d.b]) (hF : Whole W0 gf 26 #[.int .u8 f.kind, .int .i64 f.a, .int .i64 f.b])
    (h1 : ∀ W b, Below W0.heap.size W0 W → RdE W W.heap.size (some ⟨b, 0, none⟩) 1 [d] → Calls Try.prog 12 #[.agg #[.slice A n c, .int .i64 fl, .int .i64 dr, .int .i64 nw, .bool tg], .slice (some ⟨b, 0, none⟩) 1 1] W fun e w' => ∃ A' c', e = .returned (.agg #[.slice A' N c', .int .i64 fl2, .int .i64 dr2, .int .i64 nw2, .bool tg2]) ∧ RdX w' w'.heap.size A' N Ls ∧ Below W.heap.size W w')
    (h3 : ∀ W b, Below W0.heap.size W0 W → RdE W W.heap.size (some ⟨b, 0, none⟩) 3 [d, f, d] → Calls Try.prog 12 #[.agg #[.slice A n c, .int .i64 fl, .int .i64 dr, .int .i64 nw, .bool tg], .slice (some ⟨b, 0, none⟩) 3 3] W fun e w' => ∃ A' c', e = .returned (.agg #[.slice A' N c', .int .i64 fl2, .int .i64 dr2, .int .i64 nw2, .bool tg2]) ∧ RdX w' w'.heap.size A' N Ls ∧ Below W.heap.size W w')
    (fin : ∀ (σ : Nat → Value) W A' c' g A'' c'' g', σ 15 = .pointer (some ⟨g, 0, none⟩) → σ 16 = .pointer (some ⟨g', 0, none⟩) → RdX W W.heap.size A' N Ls → Whole W g 24 #[.slice A' N c', .int .i64 fl2, .int .i64 dr2, .int .i64 nw2, .bool tg2] → RdX W W.heap.size A'' N Ls → Whole W g' 24 #[.slice A'' N c'', .int .i64 fl2, .int .i64 dr2, .int .i64 nw2, .bool tg2] → Below W0.heap.size W0 W → Q .normal (lay σ twDs a0) W) :
    (Code.region id ops true).wp Try.prog Q a0 W0 := by
  refine region_clo (by kernel_rfl) hlow (fun L a w => TWI a0 W0 A n c fl dr nw tg d f N Ls fl2 dr2 nw2 tg2 L a w) ?_ ?_ ?_
  · exact ⟨Agree.refl _ _, (Below.refl _ _).drew, by simp, by simp, by simp, by simp, by simp, by simp, by simp, by simp, by simp, by simp, by simp, by simp, by simp⟩
  · rintro i o L a w ho hi hclo hall J
    have hlt : i < 14 := by rw [← hsize]; exact (Array.getElem?_eq_some_iff.1 ho).1
    have hz : ∀ d ∈ twDs, d < a.tmps.size := fun d hd => by rw [J.agree.size]; exact hds d hd
    rcases (by omega : i = 0 ∨ i = 1 ∨ i = 2 ∨ i = 3 ∨ i = 4 ∨ i = 5 ∨ i = 6 ∨ i = 7 ∨ i = 8 ∨ i = 9 ∨ i = 10 ∨ i = 11 ∨ i = 12 ∨ i = 13) with rfl | rfl | rfl | rfl | rfl | rfl | rfl | rfl | rfl | rfl | rfl | rfl | rfl | rfl
    · have hd := o0.needs ho hall
      refine o0.run fun _ _ => opF_loadC ((J.agree.eval (by decide)).trans h4) (hC.under J.bel) ⟨J.agree.put (by decide) _, ?_, ?_, ?_, ?_, ?_, ?_, ?_, ?_, ?_, ?_, ?_, ?_, ?_, ?_⟩
      · simpa [eval_old] using J.bel
      · intro _; exact eval_new (hz _ (by decide)) _
      · simpa [eval_old] using J.x1
      · simpa [eval_old] using J.x4
      · simpa [eval_old] using J.x5
      · simpa [eval_old] using J.x6
      · simpa [eval_old] using J.x7
      · simpa [eval_old] using J.b2
      · simpa [eval_old] using J.b8
      · simpa [eval_old] using J.s3
      · simpa [eval_old] using J.s9
      · simpa [eval_old] using J.qA
      · simpa [eval_old] using J.qB
      · simpa [eval_old] using J.qq
    · have hd := o1.needs ho hall
      refine o1.run fun _ _ => opF_loadEB ((J.agree.eval (by decide)).trans hd12) (hD.under J.bel) ⟨J.agree.put (by decide) _, ?_, ?_, ?_, ?_, ?_, ?_, ?_, ?_, ?_, ?_, ?_, ?_, ?_, ?_⟩
      · simpa [eval_old] using J.bel
      · simpa [eval_old] using J.x0
      · intro _; exact eval_new (hz _ (by decide)) _
      · simpa [eval_old] using J.x4
      · simpa [eval_old] using J.x5
      · simpa [eval_old] using J.x6
      · simpa [eval_old] using J.x7
      · simpa [eval_old] using J.b2
      · simpa [eval_old] using J.b8
      · simpa [eval_old] using J.s3
      · simpa [eval_old] using J.s9
      · simpa [eval_old] using J.qA
      · simpa [eval_old] using J.qB
      · simpa [eval_old] using J.qq
    · have hd := o2.needs ho hall
      have n3 := o3.not hclo (j := 2) (by simp) hi
      have n9 := o9.not hclo (j := 3) (by simp) n3
      have n12 := o12.not hclo (j := 9) (by simp) n9
      have n13 := o13.not hclo (j := 12) (by simp) n12
      have bA := (Below.refl w.heap.size w).alloc (Nat.le_refl _) (.cells ([d].flatMap Ev.vs).toArray 26)
      refine o2.run fun _ _ => opF_bs1 (J.x1 (hd 1 (by simp))) ⟨J.agree.put (by decide) _, ?_, ?_, ?_, ?_, ?_, ?_, ?_, ?_, ?_, ?_, ?_, ?_, ?_, ?_⟩
      · exact J.bel.trans (bA.mono J.bel.size)
      · simpa [eval_old] using J.x0
      · simpa [eval_old] using J.x1
      · simpa [eval_old] using J.x4
      · simpa [eval_old] using J.x5
      · simpa [eval_old] using J.x6
      · simpa [eval_old] using J.x7
      · intro _ _
        exact ⟨w.heap.size, rdE_whole (Whole.new w _ _), eval_new (hz _ (by decide)) _⟩
      · intro p1 p2
        obtain ⟨b, r, v⟩ := J.b8 (by simpa using p1) (by simpa using p2)
        exact ⟨b, r.up bA, by simpa [eval_old] using v⟩
      · intro p1
        obtain ⟨A', c', r, v, _⟩ := J.s3 (by simpa using p1)
        exact ⟨A', c', r.up bA, by simpa [eval_old] using v, by simp [n12]⟩
      · intro p1
        obtain ⟨A', c', r, v, _⟩ := J.s9 (by simpa using p1)
        exact ⟨A', c', r.up bA, by simpa [eval_old] using v, by simp [n13]⟩
      · intro p1 p2
        obtain ⟨g, g1, g2, g3⟩ := J.qA (by simpa using p1) (by simpa using p2)
        exact ⟨g, g1, by simpa [eval_old] using g2, g3.under bA⟩
      · intro p1 p2
        obtain ⟨g, g1, g2, g3⟩ := J.qB (by simpa using p1) (by simpa using p2)
        exact ⟨g, g1, by simpa [eval_old] using g2, g3.under bA⟩
      · simpa [eval_old] using J.qq
    · have hd := o3.needs ho hall
      have n9 := o9.not hclo (j := 3) (by simp) hi
      have n12 := o12.not hclo (j := 9) (by simp) n9
      have n13 := o13.not hclo (j := 12) (by simp) n12
      obtain ⟨b, rb, vb⟩ := J.b2 (hd 2 (by simp)) hi
      refine o3.run fun _ _ => opF_evAll (J.x0 (hd 0 (by simp))) vb (h1 w b J.bel rb) ?_
      rintro e w' ⟨A', c', rfl, r2, bb⟩
      refine ⟨_, rfl, J.agree.put (by decide) _, ?_, ?_, ?_, ?_, ?_, ?_, ?_, ?_, ?_, ?_, ?_, ?_, ?_, ?_⟩
      · exact J.bel.trans (bb.mono J.bel.size)
      · simpa [eval_old] using J.x0
      · simpa [eval_old] using J.x1
      · simpa [eval_old] using J.x4
      · simpa [eval_old] using J.x5
      · simpa [eval_old] using J.x6
      · simpa [eval_old] using J.x7
      · intro _ p2; simp at p2
      · intro p1 p2
        obtain ⟨b, r, v⟩ := J.b8 (by simpa using p1) (by simpa using p2)
        exact ⟨b, r.up bb, by simpa [eval_old] using v⟩
      · intro _
        exact ⟨A', c', r2, eval_new (hz _ (by decide)) _, by simp [n12]⟩
      · intro p1
        obtain ⟨A', c', r, v, _⟩ := J.s9 (by simpa using p1)
        exact ⟨A', c', r.up bb, by simpa [eval_old] using v, by simp [n13]⟩
      · intro p1 p2
        obtain ⟨g, g1, g2, g3⟩ := J.qA (by simpa using p1) (by simpa using p2)
        exact ⟨g, g1, by simpa [eval_old] using g2, g3.under bb⟩
      · intro p1 p2
        obtain ⟨g, g1, g2, g3⟩ := J.qB (by simpa using p1) (by simpa using p2)
        exact ⟨g, g1, by simpa [eval_old] using g2, g3.under bb⟩
      · simpa [eval_old] using J.qq
    · have hd := o4.needs ho hall
      refine o4.run fun _ _ => opF_loadC ((J.agree.eval (by decide)).trans h4) (hC.under J.bel) ⟨J.agree.put (by decide) _, ?_, ?_, ?_, ?_, ?_, ?_, ?_, ?_, ?_, ?_, ?_, ?_, ?_, ?_⟩
      · simpa [eval_old] using J.bel
      · simpa [eval_old] using J.x0
      · simpa [eval_old] using J.x1
      · intro _; exact eval_new (hz _ (by decide)) _
      · simpa [eval_old] using J.x5
      · simpa [eval_old] using J.x6
      · simpa [eval_old] using J.x7
      · simpa [eval_old] using J.b2
      · simpa [eval_old] using J.b8
      · simpa [eval_old] using J.s3
      · simpa [eval_old] using J.s9
      · simpa [eval_old] using J.qA
      · simpa [eval_old] using J.qB
      · simpa [eval_old] using J.qq
    · have hd := o5.needs ho hall
      refine o5.run fun _ _ => opF_loadEB ((J.agree.eval (by decide)).trans hd12) (hD.under J.bel) ⟨J.agree.put (by decide) _, ?_, ?_, ?_, ?_, ?_, ?_, ?_, ?_, ?_, ?_, ?_, ?_, ?_, ?_⟩
      · simpa [eval_old] using J.bel
      · simpa [eval_old] using J.x0
      · simpa [eval_old] using J.x1
      · simpa [eval_old] using J.x4
      · intro _; exact eval_new (hz _ (by decide)) _
      · simpa [eval_old] using J.x6
      · simpa [eval_old] using J.x7
      · simpa [eval_old] using J.b2
      · simpa [eval_old] using J.b8
      · simpa [eval_old] using J.s3
      · simpa [eval_old] using J.s9
      · simpa [eval_old] using J.qA
      · simpa [eval_old] using J.qB
      · simpa [eval_old] using J.qq
    · have hd := o6.needs ho hall
      refine o6.run fun _ _ => opF_loadEB ((J.agree.eval (by decide)).trans hf10) (hF.under J.bel) ⟨J.agree.put (by decide) _, ?_, ?_, ?_, ?_, ?_, ?_, ?_, ?_, ?_, ?_, ?_, ?_, ?_, ?_⟩
      · simpa [eval_old] using J.bel
      · simpa [eval_old] using J.x0
      · simpa [eval_old] using J.x1
      · simpa [eval_old] using J.x4
      · simpa [eval_old] using J.x5
      · intro _; exact eval_new (hz _ (by decide)) _
      · simpa [eval_old] using J.x7
      · simpa [eval_old] using J.b2
      · simpa [eval_old] using J.b8
      · simpa [eval_old] using J.s3
      · simpa [eval_old] using J.s9
      · simpa [eval_old] using J.qA
      · simpa [eval_old] using J.qB
      · simpa [eval_old] using J.qq
    · have hd := o7.needs ho hall
      refine o7.run fun _ _ => opF_loadEB ((J.agree.eval (by decide)).trans hd12) (hD.under J.bel) ⟨J.agree.put (by decide) _, ?_, ?_, ?_, ?_, ?_, ?_, ?_, ?_, ?_, ?_, ?_, ?_, ?_, ?_⟩
      · simpa [eval_old] using J.bel
      · simpa [eval_old] using J.x0
      · simpa [eval_old] using J.x1
      · simpa [eval_old] using J.x4
      · simpa [eval_old] using J.x5
      · simpa [eval_old] using J.x6
      · intro _; exact eval_new (hz _ (by decide)) _
      · simpa [eval_old] using J.b2
      · simpa [eval_old] using J.b8
      · simpa [eval_old] using J.s3
      · simpa [eval_old] using J.s9
      · simpa [eval_old] using J.qA
      · simpa [eval_old] using J.qB
      · simpa [eval_old] using J.qq
    · have hd := o8.needs ho hall
      have n9 := o9.not hclo (j := 8) (by simp) hi
      have n12 := o12.not hclo (j := 9) (by simp) n9
      have n13 := o13.not hclo (j := 12) (by simp) n12
      have bA := (Below.refl w.heap.size w).alloc (Nat.le_refl _) (.cells ([d, f, d].flatMap Ev.vs).toArray 26)
      refine o8.run fun _ _ => opF_bs3 (J.x5 (hd 5 (by simp))) (J.x6 (hd 6 (by simp))) (J.x7 (hd 7 (by simp))) ⟨J.agree.put (by decide) _, ?_, ?_, ?_, ?_, ?_, ?_, ?_, ?_, ?_, ?_, ?_, ?_, ?_, ?_⟩
      · exact J.bel.trans (bA.mono J.bel.size)
      · simpa [eval_old] using J.x0
      · simpa [eval_old] using J.x1
      · simpa [eval_old] using J.x4
      · simpa [eval_old] using J.x5
      · simpa [eval_old] using J.x6
      · simpa [eval_old] using J.x7
      · intro p1 p2
        obtain ⟨b, r, v⟩ := J.b2 (by simpa using p1) (by simpa using p2)
        exact ⟨b, r.up bA, by simpa [eval_old] using v⟩
      · intro _ _
        exact ⟨w.heap.size, rdE_whole (Whole.new w _ _), eval_new (hz _ (by decide)) _⟩
      · intro p1
        obtain ⟨A', c', r, v, _⟩ := J.s3 (by simpa using p1)
        exact ⟨A', c', r.up bA, by simpa [eval_old] using v, by simp [n12]⟩
      · intro p1
        obtain ⟨A', c', r, v, _⟩ := J.s9 (by simpa using p1)
        exact ⟨A', c', r.up bA, by simpa [eval_old] using v, by simp [n13]⟩
      · intro p1 p2
        obtain ⟨g, g1, g2, g3⟩ := J.qA (by simpa using p1) (by simpa using p2)
        exact ⟨g, g1, by simpa [eval_old] using g2, g3.under bA⟩
      · intro p1 p2
        obtain ⟨g, g1, g2, g3⟩ := J.qB (by simpa using p1) (by simpa using p2)
        exact ⟨g, g1, by simpa [eval_old] using g2, g3.under bA⟩
      · simpa [eval_old] using J.qq
    · have hd := o9.needs ho hall
      have n12 := o12.not hclo (j := 9) (by simp) hi
      have n13 := o13.not hclo (j := 12) (by simp) n12
      obtain ⟨b, rb, vb⟩ := J.b8 (hd 8 (by simp)) hi
      refine o9.run fun _ _ => opF_evAll (J.x4 (hd 4 (by simp))) vb (h3 w b J.bel rb) ?_
      rintro e w' ⟨A', c', rfl, r2, bb⟩
      refine ⟨_, rfl, J.agree.put (by decide) _, ?_, ?_, ?_, ?_, ?_, ?_, ?_, ?_, ?_, ?_, ?_, ?_, ?_, ?_⟩
      · exact J.bel.trans (bb.mono J.bel.size)
      · simpa [eval_old] using J.x0
      · simpa [eval_old] using J.x1
      · simpa [eval_old] using J.x4
      · simpa [eval_old] using J.x5
      · simpa [eval_old] using J.x6
      · simpa [eval_old] using J.x7
      · intro p1 p2
        obtain ⟨b, r, v⟩ := J.b2 (by simpa using p1) (by simpa using p2)
        exact ⟨b, r.up bb, by simpa [eval_old] using v⟩
      · intro _ p2; simp at p2
      · intro p1
        obtain ⟨A', c', r, v, _⟩ := J.s3 (by simpa using p1)
        exact ⟨A', c', r.up bb, by simpa [eval_old] using v, by simp [n12]⟩
      · intro _
        exact ⟨A', c', r2, eval_new (hz _ (by decide)) _, by simp [n13]⟩
      · intro p1 p2
        obtain ⟨g, g1, g2, g3⟩ := J.qA (by simpa using p1) (by simpa using p2)
        exact ⟨g, g1, by simpa [eval_old] using g2, g3.under bb⟩
      · intro p1 p2
        obtain ⟨g, g1, g2, g3⟩ := J.qB (by simpa using p1) (by simpa using p2)
        exact ⟨g, g1, by simpa [eval_old] using g2, g3.under bb⟩
      · simpa [eval_old] using J.qq
    · have n12 := o12.not hclo (j := 10) (by simp) hi
      have n13 := o13.not hclo (j := 12) (by simp) n12
      have bA := (Below.refl w.heap.size w).alloc (Nat.le_refl _) (.cells #[.slice none 0 0, .int .i64 0, .int .i64 0, .int .i64 0, .bool false] 24)
      refine o10.run fun _ _ => opF_allocC ⟨J.agree.put (by decide) _, ?_, ?_, ?_, ?_, ?_, ?_, ?_, ?_, ?_, ?_, ?_, ?_, ?_, ?_⟩
      · exact J.bel.trans (bA.mono J.bel.size)
      · simpa [eval_old] using J.x0
      · simpa [eval_old] using J.x1
      · simpa [eval_old] using J.x4
      · simpa [eval_old] using J.x5
      · simpa [eval_old] using J.x6
      · simpa [eval_old] using J.x7
      · intro p1 p2
        obtain ⟨b, r, v⟩ := J.b2 (by simpa using p1) (by simpa using p2)
        exact ⟨b, r.up bA, by simpa [eval_old] using v⟩
      · intro p1 p2
        obtain ⟨b, r, v⟩ := J.b8 (by simpa using p1) (by simpa using p2)
        exact ⟨b, r.up bA, by simpa [eval_old] using v⟩
      · intro p1
        obtain ⟨A', c', r, v, _⟩ := J.s3 (by simpa using p1)
        exact ⟨A', c', r.up bA, by simpa [eval_old] using v, by simp [n12]⟩
      · intro p1
        obtain ⟨A', c', r, v, _⟩ := J.s9 (by simpa using p1)
        exact ⟨A', c', r.up bA, by simpa [eval_old] using v, by simp [n13]⟩
      · intro _ _
        exact ⟨w.heap.size, J.bel.size, eval_new (hz _ (by decide)) _, Whole.new w _ _⟩
      · intro p1 p2
        obtain ⟨g, g1, g2, g3⟩ := J.qB (by simpa using p1) (by simpa using p2)
        exact ⟨g, g1, by simpa [eval_old] using g2, g3.under bA⟩
      · intro _ p2 g g' e1 e2
        obtain ⟨u, _, u2, u3⟩ := J.qB (by simpa using p2) n13
        rw [eval_new (hz _ (by decide))] at e1
        rw [eval_old (by decide), u2] at e2
        simp only [Value.pointer.injEq, Option.some.injEq, Addr.mk.injEq, and_true] at e1 e2
        have := u3.lt
        omega
    · have n12 := o12.not hclo (j := 11) (by simp) hi
      have n13 := o13.not hclo (j := 12) (by simp) n12
      have bA := (Below.refl w.heap.size w).alloc (Nat.le_refl _) (.cells #[.slice none 0 0, .int .i64 0, .int .i64 0, .int .i64 0, .bool false] 24)
      refine o11.run fun _ _ => opF_allocC ⟨J.agree.put (by decide) _, ?_, ?_, ?_, ?_, ?_, ?_, ?_, ?_, ?_, ?_, ?_, ?_, ?_, ?_⟩
      · exact J.bel.trans (bA.mono J.bel.size)
      · simpa [eval_old] using J.x0
      · simpa [eval_old] using J.x1
      · simpa [eval_old] using J.x4
      · simpa [eval_old] using J.x5
      · simpa [eval_old] using J.x6
      · simpa [eval_old] using J.x7
      · intro p1 p2
        obtain ⟨b, r, v⟩ := J.b2 (by simpa using p1) (by simpa using p2)
        exact ⟨b, r.up bA, by simpa [eval_old] using v⟩
      · intro p1 p2
        obtain ⟨b, r, v⟩ := J.b8 (by simpa using p1) (by simpa using p2)
        exact ⟨b, r.up bA, by simpa [eval_old] using v⟩
      · intro p1
        obtain ⟨A', c', r, v, _⟩ := J.s3 (by simpa using p1)
        exact ⟨A', c', r.up bA, by simpa [eval_old] using v, by simp [n12]⟩
      · intro p1
        obtain ⟨A', c', r, v, _⟩ := J.s9 (by simpa using p1)
        exact ⟨A', c', r.up bA, by simpa [eval_old] using v, by simp [n13]⟩
      · intro p1 p2
        obtain ⟨g, g1, g2, g3⟩ := J.qA (by simpa using p1) (by simpa using p2)
        exact ⟨g, g1, by simpa [eval_old] using g2, g3.under bA⟩
      · intro _ _
        exact ⟨w.heap.size, J.bel.size, eval_new (hz _ (by decide)) _, Whole.new w _ _⟩
      · intro p1 _ g g' e1 e2
        obtain ⟨u, _, u2, u3⟩ := J.qA (by simpa using p1) n12
        rw [eval_new (hz _ (by decide))] at e2
        rw [eval_old (by decide), u2] at e1
        simp only [Value.pointer.injEq, Option.some.injEq, Addr.mk.injEq, and_true] at e1 e2
        have := u3.lt
        omega
    · have hd := o12.needs ho hall
      have n13 := o13.not hclo (j := 12) (by simp) hi
      have l9 := hd 9 (by simp)
      have l3 := hd 3 (by simp)
      obtain ⟨A', c', rd, e33, _⟩ := J.s3 (hd 3 (by simp))
      obtain ⟨g, g1, g3, g4'⟩ := J.qA (hd 10 (by simp)) hi
      have kp := kept5 g4' (.slice A' N c') (.int .i64 fl2) (.int .i64 dr2) (.int .i64 nw2) (.bool tg2)
      refine o12.run fun _ _ => opF_storeC g3 e33 g4' ⟨J.agree, ?_, ?_, ?_, ?_, ?_, ?_, ?_, ?_, ?_, ?_, ?_, ?_, ?_, ?_⟩
      · exact kp.2.bel _ _ g1 J.bel
      · simpa using J.x0
      · simpa using J.x1
      · simpa using J.x4
      · simpa using J.x5
      · simpa using J.x6
      · simpa using J.x7
      · intro _ p2; simp [l3] at p2
      · intro _ p2; simp [l9] at p2
      · intro _
        exact ⟨A', c', kp.2.rows _ _ _ rd, e33, fun _ => ⟨g, g1, g3, kp.1⟩⟩
      · intro p1
        obtain ⟨A4, c4, r4, v4, _⟩ := J.s9 (by simpa using p1)
        exact ⟨A4, c4, kp.2.rows _ _ _ r4, v4, by simp [n13]⟩
      · intro _ h; simp at h
      · intro p1 p2
        obtain ⟨g', k1, k2, k3⟩ := J.qB (by simpa using p1) (by simpa using p2)
        exact ⟨g', k1, k2, kp.2.far _ _ _ (fun e => J.qq (hd 10 (by simp)) (hd 11 (by simp)) g g' g3 k2 e.symm) k3⟩
      · simpa using J.qq
    · have hd := o13.needs ho hall
      have l9 := hd 9 (by simp)
      have l12 := hd 12 (by simp)
      have l3 := o9.clo hclo l9 3 (by simp)
      have l10 := o12.clo hclo l12 10 (by simp)
      obtain ⟨A', c', rd, e33, _⟩ := J.s9 (hd 9 (by simp))
      obtain ⟨g, g1, g3, g4'⟩ := J.qB (hd 11 (by simp)) hi
      have kp := kept5 g4' (.slice A' N c') (.int .i64 fl2) (.int .i64 dr2) (.int .i64 nw2) (.bool tg2)
      refine o13.run fun _ _ => opF_storeC g3 e33 g4' ⟨J.agree, ?_, ?_, ?_, ?_, ?_, ?_, ?_, ?_, ?_, ?_, ?_, ?_, ?_, ?_⟩
      · exact kp.2.bel _ _ g1 J.bel
      · simpa using J.x0
      · simpa using J.x1
      · simpa using J.x4
      · simpa using J.x5
      · simpa using J.x6
      · simpa using J.x7
      · intro _ p2; simp [l3] at p2
      · intro _ p2; simp [l9] at p2
      · intro p1
        obtain ⟨A4, c4, r4, v4, w4⟩ := J.s3 (by simpa using p1)
        refine ⟨A4, c4, kp.2.rows _ _ _ r4, v4, fun _ => ?_⟩
        obtain ⟨g', k1, k2, k3⟩ := w4 l12
        exact ⟨g', k1, k2, kp.2.far _ _ _ (J.qq l10 (hd 11 (by simp)) g' g k2 g3) k3⟩
      · intro _
        exact ⟨A', c', kp.2.rows _ _ _ rd, e33, fun _ => ⟨g, g1, g3, kp.1⟩⟩
      · intro _ p2; simp [l12] at p2
      · intro _ h; simp at h
      · simpa using J.qq
  · intro L a w hall J
    obtain ⟨A', c', rd, _, e11⟩ := J.s3 (hall 3 (by omega))
    obtain ⟨g, g1, g3, g5⟩ := e11 (hall 12 (by omega))
    obtain ⟨A'', c'', rd2, _, e12⟩ := J.s9 (hall 9 (by omega))
    obtain ⟨g', k1, k3, k5⟩ := e12 (hall 13 (by omega))
    rw [J.agree.lay hds]
    exact fin (fun d => a.eval (.tmp d)) w A' c' g A'' c'' g' g3 k3 rd g5 rd2 k5 J.bel

end Go.Proofs.Ytoiegffnmjlkdaa
