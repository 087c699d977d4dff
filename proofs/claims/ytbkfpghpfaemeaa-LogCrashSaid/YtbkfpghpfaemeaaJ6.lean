/-
  Texts that the walks of the statements over logs lean on, joined (RefFrReg, RefFrTake, RefRecTake, RecApart, RecBack, LogMath, RecsOwn, RangeMem). Conditions: those that each theorem names.
-/
import Derived.Test.YtbkfpghpfaemeaaJ2
import Derived.Test.YtbkfpghpfaemeaaJ3
import Derived.Test.YtbkfpghpfaemeaaJ4
import Derived.Test.YtbkfpghpfaemeaaJ5
import Derived.Laws.Append
import Derived.RangeFuncNested

/-
  The region of the document's own 'Take' of a frame that lays the payload and what is behind it: whatever the order. Conditions: those that each theorem names.
-/
namespace Go.Proofs.Ytbkfpghpfaemeaa
open Go.RowKit Go.Shelf

set_option maxRecDepth 100000 in
/-- 'append([]byte{}, x...)': nothing that was there turns. -/
theorem run_app0 (w : World) (base b : Nat) (hb : base ≤ b) (hw : Whole w b 5 #[]) (B : Nat) (A : Option Addr) (m c : Nat) (bs : List Nat) (hr : Rd w B A m (bv bs)) (hm : m ≤ 1000000) (hbase : base ≤ w.heap.size) :
    ∃ A' c' w', (Builtin.append_ #[22, 22] 22 #[.slice (some ⟨b, 0, none⟩) 0 0, .slice A m c]).run Try.prog w = .ok (.slice A' m c') w' ∧ w'.ownsRow base 5 1 (.slice A' m c') m (bv bs) ∧ Below w.heap.size w w' := by
  obtain ⟨i0, hi, hz0, hz1, hz2⟩ := info_parts info_u8
  have ht := Try.underlying22
  rcases Nat.eq_zero_or_pos m with h | h
  · subst h
    have hbs : bs = [] := by have := hr.1; rw [bv_length] at this; exact List.eq_nil_of_length_eq_zero this
    subst hbs
    refine ⟨some ⟨b, 0, none⟩, 0, w, ?_, ⟨by simp [bv], .inr ⟨b, 0, #[], rfl, hb, hw, Nat.le_refl _, by unfold maxLen; omega, rfl, rfl⟩⟩, Below.refl _ _⟩
    rcases A with _ | ad
    · simp [Builtin.append_, run_underlying ht, sizeOf, typeInfo, hi, Builtin.lenOf, Builtin.firstCells, storeCells]
    · have hf := run_firstCells_some (P := Try.prog) w i0.size 0 ad 0 c [] (by simp) (by simp)
      simp [Builtin.append_, run_underlying ht, sizeOf, typeInfo, hi, Builtin.lenOf, hf, storeCells]
  · obtain ⟨b', off, rfl, hlt, hc⟩ := hr.2 h
    have hl : (bv bs).length = m := hr.1
    have hrun := run_append_grow (P := Try.prog) w 22 22 5 i0 (.int .u8 0) ht hi hz0 ⟨b, 0, none⟩ 0 0 [] (by simp) (by simp) ⟨b', off, none⟩ m c (bv bs) (by rw [hl, hz1, Nat.mul_one]) (fun j v hj => by
      have hjm : j < m := by rw [← hl]; exact (List.getElem?_eq_some_iff.1 hj).1
      rw [Addr.add_lit, hc j hjm, hj]) (by omega) (by omega) (by rw [hz2]; exact growslice_fits (by omega) (by omega))
    rw [Nat.zero_add] at hrun
    have hge := grownCap_ge w m 0 5
    have hcm := grownCap_le_maxLen w m 0 5 (by unfold maxLen; omega)
    refine ⟨_, _, _, hrun, ⟨by rw [hl, Nat.mul_one], .inr ⟨w.heap.size, _, _, rfl, hbase, heap_alloc_new w.drew _, hge, hcm, ?_, ?_⟩⟩, ((Below.refl _ w).drew).alloc (Nat.le_refl _) _⟩
    · simp only [Array.size_append, List.size_toArray, size_zeroCells, hl, List.length_nil]
      simp [Value.cells]; omega
    · simp only [Array.toList_append, List.nil_append, Nat.mul_one]
      rw [← hl]
      exact List.take_left

section
variable {K : Act → World → Prop} {Q : Exit → Act → World → Prop} {a : Act} {w : World} {dst : Option Tmp} {t : TypeId} {pos : String} {after : Array Edge} {x y : Operand}
set_option maxRecDepth 100000 in
theorem opT_move {v : Value} (hx : a.eval x = v) (h : K (a.put dst v) w) :
    ({ dst := dst, op := .move x, type := t, pos := pos, after := after, guard := none } : Oper).wp Try.prog a w K Q := by
  unfold Oper.wp execOp
  simp only [hx]
  go_simp
  exact h
set_option maxRecDepth 100000 in
theorem opT_assign {v : Value} (hx : a.eval x = v) (h : K (a.put dst v) w) :
    ({ dst := dst, op := .assign x, type := t, pos := pos, after := after, guard := none } : Oper).wp Try.prog a w K Q := by
  unfold Oper.wp execOp
  simp only [hx]
  go_simp
  exact h
set_option maxRecDepth 100000 in
theorem opT_lit0 (h : K (a.put dst (.slice (some ⟨w.heap.size, 0, none⟩) 0 0)) (w.alloc (.cells #[] 5))) :
    ({ dst := dst, op := .buildSlice 22 0 #[], type := t, pos := pos, after := after, guard := none } : Oper).wp Try.prog a w K Q := by
  unfold Oper.wp execOp
  go_simp
  exact h
set_option maxRecDepth 100000 in
theorem opT_head {vx vy v : Value} (hx : a.eval x = vx) (hy : a.eval y = vy) (hr : ∀ w : World, (Instr.slice 22 vx none (some vy) none).run Try.prog w = .ok v w) (h : K (a.put dst v) w) :
    ({ dst := dst, op := .slice 22 x none (some y) none, type := t, pos := pos, after := after, guard := none } : Oper).wp Try.prog a w K Q := by
  unfold Oper.wp execOp
  simp only [hx, hy, Option.map_some, Option.map_none]
  go_simp
  exact h
set_option maxRecDepth 100000 in
theorem opT_rest {vx vy v : Value} (hx : a.eval x = vx) (hy : a.eval y = vy) (hr : ∀ w : World, (Instr.slice 22 vx (some vy) none none).run Try.prog w = .ok v w) (h : K (a.put dst v) w) :
    ({ dst := dst, op := .slice 22 x (some y) none none, type := t, pos := pos, after := after, guard := none } : Oper).wp Try.prog a w K Q := by
  unfold Oper.wp execOp
  simp only [hx, hy, Option.map_some, Option.map_none]
  go_simp
  exact h
set_option maxRecDepth 100000 in
theorem opT_append {vs vx v' : Value} {w' : World} (hx : a.eval x = vs) (hy : a.eval y = vx) (hr : (Builtin.append_ #[22, 22] t #[vs, vx]).run Try.prog w = .ok v' w') (h : K (a.put dst v') w') :
    ({ dst := dst, op := .call { callee := .builtin .append, args := #[x, y], argTypes := #[22, 22] }, type := t, pos := pos, after := after, guard := none } : Oper).wp Try.prog a w K Q := by
  unfold Oper.wp execOp
  simp only [resolve, invoke, builtin, Sem.run_bind, Sem.run_pure, Result.andThen_ok, List.map_toArray, List.map_cons, List.map_nil, hx, hy, hr]
  exact h
end

abbrev layDs : List Nat := [52, 53, 54, 55, 56, 57, 58, 59, 60, 61, 2, 3, 4]

/-- What holds behind any operations of the region that have come up. -/
structure LayI (a0 : Act) (base : Nat) (W0 : World) (A1 : Option Addr) (R c1 N : Nat) (p : List Nat) (A : Option Addr) (n c F : Nat) (A' : Option Addr) (M cr : Nat) (r : List Nat) (L : Nat → Bool) (a : Act) (w : World) (b1 b2 : Nat) (A3 : Option Addr) (c3 : Nat) (A4 : Option Addr) (c4 : Nat) : Prop where
  agree : Agree layDs a0 a
  below : Below W0.heap.size W0 w
  e0 : L 0 = true → a.eval (.tmp 52) = .slice (some ⟨b1, 0, none⟩) 0 0 ∧ base ≤ b1 ∧ Whole w b1 5 #[]
  x1 : L 1 = true → a.eval (.tmp 53) = .slice A1 R c1
  x2 : L 2 = true → a.eval (.tmp 54) = .int .i64 (N : Int)
  x3 : L 3 = true → a.eval (.tmp 55) = .slice A1 N c1
  e4 : L 4 = true → a.eval (.tmp 56) = .slice A3 N c3 ∧ w.ownsRow base 5 1 (.slice A3 N c3) N (bv p)
  e5 : L 5 = true → a.eval (.tmp 57) = .slice (some ⟨b2, 0, none⟩) 0 0 ∧ base ≤ b2 ∧ Whole w b2 5 #[]
  x6 : L 6 = true → a.eval (.tmp 58) = .slice A n c
  x7 : L 7 = true → a.eval (.tmp 59) = .int .i64 (F : Int)
  x8 : L 8 = true → a.eval (.tmp 60) = .slice A' M cr
  e9 : L 9 = true → a.eval (.tmp 61) = .slice A4 M c4 ∧ w.ownsRow base 5 1 (.slice A4 M c4) M (bv r)
  e10 : L 10 = true → a.eval (.tmp 2) = .slice A3 N c3
  e11 : L 11 = true → a.eval (.tmp 3) = .slice A4 M c4
  e12 : L 12 = true → a.eval (.tmp 4) = .int .i64 0

set_option maxRecDepth 100000 in
theorem lay_region {ops : Array Oper} {Q : Exit → Act → World → Prop} {id : Nat} (hsize : ops.size = 13) (hlow : lowOnly ops = true)
    (o0 : At ops 0 (some 52) (.buildSlice 22 0 #[]) 22 [])
    (o1 : At ops 1 (some 53) (.move (.tmp 6)) 22 [])
    (o2 : At ops 2 (some 54) (.move (.tmp 5)) 3 [])
    (o3 : At ops 3 (some 55) (.slice 22 (.tmp 53) none (some (.tmp 54)) none) 22 [1, 2])
    (o4 : At ops 4 (some 56) (.call { callee := .builtin .append, args := #[.tmp 52, .tmp 55], argTypes := #[22, 22] }) 22 [0, 3])
    (o5 : At ops 5 (some 57) (.buildSlice 22 0 #[]) 22 [])
    (o6 : At ops 6 (some 58) (.move (.tmp 0)) 22 [])
    (o7 : At ops 7 (some 59) (.move (.tmp 10)) 3 [])
    (o8 : At ops 8 (some 60) (.slice 22 (.tmp 58) (some (.tmp 59)) none none) 22 [6, 7])
    (o9 : At ops 9 (some 61) (.call { callee := .builtin .append, args := #[.tmp 57, .tmp 60], argTypes := #[22, 22] }) 22 [5, 8])
    (o10 : At ops 10 (some 2) (.assign (.tmp 56)) 22 [4])
    (o11 : At ops 11 (some 3) (.assign (.tmp 61)) 22 [9])
    (o12 : At ops 12 (some 4) (.assign (.const (.int .i64 0))) 30 [])
    (a0 : Act) (hds : ∀ d ∈ layDs, d < a0.tmps.size) (base : Nat) (W0 : World) (A1 : Option Addr) (R c1 N : Nat) (p : List Nat) (A : Option Addr) (n c F : Nat) (A' : Option Addr) (M cr : Nat) (r : List Nat)
    (h6 : a0.eval (.tmp 6) = .slice A1 R c1) (h5 : a0.eval (.tmp 5) = .int .i64 (N : Int)) (h0 : a0.eval (.tmp 0) = .slice A n c) (h10 : a0.eval (.tmp 10) = .int .i64 (F : Int)) (hbase : base ≤ W0.heap.size)
    (hs1 : ∀ w : World, (Instr.slice 22 (.slice A1 R c1) none (some (.int .i64 (N : Int))) none).run Try.prog w = .ok (.slice A1 N c1) w)
    (hs2 : ∀ w : World, (Instr.slice 22 (.slice A n c) (some (.int .i64 (F : Int))) none none).run Try.prog w = .ok (.slice A' M cr) w)
    (hr1 : Rd W0 W0.heap.size A1 N (bv p)) (hr2 : Rd W0 W0.heap.size A' M (bv r)) (hN : N ≤ 1000000) (hM : M ≤ 1000000)
    (fin : ∀ σ w A3 c3 A4 c4, σ 2 = .slice A3 N c3 → σ 3 = .slice A4 M c4 → σ 4 = .int .i64 0 → Below W0.heap.size W0 w → w.ownsRow base 5 1 (.slice A3 N c3) N (bv p) → w.ownsRow base 5 1 (.slice A4 M c4) M (bv r) → Q .normal (lay σ layDs a0) w) :
    (Code.region id ops true).wp Try.prog Q a0 W0 := by
  refine region_clo (by kernel_rfl) hlow (fun L a w => ∃ b1 b2 A3 c3 A4 c4, LayI a0 base W0 A1 R c1 N p A n c F A' M cr r L a w b1 b2 A3 c3 A4 c4) ?_ ?_ ?_
  · exact ⟨0, 0, none, 0, none, 0, Agree.refl _ _, (Below.refl _ _).drew, by simp, by simp, by simp, by simp, by simp, by simp, by simp, by simp, by simp, by simp, by simp, by simp, by simp⟩
  · rintro i o L a w ho hi hclo hall ⟨b1, b2, A3, c3, A4, c4, I⟩
    have hlt : i < 13 := by rw [← hsize]; exact (Array.getElem?_eq_some_iff.1 ho).1
    have hz : ∀ d ∈ layDs, d < a.tmps.size := fun d hd => by rw [I.agree.size]; exact hds d hd
    have hbw : base ≤ w.heap.size := Nat.le_trans hbase I.below.size
    rcases (by omega : i = 0 ∨ i = 1 ∨ i = 2 ∨ i = 3 ∨ i = 4 ∨ i = 5 ∨ i = 6 ∨ i = 7 ∨ i = 8 ∨ i = 9 ∨ i = 10 ∨ i = 11 ∨ i = 12) with rfl | rfl | rfl | rfl | rfl | rfl | rfl | rfl | rfl | rfl | rfl | rfl | rfl
    · have hd := o0.needs ho hall
      obtain ⟨WN, hWN⟩ : ∃ WN, w.alloc (.cells #[] 5) = WN := ⟨_, rfl⟩
      have hN' : Below w.heap.size w WN := by rw [← hWN]; exact (Below.refl _ w).alloc (Nat.le_refl _) _
      have W_e5 : base ≤ b2 ∧ Whole w b2 5 #[] → base ≤ b2 ∧ Whole WN b2 5 #[] := fun h => ⟨h.1, h.2.under hN'⟩
      have W_e4 : w.ownsRow base 5 1 (.slice A3 N c3) N (bv p) → WN.ownsRow base 5 1 (.slice A3 N c3) N (bv p) := fun h => own_under h hN'
      have W_e9 : w.ownsRow base 5 1 (.slice A4 M c4) M (bv r) → WN.ownsRow base 5 1 (.slice A4 M c4) M (bv r) := fun h => own_under h hN'
      have hnew : Whole WN w.heap.size 5 #[] := by rw [← hWN]; exact Whole.new w _ _
      refine o0.run fun pos after => opT_lit0 ?_
      rw [hWN]
      refine ⟨w.heap.size, b2, A3, c3, A4, c4, I.agree.put (by decide) _, I.below.trans (hN'.mono I.below.size), ?_, ?_, ?_, ?_, ?_, ?_, ?_, ?_, ?_, ?_, ?_, ?_, ?_⟩
      · intro _; exact ⟨eval_new (hz _ (by decide)) _, hbw, hnew⟩
      · simpa [eval_old] using I.x1
      · simpa [eval_old] using I.x2
      · simpa [eval_old] using I.x3
      · intro h; obtain ⟨g1, g2⟩ := I.e4 h; exact ⟨by simpa [eval_old] using g1, W_e4 g2⟩
      · intro h; obtain ⟨g1, g2⟩ := I.e5 h; exact ⟨by simpa [eval_old] using g1, W_e5 g2⟩
      · simpa [eval_old] using I.x6
      · simpa [eval_old] using I.x7
      · simpa [eval_old] using I.x8
      · intro h; obtain ⟨g1, g2⟩ := I.e9 h; exact ⟨by simpa [eval_old] using g1, W_e9 g2⟩
      · simpa [eval_old] using I.e10
      · simpa [eval_old] using I.e11
      · simpa [eval_old] using I.e12
    · have hd := o1.needs ho hall
      refine o1.run fun pos after => opT_move (v := .slice A1 R c1) (by rw [I.agree.eval (by decide)]; exact h6) ⟨b1, b2, A3, c3, A4, c4, I.agree.put (by decide) _, I.below, ?_, ?_, ?_, ?_, ?_, ?_, ?_, ?_, ?_, ?_, ?_, ?_, ?_⟩
      · simpa [eval_old] using I.e0
      · intro _; exact eval_new (hz _ (by decide)) _
      · simpa [eval_old] using I.x2
      · simpa [eval_old] using I.x3
      · simpa [eval_old] using I.e4
      · simpa [eval_old] using I.e5
      · simpa [eval_old] using I.x6
      · simpa [eval_old] using I.x7
      · simpa [eval_old] using I.x8
      · simpa [eval_old] using I.e9
      · simpa [eval_old] using I.e10
      · simpa [eval_old] using I.e11
      · simpa [eval_old] using I.e12
    · have hd := o2.needs ho hall
      refine o2.run fun pos after => opT_move (v := .int .i64 (N : Int)) (by rw [I.agree.eval (by decide)]; exact h5) ⟨b1, b2, A3, c3, A4, c4, I.agree.put (by decide) _, I.below, ?_, ?_, ?_, ?_, ?_, ?_, ?_, ?_, ?_, ?_, ?_, ?_, ?_⟩
      · simpa [eval_old] using I.e0
      · simpa [eval_old] using I.x1
      · intro _; exact eval_new (hz _ (by decide)) _
      · simpa [eval_old] using I.x3
      · simpa [eval_old] using I.e4
      · simpa [eval_old] using I.e5
      · simpa [eval_old] using I.x6
      · simpa [eval_old] using I.x7
      · simpa [eval_old] using I.x8
      · simpa [eval_old] using I.e9
      · simpa [eval_old] using I.e10
      · simpa [eval_old] using I.e11
      · simpa [eval_old] using I.e12
    · have hd := o3.needs ho hall
      refine o3.run fun pos after => opT_head (I.x1 (hd 1 (by simp))) (I.x2 (hd 2 (by simp))) hs1 ⟨b1, b2, A3, c3, A4, c4, I.agree.put (by decide) _, I.below, ?_, ?_, ?_, ?_, ?_, ?_, ?_, ?_, ?_, ?_, ?_, ?_, ?_⟩
      · simpa [eval_old] using I.e0
      · simpa [eval_old] using I.x1
      · simpa [eval_old] using I.x2
      · intro _; exact eval_new (hz _ (by decide)) _
      · simpa [eval_old] using I.e4
      · simpa [eval_old] using I.e5
      · simpa [eval_old] using I.x6
      · simpa [eval_old] using I.x7
      · simpa [eval_old] using I.x8
      · simpa [eval_old] using I.e9
      · simpa [eval_old] using I.e10
      · simpa [eval_old] using I.e11
      · simpa [eval_old] using I.e12
    · have hd := o4.needs ho hall
      obtain ⟨g1, g2, g3⟩ := I.e0 (hd 0 (by simp))
      obtain ⟨A5, c5, WN, hrun, hown, hN'⟩ := run_app0 w base _ g2 g3 W0.heap.size _ _ c1 _ (hr1.below I.below) hN hbw
      have W_e0 : base ≤ b1 ∧ Whole w b1 5 #[] → base ≤ b1 ∧ Whole WN b1 5 #[] := fun h => ⟨h.1, h.2.under hN'⟩
      have W_e5 : base ≤ b2 ∧ Whole w b2 5 #[] → base ≤ b2 ∧ Whole WN b2 5 #[] := fun h => ⟨h.1, h.2.under hN'⟩
      have W_e9 : w.ownsRow base 5 1 (.slice A4 M c4) M (bv r) → WN.ownsRow base 5 1 (.slice A4 M c4) M (bv r) := fun h => own_under h hN'
      have n10 := o10.not hclo (j := 4) (by simp) hi
      refine o4.run fun pos after => opT_append g1 (I.x3 (hd 3 (by simp))) hrun ⟨b1, b2, A5, c5, A4, c4, I.agree.put (by decide) _, I.below.trans (hN'.mono I.below.size), ?_, ?_, ?_, ?_, ?_, ?_, ?_, ?_, ?_, ?_, ?_, ?_, ?_⟩
      · intro h; obtain ⟨g1, g2⟩ := I.e0 h; exact ⟨by simpa [eval_old] using g1, W_e0 g2⟩
      · simpa [eval_old] using I.x1
      · simpa [eval_old] using I.x2
      · simpa [eval_old] using I.x3
      · intro _; exact ⟨eval_new (hz _ (by decide)) _, hown⟩
      · intro h; obtain ⟨g1, g2⟩ := I.e5 h; exact ⟨by simpa [eval_old] using g1, W_e5 g2⟩
      · simpa [eval_old] using I.x6
      · simpa [eval_old] using I.x7
      · simpa [eval_old] using I.x8
      · intro h; obtain ⟨g1, g2⟩ := I.e9 h; exact ⟨by simpa [eval_old] using g1, W_e9 g2⟩
      · intro h; simp [n10] at h
      · simpa [eval_old] using I.e11
      · simpa [eval_old] using I.e12
    · have hd := o5.needs ho hall
      obtain ⟨WN, hWN⟩ : ∃ WN, w.alloc (.cells #[] 5) = WN := ⟨_, rfl⟩
      have hN' : Below w.heap.size w WN := by rw [← hWN]; exact (Below.refl _ w).alloc (Nat.le_refl _) _
      have W_e0 : base ≤ b1 ∧ Whole w b1 5 #[] → base ≤ b1 ∧ Whole WN b1 5 #[] := fun h => ⟨h.1, h.2.under hN'⟩
      have W_e4 : w.ownsRow base 5 1 (.slice A3 N c3) N (bv p) → WN.ownsRow base 5 1 (.slice A3 N c3) N (bv p) := fun h => own_under h hN'
      have W_e9 : w.ownsRow base 5 1 (.slice A4 M c4) M (bv r) → WN.ownsRow base 5 1 (.slice A4 M c4) M (bv r) := fun h => own_under h hN'
      have hnew : Whole WN w.heap.size 5 #[] := by rw [← hWN]; exact Whole.new w _ _
      refine o5.run fun pos after => opT_lit0 ?_
      rw [hWN]
      refine ⟨b1, w.heap.size, A3, c3, A4, c4, I.agree.put (by decide) _, I.below.trans (hN'.mono I.below.size), ?_, ?_, ?_, ?_, ?_, ?_, ?_, ?_, ?_, ?_, ?_, ?_, ?_⟩
      · intro h; obtain ⟨g1, g2⟩ := I.e0 h; exact ⟨by simpa [eval_old] using g1, W_e0 g2⟩
      · simpa [eval_old] using I.x1
      · simpa [eval_old] using I.x2
      · simpa [eval_old] using I.x3
      · intro h; obtain ⟨g1, g2⟩ := I.e4 h; exact ⟨by simpa [eval_old] using g1, W_e4 g2⟩
      · intro _; exact ⟨eval_new (hz _ (by decide)) _, hbw, hnew⟩
      · simpa [eval_old] using I.x6
      · simpa [eval_old] using I.x7
      · simpa [eval_old] using I.x8
      · intro h; obtain ⟨g1, g2⟩ := I.e9 h; exact ⟨by simpa [eval_old] using g1, W_e9 g2⟩
      · simpa [eval_old] using I.e10
      · simpa [eval_old] using I.e11
      · simpa [eval_old] using I.e12
    · have hd := o6.needs ho hall
      refine o6.run fun pos after => opT_move (v := .slice A n c) (by rw [I.agree.eval (by decide)]; exact h0) ⟨b1, b2, A3, c3, A4, c4, I.agree.put (by decide) _, I.below, ?_, ?_, ?_, ?_, ?_, ?_, ?_, ?_, ?_, ?_, ?_, ?_, ?_⟩
      · simpa [eval_old] using I.e0
      · simpa [eval_old] using I.x1
      · simpa [eval_old] using I.x2
      · simpa [eval_old] using I.x3
      · simpa [eval_old] using I.e4
      · simpa [eval_old] using I.e5
      · intro _; exact eval_new (hz _ (by decide)) _
      · simpa [eval_old] using I.x7
      · simpa [eval_old] using I.x8
      · simpa [eval_old] using I.e9
      · simpa [eval_old] using I.e10
      · simpa [eval_old] using I.e11
      · simpa [eval_old] using I.e12
    · have hd := o7.needs ho hall
      refine o7.run fun pos after => opT_move (v := .int .i64 (F : Int)) (by rw [I.agree.eval (by decide)]; exact h10) ⟨b1, b2, A3, c3, A4, c4, I.agree.put (by decide) _, I.below, ?_, ?_, ?_, ?_, ?_, ?_, ?_, ?_, ?_, ?_, ?_, ?_, ?_⟩
      · simpa [eval_old] using I.e0
      · simpa [eval_old] using I.x1
      · simpa [eval_old] using I.x2
      · simpa [eval_old] using I.x3
      · simpa [eval_old] using I.e4
      · simpa [eval_old] using I.e5
      · simpa [eval_old] using I.x6
      · intro _; exact eval_new (hz _ (by decide)) _
      · simpa [eval_old] using I.x8
      · simpa [eval_old] using I.e9
      · simpa [eval_old] using I.e10
      · simpa [eval_old] using I.e11
      · simpa [eval_old] using I.e12
    · have hd := o8.needs ho hall
      refine o8.run fun pos after => opT_rest (I.x6 (hd 6 (by simp))) (I.x7 (hd 7 (by simp))) hs2 ⟨b1, b2, A3, c3, A4, c4, I.agree.put (by decide) _, I.below, ?_, ?_, ?_, ?_, ?_, ?_, ?_, ?_, ?_, ?_, ?_, ?_, ?_⟩
      · simpa [eval_old] using I.e0
      · simpa [eval_old] using I.x1
      · simpa [eval_old] using I.x2
      · simpa [eval_old] using I.x3
      · simpa [eval_old] using I.e4
      · simpa [eval_old] using I.e5
      · simpa [eval_old] using I.x6
      · simpa [eval_old] using I.x7
      · intro _; exact eval_new (hz _ (by decide)) _
      · simpa [eval_old] using I.e9
      · simpa [eval_old] using I.e10
      · simpa [eval_old] using I.e11
      · simpa [eval_old] using I.e12
    · have hd := o9.needs ho hall
      obtain ⟨g1, g2, g3⟩ := I.e5 (hd 5 (by simp))
      obtain ⟨A5, c5, WN, hrun, hown, hN'⟩ := run_app0 w base _ g2 g3 W0.heap.size _ _ cr _ (hr2.below I.below) hM hbw
      have W_e0 : base ≤ b1 ∧ Whole w b1 5 #[] → base ≤ b1 ∧ Whole WN b1 5 #[] := fun h => ⟨h.1, h.2.under hN'⟩
      have W_e5 : base ≤ b2 ∧ Whole w b2 5 #[] → base ≤ b2 ∧ Whole WN b2 5 #[] := fun h => ⟨h.1, h.2.under hN'⟩
      have W_e4 : w.ownsRow base 5 1 (.slice A3 N c3) N (bv p) → WN.ownsRow base 5 1 (.slice A3 N c3) N (bv p) := fun h => own_under h hN'
      have n11 := o11.not hclo (j := 9) (by simp) hi
      refine o9.run fun pos after => opT_append g1 (I.x8 (hd 8 (by simp))) hrun ⟨b1, b2, A3, c3, A5, c5, I.agree.put (by decide) _, I.below.trans (hN'.mono I.below.size), ?_, ?_, ?_, ?_, ?_, ?_, ?_, ?_, ?_, ?_, ?_, ?_, ?_⟩
      · intro h; obtain ⟨g1, g2⟩ := I.e0 h; exact ⟨by simpa [eval_old] using g1, W_e0 g2⟩
      · simpa [eval_old] using I.x1
      · simpa [eval_old] using I.x2
      · simpa [eval_old] using I.x3
      · intro h; obtain ⟨g1, g2⟩ := I.e4 h; exact ⟨by simpa [eval_old] using g1, W_e4 g2⟩
      · intro h; obtain ⟨g1, g2⟩ := I.e5 h; exact ⟨by simpa [eval_old] using g1, W_e5 g2⟩
      · simpa [eval_old] using I.x6
      · simpa [eval_old] using I.x7
      · simpa [eval_old] using I.x8
      · intro _; exact ⟨eval_new (hz _ (by decide)) _, hown⟩
      · simpa [eval_old] using I.e10
      · intro h; simp [n11] at h
      · simpa [eval_old] using I.e12
    · have hd := o10.needs ho hall
      refine o10.run fun pos after => opT_assign (I.e4 (hd 4 (by simp))).1 ⟨b1, b2, A3, c3, A4, c4, I.agree.put (by decide) _, I.below, ?_, ?_, ?_, ?_, ?_, ?_, ?_, ?_, ?_, ?_, ?_, ?_, ?_⟩
      · simpa [eval_old] using I.e0
      · simpa [eval_old] using I.x1
      · simpa [eval_old] using I.x2
      · simpa [eval_old] using I.x3
      · simpa [eval_old] using I.e4
      · simpa [eval_old] using I.e5
      · simpa [eval_old] using I.x6
      · simpa [eval_old] using I.x7
      · simpa [eval_old] using I.x8
      · simpa [eval_old] using I.e9
      · intro _; exact eval_new (hz _ (by decide)) _
      · simpa [eval_old] using I.e11
      · simpa [eval_old] using I.e12
    · have hd := o11.needs ho hall
      refine o11.run fun pos after => opT_assign (I.e9 (hd 9 (by simp))).1 ⟨b1, b2, A3, c3, A4, c4, I.agree.put (by decide) _, I.below, ?_, ?_, ?_, ?_, ?_, ?_, ?_, ?_, ?_, ?_, ?_, ?_, ?_⟩
      · simpa [eval_old] using I.e0
      · simpa [eval_old] using I.x1
      · simpa [eval_old] using I.x2
      · simpa [eval_old] using I.x3
      · simpa [eval_old] using I.e4
      · simpa [eval_old] using I.e5
      · simpa [eval_old] using I.x6
      · simpa [eval_old] using I.x7
      · simpa [eval_old] using I.x8
      · simpa [eval_old] using I.e9
      · simpa [eval_old] using I.e10
      · intro _; exact eval_new (hz _ (by decide)) _
      · simpa [eval_old] using I.e12
    · have hd := o12.needs ho hall
      refine o12.run fun pos after => opT_assign (v := .int .i64 0) rfl ⟨b1, b2, A3, c3, A4, c4, I.agree.put (by decide) _, I.below, ?_, ?_, ?_, ?_, ?_, ?_, ?_, ?_, ?_, ?_, ?_, ?_, ?_⟩
      · simpa [eval_old] using I.e0
      · simpa [eval_old] using I.x1
      · simpa [eval_old] using I.x2
      · simpa [eval_old] using I.x3
      · simpa [eval_old] using I.e4
      · simpa [eval_old] using I.e5
      · simpa [eval_old] using I.x6
      · simpa [eval_old] using I.x7
      · simpa [eval_old] using I.x8
      · simpa [eval_old] using I.e9
      · simpa [eval_old] using I.e10
      · simpa [eval_old] using I.e11
      · intro _; exact eval_new (hz _ (by decide)) _
  · rintro L a w hall ⟨b1, b2, A3, c3, A4, c4, I⟩
    rw [I.agree.lay hds]
    exact fin _ w A3 c3 A4 c4 (I.e10 (hall 10 (by omega))) (I.e11 (hall 11 (by omega))) (I.e12 (hall 12 (by omega))) I.below (I.e4 (hall 4 (by omega))).2 (I.e9 (hall 9 (by omega))).2

end Go.Proofs.Ytbkfpghpfaemeaa

/-
  The walk of the document's own 'Take' of a frame. Conditions: those that each theorem names.
-/
namespace Go.Proofs.Ytbkfpghpfaemeaa
open Go.RowKit Go.Shelf

set_option maxRecDepth 100000 in
/-- What Take of a number answers of bytes that begin with one, or do not. -/
theorem refTakeNum {A : Option Addr} {n c : Nat} {bs : List Nat} {B : Nat} {w : World} (hr : Rd w B A n (bv bs)) (hB : B ≤ w.heap.size) (hb : ∀ x ∈ bs, x < 256) (hn : n ≤ 1000000) (hc : n ≤ c) {N K E : Nat} (hF : first bs = (N, K, E)) :
    Calls Try.prog 44 #[.slice A n c] w (TakeRef N (behind bs) E w) :=
  refTake_is A n c bs B w hr hB hb hn hc (by rw [hF]) (by rw [hF]) rfl

set_option maxRecDepth 100000 in
theorem first_num {bs : List Nat} {N K E : Nat} (h : first bs = (N, K, E)) : N ≤ 1099511627776 := by
  rcases scan_cases bs 0 0 with hc | hc | ⟨N', K', hc, h1, _, h2⟩
  all_goals
    unfold first at h
    rw [hc] at h
    simp only [Prod.mk.injEq] at h
    omega

section
variable (A : Option Addr) (n c : Nat) (bs : List Nat) (B : Nat) (w : World) (hr : Rd w B A n (bv bs)) (hB : B ≤ w.heap.size) (hb : ∀ x ∈ bs, x < 256) (hn : n ≤ 1000000) (hc : n ≤ c)
include hr hB hb hn hc

set_option maxRecDepth 100000 in
set_option maxHeartbeats 1000000 in
theorem refFrTake_err {N K E : Nat} (hF : first bs = (N, K, E)) (h : E ≠ 0 ∨ 4000 < N ∨ (behind bs).length < N + 4) :
    Calls Try.prog 30 #[.slice A n c] w (TakeNo w) := by
  have HT := Lib.hid (refTakeNum hr hB hb hn hc hF)
  have hN := first_num hF
  unfold TakeRef at HT
  obtain ⟨R, hR⟩ : ∃ R, (behind bs).length = R := ⟨_, rfl⟩
  rw [hR] at HT h
  have hRn : R ≤ 1000000 := by
    rw [← hR, behind]
    have hl : bs.length = n := by have := hr.1; rwa [bv_length] at this
    split
    · rw [List.length_drop]; omega
    · simp
  clear hr hB hb hF hR
  by_cases hE : E = 0
  · subst hE
    by_cases h4 : (4000 : Int) < (N : Int)
    · go_enter Try.func30, Try.ntmps30
      go_wp2_with fail
      refine (HT.out).mono ?_
      rintro e w1 ⟨A1, c1, rfl, _, b1⟩
      go_wp2_with fail
      go_ret3
      exact ⟨rfl, b1⟩
    · have h5 : (R : Int) < (N : Int) + 4 := by omega
      go_enter Try.func30, Try.ntmps30
      go_wp2_with fail
      refine (HT.out).mono ?_
      rintro e w1 ⟨A1, c1, rfl, _, b1⟩
      go_wp2_with fail
      go_ret3
      exact ⟨rfl, b1⟩
  · have hEb : ((E : Int) != 0) = true := by simp; exact hE
    go_enter Try.func30, Try.ntmps30
    go_wp2_with fail
    refine (HT.out).mono ?_
    rintro e w1 ⟨A1, c1, rfl, _, b1⟩
    go_wp2_with fail
    go_ret3
    exact ⟨rfl, b1⟩

set_option maxRecDepth 100000 in
set_option maxHeartbeats 1000000 in
theorem refFrTake_main {N K : Nat} (hF : first bs = (N, K, 0)) (h4 : N ≤ 4000) (hlen : N + 4 ≤ (behind bs).length) :
    Calls Try.prog 30 #[.slice A n c] w (fun e w' => (IsFr bs ((bs.drop K).take N) ∧ TakeYes ((bs.drop K).take N) (bs.drop (frLen N)) w e w') ∨ ((∀ p, ¬ IsFr bs p) ∧ TakeNo w e w')) := by
  have HT := Lib.hid (refTakeNum hr hB hb hn hc hF)
  unfold TakeRef at HT
  have hbe : behind bs = bs.drop K := by rw [behind, hF, if_pos rfl]
  have hl : bs.length = n := by have := hr.1; rwa [bv_length] at this
  rw [hbe] at HT hlen
  obtain ⟨R, hR⟩ : ∃ R, (bs.drop K).length = R := ⟨_, rfl⟩
  rw [hR] at HT hlen
  have hK := first_ok hb (show (first bs).2.2 = 0 by rw [hF])
  rw [hF] at hK
  simp only at hK
  obtain ⟨hK1, hK2, _⟩ := hK
  have hP2 := put_two h4
  have hKn : K ≤ n := by rw [List.length_drop] at hR; omega
  have hRn : R = n - K := by rw [← hR, List.length_drop, hl]
  obtain ⟨p, hp⟩ : ∃ p, (bs.drop K).take N = p := ⟨_, rfl⟩
  have hpl : p.length = N := by rw [← hp, List.length_take, hR]; omega
  obtain ⟨F, hFr⟩ : ∃ F, frLen N = F := ⟨_, rfl⟩
  have hF0 : F = K + N + 4 := by rw [← hFr, hK2]; rfl
  rw [hp, hFr]
  have HYes : Hid (fr p = bs.take F → IsFr bs p) := fun e => ⟨by rw [hpl]; exact h4, by rw [e]; exact List.take_prefix _ _⟩
  have HNot : Hid (fr p ≠ bs.take F → ∀ q, ¬ IsFr bs q) := fun e q hq => by
    have h1 := isFr_first_all hq
    rw [hF] at h1
    simp only [Prod.mk.injEq] at h1
    obtain ⟨h2, _, _⟩ := hq.lies
    rw [← h1.1, ← hK2, hp] at h2
    subst h2
    refine e ?_
    obtain ⟨r, hr'⟩ := hq.2
    rw [← hr', ← hFr, ← hpl, ← fr_length, List.take_left]
  have i0 : ¬ (4000 : Int) < (N : Int) := by omega
  have i1 : ¬ (R : Int) < (N : Int) + 4 := by omega
  have i2 : (n : Int) - (R : Int) + (N : Int) + 4 = (F : Int) := by omega
  have i3 : (F : Int) ≤ (n : Int) := by omega
  have HR := Lib.hid (hr.more hB)
  have HBy := Lib.hid hb
  have HPB : Hid (∀ x ∈ p, x < 256) := fun x hx => HBy.out x (List.mem_of_mem_drop (List.mem_of_mem_take (hp ▸ hx)))
  have HPL := Lib.hid hpl
  have HL := Lib.hid hl
  have HFr := Lib.hid hFr
  have HP := Lib.hid hp
  have HRl := Lib.hid hR
  have HRn := Lib.hid hRn
  have HF0 := Lib.hid hF0
  have hRle : (R : Int) ≤ (n : Int) := by omega
  have HK2 := Lib.hid hK2
  clear hr hb hB hbe hK1 hF hR hp hpl hFr hl hF0 hRn hK2 hP2 hKn
  go_enter Try.func30, Try.ntmps30
  go_wp2_with fail
  refine (HT.out).mono ?_
  rintro e w1 ⟨A1, c1, rfl, o1, b1⟩
  have HO1 := Lib.hid o1
  have HB1 := Lib.hid b1
  have hcap := own_cap o1
  have hH := run_head A1 R c1 N (by omega)
  have hPut := refFrPut_any A1 N c1 p w1.heap.size w1 (by have h := (Rd.of_own o1).take (k := N) (by omega); rwa [bv, ← List.map_take, HP.out] at h) (Nat.le_refl _) HPB.out (by omega)
  unfold FrOk at hPut
  rw [HPL.out, HFr.out] at hPut
  have HPut := Lib.hid hPut
  clear o1 b1 hPut HT
  go_wp2_with fail
  refine (HPut.out).mono ?_
  rintro e w2 ⟨A2, c2, rfl, o2, d2⟩
  have HB2 := Lib.hid (HB1.out.trans (d2.mono HB1.out.size))
  have HO12 := Lib.hid (own_under HO1.out d2)
  have HO2 := Lib.hid o2
  clear o2 d2 HPut hH
  go_wp2_with fail
  have r1 := run_string w2.drew A2 F c2 (fr p) w2.heap.size (Rd.of_own HO2.out)
  have hRF : Rd w2 w.heap.size A F (bv (bs.take F)) := by
    have h := (HR.out.below HB2.out).take (k := F) (by omega)
    rwa [bv, ← List.map_take] at h
  have r2 := run_string w2.drew A F c (bs.take F) w.heap.size hRF
  have hH := run_head A n c F (by omega)
  have H3 := strB_inj (fr_bytes HPB.out) (fun x hx => HBy.out x (List.mem_of_mem_take hx) : ∀ x ∈ bs.take F, x < 256)
  obtain ⟨s, hs⟩ : ∃ s, strB (fr p) = s := ⟨_, rfl⟩
  obtain ⟨t, ht⟩ : ∃ t, strB (bs.take F) = t := ⟨_, rfl⟩
  rw [hs] at r1 H3
  rw [ht] at r2 H3
  clear hs ht hRF
  by_cases heq : fr p = bs.take F
  · rw [decide_eq_true heq] at H3
    have HY := Lib.hid (HYes.out heq)
    clear heq
    go_region_held3 (fun W => (convert 22 9 (.slice A2 F c2)).run Try.prog W = .ok (.string s) W ∧ (convert 22 9 (.slice A F c)).run Try.prog W = .ok (.string t) W) (go_keep) (fail)
    rename_i hHeld
    clear hHeld r1 r2 H3
    obtain ⟨A', hs2, hA2⟩ := run_rest A n c F (by omega)
    have hs1 := run_head A1 R c1 N (by omega)
    obtain ⟨r, hrr⟩ : ∃ r, bs.drop F = r := ⟨_, rfl⟩
    have hrl : r.length = n - F := by rw [← hrr, List.length_drop, HL.out]
    have hR2 : Rd w2.drew w2.drew.heap.size A' (n - F) (bv r) := by
      have h := ((HR.out.below HB2.out.drew).more HB2.out.size).cut (k := F) (by omega) A' (fun h => hA2 ⟨h, hc⟩)
      rw [← hrr, bv, List.map_drop]; exact h
    have hR1 : Rd w2.drew w2.drew.heap.size A1 N (bv p) := by
      have h := (Rd.of_own HO12.out).take (k := N) (by omega)
      rw [bv, ← List.map_take, HP.out] at h; exact h
    have HRR := Lib.hid hrr
    clear hrr
    go_wp2_with fail
    refine lay_region rfl (by kernel_rfl) ⟨_, rfl, rfl, rfl, rfl, rfl, by kernel_rfl⟩ ⟨_, rfl, rfl, rfl, rfl, rfl, by kernel_rfl⟩ ⟨_, rfl, rfl, rfl, rfl, rfl, by kernel_rfl⟩ ⟨_, rfl, rfl, rfl, rfl, rfl, by kernel_rfl⟩ ⟨_, rfl, rfl, rfl, rfl, rfl, by kernel_rfl⟩ ⟨_, rfl, rfl, rfl, rfl, rfl, by kernel_rfl⟩ ⟨_, rfl, rfl, rfl, rfl, rfl, by kernel_rfl⟩ ⟨_, rfl, rfl, rfl, rfl, rfl, by kernel_rfl⟩ ⟨_, rfl, rfl, rfl, rfl, rfl, by kernel_rfl⟩ ⟨_, rfl, rfl, rfl, rfl, rfl, by kernel_rfl⟩ ⟨_, rfl, rfl, rfl, rfl, rfl, by kernel_rfl⟩ ⟨_, rfl, rfl, rfl, rfl, rfl, by kernel_rfl⟩ ⟨_, rfl, rfl, rfl, rfl, rfl, by kernel_rfl⟩ _ ?_ w.heap.size w2.drew A1 R c1 N p A n c F A' (n - F) (c - F) r rfl rfl rfl rfl HB2.out.size hs1 hs2 hR1 hR2 (by omega) (by omega) ?_
    · intro d hd
      simp only [List.mem_cons, List.not_mem_nil, or_false] at hd
      rcases hd with rfl | rfl | rfl | rfl | rfl | rfl | rfl | rfl | rfl | rfl | rfl | rfl | rfl <;> simp
    intro σ w3 A3 c3 A4 c4 s2 s3 s4 d3 o3 o4
    have HB3 := Lib.hid (HB2.out.drew.trans (d3.mono HB2.out.drew.size))
    have HO3 := Lib.hid o3
    have HO4 := Lib.hid o4
    clear hs1 hs2 hA2 hR1 hR2 d3 o3 o4
    simp only [lay, List.foldl_cons, List.foldl_nil, Act.put, List.setIfInBounds_toArray, List.set_cons_zero, List.set_cons_succ, s2, s3, s4]
    go_wp2_with fail
    go_ret3
    refine .inl ⟨HY.out, A3, c3, A4, c4, by rw [HPL.out, HRR.out, hrl]; rfl, ?_, ?_, HB3.out⟩
    · rw [HPL.out]; exact HO3.out
    · rw [HRR.out, hrl]; exact HO4.out
  · rw [decide_eq_false heq] at H3
    have HN := Lib.hid (HNot.out heq)
    clear heq
    go_region_held3 (fun W => (convert 22 9 (.slice A2 F c2)).run Try.prog W = .ok (.string s) W ∧ (convert 22 9 (.slice A F c)).run Try.prog W = .ok (.string t) W) (go_keep) (fail)
    go_wp2_with fail
    go_ret3
    exact .inr ⟨HN.out, rfl, HB2.out.drew⟩
set_option maxRecDepth 100000 in
/-- Take of a frame, whatever the bytes. -/
theorem refFrTake_any : Calls Try.prog 30 #[.slice A n c] w (fun e w' => (∃ p, IsFr bs p ∧ TakeYes p (bs.drop (frLen p.length)) w e w') ∨ ((∀ p, ¬ IsFr bs p) ∧ TakeNo w e w')) := by
  obtain ⟨N, K, E, hF⟩ : ∃ N K E, first bs = (N, K, E) := ⟨_, _, _, rfl⟩
  by_cases h : E ≠ 0 ∨ 4000 < N ∨ (behind bs).length < N + 4
  · refine (refFrTake_err A n c bs B w hr hB hb hn hc hF h).mono fun e w' h1 => .inr ⟨fun p hp => ?_, h1⟩
    have h2 := isFr_first_all hp
    rw [hF] at h2
    simp only [Prod.mk.injEq] at h2
    obtain ⟨rfl, hK, rfl⟩ := h2
    have h3 := hp.1
    have h4 := hp.le
    have h5 : (behind bs).length = bs.length - K := by rw [behind, hF, if_pos rfl, List.length_drop]
    unfold frLen at h4
    omega
  · obtain rfl : E = 0 := by omega
    have hl : bs.length = n := by have := hr.1; rwa [bv_length] at this
    refine (refFrTake_main A n c bs B w hr hB hb hn hc hF (by omega) (by omega)).mono fun e w' h1 => ?_
    rcases h1 with ⟨h2, h3⟩ | h2
    · refine .inl ⟨_, h2, ?_⟩
      have h4 : ((bs.drop K).take N).length = N := by
        have h5 : (behind bs).length = bs.length - K := by rw [behind, hF, if_pos rfl, List.length_drop]
        rw [List.length_take, List.length_drop]; omega
      rw [h4]; exact h3
    · exact .inr h2
end

end Go.Proofs.Ytbkfpghpfaemeaa

/-
  The walk of the document's own 'Take' of a record. Conditions: those that each theorem names.
-/
namespace Go.Proofs.Ytbkfpghpfaemeaa
open Go.RowKit Go.Shelf

set_option maxRecDepth 100000 in
/-- What holds of the result's cell, at each return. -/
theorem noRec_end {w w' : World} (h : Whole w' w.heap.size 43 #[.int .u8 0, .slice none 0 0]) (hb : Below w.heap.size w w') :
    ((w'.setCell ⟨w.heap.size, 0, none⟩ (.int .u8 0)).setCell ⟨w.heap.size, 1, none⟩ (.slice none 0 0)).cell? ⟨w.heap.size, 0, none⟩ = some (.int .u8 0) ∧ ((w'.setCell ⟨w.heap.size, 0, none⟩ (.int .u8 0)).setCell ⟨w.heap.size, 1, none⟩ (.slice none 0 0)).cell? ⟨w.heap.size, 1, none⟩ = some (.slice none 0 0) ∧
      Below w.heap.size w ((w'.setCell ⟨w.heap.size, 0, none⟩ (.int .u8 0)).setCell ⟨w.heap.size, 1, none⟩ (.slice none 0 0)) := by
  have hw2 := (h.set 0 (.int .u8 0)).set 1 (.slice none 0 0)
  have p0 := hw2.cell 0
  have p1 := hw2.cell 1
  simp at p0 p1
  exact ⟨p0, p1, (hb.setCell (p := ⟨w.heap.size, 0, none⟩) (Nat.le_refl _) _).setCell (p := ⟨w.heap.size, 1, none⟩) (Nat.le_refl _) _⟩

set_option maxRecDepth 100000 in
set_option maxHeartbeats 1000000 in
theorem refTakeRec_is (A : Option Addr) (n c : Nat) (bs : List Nat) (B : Nat) (w : World) (hr : Rd w B A n (bv bs)) (hB : B ≤ w.heap.size) (hb : ∀ x ∈ bs, x < 256) (hn : n ≤ 1000000) (hc : n ≤ c) {r : Option (Nat × List Nat)} (hR : takenRec bs = r) :
    Calls Try.prog 31 #[.slice A n c] w (TakeRecIs r w) := by
  obtain ⟨L, hL⟩ : ∃ L, (takeRow bs).2.1 = L := ⟨_, rfl⟩
  obtain ⟨E, hE⟩ : ∃ E, (takeRow bs).2.2 = E := ⟨_, rfl⟩
  obtain ⟨R, hRR⟩ : ∃ R, behindRow bs = R := ⟨_, rfl⟩
  have hb1 : Below w.heap.size w (w.alloc (.cells #[.int .u8 0, .slice none 0 0] 43)) := (Below.refl _ w).alloc (Nat.le_refl _) _
  have HT : Hid (Calls Try.prog 46 #[.slice A n c] (w.alloc (.cells #[.int .u8 0, .slice none 0 0] 43)) (RowIs L R E (w.alloc (.cells #[.int .u8 0, .slice none 0 0] 43)))) :=
    refTakeRow_is A n c bs w.heap.size _ ((hr.more hB).below hb1) hb1.size hb hn hc hL hE hRR
  have hLen : E = 0 → L.length ≤ 40 := fun h => by have := (takeRow_only hb (hE.trans h)).2.1; rwa [hL] at this
  rw [takenRec, hL, hE, hRR] at hR
  have HR := Lib.hid hR
  have HLen := Lib.hid hLen
  clear hL hE hRR hr hB hb hn hc hR hLen
  have X0 := Lib.hid (Whole.new w 43 #[.int .u8 0, .slice none 0 0])
  have HB1 := Lib.hid hb1
  clear hb1
  go_enter Try.func31, Try.ntmps31
  go_wp2_with fail
  refine (HT.out).mono ?_
  rintro e w1 ⟨A1, c1, A2, c2, rfl, o1, o2, b1⟩
  have Y0 := Lib.hid (X0.out.under b1)
  have B1 := Lib.hid (HB1.out.trans (b1.mono HB1.out.size))
  have O1 := Lib.hid o1
  have q0 := Y0.out.cell 0
  have q1 := Y0.out.cell 1
  have f0 := Y0.out.frozen 0
  have f1 := Y0.out.frozen 1
  simp only [List.getElem?_toArray, List.getElem?_cons_zero, List.getElem?_cons_succ] at q0 q1
  clear b1 o1 o2
  by_cases hE : E = 0
  · subst hE
    cases R with
    | cons x R =>
      have HrN := Lib.hid (show r = none by rw [← HR.out, if_neg (fun h => by cases h.2)])
      have hlt : (0 : Int) < ((R.length + 1 : Nat) : Int) := by omega
      clear HR
      go_wp2_with fail
      obtain ⟨p0, p1, p2⟩ := noRec_end Y0.out B1.out
      rw [HrN.out]
      exact bodyPost_ret (v := .tuple #[.agg #[.int .u8 0, .slice none 0 0], .int .i64 11]) (by simp [results, Try.results31, go_sem, p0, p1]) rfl ⟨rfl, p2⟩
    | nil =>
      cases L with
      | nil =>
        have HrN := Lib.hid (show r = none by rw [← HR.out, if_pos ⟨rfl, rfl⟩]; rfl)
        clear HR
        go_wp2_with fail
        obtain ⟨p0, p1, p2⟩ := noRec_end Y0.out B1.out
        rw [HrN.out]
        exact bodyPost_ret (v := .tuple #[.agg #[.int .u8 0, .slice none 0 0], .int .i64 11]) (by simp [results, Try.results31, go_sem, p0, p1]) rfl ⟨rfl, p2⟩
      | cons k t =>
        have hne : (((t.length + 1 : Nat) : Int) == 0) = false := by rw [beq_eq_false_iff_ne]; omega
        obtain ⟨g, cap, hv, hg1, hg2⟩ := O1.out.form (by simp)
        injection hv with hA _ hcap
        subst hA
        have hcell : w1.cell? ⟨g, 0, none⟩ = some (.int .i64 (k : Int)) := by
          rw [O1.out.cellAt 0 (by simp)]
          simp [iv, ints]
        have htl : t.length ≤ 39 := by have := HLen.out rfl; simp at this; omega
        by_cases hk : k < 17
        · obtain ⟨A', hA1, hA2⟩ := run_restI (some ⟨g, 0, none⟩) (t.length + 1) c1 1 (by omega)
          have e1 : ((1 : Nat) : Int) = 1 := rfl
          rw [e1] at hA1
          rw [Nat.add_sub_cancel] at hA1
          have hwf : IntKind.u8.wrap (k : Int) = k := by rw [IntKind.wrap_u8]; omega
          have hge : decide ((17 : Int) ≤ (k : Int)) = false := by simp; omega
          have hRd : Rd w1 w1.heap.size A' t.length (iv (ints t)) := by
            have h1 := (Rd.of_own O1.out).cut (k := 1) (by simp) A' (fun h => hA2 ⟨by simpa using h, by have := own_cap O1.out; simpa using this⟩)
            simpa [iv, ints] using h1
          have HOf : Hid (∀ W : World, Below w1.heap.size w1 W → Calls Try.prog 47 #[.int .u8 (k : Int), .slice A' t.length (c1 - 1)] W (RecIs k (ints t) W)) := fun W hW => refOf_any k A' t.length (c1 - 1) (ints t) w1.heap.size W (hRd.below hW) hW.size (by omega)
          have HL6 : Hid (∀ W : World, Below w1.heap.size w1 W → W.cell? ⟨g, 0, none⟩ = some (.int .i64 (k : Int))) := fun W hW => (hW.cell (p := ⟨g, 0, none⟩) hg2).trans hcell
          have hne1 : ¬ w1.heap.size = g := by omega
          have HOfA := Lib.hid (HOf.out (w1.alloc (.cells #[.int .u8 0, .slice none 0 0] 43)).drew ((Below.refl _ w1).alloc (Nat.le_refl _) _).drew)
          have HOfB := Lib.hid (HOf.out w1.drew (Below.refl _ w1).drew)
          clear hRd hA2 hcap htl e1
          go_wp2_with fail
          go_region_held3 (fun W => W.cell? ⟨g, 0, none⟩ = some (.int .i64 (k : Int))) (first | (with_reducible exact S3.out) | (with_reducible exact S4.out) | (with_reducible exact S5.out) | (with_reducible exact S6.out) | go_keep)
            (first | (go_at_call 47; ((with_reducible refine (HOfA.out).mono ?_); rintro e w3 ⟨A3, c3, rfl, o3, b3⟩); have tokA := Lib.hid True.intro; have b4 : Below w1.heap.size w1 w3 := (((Below.refl _ w1).alloc (Nat.le_refl _) _).drew).trans (b3.mono (by simp)); have Y3 := Lib.hid (Whole.under (w := (w1.alloc (.cells #[.int .u8 0, .slice none 0 0] 43)).drew) (Whole.new w1 _ _) b3); have m0 := Y3.out.cell 0; have m1 := Y3.out.cell 1; have m2 := Y3.out.frozen 0; have m3 := Y3.out.frozen 1; have S3 := Lib.hid (HL6.out w3 b4); have hg3 : g < w3.heap.size := Nat.lt_of_lt_of_le hg2 b4.size; have S4 := Lib.hid ((World.cell?_alloc_lt w3 (.cells #[.int .u8 0, .slice none 0 0] 43) ⟨g, 0, none⟩ hg3).trans S3.out); have S5 := Lib.hid ((World.cell?_alloc_lt w3 (.cells #[.int .u8 (k : Int), .slice A3 (ints t).length c3] 43) ⟨g, 0, none⟩ hg3).trans S3.out); have S6 := Lib.hid ((World.cell?_setCell_other (w3.setCell ⟨w1.heap.size, 0, none⟩ (.int .u8 (k : Int))) ⟨w1.heap.size, 1, none⟩ ⟨g, 0, none⟩ (.slice A3 (ints t).length c3) (fun e => hne1 (by injection e))).trans ((World.cell?_setCell_other w3 ⟨w1.heap.size, 0, none⟩ ⟨g, 0, none⟩ (.int .u8 (k : Int)) (fun e => hne1 (by injection e))).trans S3.out))) | (go_at_call 47; ((with_reducible refine (HOfB.out).mono ?_); rintro e w3 ⟨A3, c3, rfl, o3, b3⟩); have b4 : Below w1.heap.size w1 w3 := ((Below.refl _ w1).drew).trans b3; have S3 := Lib.hid (HL6.out w3 b4); have hg3 : g < w3.heap.size := Nat.lt_of_lt_of_le hg2 b4.size; have S4 := Lib.hid ((World.cell?_alloc_lt w3 (.cells #[.int .u8 0, .slice none 0 0] 43) ⟨g, 0, none⟩ hg3).trans S3.out); have S5 := Lib.hid ((World.cell?_alloc_lt w3 (.cells #[.int .u8 (k : Int), .slice A3 (ints t).length c3] 43) ⟨g, 0, none⟩ hg3).trans S3.out); have S6 := Lib.hid ((World.cell?_setCell_other (w3.setCell ⟨w1.heap.size, 0, none⟩ (.int .u8 (k : Int))) ⟨w1.heap.size, 1, none⟩ ⟨g, 0, none⟩ (.slice A3 (ints t).length c3) (fun e => hne1 (by injection e))).trans ((World.cell?_setCell_other w3 ⟨w1.heap.size, 0, none⟩ ⟨g, 0, none⟩ (.int .u8 (k : Int)) (fun e => hne1 (by injection e))).trans S3.out))))
          · rename_i hHeld
            have z0 := (Y0.out.under b4).alloc (.cells #[.int .u8 (k : Int), .slice A3 (ints t).length c3] 43)
            have z1 := Whole.new w3 43 #[.int .u8 (k : Int), .slice A3 (ints t).length c3]
            have z3 : (w3.alloc (.cells #[.int .u8 (k : Int), .slice A3 (ints t).length c3] 43)).ownsRow w1.heap.size 3 1 (.slice A3 (ints t).length c3) (ints t).length (iv (ints t)) := World.ownsRow.alloc (show w3.ownsRow w1.heap.size 3 1 (.slice A3 (ints t).length c3) (ints t).length (iv (ints t)) from o3) _
            have zb := (B1.out.trans (b4.mono B1.out.size)).alloc (B1.out.trans (b4.mono B1.out.size)).size (.cells #[.int .u8 (k : Int), .slice A3 (ints t).length c3] 43)
            obtain ⟨W4, hW4⟩ : ∃ W4, w3.alloc (.cells #[.int .u8 (k : Int), .slice A3 (ints t).length c3] 43) = W4 := ⟨_, rfl⟩
            rw [hW4] at z0 z1 z3 zb ⊢
            clear hW4 S3 S4 S5 S6 o3 b3 b4 f0 f1 q0 q1 hHeld
            have p0 := z1.cell 0
            have p1 := z1.cell 1
            simp only [List.getElem?_toArray, List.getElem?_cons_zero, List.getElem?_cons_succ] at p0 p1
            have HRt := Lib.hid (refRight_any k A3 (ints t).length c3 (ints t) _ W4 (Rd.of_own z3) (Nat.le_refl _))
            have Z0 := Lib.hid z0
            have Z1 := Lib.hid z1
            have Z3 := Lib.hid z3
            have ZB := Lib.hid zb
            clear z0 z1 z3 zb
            by_cases hm : mayB k (ints t) = true
            · have HrY := Lib.hid (show r = some (k, t) by rw [← HR.out, if_pos (by simp)]; exact if_pos ⟨hk, hm⟩)
              rw [hm] at HRt
              clear hm HR
              go_wp2_with fail
              refine (HRt.out).mono ?_
              rintro e w5 ⟨rfl, b5⟩
              have Y5 := Lib.hid (Z0.out.under b5)
              have Y6 := Lib.hid (Z1.out.under b5)
              have B5 := Lib.hid (ZB.out.trans (b5.mono ZB.out.size))
              have O5 := Lib.hid (own_under Z3.out b5)
              have r0 := Y5.out.cell 0
              have r1 := Y5.out.cell 1
              have f0 := Y5.out.frozen 0
              have f1 := Y5.out.frozen 1
              have s0 := Y6.out.cell 0
              have s1 := Y6.out.cell 1
              simp only [List.getElem?_toArray, List.getElem?_cons_zero, List.getElem?_cons_succ] at r0 r1 s0 s1
              clear b5
              go_wp2_with fail
              have hw2 := (Y5.out.set 0 (.int .u8 (k : Int))).set 1 (.slice A3 (ints t).length c3)
              have t0 := hw2.cell 0
              have t1 := hw2.cell 1
              simp at t0 t1
              have hne5 : (Value.slice A3 (ints t).length c3).ownBlock ≠ some w.heap.size := fun e => by have h1 := (O5.out.lt _ e).1; have h3 := Y0.out.lt; omega
              rw [HrY.out]
              refine bodyPost_ret (v := .tuple #[.agg #[.int .u8 (k : Int), .slice A3 (ints t).length c3], .int .i64 0]) (by simp [results, Try.results31, go_sem, t0, t1]) rfl ⟨A3, c3, rfl, ?_, ?_⟩
              · exact own_weaker (ownsRow_setCell_other (ownsRow_setCell_other (a := ⟨w.heap.size, 0, none⟩) O5.out hne5 _) (a := ⟨w.heap.size, 1, none⟩) hne5 _) B1.out.size
              · exact (B5.out.setCell (p := ⟨w.heap.size, 0, none⟩) (Nat.le_refl _) _).setCell (p := ⟨w.heap.size, 1, none⟩) (Nat.le_refl _) _
            · have hmf : mayB k (ints t) = false := by simpa using hm
              have HrN := Lib.hid (show r = none by rw [← HR.out, if_pos (by simp)]; exact if_neg (fun h => hm h.2))
              rw [hmf] at HRt
              clear hm hmf HR
              go_wp2_with fail
              refine (HRt.out).mono ?_
              rintro e w5 ⟨rfl, b5⟩
              have Y5 := Lib.hid (Z0.out.under b5)
              have B5 := Lib.hid (ZB.out.trans (b5.mono ZB.out.size))
              have r0 := Y5.out.cell 0
              have r1 := Y5.out.cell 1
              have f0 := Y5.out.frozen 0
              have f1 := Y5.out.frozen 1
              simp only [List.getElem?_toArray, List.getElem?_cons_zero, List.getElem?_cons_succ] at r0 r1
              clear b5
              go_wp2_with fail
              obtain ⟨t0, t1, t2⟩ := noRec_end Y5.out B5.out
              rw [HrN.out]
              exact bodyPost_ret (v := .tuple #[.agg #[.int .u8 0, .slice none 0 0], .int .i64 11]) (by simp [results, Try.results31, go_sem, t0, t1]) rfl ⟨rfl, t2⟩
          · rename_i hHeld
            have hlt0 := Y0.out.lt
            have z0 := ((Y0.out.under b4).far (p := ⟨w1.heap.size, 0, none⟩) (by simp; omega) (.int .u8 (k : Int))).far (p := ⟨w1.heap.size, 1, none⟩) (by simp; omega) (.slice A3 (ints t).length c3)
            have z1 := (Y3.out.set 0 (.int .u8 (k : Int))).set 1 (.slice A3 (ints t).length c3)
            have hfin : (#[Value.int .u8 0, Value.slice none 0 0].setIfInBounds 0 (.int .u8 (k : Int))).setIfInBounds 1 (.slice A3 (ints t).length c3) = #[.int .u8 (k : Int), .slice A3 (ints t).length c3] := rfl
            rw [hfin] at z1
            have hne3 : (Value.slice A3 (ints t).length c3).ownBlock ≠ some w1.heap.size := fun e => by have h1 := (o3.lt _ e).1; have h2 : (w1.alloc (.cells #[.int .u8 0, .slice none 0 0] 43)).heap.size ≤ w1.heap.size := h1; rw [World.size_alloc] at h2; omega
            have z3 := own_weaker (base := w1.heap.size) (ownsRow_setCell_other (ownsRow_setCell_other (a := ⟨w1.heap.size, 0, none⟩) o3 hne3 (.int .u8 (k : Int))) (a := ⟨w1.heap.size, 1, none⟩) hne3 (.slice A3 (ints t).length c3)) (by simp)
            have zb := ((B1.out.trans (b4.mono B1.out.size)).setCell (p := ⟨w1.heap.size, 0, none⟩) B1.out.size (.int .u8 (k : Int))).setCell (p := ⟨w1.heap.size, 1, none⟩) B1.out.size (.slice A3 (ints t).length c3)
            clear hfin hne3 Y3 m0 m1 m2 m3 tokA
            obtain ⟨W4, hW4⟩ : ∃ W4, (w3.setCell ⟨w1.heap.size, 0, none⟩ (.int .u8 (k : Int))).setCell ⟨w1.heap.size, 1, none⟩ (.slice A3 (ints t).length c3) = W4 := ⟨_, rfl⟩
            rw [hW4] at z0 z1 z3 zb ⊢
            clear hW4 S3 S4 S5 S6 o3 b3 b4 f0 f1 q0 q1 hHeld
            have p0 := z1.cell 0
            have p1 := z1.cell 1
            simp only [List.getElem?_toArray, List.getElem?_cons_zero, List.getElem?_cons_succ] at p0 p1
            have HRt := Lib.hid (refRight_any k A3 (ints t).length c3 (ints t) _ W4 (Rd.of_own z3) (Nat.le_refl _))
            have Z0 := Lib.hid z0
            have Z1 := Lib.hid z1
            have Z3 := Lib.hid z3
            have ZB := Lib.hid zb
            clear z0 z1 z3 zb
            by_cases hm : mayB k (ints t) = true
            · have HrY := Lib.hid (show r = some (k, t) by rw [← HR.out, if_pos (by simp)]; exact if_pos ⟨hk, hm⟩)
              rw [hm] at HRt
              clear hm HR
              go_wp2_with fail
              refine (HRt.out).mono ?_
              rintro e w5 ⟨rfl, b5⟩
              have Y5 := Lib.hid (Z0.out.under b5)
              have Y6 := Lib.hid (Z1.out.under b5)
              have B5 := Lib.hid (ZB.out.trans (b5.mono ZB.out.size))
              have O5 := Lib.hid (own_under Z3.out b5)
              have r0 := Y5.out.cell 0
              have r1 := Y5.out.cell 1
              have f0 := Y5.out.frozen 0
              have f1 := Y5.out.frozen 1
              have s0 := Y6.out.cell 0
              have s1 := Y6.out.cell 1
              simp only [List.getElem?_toArray, List.getElem?_cons_zero, List.getElem?_cons_succ] at r0 r1 s0 s1
              clear b5
              go_wp2_with fail
              have hw2 := (Y5.out.set 0 (.int .u8 (k : Int))).set 1 (.slice A3 (ints t).length c3)
              have t0 := hw2.cell 0
              have t1 := hw2.cell 1
              simp at t0 t1
              have hne5 : (Value.slice A3 (ints t).length c3).ownBlock ≠ some w.heap.size := fun e => by have h1 := (O5.out.lt _ e).1; have h3 := Y0.out.lt; omega
              rw [HrY.out]
              refine bodyPost_ret (v := .tuple #[.agg #[.int .u8 (k : Int), .slice A3 (ints t).length c3], .int .i64 0]) (by simp [results, Try.results31, go_sem, t0, t1]) rfl ⟨A3, c3, rfl, ?_, ?_⟩
              · exact own_weaker (ownsRow_setCell_other (ownsRow_setCell_other (a := ⟨w.heap.size, 0, none⟩) O5.out hne5 _) (a := ⟨w.heap.size, 1, none⟩) hne5 _) B1.out.size
              · exact (B5.out.setCell (p := ⟨w.heap.size, 0, none⟩) (Nat.le_refl _) _).setCell (p := ⟨w.heap.size, 1, none⟩) (Nat.le_refl _) _
            · have hmf : mayB k (ints t) = false := by simpa using hm
              have HrN := Lib.hid (show r = none by rw [← HR.out, if_pos (by simp)]; exact if_neg (fun h => hm h.2))
              rw [hmf] at HRt
              clear hm hmf HR
              go_wp2_with fail
              refine (HRt.out).mono ?_
              rintro e w5 ⟨rfl, b5⟩
              have Y5 := Lib.hid (Z0.out.under b5)
              have B5 := Lib.hid (ZB.out.trans (b5.mono ZB.out.size))
              have r0 := Y5.out.cell 0
              have r1 := Y5.out.cell 1
              have f0 := Y5.out.frozen 0
              have f1 := Y5.out.frozen 1
              simp only [List.getElem?_toArray, List.getElem?_cons_zero, List.getElem?_cons_succ] at r0 r1
              clear b5
              go_wp2_with fail
              obtain ⟨t0, t1, t2⟩ := noRec_end Y5.out B5.out
              rw [HrN.out]
              exact bodyPost_ret (v := .tuple #[.agg #[.int .u8 0, .slice none 0 0], .int .i64 11]) (by simp [results, Try.results31, go_sem, t0, t1]) rfl ⟨rfl, t2⟩
        · have HrN := Lib.hid (show r = none by rw [← HR.out, if_pos ⟨rfl, rfl⟩]; exact if_neg (fun h => hk h.1))
          have hge : (17 : Int) ≤ (k : Int) := by omega
          clear HR hk
          go_wp2_with fail
          obtain ⟨p0, p1, p2⟩ := noRec_end Y0.out B1.out
          rw [HrN.out]
          exact bodyPost_ret (v := .tuple #[.agg #[.int .u8 0, .slice none 0 0], .int .i64 11]) (by simp [results, Try.results31, go_sem, p0, p1]) rfl ⟨rfl, p2⟩
  · have hEb : ((E : Int) != 0) = true := by simp; exact hE
    have HrN := Lib.hid (show r = none by rw [← HR.out, if_neg (fun h => hE h.1)])
    clear hE
    go_wp2_with fail
    obtain ⟨p0, p1, p2⟩ := noRec_end Y0.out B1.out
    rw [HrN.out]
    exact bodyPost_ret (v := .tuple #[.agg #[.int .u8 0, .slice none 0 0], .int .i64 11]) (by simp [results, Try.results31, go_sem, p0, p1]) rfl ⟨rfl, p2⟩

end Go.Proofs.Ytbkfpghpfaemeaa

/-
  The walk of the statement 'RecordApart': it answers true, and nothing that was there turns. Conditions: none.
-/
namespace Go.Proofs.Ytbkfpghpfaemeaa
open Go.RowKit Go.Shelf

set_option maxRecDepth 100000 in
theorem mayB_nums {k : Nat} {zs : List Int} (h : mayB k zs = true) : (nats ((k : Int) :: zs)).length ≤ 40 ∧ (∀ n ∈ nats ((k : Int) :: zs), n ≤ 1099511627776) ∧ ints (nats ((k : Int) :: zs)) = (k : Int) :: zs := by
  have h1 := mayB_row h
  simp only [isRow, Bool.and_eq_true, decide_eq_true_eq, List.all_eq_true] at h1
  obtain ⟨h2, h3⟩ := h1
  generalize hx : (k : Int) :: zs = xs at h2 h3 ⊢
  refine ⟨by simpa [nats] using h2, ?_, ?_⟩
  · intro n hn
    simp only [nats, List.mem_map] at hn
    obtain ⟨y, hy, rfl⟩ := hn
    have := isNum_iff.1 (h3 y hy)
    omega
  · rw [nats, ints, List.map_map]
    conv => rhs; rw [← List.map_id xs]
    refine List.map_congr_left fun y hy => ?_
    have := isNum_iff.1 (h3 y hy)
    simp; omega
set_option maxRecDepth 100000 in
theorem recB_inj {k k' : Nat} {zs zs' : List Int} (h : mayB k zs = true) (h' : mayB k' zs' = true) {rest rest' : List Nat} (he : recB k zs ++ rest = recB k' zs' ++ rest') : k = k' ∧ zs = zs' := by
  obtain ⟨a1, a2, a3⟩ := mayB_nums h
  obtain ⟨b1, b2, b3⟩ := mayB_nums h'
  have e1 := takeRow_row a1 a2 rest
  have e2 := takeRow_row b1 b2 rest'
  rw [recB, recB] at he
  rw [he, e2] at e1
  simp only [Prod.mk.injEq] at e1
  have e3 : (k : Int) :: zs = (k' : Int) :: zs' := by rw [← a3, ← b3, e1.2.1]
  simp only [List.cons.injEq] at e3
  exact ⟨by omega, e3.2⟩
set_option maxRecDepth 100000 in
theorem apart_same {k k' : Nat} {zs zs' : List Int} (h : mayB k zs = true) (h' : mayB k' zs' = true) {n : Nat} (hn : n = min (recB k zs).length (recB k' zs').length) :
    decide ((recB k zs).take n = (recB k' zs').take n) = sameB k zs k' zs' := by
  rw [sameB, ← Bool.decide_and, decide_eq_decide]
  constructor
  · intro he
    rcases Nat.le_total (recB k zs).length (recB k' zs').length with hl | hl
    · rw [Nat.min_eq_left hl] at hn
      subst hn
      rw [List.take_length] at he
      refine recB_inj h h' (rest := (recB k' zs').drop (recB k zs).length) (rest' := []) ?_
      conv => lhs; lhs; rw [he]
      rw [List.take_append_drop, List.append_nil]
    · rw [Nat.min_eq_right hl] at hn
      subst hn
      rw [List.take_length] at he
      refine recB_inj h h' (rest := []) (rest' := (recB k zs).drop (recB k' zs').length) ?_
      conv => rhs; lhs; rw [← he]
      rw [List.take_append_drop, List.append_nil]
  · rintro ⟨rfl, rfl⟩
    rfl
set_option maxRecDepth 100000 in
theorem recB_bytes (k : Nat) (zs : List Int) : ∀ x ∈ recB k zs, x < 256 := row_bytes _
set_option maxRecDepth 100000 in
theorem recB_len {k : Nat} {zs : List Int} (h : mayB k zs = true) : (recB k zs).length ≤ 300 ∧ 2 ≤ (recB k zs).length := by
  obtain ⟨a1, a2, _⟩ := mayB_nums h
  have h1 := put_six (n := (nats ((k : Int) :: zs)).length) (by omega)
  have h2 := puts_len _ a2
  have h3 := put_pos (nats ((k : Int) :: zs)).length
  have h5 := put_pos k
  have h4 : (puts (nats ((k : Int) :: zs))).length = (put k).length + (puts (nats zs)).length := by simp [nats, puts]
  rw [recB, row, List.length_append]
  omega

set_option maxRecDepth 100000 in
theorem strB_eq {a b : List Nat} (ha : ∀ x ∈ a, x < 256) (hb : ∀ x ∈ b, x < 256) {v : Bool} (h : decide (a = b) = v) : ((strB a).toList == (strB b).toList) = v := by rw [strB_inj ha hb, h]

end Go.Proofs.Ytbkfpghpfaemeaa

/-
  The walk of the statement 'RecordBack': it answers true, and nothing that was there turns. Conditions: none.
-/
namespace Go.Proofs.Ytbkfpghpfaemeaa
open Go.RowKit Go.Shelf

set_option maxRecDepth 100000 in
theorem ints_nats {k : Nat} {zs : List Int} (h : mayB k zs = true) : ints (nats zs) = zs := by
  have h1 := (mayB_nums h).2.2
  have h2 : ints (nats ((k : Int) :: zs)) = (k : Int) :: ints (nats zs) := by simp [ints, nats]
  rw [h2] at h1
  exact (List.cons.inj h1).2
set_option maxRecDepth 100000 in
theorem taken_recB {k : Nat} {zs : List Int} (h : mayB k zs = true) (rest : List Nat) : takenRec (recB k zs ++ rest) = if rest = [] then some (k, nats zs) else none := by
  obtain ⟨a1, a2, _⟩ := mayB_nums h
  have e1 := takeRow_row a1 a2 rest
  have e2 : behindRow (row (nats ((k : Int) :: zs)) ++ rest) = rest := by rw [behindRow, e1, if_pos rfl]; exact List.drop_left
  rw [recB, takenRec, e1, e2]
  by_cases hr : rest = []
  · rw [if_pos ⟨rfl, hr⟩, if_pos hr]
    have e3 : nats ((k : Int) :: zs) = k :: nats zs := by simp [nats]
    rw [e3]
    simp only [takenL]
    rw [if_pos ⟨(mayB_kind h).2, by rw [ints_nats h]; exact h⟩]
  · rw [if_neg (fun hh => hr hh.2), if_neg hr]
set_option maxRecDepth 100000 in
theorem taken_cut {k : Nat} {zs : List Int} (h : mayB k zs = true) : takenRec ((recB k zs).take ((recB k zs).length - 1)) = none := by
  obtain ⟨a1, a2, _⟩ := mayB_nums h
  have h1 := takeRow_cut a1 a2 (k := (row (nats ((k : Int) :: zs))).length - 1) (by have := row_pos (nats ((k : Int) :: zs)); omega)
  rw [takenRec, recB, h1, if_neg (fun hh => absurd hh.1 (by decide))]

end Go.Proofs.Ytbkfpghpfaemeaa

/-
  Plain facts on logs (no program): the records whose frames bytes begin with, one behind the other; what a part of the bytes has of them. Conditions: those that each theorem names.
-/
namespace Go.Proofs.Ytbkfpghpfaemeaa

/-- A record: its kind, its numbers; its bytes; its frame. -/
abbrev PR := Nat × List Int
def pl (r : PR) : List Nat := recB r.1 r.2
def lfr (r : PR) : List Nat := fr (pl r)
def okR (r : PR) : Prop := mayB r.1 r.2 = true
set_option maxRecDepth 100000 in
theorem pl_len {r : PR} (h : okR r) : (pl r).length ≤ 4000 := by have := (recB_len h).1; unfold pl; omega
set_option maxRecDepth 100000 in
theorem pl_len2 {r : PR} (h : okR r) : (pl r).length ≤ 300 := (recB_len h).1
set_option maxRecDepth 100000 in
theorem lfr_len {r : PR} (h : okR r) : (lfr r).length ≤ 306 := by
  have h1 := pl_len2 h
  have h2 := put_two (n := (pl r).length) (by omega)
  unfold lfr
  rw [fr_length]
  unfold frLen
  omega
set_option maxRecDepth 100000 in
theorem lfr_pos (r : PR) : 5 ≤ (lfr r).length := by unfold lfr; rw [fr_length]; exact frLen_pos _
set_option maxRecDepth 100000 in
theorem lfr_bytes (r : PR) : ∀ x ∈ lfr r, x < 256 := fr_bytes (recB_bytes r.1 r.2)

/-- r is the record whose frame bs begins with. -/
def IsRec (bs : List Nat) (r : PR) : Prop := IsFr bs (pl r) ∧ okR r
set_option maxRecDepth 100000 in
theorem IsRec.mono {bs cs : List Nat} {r : PR} (h : IsRec cs r) (hp : cs <+: bs) : IsRec bs r := ⟨⟨h.1.1, h.1.2.trans hp⟩, h.2⟩
set_option maxRecDepth 100000 in
theorem isRec_one {bs : List Nat} {r s : PR} (h : IsRec bs r) (h' : IsRec bs s) : r = s := by
  have h1 := isFr_one h.1 h'.1
  obtain ⟨h2, h3⟩ := recB_inj (rest := []) (rest' := []) h.2 h'.2 (by rw [List.append_nil, List.append_nil]; exact h1)
  exact Prod.ext h2 h3
set_option maxRecDepth 100000 in
theorem isRec_app {r : PR} (h : okR r) (rest : List Nat) : IsRec (lfr r ++ rest) r := ⟨isFr_fr (pl_len h) rest, h⟩
set_option maxRecDepth 100000 in
theorem IsRec.split {bs : List Nat} {r : PR} (h : IsRec bs r) : bs = lfr r ++ bs.drop (lfr r).length := by
  have h1 := h.1.split
  unfold lfr
  rw [fr_length]
  exact h1
set_option maxRecDepth 100000 in
theorem IsRec.le {bs : List Nat} {r : PR} (h : IsRec bs r) : (lfr r).length ≤ bs.length := h.1.2.length_le
set_option maxRecDepth 100000 in
/-- What taking a record of a frame's payload says of it. -/
theorem isRec_yes {bs p : List Nat} {k : Nat} {l : List Nat} (hp : IsFr bs p) (hb : ∀ x ∈ p, x < 256) (h : takenRec p = some (k, l)) : IsRec bs (k, ints l) := by
  obtain ⟨_, h2, h3⟩ := taken_some hb h
  refine ⟨?_, h2⟩
  unfold pl
  rw [← h3]; exact hp
set_option maxRecDepth 100000 in
theorem isRec_no {bs p : List Nat} (hp : IsFr bs p) (h : takenRec p = none) : ∀ r, ¬ IsRec bs r := fun r hr => by
  obtain rfl := isFr_one hp hr.1
  have h1 := taken_recB hr.2 []
  rw [List.append_nil, if_pos rfl] at h1
  unfold pl at h
  rw [h] at h1; cases h1
set_option maxRecDepth 100000 in
theorem isRec_none {bs : List Nat} (h : ∀ p, ¬ IsFr bs p) : ∀ r, ¬ IsRec bs r := fun _ hr => h _ hr.1
set_option maxRecDepth 100000 in
theorem not_isRec_nil (r : PR) : ¬ IsRec [] r := fun h => not_isFr_nil _ h.1

/-- The bytes of records, one behind the other. -/
def lbytes (L : List PR) : List Nat := L.flatMap lfr
set_option maxRecDepth 100000 in
theorem lbytes_cons (r : PR) (L : List PR) : lbytes (r :: L) = lfr r ++ lbytes L := rfl
set_option maxRecDepth 100000 in
theorem lbytes_app (L M : List PR) : lbytes (L ++ M) = lbytes L ++ lbytes M := by simp [lbytes]
set_option maxRecDepth 100000 in
theorem lbytes_one (r : PR) : lbytes [r] = lfr r := by simp [lbytes]
set_option maxRecDepth 100000 in
theorem lbytes_byte (L : List PR) : ∀ x ∈ lbytes L, x < 256 := by
  intro x hx
  obtain ⟨r, _, h⟩ := List.mem_flatMap.1 hx
  exact lfr_bytes r x h
set_option maxRecDepth 100000 in
theorem lbytes_le {L : List PR} (h : ∀ r ∈ L, okR r) : (lbytes L).length ≤ 306 * L.length := by
  induction L with
  | nil => simp [lbytes]
  | cons r L ih =>
    have h1 := ih (fun s hs => h s (List.mem_cons_of_mem _ hs))
    have h2 := lfr_len (h r (by simp))
    rw [lbytes_cons, List.length_append, List.length_cons]; omega
set_option maxRecDepth 100000 in
theorem lbytes_ge (L : List PR) : 5 * L.length ≤ (lbytes L).length := by
  induction L with
  | nil => simp [lbytes]
  | cons r L ih =>
    have h2 := lfr_pos r
    rw [lbytes_cons, List.length_append, List.length_cons]; omega

/-- The log of bytes: its records, how many bytes their frames have. -/
structure LogIs (bs : List Nat) (L : List PR) (u : Nat) : Prop where
  split : bs = lbytes L ++ bs.drop u
  used : u = (lbytes L).length
  ok : ∀ r ∈ L, okR r
  no : ∀ r, ¬ IsRec (bs.drop u) r

set_option maxRecDepth 100000 in
theorem logIs_app {L : List PR} {rest : List Nat} (h : ∀ r ∈ L, okR r) (hr : ∀ r, ¬ IsRec rest r) : LogIs (lbytes L ++ rest) L (lbytes L).length :=
  ⟨by rw [List.drop_left], rfl, h, by rw [List.drop_left]; exact hr⟩
set_option maxRecDepth 100000 in
theorem logIs_all {L : List PR} (h : ∀ r ∈ L, okR r) : LogIs (lbytes L) L (lbytes L).length := by
  have := logIs_app h not_isRec_nil
  rwa [List.append_nil] at this
set_option maxRecDepth 100000 in
theorem LogIs.next {bs : List Nat} {pre rest : List PR} {r : PR} {u : Nat} (h : LogIs bs (pre ++ r :: rest) u) : IsRec (bs.drop (lbytes pre).length) r := by
  have h1 := h.split
  rw [lbytes_app, lbytes_cons, List.append_assoc, List.append_assoc] at h1
  rw [h1, List.drop_left]
  exact isRec_app (h.ok r (by simp)) _
set_option maxRecDepth 100000 in
theorem LogIs.le {bs : List Nat} {L : List PR} {u : Nat} (h : LogIs bs L u) : u ≤ bs.length := by
  have h1 := congrArg List.length h.split
  rw [List.length_append] at h1
  rw [h.used]; omega
set_option maxRecDepth 100000 in
theorem LogIs.take {bs : List Nat} {L : List PR} {u : Nat} (h : LogIs bs L u) : bs.take u = lbytes L := by
  have h1 := h.split
  have h2 := h.used
  rw [h1, h2, List.take_left]
set_option maxRecDepth 100000 in
theorem LogIs.tail {bs : List Nat} {r : PR} {L : List PR} {u : Nat} (h : LogIs bs (r :: L) u) : LogIs (bs.drop (lfr r).length) L (u - (lfr r).length) := by
  have h1 := h.split
  have h2 := h.used
  rw [lbytes_cons] at h1 h2
  rw [List.length_append] at h2
  have e : bs.drop (lfr r).length = lbytes L ++ bs.drop u := by
    conv => lhs; rw [h1, List.append_assoc, List.drop_left]
  have e2 : (bs.drop (lfr r).length).drop (u - (lfr r).length) = bs.drop u := by rw [List.drop_drop]; congr 1; omega
  exact ⟨by rw [e2]; exact e, by omega, fun s hs => h.ok s (List.mem_cons_of_mem _ hs), by rw [e2]; exact h.no⟩
set_option maxRecDepth 100000 in
theorem LogIs.cons {bs : List Nat} {r : PR} {L : List PR} {u : Nat} (hr : IsRec bs r) (h : LogIs (bs.drop (lfr r).length) L u) : LogIs bs (r :: L) ((lfr r).length + u) := by
  refine ⟨?_, ?_, ?_, ?_⟩
  · rw [lbytes_cons, List.append_assoc, ← List.drop_drop, ← h.split]; exact hr.split
  · rw [lbytes_cons, List.length_append, ← h.used]
  · intro s hs
    rcases List.mem_cons.1 hs with rfl | hs
    · exact hr.2
    · exact h.ok s hs
  · rw [← List.drop_drop]; exact h.no
set_option maxRecDepth 100000 in
theorem log_ex : ∀ (m : Nat) (bs : List Nat), bs.length ≤ m → ∃ L u, LogIs bs L u := by
  intro m
  induction m with
  | zero =>
    intro bs h
    have hb : bs = [] := List.eq_nil_of_length_eq_zero (by omega)
    subst hb
    exact ⟨[], 0, rfl, rfl, by simp, by simpa using not_isRec_nil⟩
  | succ m ih =>
    intro bs h
    by_cases hr : ∃ r, IsRec bs r
    · obtain ⟨r, hr⟩ := hr
      have h2 := lfr_pos r
      have h3 := hr.le
      obtain ⟨L, u, hL⟩ := ih (bs.drop (lfr r).length) (by rw [List.length_drop]; omega)
      exact ⟨_, _, hL.cons hr⟩
    · exact ⟨[], 0, by simp [lbytes], rfl, by simp, fun r h => hr ⟨r, by simpa using h⟩⟩

set_option maxRecDepth 100000 in
/-- The log of a beginning is a beginning of the log. -/
theorem log_prefix : ∀ (M : List PR) {bs cs : List Nat} {L : List PR} {u v : Nat}, LogIs bs L u → LogIs cs M v → cs <+: bs → M <+: L := by
  intro M
  induction M with
  | nil => intro bs cs L u v _ _ _; exact List.nil_prefix
  | cons r M ih =>
    intro bs cs L u v h h' hp
    have hr : IsRec cs r := by have := LogIs.next (pre := []) h'; simpa [lbytes] using this
    have hr' := hr.mono hp
    cases L with
    | nil => exact absurd (by simpa [h.used, lbytes] using hr') (h.no r)
    | cons s L =>
      have hs : IsRec bs s := by have := LogIs.next (pre := []) h; simpa [lbytes] using this
      obtain rfl := isRec_one hr' hs
      have h1 := ih h.tail h'.tail (by
        obtain ⟨t, ht⟩ := hp
        refine ⟨t, ?_⟩
        rw [← ht, List.drop_append_of_le_length hr.le])
      exact (List.prefix_cons_inj r).2 h1
set_option maxRecDepth 100000 in
theorem log_one {bs : List Nat} {L M : List PR} {u v : Nat} (h : LogIs bs L u) (h' : LogIs bs M v) : L = M ∧ u = v := by
  have h1 := log_prefix _ h' h (List.prefix_refl _)
  have h2 := log_prefix _ h h' (List.prefix_refl _)
  have e : L = M := h1.eq_of_length (Nat.le_antisymm h1.length_le h2.length_le)
  exact ⟨e, by rw [h.used, h'.used, e]⟩
set_option maxRecDepth 100000 in
/-- What bytes begin with is in their log. -/
theorem log_has : ∀ (M : List PR) {bs : List Nat} {L : List PR} {u : Nat}, LogIs bs L u → (∀ r ∈ M, okR r) → lbytes M <+: bs → M <+: L := fun M _ _ _ h hM hp => log_prefix M h (logIs_all hM) hp
set_option maxRecDepth 100000 in
/-- The log of a beginning of records' bytes: some of them, from the first on, and all that are whole. -/
theorem log_cut {L : List PR} {C : Nat} (h : ∀ r ∈ L, okR r) : ∃ j, j ≤ L.length ∧ LogIs ((lbytes L).take C) (L.take j) (lbytes (L.take j)).length ∧ ∀ i, i ≤ L.length → (lbytes (L.take i)).length ≤ C → i ≤ j := by
  obtain ⟨M, u, hM⟩ := log_ex _ ((lbytes L).take C) (Nat.le_refl _)
  have h1 := log_prefix M (logIs_all h) hM (List.take_prefix _ _)
  have h2 : M = L.take M.length := List.prefix_iff_eq_take.1 h1
  refine ⟨M.length, h1.length_le, by rw [← h2, ← hM.used]; exact hM, fun i hi hC => ?_⟩
  have h3 : lbytes (L.take i) <+: (lbytes L).take C := by
    have e : lbytes L = lbytes (L.take i) ++ lbytes (L.drop i) := by rw [← lbytes_app, List.take_append_drop]
    rw [e, List.take_append, List.take_of_length_le hC]
    exact List.prefix_append _ _
  have h4 := (log_has (L.take i) hM (fun r hr => h r (List.mem_of_mem_take hr)) h3).length_le
  rw [List.length_take] at h4
  omega

end Go.Proofs.Ytbkfpghpfaemeaa

/-
  Records of the call's own, in a slice of its own: what they read as, one more behind them. Conditions: those that each theorem names.
-/
namespace Go.Proofs.Ytbkfpghpfaemeaa
open Go.RowKit Go.Shelf

def RE.val (x : RE) : Value := .slice x.A x.n x.c
def recsCells (es : List RE) : List Value := es.flatMap fun x => [.int .u8 (x.k : Int), x.val]
set_option maxRecDepth 100000 in
theorem recsCells_length (es : List RE) : (recsCells es).length = es.length * 2 := by
  induction es with
  | nil => rfl
  | cons x es ih => simp only [recsCells, List.flatMap_cons, List.length_append, List.length_cons, List.length_nil] at *; omega
set_option maxRecDepth 100000 in
theorem recsCells_at {es : List RE} {x : RE} : ∀ {j : Nat}, es[j]? = some x → (recsCells es)[j * 2]? = some (.int .u8 (x.k : Int)) ∧ (recsCells es)[j * 2 + 1]? = some x.val := by
  induction es with
  | nil => intro j h; simp at h
  | cons y es ih =>
    intro j h
    have e : recsCells (y :: es) = .int .u8 (y.k : Int) :: y.val :: recsCells es := rfl
    rw [e]
    cases j with
    | zero => simp only [List.getElem?_cons_zero, Option.some.injEq] at h; subst h; exact ⟨rfl, rfl⟩
    | succ j =>
      rw [List.getElem?_cons_succ] at h
      obtain ⟨h1, h2⟩ := ih h
      rw [show (j + 1) * 2 = j * 2 + 1 + 1 by omega]
      exact ⟨h1, h2⟩

/-- What records say. -/
def recsOf (es : List RE) : List (Nat × List Int) := es.map fun x => (x.k, x.zs)

/-- Slice v of the call's own holds records of the call's own, which read as the list L. -/
def RecsAt (base : Nat) (w : World) (v : Value) (L : List (Nat × List Int)) : Prop :=
  ∃ es : List RE, w.ownsRow base 43 2 v L.length (recsCells es) ∧ recsOf es = L ∧ ∀ x ∈ es, x.k < 256 ∧ w.ownsRow base 3 1 x.val x.n (iv x.zs)

set_option maxRecDepth 100000 in
theorem own_formR {w : World} {base size : Nat} {e : TypeId} {n : Nat} {v : Value} {xs : List Value} (h : w.ownsRow base e size v n xs) : ∃ A c, v = .slice A n c := by
  rcases h.2 with ⟨rfl, rfl⟩ | ⟨g, cap, cur, rfl, _⟩
  · exact ⟨_, _, rfl⟩
  · exact ⟨_, _, rfl⟩
set_option maxRecDepth 100000 in
/-- A row of one element type lies in no block of another one, of however many cells. -/
theorem own_apart_ofR {w : World} {base size n b : Nat} {e t : TypeId} {v : Value} {xs : List Value} {cs : Array Value} (hne : e ≠ t) (ho : w.ownsRow base e size v n xs) (hw : Whole w b t cs) : v.ownBlock ≠ some b := by
  rcases ho.2 with ⟨rfl, _⟩ | ⟨g, cap, cur, rfl, _, hg, _⟩
  · simp [Value.ownBlock]
  · simp only [Value.ownBlock, ne_eq, Option.some.injEq]
    intro e
    subst e
    unfold Whole at hw
    rw [hw] at hg
    injection hg with hg
    injection hg with _ h _
    exact absurd h.symm hne
set_option maxRecDepth 100000 in
/-- Two rows of the call's own of unlike element types: one stays while the other one grows. -/
theorem own_kept_ofR {w w' : World} {base base' n m size size' : Nat} {e e' : TypeId} {v u : Value} {xs ys : List Value} (hne : e ≠ e') (h1 : w.ownsRow base e size v n xs) (h2 : w.ownsRow base' e' size' u m ys) (hg : w.grownBy w' v.ownBlock) : w'.ownsRow base' e' size' u m ys := by
  refine h2.kept hg ?_
  rcases h2.2 with ⟨rfl, _⟩ | ⟨g, cap, cur, rfl, _, hg1, _⟩
  · exact .inl rfl
  · right
    intro e0
    rcases h1.2 with ⟨rfl, _⟩ | ⟨g', cap', cur', rfl, _, hg', _⟩
    · simp [Value.ownBlock] at e0
    · simp only [Value.ownBlock, Option.some.injEq] at e0
      subst e0
      rw [hg1] at hg'
      injection hg' with hg'
      injection hg' with _ h5 _
      exact absurd h5.symm hne

set_option maxRecDepth 100000 in
theorem RecsAt.nil_ (base : Nat) (w : World) : RecsAt base w (.slice none 0 0) [] := ⟨[], World.ownsRow_nil _ _ _ _, rfl, by simp⟩
set_option maxRecDepth 100000 in
theorem RecsAt.form {base : Nat} {w : World} {v : Value} {L : List (Nat × List Int)} (h : RecsAt base w v L) : ∃ A c, v = .slice A L.length c := by
  obtain ⟨es, h1, _⟩ := h
  exact own_formR h1
set_option maxRecDepth 100000 in
theorem RecsAt.under {base : Nat} {w w' : World} {v : Value} {L : List (Nat × List Int)} (h : RecsAt base w v L) (hb : Below w.heap.size w w') : RecsAt base w' v L := by
  obtain ⟨es, h1, h2, h3⟩ := h
  exact ⟨es, own_under h1 hb, h2, fun x hx => ⟨(h3 x hx).1, own_under (h3 x hx).2 hb⟩⟩
set_option maxRecDepth 100000 in
theorem RecsAt.weaker {base base' : Nat} {w : World} {v : Value} {L : List (Nat × List Int)} (h : RecsAt base' w v L) (hb : base ≤ base') : RecsAt base w v L := by
  obtain ⟨es, h1, h2, h3⟩ := h
  exact ⟨es, own_weaker h1 hb, h2, fun x hx => ⟨(h3 x hx).1, own_weaker (h3 x hx).2 hb⟩⟩
set_option maxRecDepth 100000 in
theorem RecsAt.turn {base : Nat} {w w' : World} {v : Value} {L : List (Nat × List Int)} {row : Option Nat} (h : RecsAt base w v L) (hg : w.grownBy w' row) (hr : ∀ r, row = some r → ∃ o : Obj, w.heap[r]? = some o ∧ o.isCells = false) : RecsAt base w' v L := by
  obtain ⟨es, h1, h2, h3⟩ := h
  exact ⟨es, own_turn h1 hg hr, h2, fun x hx => ⟨(h3 x hx).1, own_turn (h3 x hx).2 hg hr⟩⟩
set_option maxRecDepth 100000 in
/-- A store into a block of another type. -/
theorem RecsAt.far {base : Nat} {w : World} {v : Value} {L : List (Nat × List Int)} (h : RecsAt base w v L) {b : Nat} {t : TypeId} {cs : Array Value} (hw : Whole w b t cs) (h1 : 43 ≠ t) (h2 : 3 ≠ t) (i : Nat) (u : Value) : RecsAt base (w.setCell ⟨b, i, none⟩ u) v L := by
  obtain ⟨es, g1, g2, g3⟩ := h
  exact ⟨es, ownsRow_setCell_other (a := ⟨b, i, none⟩) g1 (own_apart_ofR h1 g1 hw) u, g2, fun x hx => ⟨(g3 x hx).1, ownsRow_setCell_other (a := ⟨b, i, none⟩) (g3 x hx).2 (own_apart_ofR h2 (g3 x hx).2 hw) u⟩⟩
set_option maxRecDepth 100000 in
/-- As a slice of records that is read. -/
theorem RecsAt.read {base : Nat} {w : World} {A : Option Addr} {c : Nat} {L : List (Nat × List Int)} (h : RecsAt base w (.slice A L.length c) L) : ∃ es : List RE, recsOf es = L ∧ RdR w w.heap.size A L.length es := by
  obtain ⟨es, h1, h2, h3⟩ := h
  have hl : es.length = L.length := by rw [← h2, recsOf, List.length_map]
  refine ⟨es, h2, hl, fun hn => ?_, fun x hx => ⟨(h3 x hx).1, Rd.of_own (h3 x hx).2⟩⟩
  rcases h1.2 with ⟨h4, h5⟩ | ⟨g, cap, cur, h4, _, h5, _⟩
  · omega
  · injection h4 with hA _ _
    subst hA
    have hlt : g < w.heap.size := (Array.getElem?_eq_some_iff.1 h5).1
    refine ⟨g, 0, rfl, hlt, fun j x hx => ?_⟩
    obtain ⟨h6, h7⟩ := recsCells_at hx
    have h8 := h1.cells (g := g) rfl _ _ h6
    have h9 := h1.cells (g := g) rfl _ _ h7
    rw [Addr.add_lit] at h8 h9
    exact ⟨h8, h9⟩

set_option maxRecDepth 100000 in
theorem info_rec : (Try.prog.info? 43).map (fun i => (i.zero, i.size, i.bytes)) = some (some (.agg #[.int .u8 0, .slice none 0 0]), 2, 32) := by kernel_rfl

set_option maxRecDepth 100000 in
/-- 'append(v, r)' of one record more. -/
theorem recs_app (w : World) (base : Nat) (v : Value) (L : List (Nat × List Int)) (h : RecsAt base w v L) (bl k : Nat) (A : Option Addr) (n c : Nat) (zs : List Int) (hk : k < 256) (hl0 : w.cell? ⟨bl, 0, none⟩ = some (.int .u8 (k : Int))) (hl1 : w.cell? ⟨bl, 1, none⟩ = some (.slice A n c)) (hown : w.ownsRow base 3 1 (.slice A n c) n (iv zs)) (hm : L.length ≤ 1000000) (hbase : base ≤ w.heap.size) :
    ∃ A' c' w', (Builtin.append_ #[25, 25] 25 #[v, .slice (some ⟨bl, 0, none⟩) 1 1]).run Try.prog w = .ok (.slice A' (L.length + 1) c') w' ∧ RecsAt base w' (.slice A' (L.length + 1) c') (L ++ [(k, zs)]) ∧ w.grownBy w' v.ownBlock ∧ (∀ b t cs, Whole w b t cs → 43 ≠ t → Whole w' b t cs) ∧ Below base w w' := by
  obtain ⟨i0, hi, hz0, hz1, hz2⟩ := info_parts info_rec
  obtain ⟨es, h1, h2, h3⟩ := h
  obtain ⟨v', w', g1, g2, g3, _⟩ := run_append_own (P := Try.prog) w base 25 25 43 i0 (.agg #[.int .u8 0, .slice none 0 0]) 2 32 Try.underlying25 hi hz0 hz1 hz2 rfl (by decide) v L.length _ h1 ⟨bl, 0, none⟩ 1 1 [.int .u8 (k : Int), .slice A n c] rfl (by
    intro j u hu
    match j, hu with
    | 0, hu => simp at hu; subst hu; simpa [Addr.add] using hl0
    | 1, hu => simp at hu; subst hu; simpa [Addr.add] using hl1
    | j + 2, hu => simp at hu) (by simp [Value.oneCell']) (by unfold maxLen; omega) (by omega) hbase
  obtain ⟨A', c', rfl⟩ := own_formR g2
  refine ⟨A', c', w', g1, ⟨es ++ [⟨k, A, n, c, zs⟩], ?_, by simp [recsOf, ← h2], fun x hx => ?_⟩, g3, fun b t cs hw hne => hw.grown g3 (Ne.symm (own_apart_ofR hne h1 hw)), below_row h1 g3 hbase⟩
  · rw [List.length_append, List.length_singleton]
    have e : recsCells (es ++ [⟨k, A, n, c, zs⟩]) = recsCells es ++ [.int .u8 (k : Int), .slice A n c] := by simp [recsCells, RE.val]
    rw [e]; exact g2
  · simp only [List.mem_append, List.mem_singleton] at hx
    rcases hx with hx | rfl
    · exact ⟨(h3 x hx).1, own_kept_ofR (by decide) h1 (h3 x hx).2 g3⟩
    · exact ⟨hk, own_kept_ofR (by decide) h1 hown g3⟩

end Go.Proofs.Ytbkfpghpfaemeaa

/-
  A range over a function whose elements lie in memory: each comes with what holds of it in the world in which it is handed over. Conditions: those that each theorem names.
-/
namespace Go.Proofs.Ytbkfpghpfaemeaa
open Go.RowKit Go.Shelf

section
variable {α : Type} {P : Program} {n : Nat}

/-- What such an iterator keeps: whatever the rounds tell of themselves (J), as long as each element is taken when Ok holds of it. -/
def SeqMem (n : Nat) (P : Program) (g : Nat) (lb : Array Value) (encs : α → Array Value) (Ok : List α → α → World → Prop) (Kp : World → World → Prop) (S : List α → Prop) (w : World) : Prop :=
  ∀ (l : Nat) (J : List α → World → Prop) (Jx : World → Prop) (W : World), Below w.heap.size w W → AbidesFrom W.heap.size J →
    (∀ pre x V, J pre V → Ok pre x V → YieldAt Fence.wide (n - 1) P l (encs x) V fun e V' => (e = .returned (.bool true) ∧ J (pre ++ [x]) V' ∧ Kp V V') ∨ (e = .returned (.bool false) ∧ Jx V')) →
    J [] W → CallsIn Fence.wide n P g (#[.func (.yield l) #[] #[]] ++ lb) W fun e W' => (∃ v, e = .returned v) ∧ ((∃ xs, S xs ∧ J xs W') ∨ Jx W')

/-- The loop's record, as it lies in its block. -/
def Rec (W : World) (D fn : Nat) (a : Act) (ps : Array Tmp) (assign body : Code) (st : LoopState) (pe : Option Code) : Prop :=
  W.heap[D + 1]? = some (.loop { state := st, pending := pe, fn := fn, tmps := a.tmps, params := ps, assign := assign, body := body, defers := D }) ∧ W.heap[D]? = some (.deferred (some []))

section
variable {W V : World} {D fn : Nat} {a : Act} {ps : Array Tmp} {assign body : Code} {st : LoopState} {pe : Option Code}
theorem Rec.lt (h : Rec W D fn a ps assign body st pe) : D + 1 < W.heap.size := (Array.getElem?_eq_some_iff.1 h.1).1
theorem Rec.turn {row : Option Nat} (h : Rec W D fn a ps assign body st pe) (hg : W.grownBy V row) (hr : ∀ r, row = some r → ∃ o : Obj, W.heap[r]? = some o ∧ o.isWalk = true) : Rec V D fn a ps assign body st pe :=
  ⟨(grownBy_keeps hg hr h.1 rfl).trans h.1, (grownBy_keeps hg hr h.2 rfl).trans h.2⟩
theorem Rec.kept {B : Nat} (h : Rec W D fn a ps assign body st pe) (hB : B ≤ D) (hk : KeepsFrom B W V) : Rec V D fn a ps assign body st pe :=
  ⟨hk.same _ _ (by omega) h.1 rfl, hk.same _ _ hB h.2 rfl⟩
theorem Rec.put (h : Rec W D fn a ps assign body st pe) (st' : LoopState) (pe' : Option Code) :
    Rec (W.putObj (D + 1) (.loop { state := st', pending := pe', fn := fn, tmps := a.tmps, params := ps, assign := assign, body := body, defers := D })) D fn a ps assign body st' pe' :=
  ⟨World.putObj_heap_same h.lt, (World.putObj_heap_other (by omega)).trans h.2⟩
theorem Rec.begins (h : Rec W D fn a ps assign body .ready none) :
    (Instr.beginRound (D + 1)).run P W = .ok () (W.putObj (D + 1) (.loop { state := .busy, pending := none, fn := fn, tmps := a.tmps, params := ps, assign := assign, body := body, defers := D })) := run_beginRound h.1 rfl
/-- A round's end: behind the body, the record says how it was left. -/
theorem Rec.ends (h : Rec W D fn a ps assign body .busy none) (jump : Option Code) :
    (Instr.endRound (D + 1) jump).run P W = .ok (.bool jump.isNone) (W.putObj (D + 1) (.loop { state := if jump.isNone then .ready else .done, pending := jump, fn := fn, tmps := a.tmps, params := ps, assign := assign, body := body, defers := D })) := run_endRound jump h.1
theorem Rec.over (h : Rec W D fn a ps assign body st pe) (hb : st ≠ .busy) :
    (Instr.endLoop (D + 1)).run P W = .ok pe (W.putObj (D + 1) (.loop { state := .exhausted, pending := pe, fn := fn, tmps := a.tmps, params := ps, assign := assign, body := body, defers := D })) := run_endLoop h.1 hb
theorem Rec.yields (h : Rec W D fn a ps assign body st pe) {args : Array Value} (hs : args.size = ps.size) :
    (Instr.yield (D + 1) args).run P W = .ok (.round (D + 1) fn ((ps.zip args).foldl (fun t (p, v) => t.setIfInBounds p v) a.tmps) assign body) W := run_yield h.1 hs
end

theorem wpIn_range_mem {g : Operand} {ps : Array Tmp} {assign body : Code} {Q : Exit → Act → World → Prop} {a : Act} {w : World}
    (h1 : 1 ≤ n) {gf : Nat} {lb : Array Value} (hg : a.eval g = .func (.func gf) #[] lb) (eg : ∀ args w, (callFunc gf args).run P w = .ok (.enter gf args) w)
    {encs : α → Array Value} {Ok : List α → α → World → Prop} {Kp : World → World → Prop} {S : List α → Prop} {w0 : World} (hseq : SeqMem (n - 1) P gf lb encs Ok Kp S w0)
    (hKt : ∀ {A B C : World}, Kp A B → Kp B C → Kp A C) (hKb : ∀ (W : World) (l : Nat) (o o' : Obj), w.heap.size ≤ l → W.heap[l]? = some o → o.isCells = false → o.isWalk = false → Kp W (W.putObj l o')) (hb0 : Below w0.heap.size w0 w) (hps : ∀ x, (encs x).size = ps.size)
    (I : List α → World → Prop) (Ix : Code → World → Prop) (hI : OwnFrom w.heap.size I) (hIx : OwnFrom w.heap.size Ix) (h0 : I [] w)
    (Ax : List α → α → Act → World → Prop) (hAx : ∀ a', OwnFrom w.heap.size (fun (p : List α × α) W => Ax p.1 p.2 a' W))
    (hassign : ∀ (l : Nat) (pre : List α) (x : α) (W : World) (K : Act → World → Prop), I pre W → Ok pre x W → (∀ a' W', KeepsFrom w.heap.size W W' → Kp W W' → I pre W' → Ax pre x a' W' → K a' W') →
      assign.wpIn (Fence.wide.inRound l) (n - 1 - 1) P (Exit.then K (fun _ _ _ => False)) { tmps := (ps.zip (encs x)).foldl (fun t (p, v) => t.setIfInBounds p v) a.tmps, defers := [] } W)
    (hbody : ∀ (l : Nat) (pre : List α) (x : α) (a' : Act) (W : World), w.heap.size ≤ l → I pre W → Ax pre x a' W →
      body.wpIn (Fence.wide.inRound l) (n - 1 - 1) P (ownPostG w.heap.size Kp I (fun c _ => Ix c) (pre ++ [x]) W) a' W)
    (hdone : ∀ (D : Nat) (xs : List α) (W : World), w.heap.size ≤ D → S xs → I xs W → W.heap[D]? = some (.deferred (some [])) → Q .normal { a with defers := { target := .collected D, args := #[] } :: a.defers } W)
    (hstop : ∀ (D : Nat) (c : Code) (W : World), w.heap.size ≤ D → Ix c W → W.heap[D]? = some (.deferred (some [])) → c.wpIn Fence.wide n P Q { a with defers := { target := .collected D, args := #[] } :: a.defers } W) :
    (Code.rangeFunc g ps assign body).wpIn Fence.wide n P Q a w := by
  refine wpIn_rangeFunc fun fn _ => ?_
  have hsz2 : ((w.alloc (.deferred (some []))).alloc (.loop { state := .ready, pending := none, fn := fn, tmps := a.tmps, params := ps, assign := assign, body := body, defers := w.heap.size })).heap.size = w.heap.size + 2 := by simp
  have hR0 : Rec ((w.alloc (.deferred (some []))).alloc (.loop { state := .ready, pending := none, fn := fn, tmps := a.tmps, params := ps, assign := assign, body := body, defers := w.heap.size })) w.heap.size fn a ps assign body .ready none := by
    constructor
    · have := World.alloc_heap_new (w.alloc (.deferred (some []))) (.loop { state := .ready, pending := none, fn := fn, tmps := a.tmps, params := ps, assign := assign, body := body, defers := w.heap.size })
      rwa [World.size_alloc] at this
    · exact (Below.heap_alloc _ _ _ (by simp)).trans (World.alloc_heap_new w _)
  have hB0 : Below w0.heap.size w0 ((w.alloc (.deferred (some []))).alloc (.loop { state := .ready, pending := none, fn := fn, tmps := a.tmps, params := ps, assign := assign, body := body, defers := w.heap.size })) := (hb0.alloc hb0.size _).alloc (by have := hb0.size; simp; omega) _
  have hI0 := hI.alloc (Obj.loop { state := .ready, pending := none, fn := fn, tmps := a.tmps, params := ps, assign := assign, body := body, defers := w.heap.size }) (hI.alloc (.deferred (some [])) h0)
  have hent := run_enterLoop_outer (P := P) (w := w) fn a.tmps ps assign body
  revert hsz2 hR0 hB0 hI0 hent
  generalize (w.alloc (.deferred (some []))).alloc (.loop { state := .ready, pending := none, fn := fn, tmps := a.tmps, params := ps, assign := assign, body := body, defers := w.heap.size }) = W1
  intro hsz2 hR0 hB0 hI0 hent
  refine ⟨w.heap.size + 1, [{ target := .collected w.heap.size, args := #[] }], W1, { target := .fn (.func gf) lb, args := #[.func (.yield (w.heap.size + 1)) #[] #[]] }, W1, gf,
    #[.func (.yield (w.heap.size + 1)) #[] #[]] ++ lb, W1, hent, ?_, fun _ _ => trivial, ?_, fun _ => h1, ?_⟩
  · simp only [resolve, hg]
    simp [go_sem]
  · simp [invoke, go_sem, eg]
  have hnw : ∀ {A : World} {row : Option Nat}, (∀ r, row = some r → W1.heap.size ≤ r ∧ ∃ o : Obj, A.heap[r]? = some o ∧ o.isWalk = true) → (∀ r, row = some r → w.heap.size ≤ r ∧ ∃ o : Obj, A.heap[r]? = some o ∧ o.isCells = false) :=
    fun hr r e => by
      obtain ⟨hB, o, ho, hw⟩ := hr r e
      exact ⟨by omega, o, ho, Obj.not_cells_of_walk hw⟩
  refine (hseq (w.heap.size + 1) (fun pre W => I pre W ∧ Rec W w.heap.size fn a ps assign body .ready none) (fun W => ∃ c, Ix c W ∧ Rec W w.heap.size fn a ps assign body .done (some c)) W1 hB0
    (fun s A B row hs hg' hr => ⟨hI s A B row hs.1 hg' (hnw hr), hs.2.turn hg' (fun r e => (hr r e).2)⟩) ?round ⟨hI0, hR0⟩).mono ?behind
  case round =>
    rintro pre x V ⟨hi, hrec⟩ hok
    refine ⟨_, _, _, _, hrec.yields (hps x), roundIn_of_wpIn trivial (hassign _ pre x V _ hi hok ?_)⟩
    intro a' V2 hk2 hp2 hi2 hx2
    have hrec2 := hrec.kept (Nat.le_refl _) hk2
    refine ⟨_, hrec2.begins, ?_⟩
    have hrec3 := hrec2.put .busy none
    have hi3 := hI.putObj (Obj.loop { state := .busy, pending := none, fn := fn, tmps := a.tmps, params := ps, assign := assign, body := body, defers := w.heap.size }) hi2 (by omega) hrec2.1 rfl
    have hx3 := (hAx a').putObj (s := (pre, x)) (Obj.loop { state := .busy, pending := none, fn := fn, tmps := a.tmps, params := ps, assign := assign, body := body, defers := w.heap.size }) hx2 (by omega) hrec2.1 rfl
    have hp3 := hKb V2 (w.heap.size + 1) _ (Obj.loop { state := .busy, pending := none, fn := fn, tmps := a.tmps, params := ps, assign := assign, body := body, defers := w.heap.size }) (by omega) hrec2.1 rfl rfl
    refine wpIn_mono (hbody _ pre x a' _ (by omega) hi3 hx3) ?_
    have leaves : ∀ (c : Code) (V4 : World), KeepsFrom w.heap.size (V2.putObj (w.heap.size + 1) (.loop { state := .busy, pending := none, fn := fn, tmps := a.tmps, params := ps, assign := assign, body := body, defers := w.heap.size })) V4 → Ix c V4 →
        ∃ v W', (Instr.endRound (w.heap.size + 1) (some c)).run P V4 = .ok v W' ∧ ((Ending.returned v = .returned (.bool true) ∧ (I (pre ++ [x]) W' ∧ Rec W' w.heap.size fn a ps assign body .ready none) ∧ Kp V W') ∨
          (Ending.returned v = .returned (.bool false) ∧ ∃ c, Ix c W' ∧ Rec W' w.heap.size fn a ps assign body .done (some c))) := fun c V4 hk4 hx4 => by
      have hrec4 := hrec3.kept (Nat.le_refl _) hk4
      exact ⟨_, _, hrec4.ends (some c), .inr ⟨rfl, c, hIx.putObj _ hx4 (by omega) hrec4.1 rfl, hrec4.put _ _⟩⟩
    intro e a4 V4 hp
    cases e with
    | normal =>
      obtain ⟨hk4, hp4, hi4⟩ := hp
      have hrec4 := hrec3.kept (Nat.le_refl _) hk4
      exact ⟨_, _, hrec4.ends none, .inl ⟨rfl, ⟨hI.putObj _ hi4 (by omega) hrec4.1 rfl, hrec4.put _ _⟩, hKt hp2 (hKt hp3 (hKt hp4 (hKb _ _ _ _ (by omega) hrec4.1 rfl rfl)))⟩⟩
    | ret => exact leaves _ _ hp.1 hp.2
    | exit id => exact leaves _ _ hp.1 hp.2
    | goto t => exact leaves _ _ hp.1 hp.2
    | panic ch => exact hp.elim
    | outgrown => exact hp.elim
  case behind =>
    rintro e W2 ⟨⟨v, rfl⟩, h⟩
    rcases h with ⟨xs, hS, hi, hrec⟩ | ⟨c, hx, hrec⟩
    · exact ⟨none, _, hrec.over (by simp), hdone _ xs _ (Nat.le_refl _) hS (hI.putObj _ hi (by omega) hrec.1 rfl) (hrec.put _ _).2⟩
    · exact ⟨some c, _, hrec.over (by simp), hstop _ c _ (Nat.le_refl _) (hIx.putObj _ hx (by omega) hrec.1 rfl) (hrec.put _ _).2⟩
end

end Go.Proofs.Ytbkfpghpfaemeaa
