/-
  The region of the document's own 'Take' of a frame that lays the payload and what is behind it: whatever the order. Conditions: those that each theorem names.
-/
import Derived.Test.YtocleikdabclkaaRegionInv
import Derived.Laws.Append
namespace Go.Proofs.Ytocleikdabclkaa
open Go.RowKit Go.Shelf

/-- 'append([]byte{}, x...)': nothing that was there turns. -/
theorem run_app0 (w : World) (base b : Nat) (hb : base ≤ b) (hw : Whole w b 5 #[]) (B : Nat) (A : Option Addr) (m c : Nat) (bs : List Nat) (hr : Rd w B A m (bv bs)) (hm : m ≤ 1000000) (hbase : base ≤ w.heap.size) :
    ∃ A' c' w', (Builtin.append_ #[22, 22] 22 #[.slice (some ⟨b, 0, none⟩) 0 0, .slice A m c]).run Try.prog w = .ok (.slice A' m c') w' ∧ w'.ownsRow base 5 1 (.slice A' m c') m (bv bs) ∧ Below w.heap.size w w' := by
  obtain ⟨i0, hi, hz0, hz1, hz2⟩ := info_parts info_u8
  have ht := Try.underlying22
  rcases Nat.eq_zero_or_pos m with h | h
  · subst h
    have hbs : bs = [] := by have := hr.1; rw [bv_length] at this; exact List.eq_nil_of_length_eq_zero this
    subst hbs
    refine ⟨some ⟨b, 0, none⟩, 0, w, ?_, ⟨by simp [bv], .inr ⟨b, 0, #[], rfl, hb, hw, Nat.le_refl _, by unfold maxLen; omega, rfl, rfl⟩⟩, Below.refl _ _⟩
    rcases A with _ | ad
    · simp [Builtin.append_, run_underlying ht, sizeOf, typeInfo, hi, Builtin.lenOf, Builtin.firstCells, storeCells]
    · have hf := run_firstCells_some (P := Try.prog) w i0.size 0 ad 0 c [] (by simp) (by simp)
      simp [Builtin.append_, run_underlying ht, sizeOf, typeInfo, hi, Builtin.lenOf, hf, storeCells]
  · obtain ⟨b', off, rfl, hlt, hc⟩ := hr.2 h
    have hl : (bv bs).length = m := hr.1
    have hrun := run_append_grow (P := Try.prog) w 22 22 5 i0 (.int .u8 0) ht hi hz0 ⟨b, 0, none⟩ 0 0 [] (by simp) (by simp) ⟨b', off, none⟩ m c (bv bs) (by rw [hl, hz1, Nat.mul_one]) (fun j v hj => by
      have hjm : j < m := by rw [← hl]; exact (List.getElem?_eq_some_iff.1 hj).1
      rw [Addr.add_lit, hc j hjm, hj]) (by omega) (by omega) (by rw [hz2]; exact growslice_fits (by omega) (by omega))
    rw [Nat.zero_add] at hrun
    have hge := grownCap_ge w m 0 5
    have hcm := grownCap_le_maxLen w m 0 5 (by unfold maxLen; omega)
    refine ⟨_, _, _, hrun, ⟨by rw [hl, Nat.mul_one], .inr ⟨w.heap.size, _, _, rfl, hbase, heap_alloc_new w.drew _, hge, hcm, ?_, ?_⟩⟩, ((Below.refl _ w).drew).alloc (Nat.le_refl _) _⟩
    · simp only [Array.size_append, List.size_toArray, size_zeroCells, hl, List.length_nil]
      simp [Value.cells]; omega
    · simp only [Array.toList_append, List.nil_append, Nat.mul_one]
      rw [← hl]
      exact List.take_left

section
variable {K : Act → World → Prop} {Q : Exit → Act → World → Prop} {a : Act} {w : World} {dst : Option Tmp} {t : TypeId} {pos : String} {after : Array Edge} {x y : Operand}
theorem opT_move {v : Value} (hx : a.eval x = v) (h : K (a.put dst v) w) :
    ({ dst := dst, op := .move x, type := t, pos := pos, after := after, guard := none } : Oper).wp Try.prog a w K Q := by
  unfold Oper.wp execOp
  simp only [hx]
  go_simp
  exact h
theorem opT_assign {v : Value} (hx : a.eval x = v) (h : K (a.put dst v) w) :
    ({ dst := dst, op := .assign x, type := t, pos := pos, after := after, guard := none } : Oper).wp Try.prog a w K Q := by
  unfold Oper.wp execOp
  simp only [hx]
  go_simp
  exact h
theorem opT_lit0 (h : K (a.put dst (.slice (some ⟨w.heap.size, 0, none⟩) 0 0)) (w.alloc (.cells #[] 5))) :
    ({ dst := dst, op := .buildSlice 22 0 #[], type := t, pos := pos, after := after, guard := none } : Oper).wp Try.prog a w K Q := by
  unfold Oper.wp execOp
  go_simp
  exact h
theorem opT_head {vx vy v : Value} (hx : a.eval x = vx) (hy : a.eval y = vy) (hr : ∀ w : World, (Instr.slice 22 vx none (some vy) none).run Try.prog w = .ok v w) (h : K (a.put dst v) w) :
    ({ dst := dst, op := .slice 22 x none (some y) none, type := t, pos := pos, after := after, guard := none } : Oper).wp Try.prog a w K Q := by
  unfold Oper.wp execOp
  simp only [hx, hy, Option.map_some, Option.map_none]
  go_simp
  exact h
theorem opT_rest {vx vy v : Value} (hx : a.eval x = vx) (hy : a.eval y = vy) (hr : ∀ w : World, (Instr.slice 22 vx (some vy) none none).run Try.prog w = .ok v w) (h : K (a.put dst v) w) :
    ({ dst := dst, op := .slice 22 x (some y) none none, type := t, pos := pos, after := after, guard := none } : Oper).wp Try.prog a w K Q := by
  unfold Oper.wp execOp
  simp only [hx, hy, Option.map_some, Option.map_none]
  go_simp
  exact h
theorem opT_append {vs vx v' : Value} {w' : World} (hx : a.eval x = vs) (hy : a.eval y = vx) (hr : (Builtin.append_ #[22, 22] t #[vs, vx]).run Try.prog w = .ok v' w') (h : K (a.put dst v') w') :
    ({ dst := dst, op := .call { callee := .builtin .append, args := #[x, y], argTypes := #[22, 22] }, type := t, pos := pos, after := after, guard := none } : Oper).wp Try.prog a w K Q := by
  unfold Oper.wp execOp
  simp only [resolve, invoke, builtin, Sem.run_bind, Sem.run_pure, Result.andThen_ok, List.map_toArray, List.map_cons, List.map_nil, hx, hy, hr]
  exact h
end

abbrev layDs : List Nat := [52, 53, 54, 55, 56, 57, 58, 59, 60, 61, 2, 3, 4]

/-- What holds behind any operations of the region that have come up. -/
structure LayI (a0 : Act) (base : Nat) (W0 : World) (A1 : Option Addr) (R c1 N : Nat) (p : List Nat) (A : Option Addr) (n c F : Nat) (A' : Option Addr) (M cr : Nat) (r : List Nat) (L : Nat → Bool) (a : Act) (w : World) (b1 b2 : Nat) (A3 : Option Addr) (c3 : Nat) (A4 : Option Addr) (c4 : Nat) : Prop where
  agree : Agree layDs a0 a
  below : Below W0.heap.size W0 w
  e0 : L 0 = true → a.eval (.tmp 52) = .slice (some ⟨b1, 0, none⟩) 0 0 ∧ base ≤ b1 ∧ Whole w b1 5 #[]
  x1 : L 1 = true → a.eval (.tmp 53) = .slice A1 R c1
  x2 : L 2 = true → a.eval (.tmp 54) = .int .i64 (N : Int)
  x3 : L 3 = true → a.eval (.tmp 55) = .slice A1 N c1
  e4 : L 4 = true → a.eval (.tmp 56) = .slice A3 N c3 ∧ w.ownsRow base 5 1 (.slice A3 N c3) N (bv p)
  e5 : L 5 = true → a.eval (.tmp 57) = .slice (some ⟨b2, 0, none⟩) 0 0 ∧ base ≤ b2 ∧ Whole w b2 5 #[]
  x6 : L 6 = true → a.eval (.tmp 58) = .slice A n c
  x7 : L 7 = true → a.eval (.tmp 59) = .int .i64 (F : Int)
  x8 : L 8 = true → a.eval (.tmp 60) = .slice A' M cr
  e9 : L 9 = true → a.eval (.tmp 61) = .slice A4 M c4 ∧ w.ownsRow base 5 1 (.slice A4 M c4) M (bv r)
  e10 : L 10 = true → a.eval (.tmp 2) = .slice A3 N c3
  e11 : L 11 = true → a.eval (.tmp 3) = .slice A4 M c4
  e12 : L 12 = true → a.eval (.tmp 4) = .int .i64 0

theorem lay_region {ops : Array Oper} {Q : Exit → Act → World → Prop} {id : Nat} (hsize : ops.size = 13) (hlow : lowOnly ops = true)
    (o0 : At ops 0 (some 52) (.buildSlice 22 0 #[]) 22 [])
    (o1 : At ops 1 (some 53) (.move (.tmp 6)) 22 [])
    (o2 : At ops 2 (some 54) (.move (.tmp 5)) 3 [])
    (o3 : At ops 3 (some 55) (.slice 22 (.tmp 53) none (some (.tmp 54)) none) 22 [1, 2])
    (o4 : At ops 4 (some 56) (.call { callee := .builtin .append, args := #[.tmp 52, .tmp 55], argTypes := #[22, 22] }) 22 [0, 3])
    (o5 : At ops 5 (some 57) (.buildSlice 22 0 #[]) 22 [])
    (o6 : At ops 6 (some 58) (.move (.tmp 0)) 22 [])
    (o7 : At ops 7 (some 59) (.move (.tmp 10)) 3 [])
    (o8 : At ops 8 (some 60) (.slice 22 (.tmp 58) (some (.tmp 59)) none none) 22 [6, 7])
    (o9 : At ops 9 (some 61) (.call { callee := .builtin .append, args := #[.tmp 57, .tmp 60], argTypes := #[22, 22] }) 22 [5, 8])
    (o10 : At ops 10 (some 2) (.assign (.tmp 56)) 22 [4])
    (o11 : At ops 11 (some 3) (.assign (.tmp 61)) 22 [9])
    (o12 : At ops 12 (some 4) (.assign (.const (.int .i64 0))) 24 [])
    (a0 : Act) (hds : ∀ d ∈ layDs, d < a0.tmps.size) (base : Nat) (W0 : World) (A1 : Option Addr) (R c1 N : Nat) (p : List Nat) (A : Option Addr) (n c F : Nat) (A' : Option Addr) (M cr : Nat) (r : List Nat)
    (h6 : a0.eval (.tmp 6) = .slice A1 R c1) (h5 : a0.eval (.tmp 5) = .int .i64 (N : Int)) (h0 : a0.eval (.tmp 0) = .slice A n c) (h10 : a0.eval (.tmp 10) = .int .i64 (F : Int)) (hbase : base ≤ W0.heap.size)
    (hs1 : ∀ w : World, (Instr.slice 22 (.slice A1 R c1) none (some (.int .i64 (N : Int))) none).run Try.prog w = .ok (.slice A1 N c1) w)
    (hs2 : ∀ w : World, (Instr.slice 22 (.slice A n c) (some (.int .i64 (F : Int))) none none).run Try.prog w = .ok (.slice A' M cr) w)
    (hr1 : Rd W0 W0.heap.size A1 N (bv p)) (hr2 : Rd W0 W0.heap.size A' M (bv r)) (hN : N ≤ 1000000) (hM : M ≤ 1000000)
    (fin : ∀ σ w A3 c3 A4 c4, σ 2 = .slice A3 N c3 → σ 3 = .slice A4 M c4 → σ 4 = .int .i64 0 → Below W0.heap.size W0 w → w.ownsRow base 5 1 (.slice A3 N c3) N (bv p) → w.ownsRow base 5 1 (.slice A4 M c4) M (bv r) → Q .normal (lay σ layDs a0) w) :
    (Code.region id ops true).wp Try.prog Q a0 W0 := by
  refine region_clo (by kernel_rfl) hlow (fun L a w => ∃ b1 b2 A3 c3 A4 c4, LayI a0 base W0 A1 R c1 N p A n c F A' M cr r L a w b1 b2 A3 c3 A4 c4) ?_ ?_ ?_
  · exact ⟨0, 0, none, 0, none, 0, Agree.refl _ _, (Below.refl _ _).drew, by simp, by simp, by simp, by simp, by simp, by simp, by simp, by simp, by simp, by simp, by simp, by simp, by simp⟩
  · rintro i o L a w ho hi hclo hall ⟨b1, b2, A3, c3, A4, c4, I⟩
    have hlt : i < 13 := by rw [← hsize]; exact (Array.getElem?_eq_some_iff.1 ho).1
    have hz : ∀ d ∈ layDs, d < a.tmps.size := fun d hd => by rw [I.agree.size]; exact hds d hd
    have hbw : base ≤ w.heap.size := Nat.le_trans hbase I.below.size
    rcases (by omega : i = 0 ∨ i = 1 ∨ i = 2 ∨ i = 3 ∨ i = 4 ∨ i = 5 ∨ i = 6 ∨ i = 7 ∨ i = 8 ∨ i = 9 ∨ i = 10 ∨ i = 11 ∨ i = 12) with rfl | rfl | rfl | rfl | rfl | rfl | rfl | rfl | rfl | rfl | rfl | rfl | rfl
    · have hd := o0.needs ho hall
      obtain ⟨WN, hWN⟩ : ∃ WN, w.alloc (.cells #[] 5) = WN := ⟨_, rfl⟩
      have hN' : Below w.heap.size w WN := by rw [← hWN]; exact (Below.refl _ w).alloc (Nat.le_refl _) _
      have W_e5 : base ≤ b2 ∧ Whole w b2 5 #[] → base ≤ b2 ∧ Whole WN b2 5 #[] := fun h => ⟨h.1, h.2.under hN'⟩
      have W_e4 : w.ownsRow base 5 1 (.slice A3 N c3) N (bv p) → WN.ownsRow base 5 1 (.slice A3 N c3) N (bv p) := fun h => own_under h hN'
      have W_e9 : w.ownsRow base 5 1 (.slice A4 M c4) M (bv r) → WN.ownsRow base 5 1 (.slice A4 M c4) M (bv r) := fun h => own_under h hN'
      have hnew : Whole WN w.heap.size 5 #[] := by rw [← hWN]; exact Whole.new w _ _
      refine o0.run fun pos after => opT_lit0 ?_
      rw [hWN]
      refine ⟨w.heap.size, b2, A3, c3, A4, c4, I.agree.put (by decide) _, I.below.trans (hN'.mono I.below.size), ?_, ?_, ?_, ?_, ?_, ?_, ?_, ?_, ?_, ?_, ?_, ?_, ?_⟩
      · intro _; exact ⟨eval_new (hz _ (by decide)) _, hbw, hnew⟩
      · simpa [eval_old] using I.x1
      · simpa [eval_old] using I.x2
      · simpa [eval_old] using I.x3
      · intro h; obtain ⟨g1, g2⟩ := I.e4 h; exact ⟨by simpa [eval_old] using g1, W_e4 g2⟩
      · intro h; obtain ⟨g1, g2⟩ := I.e5 h; exact ⟨by simpa [eval_old] using g1, W_e5 g2⟩
      · simpa [eval_old] using I.x6
      · simpa [eval_old] using I.x7
      · simpa [eval_old] using I.x8
      · intro h; obtain ⟨g1, g2⟩ := I.e9 h; exact ⟨by simpa [eval_old] using g1, W_e9 g2⟩
      · simpa [eval_old] using I.e10
      · simpa [eval_old] using I.e11
      · simpa [eval_old] using I.e12
    · have hd := o1.needs ho hall
      refine o1.run fun pos after => opT_move (v := .slice A1 R c1) (by rw [I.agree.eval (by decide)]; exact h6) ⟨b1, b2, A3, c3, A4, c4, I.agree.put (by decide) _, I.below, ?_, ?_, ?_, ?_, ?_, ?_, ?_, ?_, ?_, ?_, ?_, ?_, ?_⟩
      · simpa [eval_old] using I.e0
      · intro _; exact eval_new (hz _ (by decide)) _
      · simpa [eval_old] using I.x2
      · simpa [eval_old] using I.x3
      · simpa [eval_old] using I.e4
      · simpa [eval_old] using I.e5
      · simpa [eval_old] using I.x6
      · simpa [eval_old] using I.x7
      · simpa [eval_old] using I.x8
      · simpa [eval_old] using I.e9
      · simpa [eval_old] using I.e10
      · simpa [eval_old] using I.e11
      · simpa [eval_old] using I.e12
    · have hd := o2.needs ho hall
      refine o2.run fun pos after => opT_move (v := .int .i64 (N : Int)) (by rw [I.agree.eval (by decide)]; exact h5) ⟨b1, b2, A3, c3, A4, c4, I.agree.put (by decide) _, I.below, ?_, ?_, ?_, ?_, ?_, ?_, ?_, ?_, ?_, ?_, ?_, ?_, ?_⟩
      · simpa [eval_old] using I.e0
      · simpa [eval_old] using I.x1
      · intro _; exact eval_new (hz _ (by decide)) _
      · simpa [eval_old] using I.x3
      · simpa [eval_old] using I.e4
      · simpa [eval_old] using I.e5
      · simpa [eval_old] using I.x6
      · simpa [eval_old] using I.x7
      · simpa [eval_old] using I.x8
      · simpa [eval_old] using I.e9
      · simpa [eval_old] using I.e10
      · simpa [eval_old] using I.e11
      · simpa [eval_old] using I.e12
    · have hd := o3.needs ho hall
      refine o3.run fun pos after => opT_head (I.x1 (hd 1 (by simp))) (I.x2 (hd 2 (by simp))) hs1 ⟨b1, b2, A3, c3, A4, c4, I.agree.put (by decide) _, I.below, ?_, ?_, ?_, ?_, ?_, ?_, ?_, ?_, ?_, ?_, ?_, ?_, ?_⟩
      · simpa [eval_old] using I.e0
      · simpa [eval_old] using I.x1
      · simpa [eval_old] using I.x2
      · intro _; exact eval_new (hz _ (by decide)) _
      · simpa [eval_old] using I.e4
      · simpa [eval_old] using I.e5
      · simpa [eval_old] using I.x6
      · simpa [eval_old] using I.x7
      · simpa [eval_old] using I.x8
      · simpa [eval_old] using I.e9
      · simpa [eval_old] using I.e10
      · simpa [eval_old] using I.e11
      · simpa [eval_old] using I.e12
    · have hd := o4.needs ho hall
      obtain ⟨g1, g2, g3⟩ := I.e0 (hd 0 (by simp))
      obtain ⟨A5, c5, WN, hrun, hown, hN'⟩ := run_app0 w base _ g2 g3 W0.heap.size _ _ c1 _ (hr1.below I.below) hN hbw
      have W_e0 : base ≤ b1 ∧ Whole w b1 5 #[] → base ≤ b1 ∧ Whole WN b1 5 #[] := fun h => ⟨h.1, h.2.under hN'⟩
      have W_e5 : base ≤ b2 ∧ Whole w b2 5 #[] → base ≤ b2 ∧ Whole WN b2 5 #[] := fun h => ⟨h.1, h.2.under hN'⟩
      have W_e9 : w.ownsRow base 5 1 (.slice A4 M c4) M (bv r) → WN.ownsRow base 5 1 (.slice A4 M c4) M (bv r) := fun h => own_under h hN'
      have n10 := o10.not hclo (j := 4) (by simp) hi
      refine o4.run fun pos after => opT_append g1 (I.x3 (hd 3 (by simp))) hrun ⟨b1, b2, A5, c5, A4, c4, I.agree.put (by decide) _, I.below.trans (hN'.mono I.below.size), ?_, ?_, ?_, ?_, ?_, ?_, ?_, ?_, ?_, ?_, ?_, ?_, ?_⟩
      · intro h; obtain ⟨g1, g2⟩ := I.e0 h; exact ⟨by simpa [eval_old] using g1, W_e0 g2⟩
      · simpa [eval_old] using I.x1
      · simpa [eval_old] using I.x2
      · simpa [eval_old] using I.x3
      · intro _; exact ⟨eval_new (hz _ (by decide)) _, hown⟩
      · intro h; obtain ⟨g1, g2⟩ := I.e5 h; exact ⟨by simpa [eval_old] using g1, W_e5 g2⟩
      · simpa [eval_old] using I.x6
      · simpa [eval_old] using I.x7
      · simpa [eval_old] using I.x8
      · intro h; obtain ⟨g1, g2⟩ := I.e9 h; exact ⟨by simpa [eval_old] using g1, W_e9 g2⟩
      · intro h; simp [n10] at h
      · simpa [eval_old] using I.e11
      · simpa [eval_old] using I.e12
    · have hd := o5.needs ho hall
      obtain ⟨WN, hWN⟩ : ∃ WN, w.alloc (.cells #[] 5) = WN := ⟨_, rfl⟩
      have hN' : Below w.heap.size w WN := by rw [← hWN]; exact (Below.refl _ w).alloc (Nat.le_refl _) _
      have W_e0 : base ≤ b1 ∧ Whole w b1 5 #[] → base ≤ b1 ∧ Whole WN b1 5 #[] := fun h => ⟨h.1, h.2.under hN'⟩
      have W_e4 : w.ownsRow base 5 1 (.slice A3 N c3) N (bv p) → WN.ownsRow base 5 1 (.slice A3 N c3) N (bv p) := fun h => own_under h hN'
      have W_e9 : w.ownsRow base 5 1 (.slice A4 M c4) M (bv r) → WN.ownsRow base 5 1 (.slice A4 M c4) M (bv r) := fun h => own_under h hN'
      have hnew : Whole WN w.heap.size 5 #[] := by rw [← hWN]; exact Whole.new w _ _
      refine o5.run fun pos after => opT_lit0 ?_
      rw [hWN]
      refine ⟨b1, w.heap.size, A3, c3, A4, c4, I.agree.put (by decide) _, I.below.trans (hN'.mono I.below.size), ?_, ?_, ?_, ?_, ?_, ?_, ?_, ?_, ?_, ?_, ?_, ?_, ?_⟩
      · intro h; obtain ⟨g1, g2⟩ := I.e0 h; exact ⟨by simpa [eval_old] using g1, W_e0 g2⟩
      · simpa [eval_old] using I.x1
      · simpa [eval_old] using I.x2
      · simpa [eval_old] using I.x3
      · intro h; obtain ⟨g1, g2⟩ := I.e4 h; exact ⟨by simpa [eval_old] using g1, W_e4 g2⟩
      · intro _; exact ⟨eval_new (hz _ (by decide)) _, hbw, hnew⟩
      · simpa [eval_old] using I.x6
      · simpa [eval_old] using I.x7
      · simpa [eval_old] using I.x8
      · intro h; obtain ⟨g1, g2⟩ := I.e9 h; exact ⟨by simpa [eval_old] using g1, W_e9 g2⟩
      · simpa [eval_old] using I.e10
      · simpa [eval_old] using I.e11
      · simpa [eval_old] using I.e12
    · have hd := o6.needs ho hall
      refine o6.run fun pos after => opT_move (v := .slice A n c) (by rw [I.agree.eval (by decide)]; exact h0) ⟨b1, b2, A3, c3, A4, c4, I.agree.put (by decide) _, I.below, ?_, ?_, ?_, ?_, ?_, ?_, ?_, ?_, ?_, ?_, ?_, ?_, ?_⟩
      · simpa [eval_old] using I.e0
      · simpa [eval_old] using I.x1
      · simpa [eval_old] using I.x2
      · simpa [eval_old] using I.x3
      · simpa [eval_old] using I.e4
      · simpa [eval_old] using I.e5
      · intro _; exact eval_new (hz _ (by decide)) _
      · simpa [eval_old] using I.x7
      · simpa [eval_old] using I.x8
      · simpa [eval_old] using I.e9
      · simpa [eval_old] using I.e10
      · simpa [eval_old] using I.e11
      · simpa [eval_old] using I.e12
    · have hd := o7.needs ho hall
      refine o7.run fun pos after => opT_move (v := .int .i64 (F : Int)) (by rw [I.agree.eval (by decide)]; exact h10) ⟨b1, b2, A3, c3, A4, c4, I.agree.put (by decide) _, I.below, ?_, ?_, ?_, ?_, ?_, ?_, ?_, ?_, ?_, ?_, ?_, ?_, ?_⟩
      · simpa [eval_old] using I.e0
      · simpa [eval_old] using I.x1
      · simpa [eval_old] using I.x2
      · simpa [eval_old] using I.x3
      · simpa [eval_old] using I.e4
      · simpa [eval_old] using I.e5
      · simpa [eval_old] using I.x6
      · intro _; exact eval_new (hz _ (by decide)) _
      · simpa [eval_old] using I.x8
      · simpa [eval_old] using I.e9
      · simpa [eval_old] using I.e10
      · simpa [eval_old] using I.e11
      · simpa [eval_old] using I.e12
    · have hd := o8.needs ho hall
      refine o8.run fun pos after => opT_rest (I.x6 (hd 6 (by simp))) (I.x7 (hd 7 (by simp))) hs2 ⟨b1, b2, A3, c3, A4, c4, I.agree.put (by decide) _, I.below, ?_, ?_, ?_, ?_, ?_, ?_, ?_, ?_, ?_, ?_, ?_, ?_, ?_⟩
      · simpa [eval_old] using I.e0
      · simpa [eval_old] using I.x1
      · simpa [eval_old] using I.x2
      · simpa [eval_old] using I.x3
      · simpa [eval_old] using I.e4
      · simpa [eval_old] using I.e5
      · simpa [eval_old] using I.x6
      · simpa [eval_old] using I.x7
      · intro _; exact eval_new (hz _ (by decide)) _
      · simpa [eval_old] using I.e9
      · simpa [eval_old] using I.e10
      · simpa [eval_old] using I.e11
      · simpa [eval_old] using I.e12
    · have hd := o9.needs ho hall
      obtain ⟨g1, g2, g3⟩ := I.e5 (hd 5 (by simp))
      obtain ⟨A5, c5, WN, hrun, hown, hN'⟩ := run_app0 w base _ g2 g3 W0.heap.size _ _ cr _ (hr2.below I.below) hM hbw
      have W_e0 : base ≤ b1 ∧ Whole w b1 5 #[] → base ≤ b1 ∧ Whole WN b1 5 #[] := fun h => ⟨h.1, h.2.under hN'⟩
      have W_e5 : base ≤ b2 ∧ Whole w b2 5 #[] → base ≤ b2 ∧ Whole WN b2 5 #[] := fun h => ⟨h.1, h.2.under hN'⟩
      have W_e4 : w.ownsRow base 5 1 (.slice A3 N c3) N (bv p) → WN.ownsRow base 5 1 (.slice A3 N c3) N (bv p) := fun h => own_under h hN'
      have n11 := o11.not hclo (j := 9) (by simp) hi
      refine o9.run fun pos after => opT_append g1 (I.x8 (hd 8 (by simp))) hrun ⟨b1, b2, A3, c3, A5, c5, I.agree.put (by decide) _, I.below.trans (hN'.mono I.below.size), ?_, ?_, ?_, ?_, ?_, ?_, ?_, ?_, ?_, ?_, ?_, ?_, ?_⟩
      · intro h; obtain ⟨g1, g2⟩ := I.e0 h; exact ⟨by simpa [eval_old] using g1, W_e0 g2⟩
      · simpa [eval_old] using I.x1
      · simpa [eval_old] using I.x2
      · simpa [eval_old] using I.x3
      · intro h; obtain ⟨g1, g2⟩ := I.e4 h; exact ⟨by simpa [eval_old] using g1, W_e4 g2⟩
      · intro h; obtain ⟨g1, g2⟩ := I.e5 h; exact ⟨by simpa [eval_old] using g1, W_e5 g2⟩
      · simpa [eval_old] using I.x6
      · simpa [eval_old] using I.x7
      · simpa [eval_old] using I.x8
      · intro _; exact ⟨eval_new (hz _ (by decide)) _, hown⟩
      · simpa [eval_old] using I.e10
      · intro h; simp [n11] at h
      · simpa [eval_old] using I.e12
    · have hd := o10.needs ho hall
      refine o10.run fun pos after => opT_assign (I.e4 (hd 4 (by simp))).1 ⟨b1, b2, A3, c3, A4, c4, I.agree.put (by decide) _, I.below, ?_, ?_, ?_, ?_, ?_, ?_, ?_, ?_, ?_, ?_, ?_, ?_, ?_⟩
      · simpa [eval_old] using I.e0
      · simpa [eval_old] using I.x1
      · simpa [eval_old] using I.x2
      · simpa [eval_old] using I.x3
      · simpa [eval_old] using I.e4
      · simpa [eval_old] using I.e5
      · simpa [eval_old] using I.x6
      · simpa [eval_old] using I.x7
      · simpa [eval_old] using I.x8
      · simpa [eval_old] using I.e9
      · intro _; exact eval_new (hz _ (by decide)) _
      · simpa [eval_old] using I.e11
      · simpa [eval_old] using I.e12
    · have hd := o11.needs ho hall
      refine o11.run fun pos after => opT_assign (I.e9 (hd 9 (by simp))).1 ⟨b1, b2, A3, c3, A4, c4, I.agree.put (by decide) _, I.below, ?_, ?_, ?_, ?_, ?_, ?_, ?_, ?_, ?_, ?_, ?_, ?_, ?_⟩
      · simpa [eval_old] using I.e0
      · simpa [eval_old] using I.x1
      · simpa [eval_old] using I.x2
      · simpa [eval_old] using I.x3
      · simpa [eval_old] using I.e4
      · simpa [eval_old] using I.e5
      · simpa [eval_old] using I.x6
      · simpa [eval_old] using I.x7
      · simpa [eval_old] using I.x8
      · simpa [eval_old] using I.e9
      · simpa [eval_old] using I.e10
      · intro _; exact eval_new (hz _ (by decide)) _
      · simpa [eval_old] using I.e12
    · have hd := o12.needs ho hall
      refine o12.run fun pos after => opT_assign (v := .int .i64 0) rfl ⟨b1, b2, A3, c3, A4, c4, I.agree.put (by decide) _, I.below, ?_, ?_, ?_, ?_, ?_, ?_, ?_, ?_, ?_, ?_, ?_, ?_, ?_⟩
      · simpa [eval_old] using I.e0
      · simpa [eval_old] using I.x1
      · simpa [eval_old] using I.x2
      · simpa [eval_old] using I.x3
      · simpa [eval_old] using I.e4
      · simpa [eval_old] using I.e5
      · simpa [eval_old] using I.x6
      · simpa [eval_old] using I.x7
      · simpa [eval_old] using I.x8
      · simpa [eval_old] using I.e9
      · simpa [eval_old] using I.e10
      · simpa [eval_old] using I.e11
      · intro _; exact eval_new (hz _ (by decide)) _
  · rintro L a w hall ⟨b1, b2, A3, c3, A4, c4, I⟩
    rw [I.agree.lay hds]
    exact fin _ w A3 c3 A4 c4 (I.e10 (hall 10 (by omega))) (I.e11 (hall 11 (by omega))) (I.e12 (hall 12 (by omega))) I.below (I.e4 (hall 4 (by omega))).2 (I.e9 (hall 9 (by omega))).2

end Go.Proofs.Ytocleikdabclkaa
