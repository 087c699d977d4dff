/-
  The region of 'RecordNumbers' that makes one number more than there is: whatever the order. Conditions: those that each theorem names.
-/
import Derived.Test.YtcgfakpolfopnaaRegionOps
namespace Go.Proofs.Ytcgfakpolfopnaa
open Go.RowKit Go.Shelf

/-- A row of integers lies in no block of a record. -/
theorem own_apart {w : World} {base n b : Nat} {v : Value} {xs : List Value} {cs : Array Value} (ho : w.ownsRow base 3 1 v n xs) (hw : Whole w b 24 cs) : v.ownBlock ≠ some b := by
  rcases ho.2 with ⟨rfl, _⟩ | ⟨g, cap, cur, rfl, _, hg, _⟩
  · simp [Value.ownBlock]
  · simp only [Value.ownBlock, ne_eq, Option.some.injEq]
    intro e
    subst e
    unfold Whole at hw
    rw [hw] at hg
    injection hg with hg
    injection hg with _ h _
    exact absurd h (by decide)

abbrev moreDs : List Nat := [30, 31, 32, 33, 34, 35, 36, 37, 38, 7]

/-- What holds behind any operations of the region that have come up. -/
structure MoreI (a0 : Act) (s : Nat) (W0 : World) (k : Nat) (A : Option Addr) (n c : Nat) (zs : List Int) (L : Nat → Bool) (a : Act) (w : World) (v : Value) (m : Nat) (xs : List Value) (b6 b9 : Nat) : Prop where
  agree : Agree moreDs a0 a
  below : Below W0.heap.size W0 w
  x0 : L 0 = true → a.eval (.tmp 30) = .pointer (some ⟨s, 0, none⟩)
  x1 : L 1 = true → a.eval (.tmp 31) = .int .u8 (k : Int)
  x3 : L 3 = true → a.eval (.tmp 33) = .pointer (some ⟨s, 1, none⟩)
  x4 : L 4 = true → a.eval (.tmp 34) = .slice A n c
  own : w.ownsRow W0.heap.size 3 1 v m xs
  r2 : L 2 = true → L 5 = false → a.eval (.tmp 32) = v ∧ m = 0 ∧ xs = []
  r5 : L 5 = true → L 7 = false → a.eval (.tmp 35) = v ∧ m = n ∧ xs = iv zs
  r7 : L 7 = true → L 8 = false → a.eval (.tmp 37) = v ∧ m = n + 1 ∧ xs = iv (zs ++ [1])
  r8 : L 8 = true → a.eval (.tmp 38) = .agg #[.int .u8 (k : Int), v] ∧ m = n + 1 ∧ xs = iv (zs ++ [1])
  s6 : L 6 = true → a.eval (.tmp 36) = .slice (some ⟨b6, 0, none⟩) 1 1 ∧ (L 7 = false → Whole w b6 3 #[.int .i64 1] ∧ (L 2 = true → L 5 = false → v.ownBlock ≠ some b6))
  s9 : L 9 = true → a.eval (.tmp 7) = .pointer (some ⟨b9, 0, none⟩) ∧ W0.heap.size ≤ b9 ∧ Whole w b9 24 (if L 10 = true then #[.int .u8 (k : Int), v] else #[.int .u8 0, .slice none 0 0])

theorem more_region {ops : Array Oper} {Q : Exit → Act → World → Prop} {id : Nat} (hsize : ops.size = 11) (hlow : lowOnly ops = true)
    (o0 : At ops 0 (some 30) (.fieldAddr 24 (.tmp 3) 0) 0 [])
    (o1 : At ops 1 (some 31) (.load 5 (.tmp 30)) 5 [0])
    (o2 : At ops 2 (some 32) (.buildSlice 22 0 #[]) 22 [])
    (o3 : At ops 3 (some 33) (.fieldAddr 24 (.tmp 3) 1) 0 [])
    (o4 : At ops 4 (some 34) (.load 22 (.tmp 33)) 22 [3])
    (o5 : At ops 5 (some 35) (.call { callee := .builtin .append, args := #[.tmp 32, .tmp 34], argTypes := #[22, 22] }) 22 [2, 4])
    (o6 : At ops 6 (some 36) (.buildSlice 22 1 #[(0, .const (.int .i64 1))]) 22 [])
    (o7 : At ops 7 (some 37) (.call { callee := .builtin .append, args := #[.tmp 35, .tmp 36], argTypes := #[22, 22] }) 22 [5, 6])
    (o8 : At ops 8 (some 38) (.call { callee := .value (.func 23), args := #[.tmp 31, .tmp 37], argTypes := #[5, 22] }) 24 [1, 7])
    (o9 : At ops 9 (some 7) (.alloc 24) 0 [])
    (o10 : At ops 10 none (.store 24 (.tmp 7) (.tmp 38)) 0 [9, 8])
    (a0 : Act) (hds : ∀ d ∈ moreDs, d < a0.tmps.size) (s : Nat) (W0 : World) (k : Nat) (A : Option Addr) (n c : Nat) (zs : List Int) (h3 : a0.eval (.tmp 3) = .pointer (some ⟨s, 0, none⟩))
    (hx : Whole W0 s 24 #[.int .u8 (k : Int), .slice A n c]) (hr : Rd W0 W0.heap.size A n (iv zs)) (hn : n ≤ 60)
    (fin : ∀ σ w b A' c', σ 7 = .pointer (some ⟨b, 0, none⟩) → Below W0.heap.size W0 w → Whole w b 24 #[.int .u8 (k : Int), .slice A' (n + 1) c'] → Rd w w.heap.size A' (n + 1) (iv (zs ++ [1])) → Q .normal (lay σ moreDs a0) w) :
    (Code.region id ops true).wp Try.prog Q a0 W0 := by
  refine region_clo (by kernel_rfl) hlow (fun L a w => ∃ v m xs b6 b9, MoreI a0 s W0 k A n c zs L a w v m xs b6 b9) ?_ ?_ ?_
  · exact ⟨.slice none 0 0, 0, [], 0, 0, Agree.refl _ _, (Below.refl _ _).drew, by simp, by simp, by simp, by simp, World.ownsRow_nil _ _ _ _, by simp, by simp, by simp, by simp, by simp, by simp⟩
  · rintro i o L a w ho hi hclo hall ⟨v, m, xs, b6, b9, I⟩
    have hlt : i < 11 := by rw [← hsize]; exact (Array.getElem?_eq_some_iff.1 ho).1
    have hz : ∀ d ∈ moreDs, d < a.tmps.size := fun d hd => by rw [I.agree.size]; exact hds d hd
    have hbs := I.below.size
    rcases (by omega : i = 0 ∨ i = 1 ∨ i = 2 ∨ i = 3 ∨ i = 4 ∨ i = 5 ∨ i = 6 ∨ i = 7 ∨ i = 8 ∨ i = 9 ∨ i = 10) with rfl | rfl | rfl | rfl | rfl | rfl | rfl | rfl | rfl | rfl | rfl
    · refine o0.run fun pos after => op_field0 (b := s) (by rw [I.agree.eval (by decide)]; exact h3) ⟨v, m, xs, b6, b9, I.agree.put (by decide) _, I.below, ?_, ?_, ?_, ?_, I.own, ?_, ?_, ?_, ?_, ?_, ?_⟩
      · intro _; exact eval_new (hz _ (by decide)) _
      · simpa [eval_old] using I.x1
      · simpa [eval_old] using I.x3
      · simpa [eval_old] using I.x4
      · simpa [eval_old] using I.r2
      · simpa [eval_old] using I.r5
      · simpa [eval_old] using I.r7
      · simpa [eval_old] using I.r8
      · simpa [eval_old] using I.s6
      · simpa [eval_old] using I.s9
    · have hd := o1.needs ho hall
      refine o1.run fun pos after => op_loadk (b := s) (I.x0 (hd 0 (by simp))) ((hx.below I.below hx.lt).cell 0) ⟨v, m, xs, b6, b9, I.agree.put (by decide) _, I.below, ?_, ?_, ?_, ?_, I.own, ?_, ?_, ?_, ?_, ?_, ?_⟩
      · simpa [eval_old] using I.x0
      · intro _; exact eval_new (hz _ (by decide)) _
      · simpa [eval_old] using I.x3
      · simpa [eval_old] using I.x4
      · simpa [eval_old] using I.r2
      · simpa [eval_old] using I.r5
      · simpa [eval_old] using I.r7
      · simpa [eval_old] using I.r8
      · simpa [eval_old] using I.s6
      · simpa [eval_old] using I.s9
    · have n5 := o5.not hclo (j := 2) (by simp) hi
      have n7 := o7.not hclo (j := 5) (by simp) n5
      have n8 := o8.not hclo (j := 7) (by simp) n7
      have n10 := o10.not hclo (j := 8) (by simp) n8
      refine o2.run fun pos after => op_make0 ⟨.slice (some ⟨w.heap.size, 0, none⟩) 0 0, 0, [], b6, b9, I.agree.put (by decide) _, I.below.alloc hbs _, ?_, ?_, ?_, ?_, World.ownsRow_made w #[] 0 hbs (Nat.zero_le _) rfl, ?_, ?_, ?_, ?_, ?_, ?_⟩
      · simpa [eval_old] using I.x0
      · simpa [eval_old] using I.x1
      · simpa [eval_old] using I.x3
      · simpa [eval_old] using I.x4
      · intro _ _; exact ⟨eval_new (hz _ (by decide)) _, rfl, rfl⟩
      · simp [n5]
      · simp [n7]
      · simp [n8]
      · intro h6
        have h := I.s6 (by simpa using h6)
        refine ⟨by rw [eval_old (by decide)]; exact h.1, fun _ => ⟨(h.2 n7).1.alloc _, fun _ _ e => ?_⟩⟩
        have := (h.2 n7).1.lt
        simp [Value.ownBlock] at e
        omega
      · intro h9
        have h := I.s9 (by simpa using h9)
        refine ⟨by rw [eval_old (by decide)]; exact h.1, h.2.1, ?_⟩
        have h2 := h.2.2.alloc (.cells #[] 3)
        simpa [n10] using h2
    · refine o3.run fun pos after => op_field1 (b := s) (by rw [I.agree.eval (by decide)]; exact h3) ⟨v, m, xs, b6, b9, I.agree.put (by decide) _, I.below, ?_, ?_, ?_, ?_, I.own, ?_, ?_, ?_, ?_, ?_, ?_⟩
      · simpa [eval_old] using I.x0
      · simpa [eval_old] using I.x1
      · intro _; exact eval_new (hz _ (by decide)) _
      · simpa [eval_old] using I.x4
      · simpa [eval_old] using I.r2
      · simpa [eval_old] using I.r5
      · simpa [eval_old] using I.r7
      · simpa [eval_old] using I.r8
      · simpa [eval_old] using I.s6
      · simpa [eval_old] using I.s9
    · have hd := o4.needs ho hall
      refine o4.run fun pos after => op_loadl (b := s) (I.x3 (hd 3 (by simp))) ((hx.below I.below hx.lt).cell 1) ⟨v, m, xs, b6, b9, I.agree.put (by decide) _, I.below, ?_, ?_, ?_, ?_, I.own, ?_, ?_, ?_, ?_, ?_, ?_⟩
      · simpa [eval_old] using I.x0
      · simpa [eval_old] using I.x1
      · simpa [eval_old] using I.x3
      · intro _; exact eval_new (hz _ (by decide)) _
      · simpa [eval_old] using I.r2
      · simpa [eval_old] using I.r5
      · simpa [eval_old] using I.r7
      · simpa [eval_old] using I.r8
      · simpa [eval_old] using I.s6
      · simpa [eval_old] using I.s9
    · have hd := o5.needs ho hall
      have d2 := hd 2 (by simp)
      have n7 := o7.not hclo (j := 5) (by simp) hi
      have n8 := o8.not hclo (j := 7) (by simp) n7
      have n10 := o10.not hclo (j := 8) (by simp) n8
      obtain ⟨e1, rfl, rfl⟩ := I.r2 d2 hi
      obtain ⟨v', w', hrun, hown, hg⟩ := run_appI w W0.heap.size v 0 [] I.own W0.heap.size A n c zs (hr.below I.below) (by omega) hbs
      rw [Nat.zero_add, List.nil_append] at hown
      refine o5.run fun pos after => op_append e1 (I.x4 (hd 4 (by simp))) hrun ⟨v', n, iv zs, b6, b9, I.agree.put (by decide) _, I.below.trans (below_row I.own hg hbs), ?_, ?_, ?_, ?_, hown, ?_, ?_, ?_, ?_, ?_, ?_⟩
      · simpa [eval_old] using I.x0
      · simpa [eval_old] using I.x1
      · simpa [eval_old] using I.x3
      · simpa [eval_old] using I.x4
      · simp
      · intro _ _; exact ⟨eval_new (hz _ (by decide)) _, rfl, rfl⟩
      · simp [n7]
      · simp [n8]
      · intro h6
        have h := I.s6 (by simpa using h6)
        refine ⟨by rw [eval_old (by decide)]; exact h.1, fun _ => ⟨(h.2 n7).1.grown hg (Ne.symm ((h.2 n7).2 d2 hi)), by simp⟩⟩
      · intro h9
        have h := I.s9 (by simpa using h9)
        refine ⟨by rw [eval_old (by decide)]; exact h.1, h.2.1, ?_⟩
        have h2 := h.2.2.grown hg (Ne.symm (own_apart I.own h.2.2))
        simpa [n10] using h2
    · have n7 := o7.not hclo (j := 6) (by simp) hi
      have n8 := o8.not hclo (j := 7) (by simp) n7
      have n10 := o10.not hclo (j := 8) (by simp) n8
      refine o6.run fun pos after => op_make1 ⟨v, m, xs, w.heap.size, b9, I.agree.put (by decide) _, I.below.alloc hbs _, ?_, ?_, ?_, ?_, I.own.alloc _, ?_, ?_, ?_, ?_, ?_, ?_⟩
      · simpa [eval_old] using I.x0
      · simpa [eval_old] using I.x1
      · simpa [eval_old] using I.x3
      · simpa [eval_old] using I.x4
      · simpa [eval_old] using I.r2
      · simpa [eval_old] using I.r5
      · simp [n7]
      · simp [n8]
      · intro _
        refine ⟨eval_new (hz _ (by decide)) _, fun _ => ⟨Whole.new w _ _, fun _ _ e => ?_⟩⟩
        have := (I.own.lt _ e).2
        omega
      · intro h9
        have h := I.s9 (by simpa using h9)
        refine ⟨by rw [eval_old (by decide)]; exact h.1, h.2.1, ?_⟩
        have h2 := h.2.2.alloc (.cells #[.int .i64 1] 3)
        simpa [n10] using h2
    · have hd := o7.needs ho hall
      have d5 := hd 5 (by simp)
      have n8 := o8.not hclo (j := 7) (by simp) hi
      have n10 := o10.not hclo (j := 8) (by simp) n8
      obtain ⟨e1, hm5, hx5⟩ := I.r5 d5 hi
      have hO := I.own
      rw [hm5, hx5] at hO
      have h6 := I.s6 (hd 6 (by simp))
      have hw6 := (h6.2 hi).1
      have hr6 : Rd w (b6 + 1) (some ⟨b6, 0, none⟩) 1 (iv [1]) := by
        refine ⟨rfl, fun _ => ⟨b6, 0, rfl, by omega, fun j hj => ?_⟩⟩
        have : j = 0 := by omega
        subst this
        rw [hw6.cell]
        rfl
      obtain ⟨v', w', hrun, hown, hg⟩ := run_appI w W0.heap.size v n (iv zs) hO (b6 + 1) (some ⟨b6, 0, none⟩) 1 1 [1] hr6 (by omega) hbs
      have hv : iv zs ++ iv [1] = iv (zs ++ [1]) := by simp [iv]
      rw [hv] at hown
      refine o7.run fun pos after => op_append e1 h6.1 hrun ⟨v', n + 1, iv (zs ++ [1]), b6, b9, I.agree.put (by decide) _, I.below.trans (below_row hO hg hbs), ?_, ?_, ?_, ?_, hown, ?_, ?_, ?_, ?_, ?_, ?_⟩
      · simpa [eval_old] using I.x0
      · simpa [eval_old] using I.x1
      · simpa [eval_old] using I.x3
      · simpa [eval_old] using I.x4
      · simp [d5]
      · simp
      · intro _ _; exact ⟨eval_new (hz _ (by decide)) _, rfl, rfl⟩
      · simp [n8]
      · intro _
        refine ⟨by rw [eval_old (by decide)]; exact h6.1, by simp⟩
      · intro h9
        have h := I.s9 (by simpa using h9)
        refine ⟨by rw [eval_old (by decide)]; exact h.1, h.2.1, ?_⟩
        have h2 := h.2.2.grown hg (Ne.symm (own_apart hO h.2.2))
        simpa [n10] using h2
    · have hd := o8.needs ho hall
      have d7 := hd 7 (by simp)
      have n10 := o10.not hclo (j := 8) (by simp) hi
      obtain ⟨e1, rfl, rfl⟩ := I.r7 d7 hi
      obtain ⟨A1, c1, rfl⟩ := own_form I.own
      refine o8.run fun pos after => op_of (I.x1 (hd 1 (by simp))) e1 (of_any k A1 (n + 1) c1 (zs ++ [1]) w.heap.size w (Rd.of_own I.own) (Nat.le_refl _) (by omega)) ?_
      rintro e w' ⟨A2, c2, rfl, hown, hb⟩
      have hln : (zs ++ [1]).length = n + 1 := by have := hr.1; rw [iv_length] at this; simp [this]
      rw [hln] at hown ⊢
      refine ⟨_, rfl, .slice A2 (n + 1) c2, n + 1, iv (zs ++ [1]), b6, b9, I.agree.put (by decide) _, I.below.trans (hb.mono hbs), ?_, ?_, ?_, ?_, own_weaker hown hbs, ?_, ?_, ?_, ?_, ?_, ?_⟩
      · simpa [eval_old] using I.x0
      · simpa [eval_old] using I.x1
      · simpa [eval_old] using I.x3
      · simpa [eval_old] using I.x4
      · have := o7.clo hclo d7 5 (by simp)
        simp [this]
      · simp [d7]
      · simp
      · intro _; exact ⟨eval_new (hz _ (by decide)) _, rfl, rfl⟩
      · intro h6
        have h := I.s6 (by simpa using h6)
        refine ⟨by rw [eval_old (by decide)]; exact h.1, by simp [d7]⟩
      · intro h9
        have h := I.s9 (by simpa using h9)
        refine ⟨by rw [eval_old (by decide)]; exact h.1, h.2.1, ?_⟩
        have h2 := h.2.2.under hb
        simpa [n10] using h2
    · have n10 := o10.not hclo (j := 9) (by simp) hi
      refine o9.run fun pos after => op_alloc ⟨v, m, xs, b6, w.heap.size, I.agree.put (by decide) _, I.below.alloc hbs _, ?_, ?_, ?_, ?_, I.own.alloc _, ?_, ?_, ?_, ?_, ?_, ?_⟩
      · simpa [eval_old] using I.x0
      · simpa [eval_old] using I.x1
      · simpa [eval_old] using I.x3
      · simpa [eval_old] using I.x4
      · simpa [eval_old] using I.r2
      · simpa [eval_old] using I.r5
      · simpa [eval_old] using I.r7
      · simpa [eval_old] using I.r8
      · intro h6
        have h := I.s6 (by simpa using h6)
        refine ⟨by rw [eval_old (by decide)]; exact h.1, fun h7 => ?_⟩
        have h7' : L 7 = false := by simpa using h7
        exact ⟨(h.2 h7').1.alloc _, fun a1 a2 => (h.2 h7').2 (by simpa using a1) (by simpa using a2)⟩
      · intro _
        refine ⟨eval_new (hz _ (by decide)) _, hbs, ?_⟩
        have h2 := Whole.new w 24 #[.int .u8 0, .slice none 0 0]
        simpa [n10] using h2
    · have hd := o10.needs ho hall
      have d8 := hd 8 (by simp)
      have d7 := o8.clo hclo d8 7 (by simp)
      have d5 := o7.clo hclo d7 5 (by simp)
      obtain ⟨e1, rfl, rfl⟩ := I.r8 d8
      obtain ⟨A1, c1, rfl⟩ := own_form I.own
      obtain ⟨e9, g9, w9⟩ := I.s9 (hd 9 (by simp))
      have hap := own_apart I.own w9
      simp only [hi, Bool.false_eq_true, if_false] at w9
      refine o10.run fun pos after => op_store e9 e1 w9 rfl ⟨.slice A1 (n + 1) c1, n + 1, iv (zs ++ [1]), b6, b9, I.agree, (I.below.setCell (p := ⟨b9, 0, none⟩) g9 _).setCell (p := ⟨b9, 1, none⟩) g9 _, ?_, ?_, ?_, ?_, ownsRow_setCell_other (ownsRow_setCell_other (a := ⟨b9, 0, none⟩) I.own hap _) (a := ⟨b9, 1, none⟩) hap _, ?_, ?_, ?_, ?_, ?_, ?_⟩
      · simpa [Act.put] using I.x0
      · simpa [Act.put] using I.x1
      · simpa [Act.put] using I.x3
      · simpa [Act.put] using I.x4
      · simp [d5]
      · simp [d7]
      · simp [d8]
      · simpa [Act.put] using fun _ => I.r8 d8
      · intro h6
        have h := I.s6 (by simpa using h6)
        exact ⟨h.1, by simp [d7]⟩
      · intro _
        refine ⟨e9, g9, ?_⟩
        have h2 := (w9.set 0 (.int .u8 (k : Int))).set 1 (.slice A1 (n + 1) c1)
        simpa using h2
  · rintro L a w hall ⟨v, m, xs, b6, b9, I⟩
    have d8 := hall 8 (by omega)
    obtain ⟨e1, rfl, rfl⟩ := I.r8 d8
    obtain ⟨A1, c1, rfl⟩ := own_form I.own
    obtain ⟨e9, g9, w9⟩ := I.s9 (hall 9 (by omega))
    rw [if_pos (hall 10 (by omega))] at w9
    rw [I.agree.lay hds]
    exact fin _ w b9 A1 c1 e9 I.below w9 (Rd.of_own I.own)

end Go.Proofs.Ytcgfakpolfopnaa
