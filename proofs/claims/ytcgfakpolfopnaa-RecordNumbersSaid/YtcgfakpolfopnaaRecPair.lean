/-
  The region of 'RecordNumbers' that makes two records: whatever the order. Conditions: those that each theorem names.
-/
import Derived.Test.YtcgfakpolfopnaaRecMore
namespace Go.Proofs.Ytcgfakpolfopnaa
open Go.RowKit Go.Shelf

abbrev pairDs : List Nat := [88, 89, 90, 91, 92, 93, 94, 95, 96, 97, 8, 9]

/-- What holds behind any operations of the region that have come up. -/
structure PairI (a0 : Act) (s : Nat) (W0 : World) (k : Nat) (A : Option Addr) (n c : Nat) (zs : List Int) (L : Nat → Bool) (a : Act) (w : World) (A4 : Option Addr) (c4 : Nat) (A9 : Option Addr) (c9 : Nat) (b8 b9 : Nat) : Prop where
  agree : Agree pairDs a0 a
  below : Below W0.heap.size W0 w
  x0 : L 0 = true → a.eval (.tmp 88) = .pointer (some ⟨s, 0, none⟩)
  x1 : L 1 = true → a.eval (.tmp 89) = .int .u8 (k : Int)
  x2 : L 2 = true → a.eval (.tmp 90) = .pointer (some ⟨s, 1, none⟩)
  x3 : L 3 = true → a.eval (.tmp 91) = .slice A n c
  v4 : L 4 = true → a.eval (.tmp 92) = .agg #[.int .u8 (k : Int), .slice A4 n c4] ∧ w.ownsRow W0.heap.size 3 1 (.slice A4 n c4) n (iv zs)
  x5 : L 5 = true → a.eval (.tmp 93) = .pointer (some ⟨s, 0, none⟩)
  x6 : L 6 = true → a.eval (.tmp 94) = .int .u8 (k : Int)
  x7 : L 7 = true → a.eval (.tmp 95) = .pointer (some ⟨s, 1, none⟩)
  x8 : L 8 = true → a.eval (.tmp 96) = .slice A n c
  v9 : L 9 = true → a.eval (.tmp 97) = .agg #[.int .u8 (k : Int), .slice A9 n c9] ∧ w.ownsRow W0.heap.size 3 1 (.slice A9 n c9) n (iv zs) ∧ ∀ g, (Value.slice A4 n c4).ownBlock = some g → (Value.slice A9 n c9).ownBlock ≠ some g
  s10 : L 10 = true → a.eval (.tmp 8) = .pointer (some ⟨b8, 0, none⟩) ∧ W0.heap.size ≤ b8 ∧ Whole w b8 24 (if L 12 = true then #[.int .u8 (k : Int), .slice A4 n c4] else #[.int .u8 0, .slice none 0 0])
  s11 : L 11 = true → a.eval (.tmp 9) = .pointer (some ⟨b9, 0, none⟩) ∧ W0.heap.size ≤ b9 ∧ Whole w b9 24 (if L 13 = true then #[.int .u8 (k : Int), .slice A9 n c9] else #[.int .u8 0, .slice none 0 0])
  ne : L 10 = true → L 11 = true → b8 ≠ b9

theorem pair_region {ops : Array Oper} {Q : Exit → Act → World → Prop} {id : Nat} (hsize : ops.size = 14) (hlow : lowOnly ops = true)
    (o0 : At ops 0 (some 88) (.fieldAddr 24 (.tmp 3) 0) 0 [])
    (o1 : At ops 1 (some 89) (.load 5 (.tmp 88)) 5 [0])
    (o2 : At ops 2 (some 90) (.fieldAddr 24 (.tmp 3) 1) 0 [])
    (o3 : At ops 3 (some 91) (.load 22 (.tmp 90)) 22 [2])
    (o4 : At ops 4 (some 92) (.call { callee := .value (.func 23), args := #[.tmp 89, .tmp 91], argTypes := #[5, 22] }) 24 [1, 3])
    (o5 : At ops 5 (some 93) (.fieldAddr 24 (.tmp 3) 0) 0 [])
    (o6 : At ops 6 (some 94) (.load 5 (.tmp 93)) 5 [5])
    (o7 : At ops 7 (some 95) (.fieldAddr 24 (.tmp 3) 1) 0 [])
    (o8 : At ops 8 (some 96) (.load 22 (.tmp 95)) 22 [7])
    (o9 : At ops 9 (some 97) (.call { callee := .value (.func 23), args := #[.tmp 94, .tmp 96], argTypes := #[5, 22] }) 24 [6, 8, 4])
    (o10 : At ops 10 (some 8) (.alloc 24) 0 [])
    (o11 : At ops 11 (some 9) (.alloc 24) 0 [])
    (o12 : At ops 12 none (.store 24 (.tmp 8) (.tmp 92)) 0 [10, 4, 9])
    (o13 : At ops 13 none (.store 24 (.tmp 9) (.tmp 97)) 0 [11, 9, 12])
    (a0 : Act) (hds : ∀ d ∈ pairDs, d < a0.tmps.size) (s : Nat) (W0 : World) (k : Nat) (A : Option Addr) (n c : Nat) (zs : List Int) (h3 : a0.eval (.tmp 3) = .pointer (some ⟨s, 0, none⟩))
    (hx : Whole W0 s 24 #[.int .u8 (k : Int), .slice A n c]) (hr : Rd W0 W0.heap.size A n (iv zs)) (hn : n ≤ 60)
    (fin : ∀ σ w b8 b9 A4 c4 A9 c9, σ 8 = .pointer (some ⟨b8, 0, none⟩) → σ 9 = .pointer (some ⟨b9, 0, none⟩) → Below W0.heap.size W0 w → W0.heap.size ≤ b8 → W0.heap.size ≤ b9 → Whole w b8 24 #[.int .u8 (k : Int), .slice A4 n c4] → Whole w b9 24 #[.int .u8 (k : Int), .slice A9 n c9] →
      w.ownsRow W0.heap.size 3 1 (.slice A4 n c4) n (iv zs) → w.ownsRow W0.heap.size 3 1 (.slice A9 n c9) n (iv zs) → (∀ g, (Value.slice A4 n c4).ownBlock = some g → (Value.slice A9 n c9).ownBlock ≠ some g) → b8 ≠ b9 → Q .normal (lay σ pairDs a0) w) :
    (Code.region id ops true).wp Try.prog Q a0 W0 := by
  have hln : zs.length = n := by have := hr.1; rwa [iv_length] at this
  refine region_clo (by kernel_rfl) hlow (fun L a w => ∃ A4 c4 A9 c9 b8 b9, PairI a0 s W0 k A n c zs L a w A4 c4 A9 c9 b8 b9) ?_ ?_ ?_
  · exact ⟨none, 0, none, 0, 0, 0, Agree.refl _ _, (Below.refl _ _).drew, by simp, by simp, by simp, by simp, by simp, by simp, by simp, by simp, by simp, by simp, by simp, by simp, by simp⟩
  · rintro i o L a w ho hi hclo hall ⟨A4, c4, A9, c9, b8, b9, I⟩
    have hlt : i < 14 := by rw [← hsize]; exact (Array.getElem?_eq_some_iff.1 ho).1
    have hz : ∀ d ∈ pairDs, d < a.tmps.size := fun d hd => by rw [I.agree.size]; exact hds d hd
    have hbs := I.below.size
    rcases (by omega : i = 0 ∨ i = 1 ∨ i = 2 ∨ i = 3 ∨ i = 4 ∨ i = 5 ∨ i = 6 ∨ i = 7 ∨ i = 8 ∨ i = 9 ∨ i = 10 ∨ i = 11 ∨ i = 12 ∨ i = 13) with rfl | rfl | rfl | rfl | rfl | rfl | rfl | rfl | rfl | rfl | rfl | rfl | rfl | rfl
    · have hd := o0.needs ho hall
      refine o0.run fun pos after => op_field0 (b := s) (by rw [I.agree.eval (by decide)]; exact h3) ⟨A4, c4, A9, c9, b8, b9, I.agree.put (by decide) _, I.below, ?_, ?_, ?_, ?_, ?_, ?_, ?_, ?_, ?_, ?_, ?_, ?_, ?_⟩
      · intro _; exact eval_new (hz _ (by decide)) _
      · simpa [eval_old] using I.x1
      · simpa [eval_old] using I.x2
      · simpa [eval_old] using I.x3
      · simpa [eval_old] using I.v4
      · simpa [eval_old] using I.x5
      · simpa [eval_old] using I.x6
      · simpa [eval_old] using I.x7
      · simpa [eval_old] using I.x8
      · simpa [eval_old] using I.v9
      · simpa [eval_old] using I.s10
      · simpa [eval_old] using I.s11
      · simpa [eval_old] using I.ne
    · have hd := o1.needs ho hall
      refine o1.run fun pos after => op_loadk (b := s) (I.x0 (hd 0 (by simp))) ((hx.below I.below hx.lt).cell 0) ⟨A4, c4, A9, c9, b8, b9, I.agree.put (by decide) _, I.below, ?_, ?_, ?_, ?_, ?_, ?_, ?_, ?_, ?_, ?_, ?_, ?_, ?_⟩
      · simpa [eval_old] using I.x0
      · intro _; exact eval_new (hz _ (by decide)) _
      · simpa [eval_old] using I.x2
      · simpa [eval_old] using I.x3
      · simpa [eval_old] using I.v4
      · simpa [eval_old] using I.x5
      · simpa [eval_old] using I.x6
      · simpa [eval_old] using I.x7
      · simpa [eval_old] using I.x8
      · simpa [eval_old] using I.v9
      · simpa [eval_old] using I.s10
      · simpa [eval_old] using I.s11
      · simpa [eval_old] using I.ne
    · have hd := o2.needs ho hall
      refine o2.run fun pos after => op_field1 (b := s) (by rw [I.agree.eval (by decide)]; exact h3) ⟨A4, c4, A9, c9, b8, b9, I.agree.put (by decide) _, I.below, ?_, ?_, ?_, ?_, ?_, ?_, ?_, ?_, ?_, ?_, ?_, ?_, ?_⟩
      · simpa [eval_old] using I.x0
      · simpa [eval_old] using I.x1
      · intro _; exact eval_new (hz _ (by decide)) _
      · simpa [eval_old] using I.x3
      · simpa [eval_old] using I.v4
      · simpa [eval_old] using I.x5
      · simpa [eval_old] using I.x6
      · simpa [eval_old] using I.x7
      · simpa [eval_old] using I.x8
      · simpa [eval_old] using I.v9
      · simpa [eval_old] using I.s10
      · simpa [eval_old] using I.s11
      · simpa [eval_old] using I.ne
    · have hd := o3.needs ho hall
      refine o3.run fun pos after => op_loadl (b := s) (I.x2 (hd 2 (by simp))) ((hx.below I.below hx.lt).cell 1) ⟨A4, c4, A9, c9, b8, b9, I.agree.put (by decide) _, I.below, ?_, ?_, ?_, ?_, ?_, ?_, ?_, ?_, ?_, ?_, ?_, ?_, ?_⟩
      · simpa [eval_old] using I.x0
      · simpa [eval_old] using I.x1
      · simpa [eval_old] using I.x2
      · intro _; exact eval_new (hz _ (by decide)) _
      · simpa [eval_old] using I.v4
      · simpa [eval_old] using I.x5
      · simpa [eval_old] using I.x6
      · simpa [eval_old] using I.x7
      · simpa [eval_old] using I.x8
      · simpa [eval_old] using I.v9
      · simpa [eval_old] using I.s10
      · simpa [eval_old] using I.s11
      · simpa [eval_old] using I.ne
    · have hd := o4.needs ho hall
      have n9 := o9.not hclo (j := 4) (by simp) hi
      have n12 := o12.not hclo (j := 4) (by simp) hi
      have n13 := o13.not hclo (j := 9) (by simp) n9
      refine o4.run fun pos after => op_of (I.x1 (hd 1 (by simp))) (I.x3 (hd 3 (by simp))) (of_any k A n c zs W0.heap.size w (hr.below I.below) hbs (by omega)) ?_
      rintro e w' ⟨A2, c2, rfl, hown, hb⟩
      rw [hln] at hown ⊢
      refine ⟨_, rfl, A2, c2, A9, c9, b8, b9, I.agree.put (by decide) _, I.below.trans (hb.mono hbs), ?_, ?_, ?_, ?_, ?_, ?_, ?_, ?_, ?_, ?_, ?_, ?_, ?_⟩
      · simpa [eval_old] using I.x0
      · simpa [eval_old] using I.x1
      · simpa [eval_old] using I.x2
      · simpa [eval_old] using I.x3
      · intro _; exact ⟨eval_new (hz _ (by decide)) _, own_weaker hown hbs⟩
      · simpa [eval_old] using I.x5
      · simpa [eval_old] using I.x6
      · simpa [eval_old] using I.x7
      · simpa [eval_old] using I.x8
      · simp [n9]
      · intro h0
        have h := I.s10 (by simpa using h0)
        refine ⟨by rw [eval_old (by decide)]; exact h.1, h.2.1, ?_⟩
        have h2 := h.2.2.under hb
        simpa [n12] using h2
      · intro h0
        have h := I.s11 (by simpa using h0)
        refine ⟨by rw [eval_old (by decide)]; exact h.1, h.2.1, ?_⟩
        have h2 := h.2.2.under hb
        simpa [n13] using h2
      · simpa [eval_old] using I.ne
    · have hd := o5.needs ho hall
      refine o5.run fun pos after => op_field0 (b := s) (by rw [I.agree.eval (by decide)]; exact h3) ⟨A4, c4, A9, c9, b8, b9, I.agree.put (by decide) _, I.below, ?_, ?_, ?_, ?_, ?_, ?_, ?_, ?_, ?_, ?_, ?_, ?_, ?_⟩
      · simpa [eval_old] using I.x0
      · simpa [eval_old] using I.x1
      · simpa [eval_old] using I.x2
      · simpa [eval_old] using I.x3
      · simpa [eval_old] using I.v4
      · intro _; exact eval_new (hz _ (by decide)) _
      · simpa [eval_old] using I.x6
      · simpa [eval_old] using I.x7
      · simpa [eval_old] using I.x8
      · simpa [eval_old] using I.v9
      · simpa [eval_old] using I.s10
      · simpa [eval_old] using I.s11
      · simpa [eval_old] using I.ne
    · have hd := o6.needs ho hall
      refine o6.run fun pos after => op_loadk (b := s) (I.x5 (hd 5 (by simp))) ((hx.below I.below hx.lt).cell 0) ⟨A4, c4, A9, c9, b8, b9, I.agree.put (by decide) _, I.below, ?_, ?_, ?_, ?_, ?_, ?_, ?_, ?_, ?_, ?_, ?_, ?_, ?_⟩
      · simpa [eval_old] using I.x0
      · simpa [eval_old] using I.x1
      · simpa [eval_old] using I.x2
      · simpa [eval_old] using I.x3
      · simpa [eval_old] using I.v4
      · simpa [eval_old] using I.x5
      · intro _; exact eval_new (hz _ (by decide)) _
      · simpa [eval_old] using I.x7
      · simpa [eval_old] using I.x8
      · simpa [eval_old] using I.v9
      · simpa [eval_old] using I.s10
      · simpa [eval_old] using I.s11
      · simpa [eval_old] using I.ne
    · have hd := o7.needs ho hall
      refine o7.run fun pos after => op_field1 (b := s) (by rw [I.agree.eval (by decide)]; exact h3) ⟨A4, c4, A9, c9, b8, b9, I.agree.put (by decide) _, I.below, ?_, ?_, ?_, ?_, ?_, ?_, ?_, ?_, ?_, ?_, ?_, ?_, ?_⟩
      · simpa [eval_old] using I.x0
      · simpa [eval_old] using I.x1
      · simpa [eval_old] using I.x2
      · simpa [eval_old] using I.x3
      · simpa [eval_old] using I.v4
      · simpa [eval_old] using I.x5
      · simpa [eval_old] using I.x6
      · intro _; exact eval_new (hz _ (by decide)) _
      · simpa [eval_old] using I.x8
      · simpa [eval_old] using I.v9
      · simpa [eval_old] using I.s10
      · simpa [eval_old] using I.s11
      · simpa [eval_old] using I.ne
    · have hd := o8.needs ho hall
      refine o8.run fun pos after => op_loadl (b := s) (I.x7 (hd 7 (by simp))) ((hx.below I.below hx.lt).cell 1) ⟨A4, c4, A9, c9, b8, b9, I.agree.put (by decide) _, I.below, ?_, ?_, ?_, ?_, ?_, ?_, ?_, ?_, ?_, ?_, ?_, ?_, ?_⟩
      · simpa [eval_old] using I.x0
      · simpa [eval_old] using I.x1
      · simpa [eval_old] using I.x2
      · simpa [eval_old] using I.x3
      · simpa [eval_old] using I.v4
      · simpa [eval_old] using I.x5
      · simpa [eval_old] using I.x6
      · simpa [eval_old] using I.x7
      · intro _; exact eval_new (hz _ (by decide)) _
      · simpa [eval_old] using I.v9
      · simpa [eval_old] using I.s10
      · simpa [eval_old] using I.s11
      · simpa [eval_old] using I.ne
    · have hd := o9.needs ho hall
      have d4 := hd 4 (by simp)
      have n12 := o12.not hclo (j := 9) (by simp) hi
      have n13 := o13.not hclo (j := 9) (by simp) hi
      have V4 := I.v4 d4
      refine o9.run fun pos after => op_of (I.x6 (hd 6 (by simp))) (I.x8 (hd 8 (by simp))) (of_any k A n c zs W0.heap.size w (hr.below I.below) hbs (by omega)) ?_
      rintro e w' ⟨A2, c2, rfl, hown, hb⟩
      rw [hln] at hown ⊢
      refine ⟨_, rfl, A4, c4, A2, c2, b8, b9, I.agree.put (by decide) _, I.below.trans (hb.mono hbs), ?_, ?_, ?_, ?_, ?_, ?_, ?_, ?_, ?_, ?_, ?_, ?_, ?_⟩
      · simpa [eval_old] using I.x0
      · simpa [eval_old] using I.x1
      · simpa [eval_old] using I.x2
      · simpa [eval_old] using I.x3
      · intro _; exact ⟨by rw [eval_old (by decide)]; exact V4.1, own_under V4.2 hb⟩
      · simpa [eval_old] using I.x5
      · simpa [eval_old] using I.x6
      · simpa [eval_old] using I.x7
      · simpa [eval_old] using I.x8
      · intro _; exact ⟨eval_new (hz _ (by decide)) _, own_weaker hown hbs, fun g hg hg' => by have h1 := (V4.2.lt _ hg).2; have h2 := (hown.lt _ hg').1; omega⟩
      · intro h0
        have h := I.s10 (by simpa using h0)
        refine ⟨by rw [eval_old (by decide)]; exact h.1, h.2.1, ?_⟩
        have h2 := h.2.2.under hb
        simpa [n12] using h2
      · intro h0
        have h := I.s11 (by simpa using h0)
        refine ⟨by rw [eval_old (by decide)]; exact h.1, h.2.1, ?_⟩
        have h2 := h.2.2.under hb
        simpa [n13] using h2
      · simpa [eval_old] using I.ne
    · have n12 := o12.not hclo (j := 10) (by simp) hi
      refine o10.run fun pos after => op_alloc ⟨A4, c4, A9, c9, w.heap.size, b9, I.agree.put (by decide) _, I.below.alloc hbs _, ?_, ?_, ?_, ?_, ?_, ?_, ?_, ?_, ?_, ?_, ?_, ?_, ?_⟩
      · simpa [eval_old] using I.x0
      · simpa [eval_old] using I.x1
      · simpa [eval_old] using I.x2
      · simpa [eval_old] using I.x3
      · intro h0
        have h := I.v4 (by simpa using h0)
        exact ⟨by rw [eval_old (by decide)]; exact h.1, h.2.alloc _⟩
      · simpa [eval_old] using I.x5
      · simpa [eval_old] using I.x6
      · simpa [eval_old] using I.x7
      · simpa [eval_old] using I.x8
      · intro h0
        have h := I.v9 (by simpa using h0)
        exact ⟨by rw [eval_old (by decide)]; exact h.1, h.2.1.alloc _, h.2.2⟩
      · intro _
        refine ⟨eval_new (hz _ (by decide)) _, hbs, ?_⟩
        have h2 := Whole.new w 24 #[.int .u8 0, .slice none 0 0]
        simpa [n12] using h2
      · intro h0
        have h := I.s11 (by simpa using h0)
        refine ⟨by rw [eval_old (by decide)]; exact h.1, h.2.1, ?_⟩
        have h2 := h.2.2.alloc (.cells #[.int .u8 0, .slice none 0 0] 24)
        simpa using h2
      · intro h1 h2
        have h := (I.s11 (by simpa using h2)).2.2.lt
        omega
    · have n13 := o13.not hclo (j := 11) (by simp) hi
      refine o11.run fun pos after => op_alloc ⟨A4, c4, A9, c9, b8, w.heap.size, I.agree.put (by decide) _, I.below.alloc hbs _, ?_, ?_, ?_, ?_, ?_, ?_, ?_, ?_, ?_, ?_, ?_, ?_, ?_⟩
      · simpa [eval_old] using I.x0
      · simpa [eval_old] using I.x1
      · simpa [eval_old] using I.x2
      · simpa [eval_old] using I.x3
      · intro h0
        have h := I.v4 (by simpa using h0)
        exact ⟨by rw [eval_old (by decide)]; exact h.1, h.2.alloc _⟩
      · simpa [eval_old] using I.x5
      · simpa [eval_old] using I.x6
      · simpa [eval_old] using I.x7
      · simpa [eval_old] using I.x8
      · intro h0
        have h := I.v9 (by simpa using h0)
        exact ⟨by rw [eval_old (by decide)]; exact h.1, h.2.1.alloc _, h.2.2⟩
      · intro h0
        have h := I.s10 (by simpa using h0)
        refine ⟨by rw [eval_old (by decide)]; exact h.1, h.2.1, ?_⟩
        have h2 := h.2.2.alloc (.cells #[.int .u8 0, .slice none 0 0] 24)
        simpa using h2
      · intro _
        refine ⟨eval_new (hz _ (by decide)) _, hbs, ?_⟩
        have h2 := Whole.new w 24 #[.int .u8 0, .slice none 0 0]
        simpa [n13] using h2
      · intro h1 h2
        have h := (I.s10 (by simpa using h1)).2.2.lt
        omega
    · have hd := o12.needs ho hall
      have d9 := hd 9 (by simp)
      have V4 := I.v4 (hd 4 (by simp))
      have V9 := I.v9 d9
      have n13 := o13.not hclo (j := 12) (by simp) hi
      obtain ⟨e8, g8, w8⟩ := I.s10 (hd 10 (by simp))
      have hap := own_apart V4.2 w8
      have hap9 := own_apart V9.2.1 w8
      simp only [hi, Bool.false_eq_true, if_false] at w8
      refine o12.run fun pos after => op_store e8 V4.1 w8 rfl ⟨A4, c4, A9, c9, b8, b9, I.agree, (I.below.setCell (p := ⟨b8, 0, none⟩) g8 _).setCell (p := ⟨b8, 1, none⟩) g8 _, ?_, ?_, ?_, ?_, ?_, ?_, ?_, ?_, ?_, ?_, ?_, ?_, ?_⟩
      · simpa [Act.put] using I.x0
      · simpa [Act.put] using I.x1
      · simpa [Act.put] using I.x2
      · simpa [Act.put] using I.x3
      · intro _; exact ⟨V4.1, ownsRow_setCell_other (ownsRow_setCell_other (a := ⟨b8, 0, none⟩) V4.2 hap _) (a := ⟨b8, 1, none⟩) hap _⟩
      · simpa [Act.put] using I.x5
      · simpa [Act.put] using I.x6
      · simpa [Act.put] using I.x7
      · simpa [Act.put] using I.x8
      · intro _; exact ⟨V9.1, ownsRow_setCell_other (ownsRow_setCell_other (a := ⟨b8, 0, none⟩) V9.2.1 hap9 _) (a := ⟨b8, 1, none⟩) hap9 _, V9.2.2⟩
      · intro _
        refine ⟨e8, g8, ?_⟩
        have h2 := (w8.set 0 (.int .u8 (k : Int))).set 1 (.slice A4 n c4)
        simpa using h2
      · intro h0
        have h11 : L 11 = true := by simpa using h0
        have h := I.s11 h11
        have hne := I.ne (hd 10 (by simp)) h11
        refine ⟨h.1, h.2.1, ?_⟩
        have h2 := (h.2.2.far (p := ⟨b8, 0, none⟩) (Ne.symm hne) (.int .u8 (k : Int))).far (p := ⟨b8, 1, none⟩) (Ne.symm hne) (.slice A4 n c4)
        simpa [n13] using h2
      · simpa [Act.put] using I.ne
    · have hd := o13.needs ho hall
      have d9 := hd 9 (by simp)
      have d12 := hd 12 (by simp)
      have V4 := I.v4 (o9.clo hclo d9 4 (by simp))
      have V9 := I.v9 d9
      obtain ⟨e9, g9, w9⟩ := I.s11 (hd 11 (by simp))
      have hap := own_apart V4.2 w9
      have hap9 := own_apart V9.2.1 w9
      simp only [hi, Bool.false_eq_true, if_false] at w9
      refine o13.run fun pos after => op_store e9 V9.1 w9 rfl ⟨A4, c4, A9, c9, b8, b9, I.agree, (I.below.setCell (p := ⟨b9, 0, none⟩) g9 _).setCell (p := ⟨b9, 1, none⟩) g9 _, ?_, ?_, ?_, ?_, ?_, ?_, ?_, ?_, ?_, ?_, ?_, ?_, ?_⟩
      · simpa [Act.put] using I.x0
      · simpa [Act.put] using I.x1
      · simpa [Act.put] using I.x2
      · simpa [Act.put] using I.x3
      · intro _; exact ⟨V4.1, ownsRow_setCell_other (ownsRow_setCell_other (a := ⟨b9, 0, none⟩) V4.2 hap _) (a := ⟨b9, 1, none⟩) hap _⟩
      · simpa [Act.put] using I.x5
      · simpa [Act.put] using I.x6
      · simpa [Act.put] using I.x7
      · simpa [Act.put] using I.x8
      · intro _; exact ⟨V9.1, ownsRow_setCell_other (ownsRow_setCell_other (a := ⟨b9, 0, none⟩) V9.2.1 hap9 _) (a := ⟨b9, 1, none⟩) hap9 _, V9.2.2⟩
      · intro h0
        have h10 : L 10 = true := by simpa using h0
        have h := I.s10 h10
        have hne := I.ne h10 (hd 11 (by simp))
        refine ⟨h.1, h.2.1, ?_⟩
        have h2 := (h.2.2.far (p := ⟨b9, 0, none⟩) hne (.int .u8 (k : Int))).far (p := ⟨b9, 1, none⟩) hne (.slice A9 n c9)
        simpa [d12] using h2
      · intro _
        refine ⟨e9, g9, ?_⟩
        have h2 := (w9.set 0 (.int .u8 (k : Int))).set 1 (.slice A9 n c9)
        simpa using h2
      · simpa [Act.put] using I.ne
  · rintro L a w hall ⟨A4, c4, A9, c9, b8, b9, I⟩
    have V4 := I.v4 (hall 4 (by omega))
    have V9 := I.v9 (hall 9 (by omega))
    obtain ⟨e8, g8, w8⟩ := I.s10 (hall 10 (by omega))
    obtain ⟨e9, g9, w9⟩ := I.s11 (hall 11 (by omega))
    rw [if_pos (hall 12 (by omega))] at w8
    rw [if_pos (hall 13 (by omega))] at w9
    rw [I.agree.lay hds]
    exact fin _ w b8 b9 A4 c4 A9 c9 e8 e9 I.below g8 g9 w8 w9 V4.2 V9.2.1 V9.2.2 (I.ne (hall 10 (by omega)) (hall 11 (by omega)))

end Go.Proofs.Ytcgfakpolfopnaa
