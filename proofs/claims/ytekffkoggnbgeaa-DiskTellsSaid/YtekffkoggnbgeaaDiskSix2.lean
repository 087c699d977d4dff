/-
  The two regions of 'DiskTells' in which six disks are told and laid into an array: whatever the order. Conditions: those that each theorem names.
-/
import Derived.Test.YtekffkoggnbgeaaDiskSix
namespace Go.Proofs.Ytekffkoggnbgeaa
open Go.RowKit Go.Shelf

abbrev sixC (A1 : Option Addr) (K1 c1 : Nat) (S1 R1 : Int) (A2 : Option Addr) (K2 c2 : Nat) (S2 R2 : Int) (A3 : Option Addr) (K3 c3 : Nat) (S3 R3 : Int) (A4 : Option Addr) (K4 c4 : Nat) (S4 R4 : Int) (A5 : Option Addr) (K5 c5 : Nat) (S5 R5 : Int) (A6 : Option Addr) (K6 c6 : Nat) (S6 R6 : Int) : Array Value := #[.slice A1 K1 c1, .int .i64 S1, .int .i64 R1, .slice A2 K2 c2, .int .i64 S2, .int .i64 R2, .slice A3 K3 c3, .int .i64 S3, .int .i64 R3, .slice A4 K4 c4, .int .i64 S4, .int .i64 R4, .slice A5 K5 c5, .int .i64 S5, .int .i64 R5, .slice A6 K6 c6, .int .i64 S6, .int .i64 R6]

abbrev sevDs : List Nat := [56, 57, 58, 59, 60, 61, 62, 63, 64, 65, 66, 67, 17]

/-- What holds behind any operations of the region that have come up. -/
structure SevI (a0 : Act) (W0 : World) (vd : Value) (nv : Int) (K1 : Nat) (o1 : List Nat) (S1 R1 : Int) (K2 : Nat) (o2 : List Nat) (S2 R2 : Int) (K3 : Nat) (o3 : List Nat) (S3 R3 : Int) (K4 : Nat) (o4 : List Nat) (S4 R4 : Int) (A5 : Option Addr) (K5 c5 : Nat) (S5 R5 : Int) (A6 : Option Addr) (K6 c6 : Nat) (S6 R6 : Int) (L : Nat → Bool) (a : Act) (w : World) (A1 : Option Addr) (c1 : Nat) (A2 : Option Addr) (c2 : Nat) (A3 : Option Addr) (c3 : Nat) (A4 : Option Addr) (c4 : Nat) (b : Nat) : Prop where
  agree : Agree sevDs a0 a
  below : Below W0.heap.size W0 w
  x0 : L 0 = true → a.eval (.tmp 56) = vd
  x4 : L 4 = true → a.eval (.tmp 60) = vd
  x6 : L 6 = true → a.eval (.tmp 62) = vd
  x2 : L 2 = true → a.eval (.tmp 58) = .int .i64 nv
  x7 : L 7 = true → a.eval (.tmp 63) = .int .i64 nv
  x9 : L 9 = true → a.eval (.tmp 65) = diskV A5 K5 c5 S5 R5
  x10 : L 10 = true → a.eval (.tmp 66) = diskV A6 K6 c6 S6 R6
  x11 : L 11 = true → a.eval (.tmp 67) = .agg (sixC A1 K1 c1 S1 R1 A2 K2 c2 S2 R2 A3 K3 c3 S3 R3 A4 K4 c4 S4 R4 A5 K5 c5 S5 R5 A6 K6 c6 S6 R6)
  p1 : L 1 = true → a.eval (.tmp 57) = diskV A1 K1 c1 S1 R1 ∧ w.ownsRow W0.heap.size 5 1 (.slice A1 K1 c1) K1 (bv o1)
  p2 : L 3 = true → a.eval (.tmp 59) = diskV A2 K2 c2 S2 R2 ∧ w.ownsRow W0.heap.size 5 1 (.slice A2 K2 c2) K2 (bv o2)
  p3 : L 5 = true → a.eval (.tmp 61) = diskV A3 K3 c3 S3 R3 ∧ w.ownsRow W0.heap.size 5 1 (.slice A3 K3 c3) K3 (bv o3)
  p4 : L 8 = true → a.eval (.tmp 64) = diskV A4 K4 c4 S4 R4 ∧ w.ownsRow W0.heap.size 5 1 (.slice A4 K4 c4) K4 (bv o4)
  q : L 12 = true → a.eval (.tmp 17) = .pointer (some ⟨b, 0, none⟩) ∧ W0.heap.size ≤ b ∧ Whole w b tSix (if L 13 = true then sixC A1 K1 c1 S1 R1 A2 K2 c2 S2 R2 A3 K3 c3 S3 R3 A4 K4 c4 S4 R4 A5 K5 c5 S5 R5 A6 K6 c6 S6 R6 else sixZ)

set_option maxHeartbeats 1000000 in
theorem sev_region {ops : Array Oper} {Q : Exit → Act → World → Prop} {id : Nat} (hsize : ops.size = 14) (hlow : lowOnly ops = true)
    (o_0 : At ops 0 (some 56) (.load 24 (.tmp 4)) 24 [])
    (o_1 : At ops 1 (some 57) (.call { callee := .value (.func 14), args := #[.tmp 56], argTypes := #[24] }) 24 [0])
    (o_2 : At ops 2 (some 58) (.move (.tmp 3)) 3 [])
    (o_3 : At ops 3 (some 59) (.call { callee := .value (.func 15), args := #[.tmp 58], argTypes := #[3] }) 24 [2])
    (o_4 : At ops 4 (some 60) (.load 24 (.tmp 4)) 24 [])
    (o_5 : At ops 5 (some 61) (.call { callee := .value (.func 16), args := #[.tmp 60], argTypes := #[24] }) 24 [4])
    (o_6 : At ops 6 (some 62) (.load 24 (.tmp 4)) 24 [])
    (o_7 : At ops 7 (some 63) (.move (.tmp 3)) 3 [])
    (o_8 : At ops 8 (some 64) (.call { callee := .value (.func 17), args := #[.tmp 62, .tmp 63], argTypes := #[24, 3] }) 24 [6, 7])
    (o_9 : At ops 9 (some 65) (.load 24 (.tmp 9)) 24 [])
    (o_10 : At ops 10 (some 66) (.load 24 (.tmp 13)) 24 [])
    (o_11 : At ops 11 (some 67) (.build 33 #[(0, .tmp 57), (1, .tmp 59), (2, .tmp 61), (3, .tmp 64), (4, .tmp 65), (5, .tmp 66)]) 33 [1, 3, 5, 8, 9, 10])
    (o_12 : At ops 12 (some 17) (.alloc 33) 0 [])
    (o_13 : At ops 13 none (.store 33 (.tmp 17) (.tmp 67)) 0 [12, 11])
    (a0 : Act) (hds : ∀ d ∈ sevDs, d < a0.tmps.size) (W0 : World) (b0 b5 b6 : Nat) (A : Option Addr) (n c : Nat) (s r nv : Int) (K1 : Nat) (o1 : List Nat) (S1 R1 : Int) (K2 : Nat) (o2 : List Nat) (S2 R2 : Int) (K3 : Nat) (o3 : List Nat) (S3 R3 : Int) (K4 : Nat) (o4 : List Nat) (S4 R4 : Int) (A5 : Option Addr) (K5 c5 : Nat) (S5 R5 : Int) (A6 : Option Addr) (K6 c6 : Nat) (S6 R6 : Int)
    (h4 : a0.eval (.tmp 4) = .pointer (some ⟨b0, 0, none⟩)) (h3 : a0.eval (.tmp 3) = .int .i64 nv) (h5 : a0.eval (.tmp 9) = .pointer (some ⟨b5, 0, none⟩)) (h6 : a0.eval (.tmp 13) = .pointer (some ⟨b6, 0, none⟩))
    (hx : Whole W0 b0 24 #[.slice A n c, .int .i64 s, .int .i64 r]) (hx5 : Whole W0 b5 24 #[.slice A5 K5 c5, .int .i64 S5, .int .i64 R5]) (hx6 : Whole W0 b6 24 #[.slice A6 K6 c6, .int .i64 S6, .int .i64 R6])
    (k1 : ∀ W, Below W0.heap.size W0 W → Calls Try.prog 14 #[diskV A n c s r] W (DiskN K1 o1 S1 R1 W))
    (k2 : ∀ W, Below W0.heap.size W0 W → Calls Try.prog 15 #[.int .i64 nv] W (DiskN K2 o2 S2 R2 W))
    (k3 : ∀ W, Below W0.heap.size W0 W → Calls Try.prog 16 #[diskV A n c s r] W (DiskN K3 o3 S3 R3 W))
    (k4 : ∀ W, Below W0.heap.size W0 W → Calls Try.prog 17 #[diskV A n c s r, .int .i64 nv] W (DiskN K4 o4 S4 R4 W))
    (fin : ∀ σ w A1 c1 A2 c2 A3 c3 A4 c4 b, σ 17 = .pointer (some ⟨b, 0, none⟩) → Below W0.heap.size W0 w → W0.heap.size ≤ b → Whole w b tSix (sixC A1 K1 c1 S1 R1 A2 K2 c2 S2 R2 A3 K3 c3 S3 R3 A4 K4 c4 S4 R4 A5 K5 c5 S5 R5 A6 K6 c6 S6 R6) →
      w.ownsRow W0.heap.size 5 1 (.slice A1 K1 c1) K1 (bv o1) → w.ownsRow W0.heap.size 5 1 (.slice A2 K2 c2) K2 (bv o2) → w.ownsRow W0.heap.size 5 1 (.slice A3 K3 c3) K3 (bv o3) → w.ownsRow W0.heap.size 5 1 (.slice A4 K4 c4) K4 (bv o4) → Q .normal (lay σ sevDs a0) w) :
    (Code.region id ops true).wp Try.prog Q a0 W0 := by
  refine region_clo (by kernel_rfl) hlow (fun L a w => ∃ A1 c1 A2 c2 A3 c3 A4 c4 b, SevI a0 W0 (diskV A n c s r) nv K1 o1 S1 R1 K2 o2 S2 R2 K3 o3 S3 R3 K4 o4 S4 R4 A5 K5 c5 S5 R5 A6 K6 c6 S6 R6 L a w A1 c1 A2 c2 A3 c3 A4 c4 b) ?_ ?_ ?_
  · exact ⟨none, 0, none, 0, none, 0, none, 0, 0, Agree.refl _ _, (Below.refl _ _).drew, by simp, by simp, by simp, by simp, by simp, by simp, by simp, by simp, by simp, by simp, by simp, by simp, by simp⟩
  · rintro i o L a w ho hi hclo hall ⟨A1, c1, A2, c2, A3, c3, A4, c4, b, I⟩
    have hlt : i < 14 := by rw [← hsize]; exact (Array.getElem?_eq_some_iff.1 ho).1
    have hz : ∀ d ∈ sevDs, d < a.tmps.size := fun d hd => by rw [I.agree.size]; exact hds d hd
    have hbs := I.below.size
    have hxw := hx.under I.below
    have hxw5 := hx5.under I.below
    have hxw6 := hx6.under I.below
    rcases (by omega : i = 0 ∨ i = 1 ∨ i = 2 ∨ i = 3 ∨ i = 4 ∨ i = 5 ∨ i = 6 ∨ i = 7 ∨ i = 8 ∨ i = 9 ∨ i = 10 ∨ i = 11 ∨ i = 12 ∨ i = 13) with rfl | rfl | rfl | rfl | rfl | rfl | rfl | rfl | rfl | rfl | rfl | rfl | rfl | rfl
    · refine o_0.run fun pos after => opD_load (b := b0) (by rw [I.agree.eval (by decide)]; exact h4) hxw ⟨A1, c1, A2, c2, A3, c3, A4, c4, b, I.agree.put (by decide) _, I.below, ?_, ?_, ?_, ?_, ?_, ?_, ?_, ?_, ?_, ?_, ?_, ?_, ?_⟩
      · intro _; exact eval_new (hz _ (by decide)) _
      · simpa [eval_old] using I.x4
      · simpa [eval_old] using I.x6
      · simpa [eval_old] using I.x2
      · simpa [eval_old] using I.x7
      · simpa [eval_old] using I.x9
      · simpa [eval_old] using I.x10
      · simpa [eval_old] using I.x11
      · simpa [eval_old] using I.p1
      · simpa [eval_old] using I.p2
      · simpa [eval_old] using I.p3
      · simpa [eval_old] using I.p4
      · simpa [eval_old] using I.q
    · have hd := o_1.needs ho hall
      have n11 := o_11.not hclo (j := 1) (by simp) hi
      have n13 := o_13.not hclo (j := 11) (by simp) n11
      refine o_1.run fun pos after => opF_one (enters_of Try.func14 (by kernel_rfl) rfl) (I.x0 (hd 0 (by simp))) (k1 w I.below) ?_
      rintro e w' ⟨A', c', rfl, hown, hb⟩
      refine ⟨_, rfl, A', c', A2, c2, A3, c3, A4, c4, b, I.agree.put (by decide) _, I.below.trans (hb.mono hbs), ?_, ?_, ?_, ?_, ?_, ?_, ?_, ?_, ?_, ?_, ?_, ?_, ?_⟩
      · simpa [eval_old] using I.x0
      · simpa [eval_old] using I.x4
      · simpa [eval_old] using I.x6
      · simpa [eval_old] using I.x2
      · simpa [eval_old] using I.x7
      · simpa [eval_old] using I.x9
      · simpa [eval_old] using I.x10
      · intro hL; simp [n11] at hL
      · intro _; exact ⟨eval_new (hz _ (by decide)) _, own_weaker hown hbs⟩
      · intro hL; have h := I.p2 (by simpa using hL); exact ⟨by rw [eval_old (by decide)]; exact h.1, own_under h.2 hb⟩
      · intro hL; have h := I.p3 (by simpa using hL); exact ⟨by rw [eval_old (by decide)]; exact h.1, own_under h.2 hb⟩
      · intro hL; have h := I.p4 (by simpa using hL); exact ⟨by rw [eval_old (by decide)]; exact h.1, own_under h.2 hb⟩
      · intro hL; have h := I.q (by simpa using hL); rw [n13] at h; exact ⟨by rw [eval_old (by decide)]; exact h.1, h.2.1, by simpa [n13] using h.2.2.under hb⟩
    · refine o_2.run fun pos after => opD_move (v := .int .i64 nv) (by rw [I.agree.eval (by decide)]; exact h3) ⟨A1, c1, A2, c2, A3, c3, A4, c4, b, I.agree.put (by decide) _, I.below, ?_, ?_, ?_, ?_, ?_, ?_, ?_, ?_, ?_, ?_, ?_, ?_, ?_⟩
      · simpa [eval_old] using I.x0
      · simpa [eval_old] using I.x4
      · simpa [eval_old] using I.x6
      · intro _; exact eval_new (hz _ (by decide)) _
      · simpa [eval_old] using I.x7
      · simpa [eval_old] using I.x9
      · simpa [eval_old] using I.x10
      · simpa [eval_old] using I.x11
      · simpa [eval_old] using I.p1
      · simpa [eval_old] using I.p2
      · simpa [eval_old] using I.p3
      · simpa [eval_old] using I.p4
      · simpa [eval_old] using I.q
    · have hd := o_3.needs ho hall
      have n11 := o_11.not hclo (j := 3) (by simp) hi
      have n13 := o_13.not hclo (j := 11) (by simp) n11
      refine o_3.run fun pos after => opF_one (enters_of Try.func15 (by kernel_rfl) rfl) (I.x2 (hd 2 (by simp))) (k2 w I.below) ?_
      rintro e w' ⟨A', c', rfl, hown, hb⟩
      refine ⟨_, rfl, A1, c1, A', c', A3, c3, A4, c4, b, I.agree.put (by decide) _, I.below.trans (hb.mono hbs), ?_, ?_, ?_, ?_, ?_, ?_, ?_, ?_, ?_, ?_, ?_, ?_, ?_⟩
      · simpa [eval_old] using I.x0
      · simpa [eval_old] using I.x4
      · simpa [eval_old] using I.x6
      · simpa [eval_old] using I.x2
      · simpa [eval_old] using I.x7
      · simpa [eval_old] using I.x9
      · simpa [eval_old] using I.x10
      · intro hL; simp [n11] at hL
      · intro hL; have h := I.p1 (by simpa using hL); exact ⟨by rw [eval_old (by decide)]; exact h.1, own_under h.2 hb⟩
      · intro _; exact ⟨eval_new (hz _ (by decide)) _, own_weaker hown hbs⟩
      · intro hL; have h := I.p3 (by simpa using hL); exact ⟨by rw [eval_old (by decide)]; exact h.1, own_under h.2 hb⟩
      · intro hL; have h := I.p4 (by simpa using hL); exact ⟨by rw [eval_old (by decide)]; exact h.1, own_under h.2 hb⟩
      · intro hL; have h := I.q (by simpa using hL); rw [n13] at h; exact ⟨by rw [eval_old (by decide)]; exact h.1, h.2.1, by simpa [n13] using h.2.2.under hb⟩
    · refine o_4.run fun pos after => opD_load (b := b0) (by rw [I.agree.eval (by decide)]; exact h4) hxw ⟨A1, c1, A2, c2, A3, c3, A4, c4, b, I.agree.put (by decide) _, I.below, ?_, ?_, ?_, ?_, ?_, ?_, ?_, ?_, ?_, ?_, ?_, ?_, ?_⟩
      · simpa [eval_old] using I.x0
      · intro _; exact eval_new (hz _ (by decide)) _
      · simpa [eval_old] using I.x6
      · simpa [eval_old] using I.x2
      · simpa [eval_old] using I.x7
      · simpa [eval_old] using I.x9
      · simpa [eval_old] using I.x10
      · simpa [eval_old] using I.x11
      · simpa [eval_old] using I.p1
      · simpa [eval_old] using I.p2
      · simpa [eval_old] using I.p3
      · simpa [eval_old] using I.p4
      · simpa [eval_old] using I.q
    · have hd := o_5.needs ho hall
      have n11 := o_11.not hclo (j := 5) (by simp) hi
      have n13 := o_13.not hclo (j := 11) (by simp) n11
      refine o_5.run fun pos after => opF_one (enters_of Try.func16 (by kernel_rfl) rfl) (I.x4 (hd 4 (by simp))) (k3 w I.below) ?_
      rintro e w' ⟨A', c', rfl, hown, hb⟩
      refine ⟨_, rfl, A1, c1, A2, c2, A', c', A4, c4, b, I.agree.put (by decide) _, I.below.trans (hb.mono hbs), ?_, ?_, ?_, ?_, ?_, ?_, ?_, ?_, ?_, ?_, ?_, ?_, ?_⟩
      · simpa [eval_old] using I.x0
      · simpa [eval_old] using I.x4
      · simpa [eval_old] using I.x6
      · simpa [eval_old] using I.x2
      · simpa [eval_old] using I.x7
      · simpa [eval_old] using I.x9
      · simpa [eval_old] using I.x10
      · intro hL; simp [n11] at hL
      · intro hL; have h := I.p1 (by simpa using hL); exact ⟨by rw [eval_old (by decide)]; exact h.1, own_under h.2 hb⟩
      · intro hL; have h := I.p2 (by simpa using hL); exact ⟨by rw [eval_old (by decide)]; exact h.1, own_under h.2 hb⟩
      · intro _; exact ⟨eval_new (hz _ (by decide)) _, own_weaker hown hbs⟩
      · intro hL; have h := I.p4 (by simpa using hL); exact ⟨by rw [eval_old (by decide)]; exact h.1, own_under h.2 hb⟩
      · intro hL; have h := I.q (by simpa using hL); rw [n13] at h; exact ⟨by rw [eval_old (by decide)]; exact h.1, h.2.1, by simpa [n13] using h.2.2.under hb⟩
    · refine o_6.run fun pos after => opD_load (b := b0) (by rw [I.agree.eval (by decide)]; exact h4) hxw ⟨A1, c1, A2, c2, A3, c3, A4, c4, b, I.agree.put (by decide) _, I.below, ?_, ?_, ?_, ?_, ?_, ?_, ?_, ?_, ?_, ?_, ?_, ?_, ?_⟩
      · simpa [eval_old] using I.x0
      · simpa [eval_old] using I.x4
      · intro _; exact eval_new (hz _ (by decide)) _
      · simpa [eval_old] using I.x2
      · simpa [eval_old] using I.x7
      · simpa [eval_old] using I.x9
      · simpa [eval_old] using I.x10
      · simpa [eval_old] using I.x11
      · simpa [eval_old] using I.p1
      · simpa [eval_old] using I.p2
      · simpa [eval_old] using I.p3
      · simpa [eval_old] using I.p4
      · simpa [eval_old] using I.q
    · refine o_7.run fun pos after => opD_move (v := .int .i64 nv) (by rw [I.agree.eval (by decide)]; exact h3) ⟨A1, c1, A2, c2, A3, c3, A4, c4, b, I.agree.put (by decide) _, I.below, ?_, ?_, ?_, ?_, ?_, ?_, ?_, ?_, ?_, ?_, ?_, ?_, ?_⟩
      · simpa [eval_old] using I.x0
      · simpa [eval_old] using I.x4
      · simpa [eval_old] using I.x6
      · simpa [eval_old] using I.x2
      · intro _; exact eval_new (hz _ (by decide)) _
      · simpa [eval_old] using I.x9
      · simpa [eval_old] using I.x10
      · simpa [eval_old] using I.x11
      · simpa [eval_old] using I.p1
      · simpa [eval_old] using I.p2
      · simpa [eval_old] using I.p3
      · simpa [eval_old] using I.p4
      · simpa [eval_old] using I.q
    · have hd := o_8.needs ho hall
      have n11 := o_11.not hclo (j := 8) (by simp) hi
      have n13 := o_13.not hclo (j := 11) (by simp) n11
      refine o_8.run fun pos after => opF_two (enters_of Try.func17 (by kernel_rfl) rfl) (I.x6 (hd 6 (by simp))) (I.x7 (hd 7 (by simp))) (k4 w I.below) ?_
      rintro e w' ⟨A', c', rfl, hown, hb⟩
      refine ⟨_, rfl, A1, c1, A2, c2, A3, c3, A', c', b, I.agree.put (by decide) _, I.below.trans (hb.mono hbs), ?_, ?_, ?_, ?_, ?_, ?_, ?_, ?_, ?_, ?_, ?_, ?_, ?_⟩
      · simpa [eval_old] using I.x0
      · simpa [eval_old] using I.x4
      · simpa [eval_old] using I.x6
      · simpa [eval_old] using I.x2
      · simpa [eval_old] using I.x7
      · simpa [eval_old] using I.x9
      · simpa [eval_old] using I.x10
      · intro hL; simp [n11] at hL
      · intro hL; have h := I.p1 (by simpa using hL); exact ⟨by rw [eval_old (by decide)]; exact h.1, own_under h.2 hb⟩
      · intro hL; have h := I.p2 (by simpa using hL); exact ⟨by rw [eval_old (by decide)]; exact h.1, own_under h.2 hb⟩
      · intro hL; have h := I.p3 (by simpa using hL); exact ⟨by rw [eval_old (by decide)]; exact h.1, own_under h.2 hb⟩
      · intro _; exact ⟨eval_new (hz _ (by decide)) _, own_weaker hown hbs⟩
      · intro hL; have h := I.q (by simpa using hL); rw [n13] at h; exact ⟨by rw [eval_old (by decide)]; exact h.1, h.2.1, by simpa [n13] using h.2.2.under hb⟩
    · refine o_9.run fun pos after => opD_load (b := b5) (by rw [I.agree.eval (by decide)]; exact h5) hxw5 ⟨A1, c1, A2, c2, A3, c3, A4, c4, b, I.agree.put (by decide) _, I.below, ?_, ?_, ?_, ?_, ?_, ?_, ?_, ?_, ?_, ?_, ?_, ?_, ?_⟩
      · simpa [eval_old] using I.x0
      · simpa [eval_old] using I.x4
      · simpa [eval_old] using I.x6
      · simpa [eval_old] using I.x2
      · simpa [eval_old] using I.x7
      · intro _; exact eval_new (hz _ (by decide)) _
      · simpa [eval_old] using I.x10
      · simpa [eval_old] using I.x11
      · simpa [eval_old] using I.p1
      · simpa [eval_old] using I.p2
      · simpa [eval_old] using I.p3
      · simpa [eval_old] using I.p4
      · simpa [eval_old] using I.q
    · refine o_10.run fun pos after => opD_load (b := b6) (by rw [I.agree.eval (by decide)]; exact h6) hxw6 ⟨A1, c1, A2, c2, A3, c3, A4, c4, b, I.agree.put (by decide) _, I.below, ?_, ?_, ?_, ?_, ?_, ?_, ?_, ?_, ?_, ?_, ?_, ?_, ?_⟩
      · simpa [eval_old] using I.x0
      · simpa [eval_old] using I.x4
      · simpa [eval_old] using I.x6
      · simpa [eval_old] using I.x2
      · simpa [eval_old] using I.x7
      · simpa [eval_old] using I.x9
      · intro _; exact eval_new (hz _ (by decide)) _
      · simpa [eval_old] using I.x11
      · simpa [eval_old] using I.p1
      · simpa [eval_old] using I.p2
      · simpa [eval_old] using I.p3
      · simpa [eval_old] using I.p4
      · simpa [eval_old] using I.q
    · have hd := o_11.needs ho hall
      have n13 := o_13.not hclo (j := 11) (by simp) hi
      refine o_11.run fun pos after => opSix_build (I.p1 (hd 1 (by simp))).1 (I.p2 (hd 3 (by simp))).1 (I.p3 (hd 5 (by simp))).1 (I.p4 (hd 8 (by simp))).1 (I.x9 (hd 9 (by simp))) (I.x10 (hd 10 (by simp))) ⟨A1, c1, A2, c2, A3, c3, A4, c4, b, I.agree.put (by decide) _, I.below, ?_, ?_, ?_, ?_, ?_, ?_, ?_, ?_, ?_, ?_, ?_, ?_, ?_⟩
      · simpa [eval_old] using I.x0
      · simpa [eval_old] using I.x4
      · simpa [eval_old] using I.x6
      · simpa [eval_old] using I.x2
      · simpa [eval_old] using I.x7
      · simpa [eval_old] using I.x9
      · simpa [eval_old] using I.x10
      · intro _; exact eval_new (hz _ (by decide)) _
      · simpa [eval_old] using I.p1
      · simpa [eval_old] using I.p2
      · simpa [eval_old] using I.p3
      · simpa [eval_old] using I.p4
      · simpa [eval_old] using I.q
    · have n13 := o_13.not hclo (j := 12) (by simp) hi
      refine o_12.run fun pos after => opSix_alloc ⟨A1, c1, A2, c2, A3, c3, A4, c4, w.heap.size, I.agree.put (by decide) _, I.below.alloc hbs _, ?_, ?_, ?_, ?_, ?_, ?_, ?_, ?_, ?_, ?_, ?_, ?_, ?_⟩
      · simpa [eval_old] using I.x0
      · simpa [eval_old] using I.x4
      · simpa [eval_old] using I.x6
      · simpa [eval_old] using I.x2
      · simpa [eval_old] using I.x7
      · simpa [eval_old] using I.x9
      · simpa [eval_old] using I.x10
      · simpa [eval_old] using I.x11
      · intro hL; have h := I.p1 (by simpa using hL); exact ⟨by rw [eval_old (by decide)]; exact h.1, h.2.alloc _⟩
      · intro hL; have h := I.p2 (by simpa using hL); exact ⟨by rw [eval_old (by decide)]; exact h.1, h.2.alloc _⟩
      · intro hL; have h := I.p3 (by simpa using hL); exact ⟨by rw [eval_old (by decide)]; exact h.1, h.2.alloc _⟩
      · intro hL; have h := I.p4 (by simpa using hL); exact ⟨by rw [eval_old (by decide)]; exact h.1, h.2.alloc _⟩
      · intro _; exact ⟨eval_new (hz _ (by decide)) _, hbs, by simpa [n13] using Whole.new w tSix sixZ⟩
    · have hd := o_13.needs ho hall
      obtain ⟨eb, gb, wb⟩ := I.q (hd 12 (by simp))
      rw [hi] at wb
      simp only [Bool.false_eq_true, if_false] at wb
      have ev := I.x11 (hd 11 (by simp))
      refine o_13.run fun pos after => opSix_store eb ev wb rfl rfl (by simp [Value.oneCell']) ⟨A1, c1, A2, c2, A3, c3, A4, c4, b, I.agree, below_setRow I.below gb _, ?_, ?_, ?_, ?_, ?_, ?_, ?_, ?_, ?_, ?_, ?_, ?_, ?_⟩
      · simpa using I.x0
      · simpa using I.x4
      · simpa using I.x6
      · simpa using I.x2
      · simpa using I.x7
      · simpa using I.x9
      · simpa using I.x10
      · simpa using I.x11
      · intro hL; have h := I.p1 (by simpa using hL); exact ⟨h.1, own_farSix h.2 wb _⟩
      · intro hL; have h := I.p2 (by simpa using hL); exact ⟨h.1, own_farSix h.2 wb _⟩
      · intro hL; have h := I.p3 (by simpa using hL); exact ⟨h.1, own_farSix h.2 wb _⟩
      · intro hL; have h := I.p4 (by simpa using hL); exact ⟨h.1, own_farSix h.2 wb _⟩
      · intro _; exact ⟨eb, gb, by simpa using wb.setRow _⟩
  · rintro L a w hall ⟨A1, c1, A2, c2, A3, c3, A4, c4, b, I⟩
    obtain ⟨e0, g0, w0⟩ := I.q (hall 12 (by omega))
    rw [if_pos (hall 13 (by omega))] at w0
    rw [I.agree.lay hds]
    exact fin _ w A1 c1 A2 c2 A3 c3 A4 c4 b e0 I.below g0 w0 (I.p1 (hall 1 (by omega))).2 (I.p2 (hall 3 (by omega))).2 (I.p3 (hall 5 (by omega))).2 (I.p4 (hall 8 (by omega))).2

abbrev eigDs : List Nat := [68, 69, 70, 71, 72, 73, 74, 75, 76, 77, 78, 79, 18]

/-- What holds behind any operations of the region that have come up. -/
structure EigI (a0 : Act) (W0 : World) (vd : Value) (nv : Int) (K1 : Nat) (o1 : List Nat) (S1 R1 : Int) (K2 : Nat) (o2 : List Nat) (S2 R2 : Int) (K3 : Nat) (o3 : List Nat) (S3 R3 : Int) (K4 : Nat) (o4 : List Nat) (S4 R4 : Int) (A5 : Option Addr) (K5 c5 : Nat) (S5 R5 : Int) (A6 : Option Addr) (K6 c6 : Nat) (S6 R6 : Int) (L : Nat → Bool) (a : Act) (w : World) (A1 : Option Addr) (c1 : Nat) (A2 : Option Addr) (c2 : Nat) (A3 : Option Addr) (c3 : Nat) (A4 : Option Addr) (c4 : Nat) (b : Nat) : Prop where
  agree : Agree eigDs a0 a
  below : Below W0.heap.size W0 w
  x0 : L 0 = true → a.eval (.tmp 68) = vd
  x4 : L 4 = true → a.eval (.tmp 72) = vd
  x6 : L 6 = true → a.eval (.tmp 74) = vd
  x2 : L 2 = true → a.eval (.tmp 70) = .int .i64 nv
  x7 : L 7 = true → a.eval (.tmp 75) = .int .i64 nv
  x9 : L 9 = true → a.eval (.tmp 77) = diskV A5 K5 c5 S5 R5
  x10 : L 10 = true → a.eval (.tmp 78) = diskV A6 K6 c6 S6 R6
  x11 : L 11 = true → a.eval (.tmp 79) = .agg (sixC A1 K1 c1 S1 R1 A2 K2 c2 S2 R2 A3 K3 c3 S3 R3 A4 K4 c4 S4 R4 A5 K5 c5 S5 R5 A6 K6 c6 S6 R6)
  p1 : L 1 = true → a.eval (.tmp 69) = diskV A1 K1 c1 S1 R1 ∧ w.ownsRow W0.heap.size 5 1 (.slice A1 K1 c1) K1 (bv o1)
  p2 : L 3 = true → a.eval (.tmp 71) = diskV A2 K2 c2 S2 R2 ∧ w.ownsRow W0.heap.size 5 1 (.slice A2 K2 c2) K2 (bv o2)
  p3 : L 5 = true → a.eval (.tmp 73) = diskV A3 K3 c3 S3 R3 ∧ w.ownsRow W0.heap.size 5 1 (.slice A3 K3 c3) K3 (bv o3)
  p4 : L 8 = true → a.eval (.tmp 76) = diskV A4 K4 c4 S4 R4 ∧ w.ownsRow W0.heap.size 5 1 (.slice A4 K4 c4) K4 (bv o4)
  q : L 12 = true → a.eval (.tmp 18) = .pointer (some ⟨b, 0, none⟩) ∧ W0.heap.size ≤ b ∧ Whole w b tSix (if L 13 = true then sixC A1 K1 c1 S1 R1 A2 K2 c2 S2 R2 A3 K3 c3 S3 R3 A4 K4 c4 S4 R4 A5 K5 c5 S5 R5 A6 K6 c6 S6 R6 else sixZ)

set_option maxHeartbeats 1000000 in
theorem eig_region {ops : Array Oper} {Q : Exit → Act → World → Prop} {id : Nat} (hsize : ops.size = 14) (hlow : lowOnly ops = true)
    (o_0 : At ops 0 (some 68) (.load 24 (.tmp 4)) 24 [])
    (o_1 : At ops 1 (some 69) (.call { callee := .value (.func 18), args := #[.tmp 68], argTypes := #[24] }) 24 [0])
    (o_2 : At ops 2 (some 70) (.move (.tmp 3)) 3 [])
    (o_3 : At ops 3 (some 71) (.call { callee := .value (.func 19), args := #[.tmp 70], argTypes := #[3] }) 24 [2])
    (o_4 : At ops 4 (some 72) (.load 24 (.tmp 4)) 24 [])
    (o_5 : At ops 5 (some 73) (.call { callee := .value (.func 20), args := #[.tmp 72], argTypes := #[24] }) 24 [4])
    (o_6 : At ops 6 (some 74) (.load 24 (.tmp 4)) 24 [])
    (o_7 : At ops 7 (some 75) (.move (.tmp 3)) 3 [])
    (o_8 : At ops 8 (some 76) (.call { callee := .value (.func 21), args := #[.tmp 74, .tmp 75], argTypes := #[24, 3] }) 24 [6, 7])
    (o_9 : At ops 9 (some 77) (.load 24 (.tmp 11)) 24 [])
    (o_10 : At ops 10 (some 78) (.load 24 (.tmp 15)) 24 [])
    (o_11 : At ops 11 (some 79) (.build 33 #[(0, .tmp 69), (1, .tmp 71), (2, .tmp 73), (3, .tmp 76), (4, .tmp 77), (5, .tmp 78)]) 33 [1, 3, 5, 8, 9, 10])
    (o_12 : At ops 12 (some 18) (.alloc 33) 0 [])
    (o_13 : At ops 13 none (.store 33 (.tmp 18) (.tmp 79)) 0 [12, 11])
    (a0 : Act) (hds : ∀ d ∈ eigDs, d < a0.tmps.size) (W0 : World) (b0 b5 b6 : Nat) (A : Option Addr) (n c : Nat) (s r nv : Int) (K1 : Nat) (o1 : List Nat) (S1 R1 : Int) (K2 : Nat) (o2 : List Nat) (S2 R2 : Int) (K3 : Nat) (o3 : List Nat) (S3 R3 : Int) (K4 : Nat) (o4 : List Nat) (S4 R4 : Int) (A5 : Option Addr) (K5 c5 : Nat) (S5 R5 : Int) (A6 : Option Addr) (K6 c6 : Nat) (S6 R6 : Int)
    (h4 : a0.eval (.tmp 4) = .pointer (some ⟨b0, 0, none⟩)) (h3 : a0.eval (.tmp 3) = .int .i64 nv) (h5 : a0.eval (.tmp 11) = .pointer (some ⟨b5, 0, none⟩)) (h6 : a0.eval (.tmp 15) = .pointer (some ⟨b6, 0, none⟩))
    (hx : Whole W0 b0 24 #[.slice A n c, .int .i64 s, .int .i64 r]) (hx5 : Whole W0 b5 24 #[.slice A5 K5 c5, .int .i64 S5, .int .i64 R5]) (hx6 : Whole W0 b6 24 #[.slice A6 K6 c6, .int .i64 S6, .int .i64 R6])
    (k1 : ∀ W, Below W0.heap.size W0 W → Calls Try.prog 18 #[diskV A n c s r] W (DiskN K1 o1 S1 R1 W))
    (k2 : ∀ W, Below W0.heap.size W0 W → Calls Try.prog 19 #[.int .i64 nv] W (DiskN K2 o2 S2 R2 W))
    (k3 : ∀ W, Below W0.heap.size W0 W → Calls Try.prog 20 #[diskV A n c s r] W (DiskN K3 o3 S3 R3 W))
    (k4 : ∀ W, Below W0.heap.size W0 W → Calls Try.prog 21 #[diskV A n c s r, .int .i64 nv] W (DiskN K4 o4 S4 R4 W))
    (fin : ∀ σ w A1 c1 A2 c2 A3 c3 A4 c4 b, σ 18 = .pointer (some ⟨b, 0, none⟩) → Below W0.heap.size W0 w → W0.heap.size ≤ b → Whole w b tSix (sixC A1 K1 c1 S1 R1 A2 K2 c2 S2 R2 A3 K3 c3 S3 R3 A4 K4 c4 S4 R4 A5 K5 c5 S5 R5 A6 K6 c6 S6 R6) →
      w.ownsRow W0.heap.size 5 1 (.slice A1 K1 c1) K1 (bv o1) → w.ownsRow W0.heap.size 5 1 (.slice A2 K2 c2) K2 (bv o2) → w.ownsRow W0.heap.size 5 1 (.slice A3 K3 c3) K3 (bv o3) → w.ownsRow W0.heap.size 5 1 (.slice A4 K4 c4) K4 (bv o4) → Q .normal (lay σ eigDs a0) w) :
    (Code.region id ops true).wp Try.prog Q a0 W0 := by
  refine region_clo (by kernel_rfl) hlow (fun L a w => ∃ A1 c1 A2 c2 A3 c3 A4 c4 b, EigI a0 W0 (diskV A n c s r) nv K1 o1 S1 R1 K2 o2 S2 R2 K3 o3 S3 R3 K4 o4 S4 R4 A5 K5 c5 S5 R5 A6 K6 c6 S6 R6 L a w A1 c1 A2 c2 A3 c3 A4 c4 b) ?_ ?_ ?_
  · exact ⟨none, 0, none, 0, none, 0, none, 0, 0, Agree.refl _ _, (Below.refl _ _).drew, by simp, by simp, by simp, by simp, by simp, by simp, by simp, by simp, by simp, by simp, by simp, by simp, by simp⟩
  · rintro i o L a w ho hi hclo hall ⟨A1, c1, A2, c2, A3, c3, A4, c4, b, I⟩
    have hlt : i < 14 := by rw [← hsize]; exact (Array.getElem?_eq_some_iff.1 ho).1
    have hz : ∀ d ∈ eigDs, d < a.tmps.size := fun d hd => by rw [I.agree.size]; exact hds d hd
    have hbs := I.below.size
    have hxw := hx.under I.below
    have hxw5 := hx5.under I.below
    have hxw6 := hx6.under I.below
    rcases (by omega : i = 0 ∨ i = 1 ∨ i = 2 ∨ i = 3 ∨ i = 4 ∨ i = 5 ∨ i = 6 ∨ i = 7 ∨ i = 8 ∨ i = 9 ∨ i = 10 ∨ i = 11 ∨ i = 12 ∨ i = 13) with rfl | rfl | rfl | rfl | rfl | rfl | rfl | rfl | rfl | rfl | rfl | rfl | rfl | rfl
    · refine o_0.run fun pos after => opD_load (b := b0) (by rw [I.agree.eval (by decide)]; exact h4) hxw ⟨A1, c1, A2, c2, A3, c3, A4, c4, b, I.agree.put (by decide) _, I.below, ?_, ?_, ?_, ?_, ?_, ?_, ?_, ?_, ?_, ?_, ?_, ?_, ?_⟩
      · intro _; exact eval_new (hz _ (by decide)) _
      · simpa [eval_old] using I.x4
      · simpa [eval_old] using I.x6
      · simpa [eval_old] using I.x2
      · simpa [eval_old] using I.x7
      · simpa [eval_old] using I.x9
      · simpa [eval_old] using I.x10
      · simpa [eval_old] using I.x11
      · simpa [eval_old] using I.p1
      · simpa [eval_old] using I.p2
      · simpa [eval_old] using I.p3
      · simpa [eval_old] using I.p4
      · simpa [eval_old] using I.q
    · have hd := o_1.needs ho hall
      have n11 := o_11.not hclo (j := 1) (by simp) hi
      have n13 := o_13.not hclo (j := 11) (by simp) n11
      refine o_1.run fun pos after => opF_one (enters_of Try.func18 (by kernel_rfl) rfl) (I.x0 (hd 0 (by simp))) (k1 w I.below) ?_
      rintro e w' ⟨A', c', rfl, hown, hb⟩
      refine ⟨_, rfl, A', c', A2, c2, A3, c3, A4, c4, b, I.agree.put (by decide) _, I.below.trans (hb.mono hbs), ?_, ?_, ?_, ?_, ?_, ?_, ?_, ?_, ?_, ?_, ?_, ?_, ?_⟩
      · simpa [eval_old] using I.x0
      · simpa [eval_old] using I.x4
      · simpa [eval_old] using I.x6
      · simpa [eval_old] using I.x2
      · simpa [eval_old] using I.x7
      · simpa [eval_old] using I.x9
      · simpa [eval_old] using I.x10
      · intro hL; simp [n11] at hL
      · intro _; exact ⟨eval_new (hz _ (by decide)) _, own_weaker hown hbs⟩
      · intro hL; have h := I.p2 (by simpa using hL); exact ⟨by rw [eval_old (by decide)]; exact h.1, own_under h.2 hb⟩
      · intro hL; have h := I.p3 (by simpa using hL); exact ⟨by rw [eval_old (by decide)]; exact h.1, own_under h.2 hb⟩
      · intro hL; have h := I.p4 (by simpa using hL); exact ⟨by rw [eval_old (by decide)]; exact h.1, own_under h.2 hb⟩
      · intro hL; have h := I.q (by simpa using hL); rw [n13] at h; exact ⟨by rw [eval_old (by decide)]; exact h.1, h.2.1, by simpa [n13] using h.2.2.under hb⟩
    · refine o_2.run fun pos after => opD_move (v := .int .i64 nv) (by rw [I.agree.eval (by decide)]; exact h3) ⟨A1, c1, A2, c2, A3, c3, A4, c4, b, I.agree.put (by decide) _, I.below, ?_, ?_, ?_, ?_, ?_, ?_, ?_, ?_, ?_, ?_, ?_, ?_, ?_⟩
      · simpa [eval_old] using I.x0
      · simpa [eval_old] using I.x4
      · simpa [eval_old] using I.x6
      · intro _; exact eval_new (hz _ (by decide)) _
      · simpa [eval_old] using I.x7
      · simpa [eval_old] using I.x9
      · simpa [eval_old] using I.x10
      · simpa [eval_old] using I.x11
      · simpa [eval_old] using I.p1
      · simpa [eval_old] using I.p2
      · simpa [eval_old] using I.p3
      · simpa [eval_old] using I.p4
      · simpa [eval_old] using I.q
    · have hd := o_3.needs ho hall
      have n11 := o_11.not hclo (j := 3) (by simp) hi
      have n13 := o_13.not hclo (j := 11) (by simp) n11
      refine o_3.run fun pos after => opF_one (enters_of Try.func19 (by kernel_rfl) rfl) (I.x2 (hd 2 (by simp))) (k2 w I.below) ?_
      rintro e w' ⟨A', c', rfl, hown, hb⟩
      refine ⟨_, rfl, A1, c1, A', c', A3, c3, A4, c4, b, I.agree.put (by decide) _, I.below.trans (hb.mono hbs), ?_, ?_, ?_, ?_, ?_, ?_, ?_, ?_, ?_, ?_, ?_, ?_, ?_⟩
      · simpa [eval_old] using I.x0
      · simpa [eval_old] using I.x4
      · simpa [eval_old] using I.x6
      · simpa [eval_old] using I.x2
      · simpa [eval_old] using I.x7
      · simpa [eval_old] using I.x9
      · simpa [eval_old] using I.x10
      · intro hL; simp [n11] at hL
      · intro hL; have h := I.p1 (by simpa using hL); exact ⟨by rw [eval_old (by decide)]; exact h.1, own_under h.2 hb⟩
      · intro _; exact ⟨eval_new (hz _ (by decide)) _, own_weaker hown hbs⟩
      · intro hL; have h := I.p3 (by simpa using hL); exact ⟨by rw [eval_old (by decide)]; exact h.1, own_under h.2 hb⟩
      · intro hL; have h := I.p4 (by simpa using hL); exact ⟨by rw [eval_old (by decide)]; exact h.1, own_under h.2 hb⟩
      · intro hL; have h := I.q (by simpa using hL); rw [n13] at h; exact ⟨by rw [eval_old (by decide)]; exact h.1, h.2.1, by simpa [n13] using h.2.2.under hb⟩
    · refine o_4.run fun pos after => opD_load (b := b0) (by rw [I.agree.eval (by decide)]; exact h4) hxw ⟨A1, c1, A2, c2, A3, c3, A4, c4, b, I.agree.put (by decide) _, I.below, ?_, ?_, ?_, ?_, ?_, ?_, ?_, ?_, ?_, ?_, ?_, ?_, ?_⟩
      · simpa [eval_old] using I.x0
      · intro _; exact eval_new (hz _ (by decide)) _
      · simpa [eval_old] using I.x6
      · simpa [eval_old] using I.x2
      · simpa [eval_old] using I.x7
      · simpa [eval_old] using I.x9
      · simpa [eval_old] using I.x10
      · simpa [eval_old] using I.x11
      · simpa [eval_old] using I.p1
      · simpa [eval_old] using I.p2
      · simpa [eval_old] using I.p3
      · simpa [eval_old] using I.p4
      · simpa [eval_old] using I.q
    · have hd := o_5.needs ho hall
      have n11 := o_11.not hclo (j := 5) (by simp) hi
      have n13 := o_13.not hclo (j := 11) (by simp) n11
      refine o_5.run fun pos after => opF_one (enters_of Try.func20 (by kernel_rfl) rfl) (I.x4 (hd 4 (by simp))) (k3 w I.below) ?_
      rintro e w' ⟨A', c', rfl, hown, hb⟩
      refine ⟨_, rfl, A1, c1, A2, c2, A', c', A4, c4, b, I.agree.put (by decide) _, I.below.trans (hb.mono hbs), ?_, ?_, ?_, ?_, ?_, ?_, ?_, ?_, ?_, ?_, ?_, ?_, ?_⟩
      · simpa [eval_old] using I.x0
      · simpa [eval_old] using I.x4
      · simpa [eval_old] using I.x6
      · simpa [eval_old] using I.x2
      · simpa [eval_old] using I.x7
      · simpa [eval_old] using I.x9
      · simpa [eval_old] using I.x10
      · intro hL; simp [n11] at hL
      · intro hL; have h := I.p1 (by simpa using hL); exact ⟨by rw [eval_old (by decide)]; exact h.1, own_under h.2 hb⟩
      · intro hL; have h := I.p2 (by simpa using hL); exact ⟨by rw [eval_old (by decide)]; exact h.1, own_under h.2 hb⟩
      · intro _; exact ⟨eval_new (hz _ (by decide)) _, own_weaker hown hbs⟩
      · intro hL; have h := I.p4 (by simpa using hL); exact ⟨by rw [eval_old (by decide)]; exact h.1, own_under h.2 hb⟩
      · intro hL; have h := I.q (by simpa using hL); rw [n13] at h; exact ⟨by rw [eval_old (by decide)]; exact h.1, h.2.1, by simpa [n13] using h.2.2.under hb⟩
    · refine o_6.run fun pos after => opD_load (b := b0) (by rw [I.agree.eval (by decide)]; exact h4) hxw ⟨A1, c1, A2, c2, A3, c3, A4, c4, b, I.agree.put (by decide) _, I.below, ?_, ?_, ?_, ?_, ?_, ?_, ?_, ?_, ?_, ?_, ?_, ?_, ?_⟩
      · simpa [eval_old] using I.x0
      · simpa [eval_old] using I.x4
      · intro _; exact eval_new (hz _ (by decide)) _
      · simpa [eval_old] using I.x2
      · simpa [eval_old] using I.x7
      · simpa [eval_old] using I.x9
      · simpa [eval_old] using I.x10
      · simpa [eval_old] using I.x11
      · simpa [eval_old] using I.p1
      · simpa [eval_old] using I.p2
      · simpa [eval_old] using I.p3
      · simpa [eval_old] using I.p4
      · simpa [eval_old] using I.q
    · refine o_7.run fun pos after => opD_move (v := .int .i64 nv) (by rw [I.agree.eval (by decide)]; exact h3) ⟨A1, c1, A2, c2, A3, c3, A4, c4, b, I.agree.put (by decide) _, I.below, ?_, ?_, ?_, ?_, ?_, ?_, ?_, ?_, ?_, ?_, ?_, ?_, ?_⟩
      · simpa [eval_old] using I.x0
      · simpa [eval_old] using I.x4
      · simpa [eval_old] using I.x6
      · simpa [eval_old] using I.x2
      · intro _; exact eval_new (hz _ (by decide)) _
      · simpa [eval_old] using I.x9
      · simpa [eval_old] using I.x10
      · simpa [eval_old] using I.x11
      · simpa [eval_old] using I.p1
      · simpa [eval_old] using I.p2
      · simpa [eval_old] using I.p3
      · simpa [eval_old] using I.p4
      · simpa [eval_old] using I.q
    · have hd := o_8.needs ho hall
      have n11 := o_11.not hclo (j := 8) (by simp) hi
      have n13 := o_13.not hclo (j := 11) (by simp) n11
      refine o_8.run fun pos after => opF_two (enters_of Try.func21 (by kernel_rfl) rfl) (I.x6 (hd 6 (by simp))) (I.x7 (hd 7 (by simp))) (k4 w I.below) ?_
      rintro e w' ⟨A', c', rfl, hown, hb⟩
      refine ⟨_, rfl, A1, c1, A2, c2, A3, c3, A', c', b, I.agree.put (by decide) _, I.below.trans (hb.mono hbs), ?_, ?_, ?_, ?_, ?_, ?_, ?_, ?_, ?_, ?_, ?_, ?_, ?_⟩
      · simpa [eval_old] using I.x0
      · simpa [eval_old] using I.x4
      · simpa [eval_old] using I.x6
      · simpa [eval_old] using I.x2
      · simpa [eval_old] using I.x7
      · simpa [eval_old] using I.x9
      · simpa [eval_old] using I.x10
      · intro hL; simp [n11] at hL
      · intro hL; have h := I.p1 (by simpa using hL); exact ⟨by rw [eval_old (by decide)]; exact h.1, own_under h.2 hb⟩
      · intro hL; have h := I.p2 (by simpa using hL); exact ⟨by rw [eval_old (by decide)]; exact h.1, own_under h.2 hb⟩
      · intro hL; have h := I.p3 (by simpa using hL); exact ⟨by rw [eval_old (by decide)]; exact h.1, own_under h.2 hb⟩
      · intro _; exact ⟨eval_new (hz _ (by decide)) _, own_weaker hown hbs⟩
      · intro hL; have h := I.q (by simpa using hL); rw [n13] at h; exact ⟨by rw [eval_old (by decide)]; exact h.1, h.2.1, by simpa [n13] using h.2.2.under hb⟩
    · refine o_9.run fun pos after => opD_load (b := b5) (by rw [I.agree.eval (by decide)]; exact h5) hxw5 ⟨A1, c1, A2, c2, A3, c3, A4, c4, b, I.agree.put (by decide) _, I.below, ?_, ?_, ?_, ?_, ?_, ?_, ?_, ?_, ?_, ?_, ?_, ?_, ?_⟩
      · simpa [eval_old] using I.x0
      · simpa [eval_old] using I.x4
      · simpa [eval_old] using I.x6
      · simpa [eval_old] using I.x2
      · simpa [eval_old] using I.x7
      · intro _; exact eval_new (hz _ (by decide)) _
      · simpa [eval_old] using I.x10
      · simpa [eval_old] using I.x11
      · simpa [eval_old] using I.p1
      · simpa [eval_old] using I.p2
      · simpa [eval_old] using I.p3
      · simpa [eval_old] using I.p4
      · simpa [eval_old] using I.q
    · refine o_10.run fun pos after => opD_load (b := b6) (by rw [I.agree.eval (by decide)]; exact h6) hxw6 ⟨A1, c1, A2, c2, A3, c3, A4, c4, b, I.agree.put (by decide) _, I.below, ?_, ?_, ?_, ?_, ?_, ?_, ?_, ?_, ?_, ?_, ?_, ?_, ?_⟩
      · simpa [eval_old] using I.x0
      · simpa [eval_old] using I.x4
      · simpa [eval_old] using I.x6
      · simpa [eval_old] using I.x2
      · simpa [eval_old] using I.x7
      · simpa [eval_old] using I.x9
      · intro _; exact eval_new (hz _ (by decide)) _
      · simpa [eval_old] using I.x11
      · simpa [eval_old] using I.p1
      · simpa [eval_old] using I.p2
      · simpa [eval_old] using I.p3
      · simpa [eval_old] using I.p4
      · simpa [eval_old] using I.q
    · have hd := o_11.needs ho hall
      have n13 := o_13.not hclo (j := 11) (by simp) hi
      refine o_11.run fun pos after => opSix_build (I.p1 (hd 1 (by simp))).1 (I.p2 (hd 3 (by simp))).1 (I.p3 (hd 5 (by simp))).1 (I.p4 (hd 8 (by simp))).1 (I.x9 (hd 9 (by simp))) (I.x10 (hd 10 (by simp))) ⟨A1, c1, A2, c2, A3, c3, A4, c4, b, I.agree.put (by decide) _, I.below, ?_, ?_, ?_, ?_, ?_, ?_, ?_, ?_, ?_, ?_, ?_, ?_, ?_⟩
      · simpa [eval_old] using I.x0
      · simpa [eval_old] using I.x4
      · simpa [eval_old] using I.x6
      · simpa [eval_old] using I.x2
      · simpa [eval_old] using I.x7
      · simpa [eval_old] using I.x9
      · simpa [eval_old] using I.x10
      · intro _; exact eval_new (hz _ (by decide)) _
      · simpa [eval_old] using I.p1
      · simpa [eval_old] using I.p2
      · simpa [eval_old] using I.p3
      · simpa [eval_old] using I.p4
      · simpa [eval_old] using I.q
    · have n13 := o_13.not hclo (j := 12) (by simp) hi
      refine o_12.run fun pos after => opSix_alloc ⟨A1, c1, A2, c2, A3, c3, A4, c4, w.heap.size, I.agree.put (by decide) _, I.below.alloc hbs _, ?_, ?_, ?_, ?_, ?_, ?_, ?_, ?_, ?_, ?_, ?_, ?_, ?_⟩
      · simpa [eval_old] using I.x0
      · simpa [eval_old] using I.x4
      · simpa [eval_old] using I.x6
      · simpa [eval_old] using I.x2
      · simpa [eval_old] using I.x7
      · simpa [eval_old] using I.x9
      · simpa [eval_old] using I.x10
      · simpa [eval_old] using I.x11
      · intro hL; have h := I.p1 (by simpa using hL); exact ⟨by rw [eval_old (by decide)]; exact h.1, h.2.alloc _⟩
      · intro hL; have h := I.p2 (by simpa using hL); exact ⟨by rw [eval_old (by decide)]; exact h.1, h.2.alloc _⟩
      · intro hL; have h := I.p3 (by simpa using hL); exact ⟨by rw [eval_old (by decide)]; exact h.1, h.2.alloc _⟩
      · intro hL; have h := I.p4 (by simpa using hL); exact ⟨by rw [eval_old (by decide)]; exact h.1, h.2.alloc _⟩
      · intro _; exact ⟨eval_new (hz _ (by decide)) _, hbs, by simpa [n13] using Whole.new w tSix sixZ⟩
    · have hd := o_13.needs ho hall
      obtain ⟨eb, gb, wb⟩ := I.q (hd 12 (by simp))
      rw [hi] at wb
      simp only [Bool.false_eq_true, if_false] at wb
      have ev := I.x11 (hd 11 (by simp))
      refine o_13.run fun pos after => opSix_store eb ev wb rfl rfl (by simp [Value.oneCell']) ⟨A1, c1, A2, c2, A3, c3, A4, c4, b, I.agree, below_setRow I.below gb _, ?_, ?_, ?_, ?_, ?_, ?_, ?_, ?_, ?_, ?_, ?_, ?_, ?_⟩
      · simpa using I.x0
      · simpa using I.x4
      · simpa using I.x6
      · simpa using I.x2
      · simpa using I.x7
      · simpa using I.x9
      · simpa using I.x10
      · simpa using I.x11
      · intro hL; have h := I.p1 (by simpa using hL); exact ⟨h.1, own_farSix h.2 wb _⟩
      · intro hL; have h := I.p2 (by simpa using hL); exact ⟨h.1, own_farSix h.2 wb _⟩
      · intro hL; have h := I.p3 (by simpa using hL); exact ⟨h.1, own_farSix h.2 wb _⟩
      · intro hL; have h := I.p4 (by simpa using hL); exact ⟨h.1, own_farSix h.2 wb _⟩
      · intro _; exact ⟨eb, gb, by simpa using wb.setRow _⟩
  · rintro L a w hall ⟨A1, c1, A2, c2, A3, c3, A4, c4, b, I⟩
    obtain ⟨e0, g0, w0⟩ := I.q (hall 12 (by omega))
    rw [if_pos (hall 13 (by omega))] at w0
    rw [I.agree.lay hds]
    exact fin _ w A1 c1 A2 c2 A3 c3 A4 c4 b e0 I.below g0 w0 (I.p1 (hall 1 (by omega))).2 (I.p2 (hall 3 (by omega))).2 (I.p3 (hall 5 (by omega))).2 (I.p4 (hall 8 (by omega))).2

end Go.Proofs.Ytekffkoggnbgeaa
