/-
  The walk of the statement 'DiskTells': it answers true, and nothing that was there turns. Conditions: none.
-/
import Derived.Test.YtekffkoggnbgeaaDiskTellsOut
import Derived.Test.YtekffkoggnbgeaaDiskSix2
import Derived.Deep.RegionHeld3
namespace Go.Proofs.Ytekffkoggnbgeaa
open Go.RowKit Go.Shelf

/-- What a disk in each array is, at each place. -/
def SixAt (W : World) (b b' k : Nat) (A : Option Addr) (c : Nat) (A' : Option Addr) (c' K : Nat) (o : List Nat) (S R : Int) : Prop :=
  (W.cell? ⟨b, k * 3, none⟩ = some (.slice A K c) ∧ W.cell? ⟨b, k * 3 + 1, none⟩ = some (.int .i64 S) ∧ W.cell? ⟨b, k * 3 + 2, none⟩ = some (.int .i64 R)) ∧
  (W.cell? ⟨b', k * 3, none⟩ = some (.slice A' K c') ∧ W.cell? ⟨b', k * 3 + 1, none⟩ = some (.int .i64 S) ∧ W.cell? ⟨b', k * 3 + 2, none⟩ = some (.int .i64 R)) ∧
  Rd W W.heap.size A K (bv o) ∧ Rd W W.heap.size A' K (bv o)

set_option maxRecDepth 100000 in
set_option maxHeartbeats 8000000 in
theorem diskTells_in (A : Option Addr) (n c : Nat) (s r : Int) (A' : Option Addr) (n' c' : Nat) (s' r' : Int) (Ab : Option Addr) (nb cb : Nat) (nv : Int) (w : World) (hn : n ≤ 400) (hn' : n' ≤ 400) (hnb : nb ≤ 300)
    (K1 : Nat) (o1 : List Nat) (S1 R1 : Int) (K2 : Nat) (o2 : List Nat) (S2 R2 : Int) (K3 : Nat) (o3 : List Nat) (S3 R3 : Int) (K4 : Nat) (o4 : List Nat) (S4 R4 : Int) (K5 : Nat) (o5 : List Nat) (S5 R5 : Int) (K6 : Nat) (o6 : List Nat) (S6 R6 : Int) (E F fv : Int) (sv : Bool)
    (hby : ∀ o ∈ [o1, o2, o3, o4, o5, o6], ∀ x ∈ o, x < 256)
    (HAp : Hid (∀ W, Below w.heap.size w W → Calls Try.prog 10 #[diskV A n c s r, .slice Ab nb cb] W (DiskNE K5 o5 S5 R5 E W)))
    (HAr : Hid (∀ W, Below w.heap.size w W → Calls Try.prog 11 #[diskV A n c s r, .slice Ab nb cb] W (DiskNE K5 o5 S5 R5 E W)))
    (HSp : Hid (∀ W, Below w.heap.size w W → Calls Try.prog 12 #[diskV A n c s r, .slice Ab nb cb] W (DiskNE K6 o6 S6 R6 F W)))
    (HSr : Hid (∀ W, Below w.heap.size w W → Calls Try.prog 13 #[diskV A n c s r, .slice Ab nb cb] W (DiskNE K6 o6 S6 R6 F W)))
    (P1 : Hid (∀ W, Below w.heap.size w W → Calls Try.prog 14 #[diskV A n c s r] W (DiskN K1 o1 S1 R1 W)))
    (P2 : Hid (∀ W, Below w.heap.size w W → Calls Try.prog 15 #[.int .i64 nv] W (DiskN K2 o2 S2 R2 W)))
    (P3 : Hid (∀ W, Below w.heap.size w W → Calls Try.prog 16 #[diskV A n c s r] W (DiskN K3 o3 S3 R3 W)))
    (P4 : Hid (∀ W, Below w.heap.size w W → Calls Try.prog 17 #[diskV A n c s r, .int .i64 nv] W (DiskN K4 o4 S4 R4 W)))
    (J1 : Hid (∀ W, Below w.heap.size w W → Calls Try.prog 18 #[diskV A n c s r] W (DiskN K1 o1 S1 R1 W)))
    (J2 : Hid (∀ W, Below w.heap.size w W → Calls Try.prog 19 #[.int .i64 nv] W (DiskN K2 o2 S2 R2 W)))
    (J3 : Hid (∀ W, Below w.heap.size w W → Calls Try.prog 20 #[diskV A n c s r] W (DiskN K3 o3 S3 R3 W)))
    (J4 : Hid (∀ W, Below w.heap.size w W → Calls Try.prog 21 #[diskV A n c s r, .int .i64 nv] W (DiskN K4 o4 S4 R4 W)))
    (HFf : Hid (∀ W, Below w.heap.size w W → Calls Try.prog 23 #[diskV A n c s r] W (fun e w' => e = .returned (.int .i64 fv) ∧ Below W.heap.size W w')))
    (HFs : Hid (∀ W, Below w.heap.size w W → Calls Try.prog 25 #[diskV A n c s r, diskV A' n' c' s' r'] W (fun e w' => e = .returned (.bool sv) ∧ Below W.heap.size W w')))
    (HGf : Hid (∀ W, Below w.heap.size w W → Calls Try.prog 24 #[diskV A n c s r] W (fun e w' => e = .returned (.int .i64 fv) ∧ Below W.heap.size W w')))
    (HGs : Hid (∀ W, Below w.heap.size w W → Calls Try.prog 26 #[diskV A n c s r, diskV A' n' c' s' r'] W (fun e w' => e = .returned (.bool sv) ∧ Below W.heap.size W w'))) :
    Calls Try.prog 3 #[diskV A n c s r, diskV A' n' c' s' r', .slice Ab nb cb, .int .i64 nv] w (TruePost w) := by
  have HBY := Lib.hid hby
  have HG1 := Lib.hid (fun W => greatD_any A n c s r W (b := false) (by simpa using hn))
  have HG2 := Lib.hid (fun W => greatD_any A' n' c' s' r' W (b := false) (by simpa using hn'))
  have d3 : decide ((300 : Int) < (nb : Int)) = false := by simp; omega
  have d3' : ¬ (300 : Int) < (nb : Int) := by omega
  obtain ⟨W2, hW2⟩ : ∃ W2, (((w.alloc (diskB A n c s r)).alloc (diskB A' n' c' s' r')).alloc (diskB A n c s r)).alloc (diskB A' n' c' s' r') = W2 := ⟨_, rfl⟩
  have B2 : Hid (Below w.heap.size w W2) := by rw [← hW2]; exact ((((Below.refl w.heap.size w).alloc (Nat.le_refl _) (diskB A n c s r)).alloc (by simp) (diskB A' n' c' s' r')).alloc (by simp; omega) (diskB A n c s r)).alloc (by simp; omega) (diskB A' n' c' s' r')
  have X2 : Hid (Whole W2 w.heap.size 24 #[.slice A n c, .int .i64 s, .int .i64 r]) := by rw [← hW2]; exact (((Whole.new w 24 #[.slice A n c, .int .i64 s, .int .i64 r]).alloc (diskB A' n' c' s' r')).alloc (diskB A n c s r)).alloc (diskB A' n' c' s' r')
  have O2 : Hid (Whole W2 (w.heap.size + 1) 24 #[.slice A' n' c', .int .i64 s', .int .i64 r']) := by rw [← hW2]; exact ((by have := Whole.new (w.alloc (diskB A n c s r)) 24 #[.slice A' n' c', .int .i64 s', .int .i64 r']; simpa using this : Whole ((w.alloc (diskB A n c s r)).alloc (diskB A' n' c' s' r')) (w.heap.size + 1) 24 #[.slice A' n' c', .int .i64 s', .int .i64 r']).alloc (diskB A n c s r)).alloc (diskB A' n' c' s' r')
  have HW2 := Lib.hid hW2
  clear hn hn' hnb hby hW2
  go_enter Try.func3, Try.ntmps3
  go_wp2_with fail
  refine (HG1.out _).mono ?_
  rintro e w1 ⟨rfl, rfl⟩
  go_wp2_with fail
  refine (HG2.out _).mono ?_
  rintro e w2 ⟨rfl, rfl⟩
  rw [HW2.out]
  clear HW2 HG1 HG2
  obtain ⟨x0, x1, x2⟩ := X2.out.cells3
  go_wp2_with fail
  refine (HAp.out _ B2.out).mono ?_
  rintro e w3 ⟨A3', c3', rfl, o3', b3⟩
  have b3' := b3.alloc b3.size (diskB A3' K5 c3' S5 R5)
  obtain ⟨W3, hW3⟩ : ∃ W, w3.alloc (diskB A3' K5 c3' S5 R5) = W := ⟨_, rfl⟩
  have B3 : Hid (Below w.heap.size w W3) := by rw [← hW3]; exact B2.out.trans (b3'.mono B2.out.size)
  have X3 : Hid (Whole W3 w.heap.size 24 #[.slice A n c, .int .i64 s, .int .i64 r]) := by rw [← hW3]; exact X2.out.under b3'
  have O3 : Hid (Whole W3 (w.heap.size + 1) 24 #[.slice A' n' c', .int .i64 s', .int .i64 r']) := by rw [← hW3]; exact O2.out.under b3'
  have Q3_3 : Hid (Whole W3 w3.heap.size 24 #[.slice A3' K5 c3', .int .i64 S5, .int .i64 R5]) := by rw [← hW3]; exact Whole.new w3 _ _
  have T3_3 : Hid (Rd W3 W3.heap.size A3' K5 (bv o5)) := by rw [← hW3]; exact (Rd.of_own o3').up (diskB A3' K5 c3' S5 R5)
  clear x0 x1 x2 o3' b3 b3' B2 X2 O2 HAp
  obtain ⟨x0, x1, x2⟩ := X3.out.cells3
  go_wp2_with fail
  clear hW3
  refine (HAr.out _ B3.out).mono ?_
  rintro e w4 ⟨A4', c4', rfl, o4', b4⟩
  have b4' := b4.alloc b4.size (diskB A4' K5 c4' S5 R5)
  obtain ⟨W4, hW4⟩ : ∃ W, w4.alloc (diskB A4' K5 c4' S5 R5) = W := ⟨_, rfl⟩
  have B4 : Hid (Below w.heap.size w W4) := by rw [← hW4]; exact B3.out.trans (b4'.mono B3.out.size)
  have X4 : Hid (Whole W4 w.heap.size 24 #[.slice A n c, .int .i64 s, .int .i64 r]) := by rw [← hW4]; exact X3.out.under b4'
  have O4 : Hid (Whole W4 (w.heap.size + 1) 24 #[.slice A' n' c', .int .i64 s', .int .i64 r']) := by rw [← hW4]; exact O3.out.under b4'
  have Q3_4 : Hid (Whole W4 w3.heap.size 24 #[.slice A3' K5 c3', .int .i64 S5, .int .i64 R5]) := by rw [← hW4]; exact Q3_3.out.under b4'
  have T3_4 : Hid (Rd W4 W4.heap.size A3' K5 (bv o5)) := by rw [← hW4]; exact (T3_3.out.below b4').more b4'.size
  clear Q3_3 T3_3
  have Q4_4 : Hid (Whole W4 w4.heap.size 24 #[.slice A4' K5 c4', .int .i64 S5, .int .i64 R5]) := by rw [← hW4]; exact Whole.new w4 _ _
  have T4_4 : Hid (Rd W4 W4.heap.size A4' K5 (bv o5)) := by rw [← hW4]; exact (Rd.of_own o4').up (diskB A4' K5 c4' S5 R5)
  clear x0 x1 x2 o4' b4 b4' B3 X3 O3 HAr
  obtain ⟨x0, x1, x2⟩ := X4.out.cells3
  go_wp2_with fail
  clear hW4
  refine (HSp.out _ B4.out).mono ?_
  rintro e w5 ⟨A5', c5', rfl, o5', b5⟩
  have b5' := b5.alloc b5.size (diskB A5' K6 c5' S6 R6)
  obtain ⟨W5, hW5⟩ : ∃ W, w5.alloc (diskB A5' K6 c5' S6 R6) = W := ⟨_, rfl⟩
  have B5 : Hid (Below w.heap.size w W5) := by rw [← hW5]; exact B4.out.trans (b5'.mono B4.out.size)
  have X5 : Hid (Whole W5 w.heap.size 24 #[.slice A n c, .int .i64 s, .int .i64 r]) := by rw [← hW5]; exact X4.out.under b5'
  have O5 : Hid (Whole W5 (w.heap.size + 1) 24 #[.slice A' n' c', .int .i64 s', .int .i64 r']) := by rw [← hW5]; exact O4.out.under b5'
  have Q3_5 : Hid (Whole W5 w3.heap.size 24 #[.slice A3' K5 c3', .int .i64 S5, .int .i64 R5]) := by rw [← hW5]; exact Q3_4.out.under b5'
  have T3_5 : Hid (Rd W5 W5.heap.size A3' K5 (bv o5)) := by rw [← hW5]; exact (T3_4.out.below b5').more b5'.size
  clear Q3_4 T3_4
  have Q4_5 : Hid (Whole W5 w4.heap.size 24 #[.slice A4' K5 c4', .int .i64 S5, .int .i64 R5]) := by rw [← hW5]; exact Q4_4.out.under b5'
  have T4_5 : Hid (Rd W5 W5.heap.size A4' K5 (bv o5)) := by rw [← hW5]; exact (T4_4.out.below b5').more b5'.size
  clear Q4_4 T4_4
  have Q5_5 : Hid (Whole W5 w5.heap.size 24 #[.slice A5' K6 c5', .int .i64 S6, .int .i64 R6]) := by rw [← hW5]; exact Whole.new w5 _ _
  have T5_5 : Hid (Rd W5 W5.heap.size A5' K6 (bv o6)) := by rw [← hW5]; exact (Rd.of_own o5').up (diskB A5' K6 c5' S6 R6)
  clear x0 x1 x2 o5' b5 b5' B4 X4 O4 HSp
  obtain ⟨x0, x1, x2⟩ := X5.out.cells3
  go_wp2_with fail
  clear hW5
  refine (HSr.out _ B5.out).mono ?_
  rintro e w6 ⟨A6', c6', rfl, o6', b6⟩
  have b6' := b6.alloc b6.size (diskB A6' K6 c6' S6 R6)
  obtain ⟨W6, hW6⟩ : ∃ W, w6.alloc (diskB A6' K6 c6' S6 R6) = W := ⟨_, rfl⟩
  have B6 : Hid (Below w.heap.size w W6) := by rw [← hW6]; exact B5.out.trans (b6'.mono B5.out.size)
  have X6 : Hid (Whole W6 w.heap.size 24 #[.slice A n c, .int .i64 s, .int .i64 r]) := by rw [← hW6]; exact X5.out.under b6'
  have O6 : Hid (Whole W6 (w.heap.size + 1) 24 #[.slice A' n' c', .int .i64 s', .int .i64 r']) := by rw [← hW6]; exact O5.out.under b6'
  have Q3_6 : Hid (Whole W6 w3.heap.size 24 #[.slice A3' K5 c3', .int .i64 S5, .int .i64 R5]) := by rw [← hW6]; exact Q3_5.out.under b6'
  have T3_6 : Hid (Rd W6 W6.heap.size A3' K5 (bv o5)) := by rw [← hW6]; exact (T3_5.out.below b6').more b6'.size
  clear Q3_5 T3_5
  have Q4_6 : Hid (Whole W6 w4.heap.size 24 #[.slice A4' K5 c4', .int .i64 S5, .int .i64 R5]) := by rw [← hW6]; exact Q4_5.out.under b6'
  have T4_6 : Hid (Rd W6 W6.heap.size A4' K5 (bv o5)) := by rw [← hW6]; exact (T4_5.out.below b6').more b6'.size
  clear Q4_5 T4_5
  have Q5_6 : Hid (Whole W6 w5.heap.size 24 #[.slice A5' K6 c5', .int .i64 S6, .int .i64 R6]) := by rw [← hW6]; exact Q5_5.out.under b6'
  have T5_6 : Hid (Rd W6 W6.heap.size A5' K6 (bv o6)) := by rw [← hW6]; exact (T5_5.out.below b6').more b6'.size
  clear Q5_5 T5_5
  have Q6_6 : Hid (Whole W6 w6.heap.size 24 #[.slice A6' K6 c6', .int .i64 S6, .int .i64 R6]) := by rw [← hW6]; exact Whole.new w6 _ _
  have T6_6 : Hid (Rd W6 W6.heap.size A6' K6 (bv o6)) := by rw [← hW6]; exact (Rd.of_own o6').up (diskB A6' K6 c6' S6 R6)
  clear x0 x1 x2 o6' b6 b6' B5 X5 O5 HSr
  obtain ⟨x0, x1, x2⟩ := X6.out.cells3
  have e3 := (Q3_6.out.cells3)
  have e5 := (Q5_6.out.cells3)
  clear e3 e5
  go_wp2_with fail
  clear hW6 x0 x1 x2
  refine sev_region rfl (by kernel_rfl) ⟨_, rfl, rfl, rfl, rfl, rfl, by kernel_rfl⟩ ⟨_, rfl, rfl, rfl, rfl, rfl, by kernel_rfl⟩ ⟨_, rfl, rfl, rfl, rfl, rfl, by kernel_rfl⟩ ⟨_, rfl, rfl, rfl, rfl, rfl, by kernel_rfl⟩ ⟨_, rfl, rfl, rfl, rfl, rfl, by kernel_rfl⟩ ⟨_, rfl, rfl, rfl, rfl, rfl, by kernel_rfl⟩ ⟨_, rfl, rfl, rfl, rfl, rfl, by kernel_rfl⟩ ⟨_, rfl, rfl, rfl, rfl, rfl, by kernel_rfl⟩ ⟨_, rfl, rfl, rfl, rfl, rfl, by kernel_rfl⟩ ⟨_, rfl, rfl, rfl, rfl, rfl, by kernel_rfl⟩ ⟨_, rfl, rfl, rfl, rfl, rfl, by kernel_rfl⟩ ⟨_, rfl, rfl, rfl, rfl, rfl, by kernel_rfl⟩ ⟨_, rfl, rfl, rfl, rfl, rfl, by kernel_rfl⟩ ⟨_, rfl, rfl, rfl, rfl, rfl, by kernel_rfl⟩ _ ?_ _ w.heap.size w3.heap.size w5.heap.size A n c s r nv K1 o1 S1 R1 K2 o2 S2 R2 K3 o3 S3 R3 K4 o4 S4 R4 A3' K5 c3' S5 R5 A5' K6 c5' S6 R6 rfl rfl rfl rfl X6.out Q3_6.out Q5_6.out (fun W hW => P1.out W (B6.out.trans (hW.mono B6.out.size))) (fun W hW => P2.out W (B6.out.trans (hW.mono B6.out.size))) (fun W hW => P3.out W (B6.out.trans (hW.mono B6.out.size))) (fun W hW => P4.out W (B6.out.trans (hW.mono B6.out.size))) ?_
  · intro d hd
    simp only [List.mem_cons, List.not_mem_nil, or_false] at hd
    rcases hd with rfl | rfl | rfl | rfl | rfl | rfl | rfl | rfl | rfl | rfl | rfl | rfl | rfl <;> simp
  intro σ W7 A1 c1 A2 c2 A3 c3 A4 c4 b7 s17 hb7 gb7 Y7 q1 q2 q3 q4
  simp only [lay, List.foldl_cons, List.foldl_nil, Act.put, List.setIfInBounds_toArray, List.set_cons_zero, List.set_cons_succ, s17]
  have B7 := Lib.hid (B6.out.trans (hb7.mono B6.out.size))
  have X7 := Lib.hid (X6.out.under hb7)
  have O7 := Lib.hid (O6.out.under hb7)
  have T3_7 := Lib.hid ((T3_6.out.below hb7).more hb7.size)
  have Q4_7 := Lib.hid (Q4_6.out.under hb7)
  have T4_7 := Lib.hid ((T4_6.out.below hb7).more hb7.size)
  have T5_7 := Lib.hid ((T5_6.out.below hb7).more hb7.size)
  have Q6_7 := Lib.hid (Q6_6.out.under hb7)
  have T6_7 := Lib.hid ((T6_6.out.below hb7).more hb7.size)
  have U1_7 := Lib.hid (Rd.of_own q1)
  have U2_7 := Lib.hid (Rd.of_own q2)
  have U3_7 := Lib.hid (Rd.of_own q3)
  have U4_7 := Lib.hid (Rd.of_own q4)
  have Y7h := Lib.hid Y7
  clear s17 hb7 gb7 Y7 q1 q2 q3 q4 B6 X6 O6 Q3_6 Q4_6 Q5_6 Q6_6 T3_6 T4_6 T5_6 T6_6 P1 P2 P3 P4
  go_wp2_with fail
  refine eig_region rfl (by kernel_rfl) ⟨_, rfl, rfl, rfl, rfl, rfl, by kernel_rfl⟩ ⟨_, rfl, rfl, rfl, rfl, rfl, by kernel_rfl⟩ ⟨_, rfl, rfl, rfl, rfl, rfl, by kernel_rfl⟩ ⟨_, rfl, rfl, rfl, rfl, rfl, by kernel_rfl⟩ ⟨_, rfl, rfl, rfl, rfl, rfl, by kernel_rfl⟩ ⟨_, rfl, rfl, rfl, rfl, rfl, by kernel_rfl⟩ ⟨_, rfl, rfl, rfl, rfl, rfl, by kernel_rfl⟩ ⟨_, rfl, rfl, rfl, rfl, rfl, by kernel_rfl⟩ ⟨_, rfl, rfl, rfl, rfl, rfl, by kernel_rfl⟩ ⟨_, rfl, rfl, rfl, rfl, rfl, by kernel_rfl⟩ ⟨_, rfl, rfl, rfl, rfl, rfl, by kernel_rfl⟩ ⟨_, rfl, rfl, rfl, rfl, rfl, by kernel_rfl⟩ ⟨_, rfl, rfl, rfl, rfl, rfl, by kernel_rfl⟩ ⟨_, rfl, rfl, rfl, rfl, rfl, by kernel_rfl⟩ _ ?_ _ w.heap.size w4.heap.size w6.heap.size A n c s r nv K1 o1 S1 R1 K2 o2 S2 R2 K3 o3 S3 R3 K4 o4 S4 R4 A4' K5 c4' S5 R5 A6' K6 c6' S6 R6 rfl rfl rfl rfl X7.out Q4_7.out Q6_7.out (fun W hW => J1.out W (B7.out.trans (hW.mono B7.out.size))) (fun W hW => J2.out W (B7.out.trans (hW.mono B7.out.size))) (fun W hW => J3.out W (B7.out.trans (hW.mono B7.out.size))) (fun W hW => J4.out W (B7.out.trans (hW.mono B7.out.size))) ?_
  · intro d hd
    simp only [List.mem_cons, List.not_mem_nil, or_false] at hd
    rcases hd with rfl | rfl | rfl | rfl | rfl | rfl | rfl | rfl | rfl | rfl | rfl | rfl | rfl <;> simp
  intro τ W8 A1q c1q A2q c2q A3q c3q A4q c4q b8 s18 hb8 gb8 Y8 q1 q2 q3 q4
  simp only [lay, List.foldl_cons, List.foldl_nil, Act.put, List.setIfInBounds_toArray, List.set_cons_zero, List.set_cons_succ, s18]
  have B8 := Lib.hid (B7.out.trans (hb8.mono B7.out.size))
  have X8 := Lib.hid (X7.out.under hb8)
  have O8 := Lib.hid (O7.out.under hb8)
  have Y7q := Lib.hid (Y7h.out.under hb8)
  have Y8h := Lib.hid Y8
  have T3_8 := Lib.hid ((T3_7.out.below hb8).more hb8.size)
  have T4_8 := Lib.hid ((T4_7.out.below hb8).more hb8.size)
  have T5_8 := Lib.hid ((T5_7.out.below hb8).more hb8.size)
  have T6_8 := Lib.hid ((T6_7.out.below hb8).more hb8.size)
  have U1_8 := Lib.hid ((U1_7.out.below hb8).more hb8.size)
  have V1_8 := Lib.hid (Rd.of_own q1)
  have U2_8 := Lib.hid ((U2_7.out.below hb8).more hb8.size)
  have V2_8 := Lib.hid (Rd.of_own q2)
  have U3_8 := Lib.hid ((U3_7.out.below hb8).more hb8.size)
  have V3_8 := Lib.hid (Rd.of_own q3)
  have U4_8 := Lib.hid ((U4_7.out.below hb8).more hb8.size)
  have V4_8 := Lib.hid (Rd.of_own q4)
  have HK : Hid (∀ k, k < 6 → ∃ A1 c1 A2 c2 K o S R, (∀ x ∈ o, x < 256) ∧ ∀ W, Below W8.heap.size W8 W → SixAt W b7 b8 k A1 c1 A2 c2 K o S R) := by
    intro k hk
    have hb := HBY.out
    rcases (by omega : k = 0 ∨ k = 1 ∨ k = 2 ∨ k = 3 ∨ k = 4 ∨ k = 5) with rfl | rfl | rfl | rfl | rfl | rfl
    · refine ⟨A1, c1, A1q, c1q, K1, o1, S1, R1, hb _ (by simp), fun W hW => ⟨⟨((Y7q.out.under hW).cell _).trans rfl, ((Y7q.out.under hW).cell _).trans rfl, ((Y7q.out.under hW).cell _).trans rfl⟩, ⟨((Y8h.out.under hW).cell _).trans rfl, ((Y8h.out.under hW).cell _).trans rfl, ((Y8h.out.under hW).cell _).trans rfl⟩, (U1_8.out.below hW).more hW.size, (V1_8.out.below hW).more hW.size⟩⟩
    · refine ⟨A2, c2, A2q, c2q, K2, o2, S2, R2, hb _ (by simp), fun W hW => ⟨⟨((Y7q.out.under hW).cell _).trans rfl, ((Y7q.out.under hW).cell _).trans rfl, ((Y7q.out.under hW).cell _).trans rfl⟩, ⟨((Y8h.out.under hW).cell _).trans rfl, ((Y8h.out.under hW).cell _).trans rfl, ((Y8h.out.under hW).cell _).trans rfl⟩, (U2_8.out.below hW).more hW.size, (V2_8.out.below hW).more hW.size⟩⟩
    · refine ⟨A3, c3, A3q, c3q, K3, o3, S3, R3, hb _ (by simp), fun W hW => ⟨⟨((Y7q.out.under hW).cell _).trans rfl, ((Y7q.out.under hW).cell _).trans rfl, ((Y7q.out.under hW).cell _).trans rfl⟩, ⟨((Y8h.out.under hW).cell _).trans rfl, ((Y8h.out.under hW).cell _).trans rfl, ((Y8h.out.under hW).cell _).trans rfl⟩, (U3_8.out.below hW).more hW.size, (V3_8.out.below hW).more hW.size⟩⟩
    · refine ⟨A4, c4, A4q, c4q, K4, o4, S4, R4, hb _ (by simp), fun W hW => ⟨⟨((Y7q.out.under hW).cell _).trans rfl, ((Y7q.out.under hW).cell _).trans rfl, ((Y7q.out.under hW).cell _).trans rfl⟩, ⟨((Y8h.out.under hW).cell _).trans rfl, ((Y8h.out.under hW).cell _).trans rfl, ((Y8h.out.under hW).cell _).trans rfl⟩, (U4_8.out.below hW).more hW.size, (V4_8.out.below hW).more hW.size⟩⟩
    · refine ⟨A3', c3', A4', c4', K5, o5, S5, R5, hb _ (by simp), fun W hW => ⟨⟨((Y7q.out.under hW).cell _).trans rfl, ((Y7q.out.under hW).cell _).trans rfl, ((Y7q.out.under hW).cell _).trans rfl⟩, ⟨((Y8h.out.under hW).cell _).trans rfl, ((Y8h.out.under hW).cell _).trans rfl, ((Y8h.out.under hW).cell _).trans rfl⟩, (T3_8.out.below hW).more hW.size, (T4_8.out.below hW).more hW.size⟩⟩
    · refine ⟨A5', c5', A6', c6', K6, o6, S6, R6, hb _ (by simp), fun W hW => ⟨⟨((Y7q.out.under hW).cell _).trans rfl, ((Y7q.out.under hW).cell _).trans rfl, ((Y7q.out.under hW).cell _).trans rfl⟩, ⟨((Y8h.out.under hW).cell _).trans rfl, ((Y8h.out.under hW).cell _).trans rfl, ((Y8h.out.under hW).cell _).trans rfl⟩, (T5_8.out.below hW).more hW.size, (T6_8.out.below hW).more hW.size⟩⟩
  clear s18 hb8 gb8 Y8 q1 q2 q3 q4 B7 X7 O7 Q4_7 Q6_7 T3_7 T4_7 T5_7 T6_7 T3_8 T4_8 T5_8 T6_8 U1_7 U2_7 U3_7 U4_7 U1_8 U2_8 U3_8 U4_8 V1_8 V2_8 V3_8 V4_8 Y7h Y7q Y8h J1 J2 J3 J4 HBY
  go_wp2_with fail
  go_loopw [19] (fun i wr => ∃ k : Nat, i = .int .i64 (k : Int) ∧ k ≤ 6 ∧ Below W8.heap.size W8 wr) (fun i _ => 6 - (intOf i).toNat)
  case atStart => exact ⟨0, rfl, Nat.zero_le _, Below.refl _ _⟩
  case round =>
    obtain ⟨k, rfl, hk, hRt⟩ := hrel
    by_cases hlt : k < 6
    · have hI : (k : Int) < 6 := by omega
      have hI0 : (0 : Int) ≤ (k : Int) := by omega
      obtain ⟨P1, e1, P2, e2, K, o, S, R, hob, hat⟩ := HK.out k hlt
      have HAT := Lib.hid hat
      have HOB := Lib.hid hob
      have HC := Lib.hid hRt.drew
      have HR := Lib.hid hRt
      have HS : Hid (∀ W, Below W8.heap.size W8 W → Calls Try.prog 22 #[.slice P1 K e1, .slice P2 K e2] W fun e w' => e = .returned (.bool true) ∧ w' = W) := fun W hW => by
        obtain ⟨_, _, g1, g2⟩ := hat W hW
        have h1 := same_bytes P1 P2 K e1 K e2 o o W.heap.size W.heap.size W g1 g2 hob hob
        rwa [show decide (o = o) = true by simp] at h1
      obtain ⟨⟨l0, l1, l2⟩, ⟨m0, m1, m2⟩, -, -⟩ := HAT.out _ HC.out
      clear hat hob hRt hk HOB HAT
      go_wp2_with fail
      go_region_held3 (fun W => W.cell? ⟨b7, k * 3, none⟩ = some (.slice P1 K e1) ∧ W.cell? ⟨b7, k * 3 + 1, none⟩ = some (.int .i64 S) ∧ W.cell? ⟨b7, k * 3 + 2, none⟩ = some (.int .i64 R) ∧ W.cell? ⟨b8, k * 3, none⟩ = some (.slice P2 K e2) ∧ W.cell? ⟨b8, k * 3 + 1, none⟩ = some (.int .i64 S) ∧ W.cell? ⟨b8, k * 3 + 2, none⟩ = some (.int .i64 R)) (go_keep)
        (first | (go_at_call 22; ((with_reducible refine (HS.out _ HC.out).mono ?_); rintro e w9 ⟨rfl, rfl⟩)))
      rename_i hHeld
      clear hHeld l0 l1 l2 m0 m1 m2 HS
      go_wp2_with fail
      go_roundw
      case rel => exact ⟨k + 1, by go_num, by omega, HC.out⟩
      case measure => simp [intOf]; omega
    · obtain rfl : k = 6 := by omega
      have BW := Lib.hid (B8.out.trans (hRt.mono B8.out.size))
      have XW := Lib.hid (X8.out.under hRt)
      have OW := Lib.hid (O8.out.under hRt)
      clear hRt hk hlt HK B8 X8 O8
      have HL : Hid (∀ W, Below wr.heap.size wr W → Below w.heap.size w W ∧ W.cell? ⟨w.heap.size, 0, none⟩ = some (.slice A n c) ∧ W.cell? ⟨w.heap.size, 1, none⟩ = some (.int .i64 s) ∧ W.cell? ⟨w.heap.size, 2, none⟩ = some (.int .i64 r) ∧
          W.cell? ⟨w.heap.size + 1, 0, none⟩ = some (.slice A' n' c') ∧ W.cell? ⟨w.heap.size + 1, 1, none⟩ = some (.int .i64 s') ∧ W.cell? ⟨w.heap.size + 1, 2, none⟩ = some (.int .i64 r')) := fun W hW => by
        have g1 := (XW.out.under hW).cells3
        have g2 := (OW.out.under hW).cells3
        exact ⟨BW.out.trans (hW.mono BW.out.size), g1.1, g1.2.1, g1.2.2, g2.1, g2.2.1, g2.2.2⟩
      have HC := Lib.hid ((Below.refl wr.heap.size wr).drew)
      go_wp2_with fail
      obtain ⟨L0, L1, L2, L3, L4, L5, L6⟩ := HL.out _ HC.out
      go_region_held3 (fun W => W.cell? ⟨w.heap.size, 0, none⟩ = some (.slice A n c) ∧ W.cell? ⟨w.heap.size, 1, none⟩ = some (.int .i64 s) ∧ W.cell? ⟨w.heap.size, 2, none⟩ = some (.int .i64 r) ∧
          W.cell? ⟨w.heap.size + 1, 0, none⟩ = some (.slice A' n' c') ∧ W.cell? ⟨w.heap.size + 1, 1, none⟩ = some (.int .i64 s') ∧ W.cell? ⟨w.heap.size + 1, 2, none⟩ = some (.int .i64 r')) (go_keep)
        (first | (go_at_call 23; ((with_reducible refine (HFf.out _ (HL.out _ HC.out).1).mono ?_); rintro e w9 ⟨rfl, b9⟩); have HC2 := Lib.hid (HC.out.trans (b9.mono HC.out.size)); clear HC b9 L0 L1 L2 L3 L4 L5 L6; have HC := HC2; clear HC2; obtain ⟨L0, L1, L2, L3, L4, L5, L6⟩ := HL.out _ HC.out) | (go_at_call 24; ((with_reducible refine (HGf.out _ (HL.out _ HC.out).1).mono ?_); rintro e w9 ⟨rfl, b9⟩); have HC2 := Lib.hid (HC.out.trans (b9.mono HC.out.size)); clear HC b9 L0 L1 L2 L3 L4 L5 L6; have HC := HC2; clear HC2; obtain ⟨L0, L1, L2, L3, L4, L5, L6⟩ := HL.out _ HC.out) | (go_at_call 25; ((with_reducible refine (HFs.out _ (HL.out _ HC.out).1).mono ?_); rintro e w9 ⟨rfl, b9⟩); have HC2 := Lib.hid (HC.out.trans (b9.mono HC.out.size)); clear HC b9 L0 L1 L2 L3 L4 L5 L6; have HC := HC2; clear HC2; obtain ⟨L0, L1, L2, L3, L4, L5, L6⟩ := HL.out _ HC.out) | (go_at_call 26; ((with_reducible refine (HGs.out _ (HL.out _ HC.out).1).mono ?_); rintro e w9 ⟨rfl, b9⟩); have HC2 := Lib.hid (HC.out.trans (b9.mono HC.out.size)); clear HC b9 L0 L1 L2 L3 L4 L5 L6; have HC := HC2; clear HC2; obtain ⟨L0, L1, L2, L3, L4, L5, L6⟩ := HL.out _ HC.out) | (go_at_call 9; ((with_reducible refine (wakesD_any _).mono ?_); rintro e w9 ⟨rfl, b9⟩); have HC2 := Lib.hid (HC.out.trans (b9.mono HC.out.size)); clear HC b9 L0 L1 L2 L3 L4 L5 L6; have HC := HC2; clear HC2; obtain ⟨L0, L1, L2, L3, L4, L5, L6⟩ := HL.out _ HC.out))
      all_goals (rename_i hHeld; have BF := Lib.hid (HL.out _ HC.out).1; clear hHeld L0 L1 L2 L3 L4 L5 L6 HC HL; go_wp2_with fail; go_ret; exact ⟨rfl, BF.out⟩)

end Go.Proofs.Ytekffkoggnbgeaa
