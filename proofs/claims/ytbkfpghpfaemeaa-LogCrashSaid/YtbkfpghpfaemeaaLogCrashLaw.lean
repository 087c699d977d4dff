/-
  The walk of the statement 'LogCrash': it answers true, and nothing that was there turns. Conditions: none.
-/
import Derived.Test.YtbkfpghpfaemeaaJ2
import Derived.Test.YtbkfpghpfaemeaaJ10

/-
  Openers: a number of 32 bits, a slice of records with its capacity told. Conditions: those that each theorem names.
-/
namespace Go.Proofs.Ytbkfpghpfaemeaa
open Go.RowKit Go.Shelf Go.ChangeShapes Go.WideShapes Go.Deep Go.Joins

section
variable {H : Type} {enc : TypeId × Value → H} {W : World} {base : Nat} {held : Bool} {d : DataW H} {p : List MemPlace} {v : Value}
set_option maxRecDepth 100000 in
theorem open_u32V (hv : Value.okWide Try.prog W .any base 40 v) (h : DataW.Trod enc Try.prog W 0 (fun _ => true) held 40 v d p) : ∃ z : Int, v = .int .u32 z := by
  obtain ⟨z, rfl, _⟩ := open_int Try.underlying40 hv h
  exact ⟨z, rfl⟩
set_option maxRecDepth 100000 in
theorem open_recsC (hv : Value.okWide Try.prog W .any base 25 v) (h : DataW.Trod enc Try.prog W 0 (fun _ => true) held 25 v d p) :
    ∃ A n c l, v = .slice A n c ∧ RdR W W.heap.size A n l ∧ n ≤ c := by
  obtain ⟨A, n, c, l, rfl, hr, _⟩ := open_recsV hv h
  refine ⟨A, n, c, l, rfl, hr, ?_⟩
  obtain ⟨fuel, hf⟩ := h
  rcases open_slice Try.underlying25 hf with ⟨hcs, _⟩ | ⟨a, len, cap, m, n', D, Pl, hcs, _, hl, hm, hmm, _, hi⟩
  · simp [Value.cells] at hcs
    omega
  · simp [Value.cells] at hcs
    obtain ⟨_, rfl, rfl⟩ := hcs
    have hmc : m = c := by simpa using hmm
    omega
end

end Go.Proofs.Ytbkfpghpfaemeaa

/-
  The region of the statement LogCrash that adds a record to a disk: whatever the order. Conditions: those that each theorem names.
-/
namespace Go.Proofs.Ytbkfpghpfaemeaa
open Go.RowKit Go.Shelf

section
variable {m : Nat} {K : Act → World → Prop} {Q : Exit → Act → World → Prop} {a : Act} {w : World} {dst : Option Tmp} {x y : Operand} {o : Oper}
theorem opG_atRec {b off n c j : Nat} (h1 : o.dst = dst) (h2 : o.op = .indexAddr 25 x y) (hx : a.eval x = .slice (some ⟨b, off, none⟩) n c) (hy : a.eval y = .int .i64 (j : Int)) (hj : j < n) (h : K (a.put dst (.pointer (some ⟨b, off + j * 2, none⟩))) w) : o.wpIn Fence.wide m Try.prog a w K Q := by
  subst h1
  have hji : (j : Int) < (n : Int) := by omega
  refine opG_of o (fun _ _ => trivial) (by intro c; simp [h2]) ?_ h
  unfold execOp
  simp only [h2, hx, hy]
  go_simp
theorem opG_loadRecAt {b off k n c : Nat} {A : Option Addr} (h1 : o.dst = dst) (h2 : o.op = .load 43 x) (hx : a.eval x = .pointer (some ⟨b, off, none⟩)) (hc : w.cell? ⟨b, off, none⟩ = some (.int .u8 (k : Int))) (hc1 : w.cell? ⟨b, off + 1, none⟩ = some (.slice A n c)) (h : K (a.put dst (.agg #[.int .u8 (k : Int), .slice A n c])) w) : o.wpIn Fence.wide m Try.prog a w K Q := by
  subst h1
  refine opG_of o (fun _ _ => trivial) (by intro c; simp [h2]) ?_ h
  unfold execOp
  simp only [h2, hx]
  go_simp
theorem opG_lit1Rec {k n c : Nat} {A : Option Addr} (h1 : o.dst = dst) (h2 : o.op = .buildSlice 25 1 #[(0, x)]) (hx : a.eval x = .agg #[.int .u8 (k : Int), .slice A n c]) (h : K (a.put dst (.slice (some ⟨w.heap.size, 0, none⟩) 1 1)) (w.alloc (.cells #[.int .u8 (k : Int), .slice A n c] 43))) : o.wpIn Fence.wide m Try.prog a w K Q := by
  subst h1
  refine opG_of o (fun _ _ => trivial) (by intro c; simp [h2]) (w' := w.alloc (.cells #[.int .u8 (k : Int), .slice A n c] 43)) ?_ h
  unfold execOp
  simp only [h2, hx, List.map_toArray, List.map_cons, List.map_nil]
  go_simp
theorem opG_allocDisk (h1 : o.dst = dst) (h2 : o.op = .alloc 24) (h : K (a.put dst (.pointer (some ⟨w.heap.size, 0, none⟩))) (w.alloc zeroB)) : o.wpIn Fence.wide m Try.prog a w K Q := by
  subst h1
  refine opG_of o (fun _ _ => trivial) (by intro c; simp [h2]) (w' := w.alloc zeroB) ?_ h
  unfold execOp
  simp only [h2]
  go_simp
theorem opG_assign {v : Value} (h1 : o.dst = dst) (h2 : o.op = .assign x) (hx : a.eval x = v) (h : K (a.put dst v) w) : o.wpIn Fence.wide m Try.prog a w K Q := by
  subst h1
  refine opG_of o (fun _ _ => trivial) (by intro c; simp [h2]) ?_ h
  unfold execOp
  simp only [h2, hx]
  go_simp
end

abbrev crDs : List Nat := [12, 13, 43, 44, 45, 46, 47, 48, 49, 50, 51, 52]

/-- What holds behind any operations of the region that have come up. -/
structure CRI (a0 : Act) (W0 : World) (b9 : Nat) (A : Option Addr) (n c : Nat) (s r : Int) (bl off nl cl j : Nat) (x : RE) (n2 : Nat) (q : List Nat) (s2 r2 : Nat) (L : Nat → Bool) (a : Act) (w : World) : Prop where
  agree : Agree crDs a0 a
  x0 : L 0 = true → a.eval (.tmp 44) = diskV A n c s r
  x1 : L 1 = true → a.eval (.tmp 45) = .slice (some ⟨bl, off, none⟩) nl cl
  x2 : L 2 = true → a.eval (.tmp 46) = .int .i64 (j : Int)
  x3 : L 3 = true → a.eval (.tmp 47) = .pointer (some ⟨bl, off + j * 2, none⟩)
  x4 : L 4 = true → a.eval (.tmp 48) = .agg #[.int .u8 (x.k : Int), .slice x.A x.n x.c]
  bel : Below W0.heap.size W0 w
  x5 : L 5 = true → L 6 = false → ∃ b, a.eval (.tmp 49) = .slice (some ⟨b, 0, none⟩) 1 1 ∧ RdR w w.heap.size (some ⟨b, 0, none⟩) 1 [x]
  x6 : L 6 = true → ∃ A5 c5, w.ownsRow W0.heap.size 5 1 (.slice A5 n2 c5) n2 (bv q) ∧ a.eval (.tmp 50) = .tuple #[diskV A5 n2 c5 s2 r2, .int .i64 0] ∧ (L 7 = true → a.eval (.tmp 43) = .tuple #[diskV A5 n2 c5 s2 r2, .int .i64 0]) ∧ (L 8 = true → a.eval (.tmp 51) = diskV A5 n2 c5 s2 r2) ∧
    (L 11 = true → ∃ b, a.eval (.tmp 12) = .pointer (some ⟨b, 0, none⟩) ∧ W0.heap.size ≤ b ∧ Whole w b 24 #[.slice A5 n2 c5, .int .i64 s2, .int .i64 r2])
  x10 : L 10 = true → ∃ b u0 u1 u2, a.eval (.tmp 12) = .pointer (some ⟨b, 0, none⟩) ∧ W0.heap.size ≤ b ∧ Whole w b 24 #[u0, u1, u2]
  x11 : L 9 = true → a.eval (.tmp 52) = .int .i64 0
  x12 : L 12 = true → a.eval (.tmp 13) = .int .i64 0

set_option maxHeartbeats 2000000 in
theorem cr_region {ops : Array Oper} {Q : Exit → Act → World → Prop} {id m : Nat} (hsize : ops.size = 13) (hlow : lowOnly ops = true)
    (o0 : AtG ops 0 (some 44) (.load 24 (.tmp 9)) none [])
    (o1 : AtG ops 1 (some 45) (.move (.tmp 0)) none [])
    (o2 : AtG ops 2 (some 46) (.move (.tmp 11)) none [])
    (o3 : AtG ops 3 (some 47) (.indexAddr 25 (.tmp 45) (.tmp 46)) none [1, 2])
    (o4 : AtG ops 4 (some 48) (.load 43 (.tmp 47)) none [3])
    (o5 : AtG ops 5 (some 49) (.buildSlice 25 1 #[(0, .tmp 48)]) none [4])
    (o6 : AtG ops 6 (some 50) (.call { callee := .value (.func 12), args := #[.tmp 44, .tmp 49], argTypes := #[24, 25] }) none [0, 5])
    (o7 : AtG ops 7 (some 43) (.move (.tmp 50)) none [6])
    (o8 : AtG ops 8 (some 51) (.extract (.tmp 43) 0) none [7])
    (o9 : AtG ops 9 (some 52) (.extract (.tmp 43) 1) none [7])
    (o10 : AtG ops 10 (some 12) (.alloc 24) none [])
    (o11 : AtG ops 11 none (.store 24 (.tmp 12) (.tmp 51)) none [8, 10])
    (o12 : AtG ops 12 (some 13) (.assign (.tmp 52)) none [9])
    (a0 : Act) (hds : ∀ d ∈ crDs, d < a0.tmps.size) (W0 : World) (b9 : Nat) (A : Option Addr) (n c : Nat) (s r : Int) (bl off nl cl j : Nat) (x : RE) (n2 : Nat) (q : List Nat) (s2 r2 : Nat)
    (h9 : a0.eval (.tmp 9) = .pointer (some ⟨b9, 0, none⟩)) (h0 : a0.eval (.tmp 0) = .slice (some ⟨bl, off, none⟩) nl cl) (h11 : a0.eval (.tmp 11) = .int .i64 (j : Int)) (hb : Whole W0 b9 24 #[.slice A n c, .int .i64 s, .int .i64 r]) (hj : j < nl)
    (hbl : bl < W0.heap.size) (hq0 : W0.cell? ⟨bl, off + j * 2, none⟩ = some (.int .u8 (x.k : Int))) (hq1 : W0.cell? ⟨bl, off + j * 2 + 1, none⟩ = some (.slice x.A x.n x.c)) (hk : x.k < 256) (hx : Rd W0 W0.heap.size x.A x.n (iv x.zs))
    (hadd : ∀ (w : World) (b : Nat), Below W0.heap.size W0 w → RdR w w.heap.size (some ⟨b, 0, none⟩) 1 [x] → Calls Try.prog 12 #[diskV A n c s r, .slice (some ⟨b, 0, none⟩) 1 1] w (DiskNE n2 q s2 r2 0 w))
    (fin : ∀ (σ : Nat → Value) w A5 c5 b, w.ownsRow W0.heap.size 5 1 (.slice A5 n2 c5) n2 (bv q) → Below W0.heap.size W0 w → Whole w b 24 #[.slice A5 n2 c5, .int .i64 s2, .int .i64 r2] → W0.heap.size ≤ b → σ 12 = .pointer (some ⟨b, 0, none⟩) → σ 13 = .int .i64 0 → Q .normal (lay σ crDs a0) w) :
    (Code.region id ops true).wpIn Fence.wide m Try.prog Q a0 W0 := by
  refine region_cloIn (by kernel_rfl) hlow (fun L a w => CRI a0 W0 b9 A n c s r bl off nl cl j x n2 q s2 r2 L a w) ?_ ?_ ?_
  · exact ⟨Agree.refl _ _, by simp, by simp, by simp, by simp, by simp, (Below.refl _ _).drew, by simp, by simp, by simp, by simp, by simp⟩
  · rintro i o L a w ho hi hclo hall I
    have hlt : i < 13 := by rw [← hsize]; exact (Array.getElem?_eq_some_iff.1 ho).1
    have hz : ∀ d ∈ crDs, d < a.tmps.size := fun d hd => by rw [I.agree.size]; exact hds d hd
    rcases (by omega : i = 0 ∨ i = 1 ∨ i = 2 ∨ i = 3 ∨ i = 4 ∨ i = 5 ∨ i = 6 ∨ i = 7 ∨ i = 8 ∨ i = 9 ∨ i = 10 ∨ i = 11 ∨ i = 12) with rfl | rfl | rfl | rfl | rfl | rfl | rfl | rfl | rfl | rfl | rfl | rfl | rfl
    · have hd := o0.needs ho hall
      refine o0.runIn (by simp) fun o' p1 p2 => opG_loadDisk p1 p2 (by rw [I.agree.eval (by decide)]; exact h9) (hb.under I.bel) ⟨I.agree.put (by decide) _, ?_, ?_, ?_, ?_, ?_, ?_, ?_, ?_, ?_, ?_, ?_⟩
      · intro _; exact eval_new (hz _ (by decide)) _
      · simpa [eval_old] using I.x1
      · simpa [eval_old] using I.x2
      · simpa [eval_old] using I.x3
      · simpa [eval_old] using I.x4
      · exact I.bel
      · simpa [eval_old] using I.x5
      · simpa [eval_old] using I.x6
      · simpa [eval_old] using I.x10
      · simpa [eval_old] using I.x11
      · simpa [eval_old] using I.x12
    · have hd := o1.needs ho hall
      refine o1.runIn (by simp) fun o' p1 p2 => opG_move p1 p2 ((I.agree.eval (by decide)).trans h0) ⟨I.agree.put (by decide) _, ?_, ?_, ?_, ?_, ?_, ?_, ?_, ?_, ?_, ?_, ?_⟩
      · simpa [eval_old] using I.x0
      · intro _; exact eval_new (hz _ (by decide)) _
      · simpa [eval_old] using I.x2
      · simpa [eval_old] using I.x3
      · simpa [eval_old] using I.x4
      · exact I.bel
      · simpa [eval_old] using I.x5
      · simpa [eval_old] using I.x6
      · simpa [eval_old] using I.x10
      · simpa [eval_old] using I.x11
      · simpa [eval_old] using I.x12
    · have hd := o2.needs ho hall
      refine o2.runIn (by simp) fun o' p1 p2 => opG_move p1 p2 ((I.agree.eval (by decide)).trans h11) ⟨I.agree.put (by decide) _, ?_, ?_, ?_, ?_, ?_, ?_, ?_, ?_, ?_, ?_, ?_⟩
      · simpa [eval_old] using I.x0
      · simpa [eval_old] using I.x1
      · intro _; exact eval_new (hz _ (by decide)) _
      · simpa [eval_old] using I.x3
      · simpa [eval_old] using I.x4
      · exact I.bel
      · simpa [eval_old] using I.x5
      · simpa [eval_old] using I.x6
      · simpa [eval_old] using I.x10
      · simpa [eval_old] using I.x11
      · simpa [eval_old] using I.x12
    · have hd := o3.needs ho hall
      refine o3.runIn (by simp) fun o' p1 p2 => opG_atRec p1 p2 (I.x1 (hd 1 (by simp))) (I.x2 (hd 2 (by simp))) hj ⟨I.agree.put (by decide) _, ?_, ?_, ?_, ?_, ?_, ?_, ?_, ?_, ?_, ?_, ?_⟩
      · simpa [eval_old] using I.x0
      · simpa [eval_old] using I.x1
      · simpa [eval_old] using I.x2
      · intro _; exact eval_new (hz _ (by decide)) _
      · simpa [eval_old] using I.x4
      · exact I.bel
      · simpa [eval_old] using I.x5
      · simpa [eval_old] using I.x6
      · simpa [eval_old] using I.x10
      · simpa [eval_old] using I.x11
      · simpa [eval_old] using I.x12
    · have hd := o4.needs ho hall
      refine o4.runIn (by simp) fun o' p1 p2 => opG_loadRecAt p1 p2 (I.x3 (hd 3 (by simp))) ((I.bel.cell (p := ⟨bl, off + j * 2, none⟩) hbl).trans hq0) ((I.bel.cell (p := ⟨bl, off + j * 2 + 1, none⟩) hbl).trans hq1) ⟨I.agree.put (by decide) _, ?_, ?_, ?_, ?_, ?_, ?_, ?_, ?_, ?_, ?_, ?_⟩
      · simpa [eval_old] using I.x0
      · simpa [eval_old] using I.x1
      · simpa [eval_old] using I.x2
      · simpa [eval_old] using I.x3
      · intro _; exact eval_new (hz _ (by decide)) _
      · exact I.bel
      · simpa [eval_old] using I.x5
      · simpa [eval_old] using I.x6
      · simpa [eval_old] using I.x10
      · simpa [eval_old] using I.x11
      · simpa [eval_old] using I.x12
    · have hd := o5.needs ho hall
      have n6 := o6.not hclo (j := 5) (by simp) hi
      have hA := (Below.refl w.heap.size w).alloc (Nat.le_refl _) (.cells #[.int .u8 (x.k : Int), .slice x.A x.n x.c] 43)
      refine o5.runIn (by simp) fun o' p1 p2 => opG_lit1Rec p1 p2 (I.x4 (hd 4 (by simp))) ⟨I.agree.put (by decide) _, ?_, ?_, ?_, ?_, ?_, ?_, ?_, ?_, ?_, ?_, ?_⟩
      · simpa [eval_old] using I.x0
      · simpa [eval_old] using I.x1
      · simpa [eval_old] using I.x2
      · simpa [eval_old] using I.x3
      · simpa [eval_old] using I.x4
      · exact I.bel.alloc I.bel.size _
      · intro _ _
        refine ⟨w.heap.size, eval_new (hz _ (by decide)) _, ?_⟩
        have h1 := rdR_one w x W0.heap.size I.bel.size hk (hx.below I.bel) w.heap.size rfl
        exact h1.more (by simp)
      · intro h; simp [n6] at h
      · intro h
        obtain ⟨b, u0, u1, u2, e1, e2, e3⟩ := I.x10 (by simpa using h)
        exact ⟨b, u0, u1, u2, by simpa [eval_old] using e1, e2, e3.alloc _⟩
      · simpa [eval_old] using I.x11
      · simpa [eval_old] using I.x12
    · have hd := o6.needs ho hall
      have n7 := o7.not hclo (j := 6) (by simp) hi
      have n8 := o8.not hclo (j := 7) (by simp) n7
      have n11 := o11.not hclo (j := 8) (by simp) n8
      obtain ⟨b, e49, hrd⟩ := I.x5 (hd 5 (by simp)) hi
      refine o6.runIn (by simp) fun o' p1 p2 => opG_call2 p1 p2 (I.x0 (hd 0 (by simp))) e49 (enters_of Try.func12 (by kernel_rfl) rfl) (hadd w b I.bel hrd) ?_
      rintro e w' ⟨A5, c5, rfl, ho5, hb5⟩
      refine ⟨_, rfl, I.agree.put (by decide) _, ?_, ?_, ?_, ?_, ?_, ?_, ?_, ?_, ?_, ?_, ?_⟩
      · simpa [eval_old] using I.x0
      · simpa [eval_old] using I.x1
      · simpa [eval_old] using I.x2
      · simpa [eval_old] using I.x3
      · simpa [eval_old] using I.x4
      · exact I.bel.trans (hb5.mono I.bel.size)
      · intro _ h; simp at h
      · intro _
        exact ⟨A5, c5, own_weaker ho5 I.bel.size, eval_new (hz _ (by decide)) _, by simp [n7], by simp [n8], by simp [n11]⟩
      · intro h
        obtain ⟨b, u0, u1, u2, e1, e2, e3⟩ := I.x10 (by simpa using h)
        exact ⟨b, u0, u1, u2, by simpa [eval_old] using e1, e2, e3.under hb5⟩
      · simpa [eval_old] using I.x11
      · simpa [eval_old] using I.x12
    · have hd := o7.needs ho hall
      have l6 : L 6 = true := hd 6 (by simp)
      obtain ⟨A5, c5, g1, g2, g3, g4, g5⟩ := I.x6 l6
      refine o7.runIn (by simp) fun o' p1 p2 => opG_move p1 p2 g2 ⟨I.agree.put (by decide) _, ?_, ?_, ?_, ?_, ?_, ?_, ?_, ?_, ?_, ?_, ?_⟩
      · simpa [eval_old] using I.x0
      · simpa [eval_old] using I.x1
      · simpa [eval_old] using I.x2
      · simpa [eval_old] using I.x3
      · simpa [eval_old] using I.x4
      · exact I.bel
      · intro _ h; simp [l6] at h
      · intro _
        exact ⟨A5, c5, g1, by simpa [eval_old] using g2, fun _ => eval_new (hz _ (by decide)) _, by simpa [eval_old] using g4, by simpa [eval_old] using g5⟩
      · simpa [eval_old] using I.x10
      · simpa [eval_old] using I.x11
      · simpa [eval_old] using I.x12
    · have hd := o8.needs ho hall
      have l6 : L 6 = true := by cases hv : L 6 with | true => rfl | false => have := o7.not hclo (j := 6) (by simp) hv; rw [hd 7 (by simp)] at this; cases this
      obtain ⟨A5, c5, g1, g2, g3, g4, g5⟩ := I.x6 l6
      refine o8.runIn (by simp) fun o' p1 p2 => opG_extract p1 p2 (g3 (hd 7 (by simp))) rfl ⟨I.agree.put (by decide) _, ?_, ?_, ?_, ?_, ?_, ?_, ?_, ?_, ?_, ?_, ?_⟩
      · simpa [eval_old] using I.x0
      · simpa [eval_old] using I.x1
      · simpa [eval_old] using I.x2
      · simpa [eval_old] using I.x3
      · simpa [eval_old] using I.x4
      · exact I.bel
      · intro _ h; simp [l6] at h
      · intro _
        exact ⟨A5, c5, g1, by simpa [eval_old] using g2, by simpa [eval_old] using g3, fun _ => eval_new (hz _ (by decide)) _, by simpa [eval_old] using g5⟩
      · simpa [eval_old] using I.x10
      · simpa [eval_old] using I.x11
      · simpa [eval_old] using I.x12
    · have hd := o9.needs ho hall
      have l6 : L 6 = true := by cases hv : L 6 with | true => rfl | false => have := o7.not hclo (j := 6) (by simp) hv; rw [hd 7 (by simp)] at this; cases this
      obtain ⟨A5, c5, g1, g2, g3, g4, g5⟩ := I.x6 l6
      refine o9.runIn (by simp) fun o' p1 p2 => opG_extract p1 p2 (g3 (hd 7 (by simp))) rfl ⟨I.agree.put (by decide) _, ?_, ?_, ?_, ?_, ?_, ?_, ?_, ?_, ?_, ?_, ?_⟩
      · simpa [eval_old] using I.x0
      · simpa [eval_old] using I.x1
      · simpa [eval_old] using I.x2
      · simpa [eval_old] using I.x3
      · simpa [eval_old] using I.x4
      · exact I.bel
      · intro _ h; simp [l6] at h
      · intro _
        exact ⟨A5, c5, g1, by simpa [eval_old] using g2, by simpa [eval_old] using g3, by simpa [eval_old] using g4, by simpa [eval_old] using g5⟩
      · simpa [eval_old] using I.x10
      · intro _; exact eval_new (hz _ (by decide)) _
      · simpa [eval_old] using I.x12
    · have n11 := o11.not hclo (j := 10) (by simp) hi
      have hA := (Below.refl w.heap.size w).alloc (Nat.le_refl _) zeroB
      refine o10.runIn (by simp) fun o' p1 p2 => opG_allocDisk p1 p2 ⟨I.agree.put (by decide) _, ?_, ?_, ?_, ?_, ?_, ?_, ?_, ?_, ?_, ?_, ?_⟩
      · simpa [eval_old] using I.x0
      · simpa [eval_old] using I.x1
      · simpa [eval_old] using I.x2
      · simpa [eval_old] using I.x3
      · simpa [eval_old] using I.x4
      · exact I.bel.alloc I.bel.size _
      · intro h5 h6
        obtain ⟨b, e1, e2⟩ := I.x5 (by simpa using h5) (by simpa using h6)
        exact ⟨b, by simpa [eval_old] using e1, (e2.below hA).more hA.size⟩
      · intro h6
        obtain ⟨A5, c5, g1, g2, g3, g4, g5⟩ := I.x6 (by simpa using h6)
        exact ⟨A5, c5, g1.alloc _, by simpa [eval_old] using g2, by simpa [eval_old] using g3, by simpa [eval_old] using g4, by simp [n11]⟩
      · intro _
        exact ⟨w.heap.size, _, _, _, eval_new (hz _ (by decide)) _, I.bel.size, Whole.new w _ _⟩
      · simpa [eval_old] using I.x11
      · simpa [eval_old] using I.x12
    · have hd := o11.needs ho hall
      have l7 : L 7 = true := by cases hv : L 7 with | true => rfl | false => have := o8.not hclo (j := 7) (by simp) hv; rw [hd 8 (by simp)] at this; cases this
      have l6 : L 6 = true := by cases hv : L 6 with | true => rfl | false => have := o7.not hclo (j := 6) (by simp) hv; rw [l7] at this; cases this
      obtain ⟨A5, c5, g1, g2, g3, g4, g5⟩ := I.x6 l6
      obtain ⟨b, u0, u1, u2, e1, e2, e3⟩ := I.x10 (hd 10 (by simp))
      have hset := e3.disk (.slice A5 n2 c5) (.int .i64 s2) (.int .i64 r2)
      have hap := own_apart_of (t := 24) (by decide) g1 e3
      have hown : (setDisk w b (.slice A5 n2 c5) (.int .i64 s2) (.int .i64 r2)).ownsRow W0.heap.size 5 1 (.slice A5 n2 c5) n2 (bv q) :=
        ownsRow_setCell_other (a := ⟨b, 2, none⟩) (ownsRow_setCell_other (a := ⟨b, 1, none⟩) (ownsRow_setCell_other (a := ⟨b, 0, none⟩) g1 hap _) hap _) hap _
      refine o11.runIn (by simp) fun o' p1 p2 => opG_storeDisk p1 p2 e1 (g4 (hd 8 (by simp))) e3 ⟨I.agree, ?_, ?_, ?_, ?_, ?_, ?_, ?_, ?_, ?_, ?_, ?_⟩
      · simpa using I.x0
      · simpa using I.x1
      · simpa using I.x2
      · simpa using I.x3
      · simpa using I.x4
      · exact below_setDisk I.bel e2 _ _ _
      · intro _ h; simp [l6] at h
      · intro _
        exact ⟨A5, c5, hown, g2, by simpa using g3, by simpa using g4, fun _ => ⟨b, e1, e2, hset⟩⟩
      · intro _
        exact ⟨b, _, _, _, e1, e2, hset⟩
      · simpa using I.x11
      · simpa using I.x12
    · have hd := o12.needs ho hall
      refine o12.runIn (by simp) fun o' p1 p2 => opG_assign p1 p2 (I.x11 (hd 9 (by simp))) ⟨I.agree.put (by decide) _, ?_, ?_, ?_, ?_, ?_, ?_, ?_, ?_, ?_, ?_, ?_⟩
      · simpa [eval_old] using I.x0
      · simpa [eval_old] using I.x1
      · simpa [eval_old] using I.x2
      · simpa [eval_old] using I.x3
      · simpa [eval_old] using I.x4
      · exact I.bel
      · simpa [eval_old] using I.x5
      · simpa [eval_old] using I.x6
      · simpa [eval_old] using I.x10
      · simpa [eval_old] using I.x11
      · intro _; exact eval_new (hz _ (by decide)) _
  · intro L a w hall I
    obtain ⟨A5, c5, g1, g2, g3, g4, g5⟩ := I.x6 (hall 6 (by omega))
    obtain ⟨b, e1, e2, e3⟩ := g5 (hall 11 (by omega))
    rw [I.agree.lay hds]
    exact fin (fun d => a.eval (.tmp d)) w A5 c5 b g1 I.bel e3 e2 e1 (I.x12 (hall 12 (by omega)))

end Go.Proofs.Ytbkfpghpfaemeaa


namespace Go.Proofs.Ytbkfpghpfaemeaa
open Go.RowKit Go.Shelf

theorem recB_len2 {k : Nat} {zs : List Int} (h : mayB k zs = true) : (recB k zs).length ≤ 126 := by
  obtain ⟨a1, a2, _⟩ := mayB_nums h
  have h18 := okR_len (r := (k, zs)) h
  have hl : (nats ((k : Int) :: zs)).length = zs.length + 1 := by simp [nats]
  have h1 := put_six (n := (nats ((k : Int) :: zs)).length) (by omega)
  have h2 := puts_len _ a2
  rw [recB, row, List.length_append]
  simp only at h18
  omega
theorem lfr_len2 {r : PR} (h : okR r) : (lfr r).length ≤ 132 := by
  have h1 := recB_len2 (k := r.1) (zs := r.2) h
  have h2 := put_two (n := (pl r).length) (by have := pl_len2 h; omega)
  unfold lfr
  rw [fr_length]
  unfold frLen
  unfold pl at h2 ⊢
  omega
theorem lbytes_le2 {L : List PR} (h : ∀ r ∈ L, okR r) : (lbytes L).length ≤ 132 * L.length := by
  induction L with
  | nil => simp [lbytes]
  | cons r L ih =>
    have h1 := ih (fun s hs => h s (List.mem_cons_of_mem _ hs))
    have h2 := lfr_len2 (h r (by simp))
    rw [lbytes_cons, List.length_append, List.length_cons]; omega

/-- How many bytes the first j records have. -/
def lenT (L : List PR) (j : Nat) : Nat := (lbytes (L.take j)).length
theorem lenT_mono {L : List PR} {i j : Nat} (h : i ≤ j) : lenT L i ≤ lenT L j := by
  unfold lenT
  have e : L.take j = L.take i ++ (L.take j).drop i := by
    have h1 : L.take i = (L.take j).take i := by rw [List.take_take]; congr 1; omega
    rw [h1, List.take_append_drop]
  rw [e, lbytes_app, List.length_append]; omega
theorem lenT_le {L : List PR} {j : Nat} (h : allOk (L.take j)) (hj : j ≤ 30) : lenT L j ≤ 3960 := by
  have h1 := lbytes_le2 h
  rw [List.length_take] at h1
  unfold lenT; omega

/-- Between two rounds: j records are added, the first k of them safe. -/
structure LcAt (w : World) (b9 : Nat) (km : Nat) (Am : Option Addr) (nm cm : Nat) (L : List PR) (j k : Nat) (A : Option Addr) (c : Nat) (W : World) : Prop where
  below : Below w.heap.size w W
  le : w.heap.size < b9
  disk : Whole W b9 24 #[.slice A (lenT L j) c, .int .i64 (lenT L k), .int .i64 (9000 : Nat)]
  more : Whole W w.heap.size 43 #[.int .u8 (km : Int), .slice Am nm cm]
  rd : Rd W W.heap.size A (lenT L j) (bv (lbytes (L.take j)))
  cap : lenT L j ≤ c
theorem LcAt.under {w : World} {b9 km : Nat} {Am : Option Addr} {nm cm : Nat} {L : List PR} {j k : Nat} {A : Option Addr} {c : Nat} {W W' : World} (h : LcAt w b9 km Am nm cm L j k A c W) (hb : Below W.heap.size W W') : LcAt w b9 km Am nm cm L j k A c W' :=
  ⟨h.below.trans (hb.mono h.below.size), h.le, h.disk.under hb, h.more.under hb, (h.rd.below hb).more hb.size, h.cap⟩
theorem LcAt.store {w : World} {b9 km : Nat} {Am : Option Addr} {nm cm : Nat} {L : List PR} {j k : Nat} {A : Option Addr} {c : Nat} {W W' : World} (h : LcAt w b9 km Am nm cm L j k A c W) (hb : Below W.heap.size W W') {j' k' : Nat} {A' : Option Addr} {c' : Nat} (ho : W'.ownsRow W.heap.size 5 1 (.slice A' (lenT L j') c') (lenT L j') (bv (lbytes (L.take j')))) :
    LcAt w b9 km Am nm cm L j' k' A' c' (setDisk W' b9 (.slice A' (lenT L j') c') (.int .i64 (lenT L k')) (.int .i64 (9000 : Nat))) := by
  have h1 := h.under hb
  have hlt := h.disk.lt
  have hle := h.le
  refine ⟨below_setDisk h1.below (by omega) _ _ _, h.le, h1.disk.disk _ _ _, h1.more.farDisk (by omega) _ _ _, ?_, own_cap ho⟩
  exact Rd.of_own (own_setDisk ho (b := b9) (by omega) (.slice A' (lenT L j') c') (.int .i64 (lenT L k')) (.int .i64 (9000 : Nat)))

theorem great_zero (Al : Option Addr) (nl cl : Nat) (el : List RE) (w W : World) (hl : RdR w w.heap.size Al nl el) (h : Below w.heap.size w W) : Calls Try.prog 8 #[diskV none 0 0 0 0, .slice Al nl cl] W (BoolPost (greatL 0 el) W) :=
  greatL_any none 0 0 0 0 Al nl cl el w.heap.size W (hl.below h) h.size

set_option maxRecDepth 100000 in
set_option maxHeartbeats 800000 in
theorem logCrash_out1 (Al : Option Addr) (nl cl : Nat) (el : List RE) (S : Int) (keep : Int) (km : Nat) (Am : Option Addr) (nm cm : Nat) (w : World) (hl : RdR w w.heap.size Al nl el) (h : greatL 0 el = true) :
    Calls Try.prog 4 #[.slice Al nl cl, .int .u32 S, .int .i64 keep, .agg #[.int .u8 (km : Int), .slice Am nm cm]] w (TruePost w) := by
  have hb0 : Below w.heap.size w (w.alloc (.cells #[.int .u8 (km : Int), .slice Am nm cm] 43)) := (Below.refl w.heap.size w).alloc (Nat.le_refl _) _
  have HB := Lib.hid hb0
  have HX := Lib.hid (Whole.new w 43 #[.int .u8 (km : Int), .slice Am nm cm])
  have x0 := HX.out.cell 0
  have x1 := HX.out.cell 1
  simp only [List.getElem?_toArray, List.getElem?_cons_zero, List.getElem?_cons_succ] at x0 x1
  have HG := Lib.hid (great_zero Al nl cl el w _ hl hb0)
  rw [h] at HG
  clear hl h hb0
  go_enter Try.func4, Try.ntmps4
  go_wp2_with fail
  refine (HG.out).mono ?_
  rintro e w1 ⟨rfl, b1⟩
  have HB1 := Lib.hid (HB.out.trans (b1.mono HB.out.size))
  clear b1
  go_wp2_with fail
  refine (wakesL_any _).mono ?_
  rintro e w2 ⟨rfl, b2⟩
  have B2 := Lib.hid (HB1.out.trans (b2.mono HB1.out.size))
  clear b2
  go_wp2_with fail
  go_ret
  exact ⟨rfl, B2.out⟩

set_option maxRecDepth 100000 in
set_option maxHeartbeats 800000 in
theorem logCrash_out2 (Al : Option Addr) (nl cl : Nat) (el : List RE) (S : Int) (keep : Int) (km : Nat) (Am : Option Addr) (nm cm : Nat) (zm : List Int) (w : World) (hl : RdR w w.heap.size Al nl el) (hm : Rd w w.heap.size Am nm (iv zm)) (h : greatL 0 el = false) (h2 : mayB km zm = false) :
    Calls Try.prog 4 #[.slice Al nl cl, .int .u32 S, .int .i64 keep, .agg #[.int .u8 (km : Int), .slice Am nm cm]] w (TruePost w) := by
  have hb0 : Below w.heap.size w (w.alloc (.cells #[.int .u8 (km : Int), .slice Am nm cm] 43)) := (Below.refl w.heap.size w).alloc (Nat.le_refl _) _
  have HB := Lib.hid hb0
  have HX := Lib.hid (Whole.new w 43 #[.int .u8 (km : Int), .slice Am nm cm])
  have HG := Lib.hid (great_zero Al nl cl el w _ hl hb0)
  rw [h] at HG
  have HR : Hid (∀ W, Below w.heap.size w W → Calls Try.prog 22 #[.agg #[.int .u8 (km : Int), .slice Am nm cm]] W (BoolPost false W)) := fun W hW => by
    have h3 := refRight_any km Am nm cm zm w.heap.size W (hm.below hW) hW.size
    rwa [h2] at h3
  clear hl h hb0 hm h2
  go_enter Try.func4, Try.ntmps4
  go_wp2_with fail
  refine (HG.out).mono ?_
  rintro e w1 ⟨rfl, b1⟩
  have HB1 := Lib.hid (HB.out.trans (b1.mono HB.out.size))
  have x0 := (HX.out.under b1).cell 0
  have x1 := (HX.out.under b1).cell 1
  simp only [List.getElem?_toArray, List.getElem?_cons_zero, List.getElem?_cons_succ] at x0 x1
  clear b1
  go_wp2_with fail
  refine (HR.out _ HB1.out).mono ?_
  rintro e w2 ⟨rfl, b2⟩
  have HB2 := Lib.hid (HB1.out.trans (b2.mono HB1.out.size))
  clear b2 x0 x1
  go_wp2_with fail
  refine (wakesL_any _).mono ?_
  rintro e w3 ⟨rfl, b3⟩
  have B3 := Lib.hid (HB2.out.trans (b3.mono HB2.out.size))
  clear b3
  go_wp2_with fail
  go_ret
  exact ⟨rfl, B3.out⟩

theorem lc_ok {L : List PR} {j k : Nat} (hok : allOk (L.take j)) (hj : j ≤ 30) (hk : k ≤ j) : (⟨lbytes (L.take j), lenT L k, 9000⟩ : Dk).Ok := by
  have h1 := lenT_le hok hj
  exact ⟨lenT_mono hk, by simp only; unfold lenT at h1; omega, by simp, lbytes_byte _⟩
/-- One record more. -/
theorem lc_add {L : List PR} {j k : Nat} (x : RE) (hr : L[j]? = some (x.k, x.zs)) (hok : allOk (L.take j)) (hx : okR (x.k, x.zs)) (hj : j < 30) (hk : k ≤ j) (W : World) (A : Option Addr) (c : Nat) (hrd : Rd W W.heap.size A (lenT L j) (bv (lbytes (L.take j)))) (hc : lenT L j ≤ c) (b : Nat) (hR : RdR W W.heap.size (some ⟨b, 0, none⟩) 1 [x]) :
    Calls Try.prog 12 #[diskV A (lenT L j) c (lenT L k) (9000 : Nat), .slice (some ⟨b, 0, none⟩) 1 1] W (DiskNE (lenT L (j + 1)) (lbytes (L.take (j + 1))) (lenT L k) (9000 : Nat) 0 W) := by
  have hD := cnt_self (lc_ok hok (by omega) hk)
  have h := logAdd_any A (lenT L j) c (lenT L k) (9000 : Nat) (lbytes (L.take j)) _ 1 1 [x] [(x.k, x.zs)] rfl W hrd hc (lbytes_byte _) hR (by omega) hD
  have h1 : allOk [(x.k, x.zs)] := by intro r hr; simp only [List.mem_singleton] at hr; rw [hr]; exact hx
  have h2 := lenT_le hok (by omega : j ≤ 30)
  have h3 := lfr_len2 hx
  unfold lenT at h2
  rw [addD_yes h1 (by rw [lbytes_one]; simp only; omega)] at h
  have e : lbytes (L.take j) ++ lbytes [(x.k, x.zs)] = lbytes (L.take (j + 1)) := by rw [lbytes_one, ← lbytes_take hr]
  unfold DkE at h
  simp only [e] at h
  exact h

theorem lc_sync {L : List PR} {j k : Nat} (hok : allOk (L.take j)) (hj : j ≤ 30) (hk : k ≤ j) (W : World) (A : Option Addr) (c : Nat) (hrd : Rd W W.heap.size A (lenT L j) (bv (lbytes (L.take j)))) (hc : lenT L j ≤ c) :
    Calls Try.prog 24 #[diskV A (lenT L j) c (lenT L k) (9000 : Nat)] W (DiskN (lenT L j) (lbytes (L.take j)) (lenT L j) (9000 : Nat) W) :=
  refSync_any A (lenT L j) c (lenT L k) (9000 : Nat) _ W hrd hc (by have := lenT_le hok hj; omega) (cnt_self (lc_ok hok hj hk)) rfl

/-- What a crash leaves. -/
def leftN (K S : Nat) (keep : Int) : Nat := S + clampN keep (K - S)

theorem lc_cut {L : List PR} {j k : Nat} (keep : Int) (hL : L.length = j) (hok : allOk L) (hkj : k ≤ j) (hj : j ≤ 30) :
    ∃ pn, pn ≤ j ∧ k ≤ pn ∧ LogIs ((lbytes L).take (leftN (lenT L j) (lenT L k) keep)) (L.take pn) (lenT L pn) ∧ (100000 < keep → pn = j) := by
  obtain ⟨pn, h1, h2, h3⟩ := log_cut (C := leftN (lenT L j) (lenT L k) keep) hok
  refine ⟨pn, by omega, ?_, h2, fun hk => ?_⟩
  · refine h3 k (by omega) ?_
    show lenT L k ≤ _
    unfold leftN; omega
  · have h4 := lenT_le (L := L) (j := j) (fun r hr => hok r (List.mem_of_mem_take hr)) hj
    have h5 := lenT_mono (L := L) hkj
    have h6 := h3 j (by omega) (by
      show lenT L j ≤ _
      unfold leftN clampN; omega)
    omega
/-- The last of records, as it lies. -/
theorem RecsAt.last {base : Nat} {W : World} {A : Option Addr} {pn c km : Nat} {zm : List Int} {P : List PR} (h : RecsAt base W (.slice A (pn + 1) c) (P ++ [(km, zm)])) (hP : P.length = pn) :
    ∃ b off xA xn xc, A = some ⟨b, off, none⟩ ∧ ∀ W', Below W.heap.size W W' → W'.cell? ⟨b, off + pn * 2, none⟩ = some (.int .u8 (km : Int)) ∧ W'.cell? ⟨b, off + pn * 2 + 1, none⟩ = some (.slice xA xn xc) ∧ Rd W' W'.heap.size xA xn (iv zm) := by
  have h0 : (P ++ [(km, zm)]).length = pn + 1 := by rw [List.length_append, hP]; rfl
  have h1 := h
  rw [← h0] at h1
  obtain ⟨es, he, hr⟩ := h1.read
  rw [h0] at hr
  obtain ⟨b, off, hA, hlt, hc⟩ := hr.2.1 (by omega)
  obtain ⟨x, hx⟩ : ∃ x, es[pn]? = some x := ⟨_, List.getElem?_eq_getElem (by rw [hr.1]; omega)⟩
  have hxe : (x.k, x.zs) = (km, zm) := by
    have h2 : (recsOf es)[pn]? = some (x.k, x.zs) := by rw [recsOf, List.getElem?_map, hx]; rfl
    rw [he, List.getElem?_append_right (by omega), hP, Nat.sub_self] at h2
    simpa using h2.symm
  injection hxe with e1 e2
  refine ⟨b, off, x.A, x.n, x.c, hA, fun W' hW => ?_⟩
  obtain ⟨g1, g2⟩ := hc pn x hx
  rw [← e1, ← e2]
  exact ⟨(hW.cell (p := ⟨b, off + pn * 2, none⟩) hlt).trans g1, (hW.cell (p := ⟨b, off + pn * 2 + 1, none⟩) hlt).trans g2, (((hr.2.2 x (List.mem_of_getElem? hx)).2).below hW).more hW.size⟩
theorem same_cut2 {W : World} {base base' : Nat} {A A' : Option Addr} {c c' pn m : Nat} {P M : List PR} (h : RecsAt base W (.slice A pn c) P) (hP : P.length = pn) (h' : RecsAt base' W (.slice A' m c') M) (hM : M.length = m) (hok : allOk M) (hn : m ≤ 1000000) (hp : P <+: M) :
    Calls Try.prog 16 #[.slice A' pn c', .slice A pn c] W (BoolPost true W) := by
  subst hP
  subst hM
  obtain ⟨es, he, hr⟩ := h.read
  obtain ⟨es', he', hr'⟩ := h'.read
  have hsm := res_small he' hr' hok
  have h1 := refRecsSame_any A' P.length c' (es'.take P.length) A P.length c es _ _ W (hr'.take hp.length_le) hr (Nat.le_refl _) (Nat.le_refl _) (by have := hp.length_le; omega) (fun x hx => hsm x (List.mem_of_mem_take hx))
  have e : recsOf (es'.take P.length) = P := by
    have h2 : recsOf (es'.take P.length) = M.take P.length := by rw [← he', recsOf, recsOf, List.map_take]
    rw [h2]; exact (List.prefix_iff_eq_take.1 hp).symm
  rw [he, e, sameR_self] at h1
  exact h1
theorem same_in {W : World} {base : Nat} {A Al : Option Addr} {c cl pn nl : Nat} {P L : List PR} {el : List RE} (h : RecsAt base W (.slice A pn c) P) (hP : P.length = pn) (hok : allOk P) (hl : RdR W W.heap.size Al nl el) (hL : recsOf el = L) (hn : nl ≤ 1000000) (hp : P <+: L) :
    Calls Try.prog 16 #[.slice A pn c, .slice Al pn cl] W (BoolPost true W) := by
  subst hP
  obtain ⟨es, he, hr⟩ := h.read
  have hle : P.length ≤ nl := by have h1 := hp.length_le; rw [← hL, recsOf, List.length_map, hl.1] at h1; exact h1
  have h1 := refRecsSame_any A P.length c es Al P.length cl (el.take P.length) _ _ W hr (hl.take hle) (Nat.le_refl _) (Nat.le_refl _) (by omega) (res_small he hr hok)
  have e : recsOf (el.take P.length) = P := by
    have h2 : recsOf (el.take P.length) = L.take P.length := by rw [← hL, recsOf, recsOf, List.map_take]
    rw [h2]; exact (List.prefix_iff_eq_take.1 hp).symm
  rw [he, e, sameR_self] at h1
  exact h1
theorem wrapI_one {n : Nat} (h1 : n ≤ 1000000000) : IntKind.i64.wrap ((n : Int) + 1) = (n : Int) + 1 := by
  simp only [IntKind.wrap, IntKind.bits, IntKind.signed]
  simp
  split <;> omega

set_option maxRecDepth 100000 in
set_option maxHeartbeats 8000000 in
theorem logCrash_in (Al : Option Addr) (nl cl : Nat) (el : List RE) (S32 : Int) (keep : Int) (km : Nat) (Am : Option Addr) (nm cm : Nat) (zm : List Int) (w : World) (hl : RdR w w.heap.size Al nl el) (hkm : km < 256) (hm : Rd w w.heap.size Am nm (iv zm)) (h : greatL 0 el = false) (h2 : mayB km zm = true) (hcl : nl ≤ cl) (L : List PR) (hL : recsOf el = L) :
    Calls Try.prog 4 #[.slice Al nl cl, .int .u32 S32, .int .i64 keep, .agg #[.int .u8 (km : Int), .slice Am nm cm]] w (TruePost w) := by
  obtain ⟨_, hel, _⟩ := greatL_no h
  have hnl : nl ≤ 30 := by have := hl.1; omega
  have hLl : L.length = nl := by rw [← hL, recsOf, List.length_map]; exact hl.1
  have hb0 : Below w.heap.size w (w.alloc (.cells #[.int .u8 (km : Int), .slice Am nm cm] 43)) := (Below.refl w.heap.size w).alloc (Nat.le_refl _) _
  have HB := Lib.hid hb0
  have HX := Lib.hid (Whole.new w 43 #[.int .u8 (km : Int), .slice Am nm cm])
  have HG := Lib.hid (great_zero Al nl cl el w _ hl hb0)
  rw [h] at HG
  have HR : Hid (∀ W, Below w.heap.size w W → Calls Try.prog 22 #[.agg #[.int .u8 (km : Int), .slice Am nm cm]] W (BoolPost true W)) := fun W hW => by
    have h3 := refRight_any km Am nm cm zm w.heap.size W (hm.below hW) hW.size
    rwa [h2] at h3
  have HRd := Lib.hid hl
  have HMo := Lib.hid hm
  have HLl := Lib.hid hLl
  have HLe := Lib.hid hL
  have HM2 := Lib.hid h2
  clear hl h hb0 hm h2 hel hLl hL
  go_enter Try.func4, Try.ntmps4
  go_wp2_with fail
  refine (HG.out).mono ?_
  rintro e w1 ⟨rfl, b1⟩
  have HB1 := Lib.hid (HB.out.trans (b1.mono HB.out.size))
  have HX1 := Lib.hid (HX.out.under b1)
  have x0 := HX1.out.cell 0
  have x1 := HX1.out.cell 1
  simp only [List.getElem?_toArray, List.getElem?_cons_zero, List.getElem?_cons_succ] at x0 x1
  clear b1 HG HB HX
  go_wp2_with fail
  refine (HR.out _ HB1.out).mono ?_
  rintro e w2 ⟨rfl, b2⟩
  have HB2 := Lib.hid (HB1.out.trans (b2.mono HB1.out.size))
  have HX2 := Lib.hid (HX1.out.under b2)
  clear b2 x0 x1 HB1 HX1
  go_wp2_with fail
  refine (refNew_any 9000 w2 (R := 9000) (by kernel_rfl)).mono ?_
  rintro e w3 ⟨A3, c3, rfl, o3, b3⟩
  have hle3 : w.heap.size < w3.heap.size := by have := HX2.out.lt; have := b3.size; omega
  have hst : LcAt w w3.heap.size km Am nm cm L 0 0 A3 c3 (w3.alloc (.cells #[.slice A3 0 c3, .int .i64 0, .int .i64 (9000 : Nat)] 24)) := by
    have hb4 := b3.alloc b3.size (.cells #[.slice A3 0 c3, .int .i64 0, .int .i64 (9000 : Nat)] 24)
    exact ⟨HB2.out.trans (hb4.mono HB2.out.size), hle3, Whole.new w3 24 #[.slice A3 0 c3, .int .i64 0, .int .i64 (9000 : Nat)], HX2.out.under hb4, rd_nil _ _ _, Nat.zero_le _⟩
  have HSt := Lib.hid hst
  have HLe3 := Lib.hid hle3
  clear b3 o3 hst hle3 HB2 HX2 HR
  go_wp2_with fail
  go_loopw [10, 11] (fun sv i wr => ∃ (j k : Nat) (A : Option Addr) (c : Nat), sv = .int .i64 (k : Int) ∧ i = .int .i64 (j : Int) ∧ k ≤ j ∧ j ≤ nl ∧ allOk (L.take j) ∧ LcAt w w3.heap.size km Am nm cm L j k A c wr) (fun _ i _ => nl - (intOf i).toNat)
  case atStart => exact ⟨0, 0, A3, c3, rfl, rfl, Nat.le_refl _, Nat.zero_le _, by simp [allOk], HSt.out⟩
  case round =>
    obtain ⟨j, k, A, c, rfl, rfl, hkj, hj, hok, hI⟩ := hrel
    have HOk := Lib.hid hok
    have HI := Lib.hid hI
    clear hok hI HSt
    by_cases hlt : j < nl
    · have hjl : j < el.length := by rw [HRd.out.1]; exact hlt
      obtain ⟨x, hx⟩ : ∃ x, el[j]? = some x := ⟨_, List.getElem?_eq_getElem hjl⟩
      obtain ⟨b, off, rfl, hblt, hc⟩ := HRd.out.2.1 (by omega)
      obtain ⟨g1, g2⟩ := hc j x hx
      obtain ⟨hk, hrx⟩ := HRd.out.2.2 x (List.mem_of_getElem? hx)
      have h1 := (HI.out.below.cell (p := ⟨b, off + j * 2, none⟩) hblt).trans g1
      have h2 := (HI.out.below.cell (p := ⟨b, off + j * 2 + 1, none⟩) hblt).trans g2
      have hI : (j : Int) < (nl : Int) := by omega
      have hX : L[j]? = some (x.k, x.zs) := by rw [← HLe.out, recsOf, List.getElem?_map, hx]; rfl
      have HX := Lib.hid hX
      have HRX := Lib.hid hrx
      have HG1 := Lib.hid g1
      have HG2 := Lib.hid g2
      have HBl := Lib.hid hblt
      have HRt := Lib.hid (refRight_any x.k x.A x.n x.c x.zs w.heap.size wr (hrx.below HI.out.below) HI.out.below.size)
      cases x with
      | mk xk xA xn xc xz =>
      simp only at h1 h2 hk HRX HX HG1 HG2 HRt
      clear hc hx hrx hjl hX g1 g2 hblt
      by_cases hmx : mayB xk xz = true
      · rw [hmx] at HRt
        have HOx := Lib.hid hmx
        clear hmx
        go_wp2_with fail
        refine (HRt.out).mono ?_
        rintro e w4 ⟨rfl, b4⟩
        have HI4 := Lib.hid (HI.out.under b4)
        clear b4 h1 h2 HRt
        go_wp2_with fail
        refine (wpIn_wide (n := 5)).1 (cr_region rfl (by kernel_rfl) ⟨_, rfl, rfl, rfl, rfl, by kernel_rfl⟩ ⟨_, rfl, rfl, rfl, rfl, by kernel_rfl⟩ ⟨_, rfl, rfl, rfl, rfl, by kernel_rfl⟩ ⟨_, rfl, rfl, rfl, rfl, by kernel_rfl⟩ ⟨_, rfl, rfl, rfl, rfl, by kernel_rfl⟩ ⟨_, rfl, rfl, rfl, rfl, by kernel_rfl⟩ ⟨_, rfl, rfl, rfl, rfl, by kernel_rfl⟩ ⟨_, rfl, rfl, rfl, rfl, by kernel_rfl⟩ ⟨_, rfl, rfl, rfl, rfl, by kernel_rfl⟩ ⟨_, rfl, rfl, rfl, rfl, by kernel_rfl⟩ ⟨_, rfl, rfl, rfl, rfl, by kernel_rfl⟩ ⟨_, rfl, rfl, rfl, rfl, by kernel_rfl⟩ ⟨_, rfl, rfl, rfl, rfl, by kernel_rfl⟩ _ ?ds w4 w3.heap.size A (lenT L j) c (lenT L k) (9000 : Nat) b off nl cl j ⟨xk, xA, xn, xc, xz⟩ (lenT L (j + 1)) (lbytes (L.take (j + 1))) (lenT L k) 9000
          rfl rfl rfl HI4.out.disk hlt (by have := HI4.out.below.size; have := HBl.out; omega) ((HI4.out.below.cell (p := ⟨b, off + j * 2, none⟩) HBl.out).trans HG1.out) ((HI4.out.below.cell (p := ⟨b, off + j * 2 + 1, none⟩) HBl.out).trans HG2.out) hk ((HRX.out.below HI4.out.below).more HI4.out.below.size) ?add ?fin)
        case ds =>
          intro d hd
          simp only [List.mem_cons, List.not_mem_nil, or_false] at hd
          rcases hd with rfl | rfl | rfl | rfl | rfl | rfl | rfl | rfl | rfl | rfl | rfl | rfl <;> simp
        case add =>
          intro W b2 hW hRW
          have hI4 := HI4.out.under hW
          exact lc_add ⟨xk, xA, xn, xc, xz⟩ HX.out HOk.out HOx.out (by omega) hkj W A c hI4.rd hI4.cap b2 hRW
        case fin =>
          rintro σ w5 A5 c5 b12 ho5 hb5 hw5 hb12 hσ12 hσ13
          simp only [lay, List.foldl_cons, List.foldl_nil, Act.put, List.setIfInBounds_toArray, List.set_cons_zero, List.set_cons_succ, hσ12, hσ13]
          have hI5 := HI4.out.under hb5
          obtain ⟨x0, x1, x2⟩ := hw5.cells3
          obtain ⟨y0, y1, y2⟩ := hI5.disk.cells3
          have f0 := hI5.disk.frozen 0
          have f1 := hI5.disk.frozen 1
          have f2 := hI5.disk.frozen 2
          have HI6 := Lib.hid (HI4.out.store (k' := k) hb5 ho5)
          have HOk6 := Lib.hid (allOk_take HX.out HOk.out HOx.out)
          clear ho5 hb5 hw5 hb12 hσ12 hσ13 hI5
          go_wp2_with fail
          · refine (lc_sync HOk6.out (by omega) (by omega) _ A5 c5 HI6.out.rd HI6.out.cap).mono ?_
            rintro e w7 ⟨A7, c7, rfl, o7, b7⟩
            have hI7 := HI6.out.under b7
            clear x0 x1 x2 y0 y1 y2 f0 f1 f2
            obtain ⟨y0, y1, y2⟩ := hI7.disk.cells3
            have f0 := hI7.disk.frozen 0
            have f1 := hI7.disk.frozen 1
            have f2 := hI7.disk.frozen 2
            have HI8 := Lib.hid (HI6.out.store (k' := j + 1) b7 o7)
            clear hI7 o7 b7
            go_wp2_with fail
            refine ⟨⟨j + 1, j + 1, A7, c7, by go_num, by go_num, Nat.le_refl _, by omega, HOk6.out, HI8.out⟩, ?_⟩
            simp [intOf]; omega
          · refine ⟨⟨j + 1, k, A5, c5, rfl, by go_num, by omega, by omega, HOk6.out, HI6.out⟩, ?_⟩
            simp [intOf]; omega
      · have hmf : mayB xk xz = false := by simpa using hmx
        rw [hmf] at HRt
        clear hmx hmf
        go_wp2_with fail
        refine (HRt.out).mono ?_
        rintro e w4 ⟨rfl, b4⟩
        have HE4 := Lib.hid (HI.out.below.trans (b4.mono HI.out.below.size))
        clear b4 h1 h2 HRt
        go_wp2_with fail
        refine (wakesL_any _).mono ?_
        rintro e w5 ⟨rfl, b5⟩
        have HE5 := Lib.hid (HE4.out.trans (b5.mono HE4.out.size))
        clear b5
        go_wp2_with fail
        go_ret
        exact ⟨rfl, HE5.out⟩
    · have hjn : j = nl := by omega
      subst hjn
      have hI : ¬ (j : Int) < (j : Int) := by omega
      have hokL : allOk L := by have h := HOk.out; rwa [List.take_of_length_le (by rw [HLl.out]; exact Nat.le_refl _)] at h
      have htk : L.take j = L := List.take_of_length_le (by rw [HLl.out]; exact Nat.le_refl _)
      obtain ⟨pn, hpj, hkp, hlogP, hkeepP⟩ := lc_cut keep HLl.out hokL hkj hnl
      obtain ⟨C, hC⟩ : ∃ C, leftN (lenT L j) (lenT L k) keep = C := ⟨_, rfl⟩
      obtain ⟨P, hPe⟩ : ∃ P, L.take pn = P := ⟨_, rfl⟩
      obtain ⟨up, hup⟩ : ∃ up, lenT L pn = up := ⟨_, rfl⟩
      obtain ⟨KK, hKK⟩ : ∃ KK, lenT L j = KK := ⟨_, rfl⟩
      obtain ⟨SS, hSS⟩ : ∃ SS, lenT L k = SS := ⟨_, rfl⟩
      have hPl : P.length = pn := by rw [← hPe, List.length_take, HLl.out]; omega
      have hPL : P <+: L := by rw [← hPe]; exact List.take_prefix _ _
      have hPok : allOk P := fun r hr => hokL r (by rw [← hPe] at hr; exact List.mem_of_mem_take hr)
      have hDok := lc_ok HOk.out hnl hkj
      have hK5 := lenT_le HOk.out hnl
      have hpS := lenT_mono (L := L) hpj
      rw [hC, hPe, hup] at hlogP
      rw [hKK] at hK5 hpS
      rw [hup] at hpS
      rw [htk, hSS] at hDok
      have hCK : C ≤ KK := by
        have h1 := lenT_mono (L := L) hkj
        rw [hKK, hSS] at h1
        rw [← hC, hKK, hSS]; unfold leftN clampN; omega
      have hbl : (lbytes L).length = KK := by rw [← hKK]; unfold lenT; rw [htk]
      have hCl : ((lbytes L).take C).length = C := by rw [List.length_take, hbl]; omega
      have hCb : ∀ x ∈ (lbytes L).take C, x < 256 := fun x hx => lbytes_byte L x (List.mem_of_mem_take hx)
      have hq : ((lbytes L).take C).take up = lbytes P := hlogP.take
      have hqP : (lbytes P).length = up := hlogP.used.symm
      have huC : up ≤ C := by have h1 := hlogP.le; omega
      have HCr : Hid (∀ W A c, Rd W W.heap.size A KK (bv (lbytes L)) → KK ≤ c → Calls Try.prog 25 #[diskV A KK c SS (9000 : Nat), .int .i64 keep] W (DiskN C ((lbytes L).take C) C (9000 : Nat) W)) := fun W A c h hc => by
        refine refCrash_any A KK c SS (9000 : Nat) _ W h hc (by omega) (cnt_self hDok) hbl keep ?_
        rw [← hC, hKK, hSS]; rfl
      have HOp1 : Hid (∀ W A c, Rd W W.heap.size A C (bv ((lbytes L).take C)) → C ≤ c → Calls Try.prog 14 #[diskV A C c C (9000 : Nat)] W fun e w' => ∃ A c Al cl, e = .returned (.tuple #[diskV A up c up (9000 : Nat), .slice Al pn cl]) ∧ w'.ownsRow W.heap.size 5 1 (.slice A up c) up (bv (lbytes P)) ∧ RecsAt W.heap.size w' (.slice Al pn cl) P ∧ Below W.heap.size W w') := fun W A c h hc => by
        refine (logOpen_any A C c C (9000 : Nat) _ W h hc hCb (cnt_at (s := C) (r := 9000) (by omega) (by omega) (by omega) hCb) hlogP).mono ?_
        rintro e w' ⟨A2, c2, Al2, cl2, rfl, o2, r2, b2⟩
        rw [hq] at o2
        rw [hPl] at r2 ⊢
        exact ⟨A2, c2, Al2, cl2, rfl, o2, r2, b2⟩
      have hlm := lfr_len2 (r := (km, zm)) HM2.out
      obtain ⟨n4, hn4⟩ : ∃ n4, (lbytes (P ++ [(km, zm)])).length = n4 := ⟨_, rfl⟩
      have hn4u : n4 = up + (lfr (km, zm)).length := by rw [← hn4, lbytes_app, lbytes_one, List.length_append, hqP]
      have hokM : allOk (P ++ [(km, zm)]) := by
        intro r hr
        rcases List.mem_append.1 hr with hr | hr
        · exact hPok r hr
        · simp only [List.mem_singleton] at hr; rw [hr]; exact HM2.out
      have HAd : Hid (∀ W A c b, Rd W W.heap.size A up (bv (lbytes P)) → up ≤ c → RdR W W.heap.size (some ⟨b, 0, none⟩) 1 [⟨km, Am, nm, cm, zm⟩] → Calls Try.prog 12 #[diskV A up c up (9000 : Nat), .slice (some ⟨b, 0, none⟩) 1 1] W (DiskNE n4 (lbytes (P ++ [(km, zm)])) up (9000 : Nat) 0 W)) := fun W A c b h hc hR => by
        have h1 := logAdd_any A up c up (9000 : Nat) (lbytes P) _ 1 1 _ [(km, zm)] rfl W h hc (lbytes_byte _) hR (by omega) (cnt_at (bs := lbytes P) (s := up) (r := 9000) (by omega) (by omega) (by omega) (lbytes_byte _))
        have h2 : allOk [(km, zm)] := fun r hr => hokM r (List.mem_append_right _ hr)
        rw [addD_yes h2 (by rw [lbytes_one]; simp only; omega)] at h1
        unfold DkE at h1
        simp only [← lbytes_app, hn4] at h1
        exact h1
      have HOp2 : Hid (∀ W A c, Rd W W.heap.size A n4 (bv (lbytes (P ++ [(km, zm)]))) → n4 ≤ c → Calls Try.prog 14 #[diskV A n4 c up (9000 : Nat)] W fun e w' => ∃ A c Al cl, e = .returned (.tuple #[diskV A n4 c n4 (9000 : Nat), .slice Al (pn + 1) cl]) ∧ RecsAt W.heap.size w' (.slice Al (pn + 1) cl) (P ++ [(km, zm)]) ∧ Below W.heap.size W w') := fun W A c h hc => by
        have hlg := logIs_all hokM
        rw [hn4] at hlg
        refine (logOpen_any A n4 c up (9000 : Nat) _ W h hc (lbytes_byte _) (cnt_at (s := up) (r := 9000) (by omega) (by omega) (by omega) (lbytes_byte _)) hlg).mono ?_
        rintro e w' ⟨A2, c2, Al2, cl2, rfl, o2, r2, b2⟩
        have hl2 : (P ++ [(km, zm)]).length = pn + 1 := by rw [List.length_append, hPl]; rfl
        rw [hl2] at r2 ⊢
        exact ⟨A2, c2, Al2, cl2, rfl, r2, b2⟩
      have HS1 : Hid (∀ W base A c, Below w.heap.size w W → RecsAt base W (.slice A pn c) P → Calls Try.prog 16 #[.slice A pn c, .slice Al pn cl] W (BoolPost true W)) := fun W base A c hb h => same_in h hPl hPok ((HRd.out.below hb).more hb.size) HLe.out (by omega) hPL
      have HS2 : Hid (∀ W base base' A A' c c', RecsAt base W (.slice A pn c) P → RecsAt base' W (.slice A' (pn + 1) c') (P ++ [(km, zm)]) → Calls Try.prog 16 #[.slice A' pn c', .slice A pn c] W (BoolPost true W)) := fun W base base' A A' c c' h h' => same_cut2 h hPl h' (by rw [List.length_append, hPl]; rfl) hokM (by omega) (List.prefix_append _ _)
      have HS3 : Hid (∀ W xA xn xc, Rd W W.heap.size xA xn (iv zm) → Below w.heap.size w W → Calls Try.prog 26 #[.agg #[.int .u8 (km : Int), .slice xA xn xc], .agg #[.int .u8 (km : Int), .slice Am nm cm]] W (BoolPost true W)) := fun W xA xn xc h hb => by
        have h18 := okR_len (r := (km, zm)) HM2.out
        have h1 := refSameRec_any km km xA Am xn xc nm cm zm zm W.heap.size w.heap.size W h (HMo.out.below hb) (Nat.le_refl _) hb.size (by have h2 := h.1; rw [iv_length] at h2; simp only at h18; omega)
        rwa [show sameB km zm km zm = true by simp [sameB]] at h1
      have hH1 : ∀ W : World, (Instr.slice 25 (.slice Al j cl) none (some (.int .i64 (pn : Int))) none).run Try.prog W = .ok (.slice Al pn cl) W := fun W => run_headRec Al j cl pn (by omega) W
      have c1 : ¬ (pn : Int) < (k : Int) := by omega
      have c2 : ¬ (j : Int) < (pn : Int) := by omega
      have c3 : (pn : Int) ≤ (j : Int) := by omega
      have c4 : (pn : Int) ≤ (cl : Int) := by omega
      have hpn : pn ≤ 30 := by omega
      have hw1 : IntKind.i64.wrap ((pn : Int) + 1) = (pn : Int) + 1 := wrapI_one (by omega)
      have hd1 : ((pn : Int) + 1 == (pn : Int) + 1) = true := by simp
      have huu : ((up : Int) == (up : Int)) = true := by simp
      have hkeep : ¬ (100000 < keep) ∨ (100000 < keep ∧ ((pn : Int) == (j : Int)) = true) := by
        by_cases hkk : 100000 < keep
        · exact .inr ⟨hkk, by rw [beq_iff_eq, hkeepP hkk]⟩
        · exact .inl hkk
      have HKe := Lib.hid hkeep
      have HPl := Lib.hid hPl
      have HTk := Lib.hid htk
      have HKK := Lib.hid hKK
      have HSS := Lib.hid hSS
      have hd0 := HI.out.disk
      rw [hKK, hSS] at hd0
      obtain ⟨y0, y1, y2⟩ := hd0.cells3
      have hrd0 := HI.out.rd
      rw [htk, hKK] at hrd0
      have hcap0 := HI.out.cap
      rw [hKK] at hcap0
      clear hokL htk hpj hkp hlogP hkeepP hC hPe hup hKK hSS hPl hPL hPok hDok hK5 hpS hCK hbl hCl hCb hq hqP huC hlm hn4 hn4u hokM hkeep hd0 HOk hkj hj hlt hnl hcl
      go_wp2_with fail
      refine (HCr.out _ _ _ hrd0 hcap0).mono ?_
      rintro e w4 ⟨A4, c4', rfl, o4, b4⟩
      have hI4 := HI.out.under b4
      have hr4 := Rd.of_own o4
      have hc4 := own_cap o4
      have HI4 := Lib.hid hI4
      clear y0 y1 y2 hrd0 hcap0 b4 o4 hI4 HI
      go_wp2_with fail
      refine (HOp1.out _ _ _ hr4 hc4).mono ?_
      rintro e w5 ⟨A5, c5, Al5, cl5, rfl, o5, r5, b5⟩
      have hal5 := (Below.refl w5.heap.size w5).alloc (Nat.le_refl _) (.cells #[.slice A5 up c5, .int .i64 up, .int .i64 (9000 : Nat)] 24)
      have b5' := b5.trans (hal5.mono b5.size)
      have HI5 := Lib.hid (HI4.out.under b5')
      have HM5 := Lib.hid (r5.under hal5)
      have HO5 := Lib.hid (own_under o5 hal5)
      have HC5 := Lib.hid (own_cap o5)
      have HB5 := Lib.hid (Whole.new w5 24 #[.slice A5 up c5, .int .i64 up, .int .i64 (9000 : Nat)])
      clear hr4 hc4 o5 r5 b5 hal5 b5' HI4
      go_wp2_with fail
      refine (HS1.out _ _ _ _ HI5.out.below HM5.out).mono ?_
      rintro e w6 ⟨rfl, b6⟩
      have HI6 := Lib.hid (HI5.out.under b6)
      have HM6 := Lib.hid (HM5.out.under b6)
      have HO6 := Lib.hid (own_under HO5.out b6)
      have HB6 := Lib.hid (HB5.out.under b6)
      clear b6 HI5 HM5 HO5 HB5
      obtain ⟨y0, y1, y2⟩ := HB6.out.cells3
      have z0 := HI6.out.more.cell 0
      have z1 := HI6.out.more.cell 1
      simp only [List.getElem?_toArray, List.getElem?_cons_zero, List.getElem?_cons_succ] at z0 z1
      have hL6 := rdR_one w6 ⟨km, Am, nm, cm, zm⟩ w.heap.size HI6.out.below.size hkm (HMo.out.below HI6.out.below) w6.heap.size rfl
      have hA6 := (Below.refl w6.heap.size w6).alloc (Nat.le_refl _) (.cells #[.int .u8 (km : Int), .slice Am nm cm] 43)
      have HL6 := Lib.hid hL6
      have HA6 := Lib.hid hA6
      clear hL6 hA6
      rcases HKe.out with hke | ⟨hke, hke2⟩
      all_goals
        go_wp2_with fail
        refine (HAd.out _ _ _ _ (Rd.of_own (own_under HO6.out HA6.out)) HC5.out (HL6.out.more (by simp))).mono ?_
        rintro e w7 ⟨A7, c7, rfl, o7, b7⟩
        have hal7 := (Below.refl w7.heap.size w7).alloc (Nat.le_refl _) (.cells #[.slice A7 n4 c7, .int .i64 up, .int .i64 (9000 : Nat)] 24)
        have b7' := (HA6.out.trans (b7.mono HA6.out.size)).trans (hal7.mono (HA6.out.trans (b7.mono HA6.out.size)).size)
        have HI7 := Lib.hid (HI6.out.under b7')
        have HM7 := Lib.hid (HM6.out.under b7')
        have HO7 := Lib.hid (own_under o7 hal7)
        have HC7 := Lib.hid (own_cap o7)
        have HB7 := Lib.hid (Whole.new w7 24 #[.slice A7 n4 c7, .int .i64 up, .int .i64 (9000 : Nat)])
        clear y0 y1 y2 z0 z1 o7 b7 hal7 b7' HI6 HM6 HO6 HB6 HL6 HA6
        obtain ⟨y0, y1, y2⟩ := HB7.out.cells3
        go_wp2_with fail
        refine (HOp2.out _ _ _ (Rd.of_own HO7.out) HC7.out).mono ?_
        rintro e w8 ⟨A8, c8, Al8, cl8, rfl, r8, b8⟩
        have hal8 := (Below.refl w8.heap.size w8).alloc (Nat.le_refl _) (.cells #[.slice A8 n4 c8, .int .i64 n4, .int .i64 (9000 : Nat)] 24)
        have b8' := b8.trans (hal8.mono b8.size)
        have HI8 := Lib.hid (HI7.out.under b8')
        have HM8 := Lib.hid (HM7.out.under b8')
        have HK8 := Lib.hid (r8.under hal8)
        obtain ⟨bk, offk, xA, xn, xc, rfl, hlast⟩ := HK8.out.last HPl.out
        have HLast := Lib.hid hlast
        have hcap8 := HK8.out.cap
        clear y0 y1 y2 r8 b8 hal8 b8' HI7 HM7 HO7 HB7 hlast
        go_wp2_with fail
        obtain ⟨W0, hW0⟩ : ∃ W, w8.alloc (.cells #[.slice A8 n4 c8, .int .i64 n4, .int .i64 9000] 24) = W := ⟨_, rfl⟩
        have HI0 : Hid (LcAt w w3.heap.size km Am nm cm L j k A c W0) := by rw [← hW0]; exact HI8
        have HM0 : Hid (RecsAt w4.heap.size W0 (.slice Al5 pn cl5) P) := by rw [← hW0]; exact HM8
        have HK0 : Hid (RecsAt (w7.alloc (.cells #[.slice A7 n4 c7, .int .i64 up, .int .i64 (9000 : Nat)] 24)).heap.size W0 (.slice (some ⟨bk, offk, none⟩) (pn + 1) cl8) (P ++ [(km, zm)])) := by rw [← hW0]; exact HK8
        have HLa0 : Hid (∀ W', Below W0.heap.size W0 W' → W'.cell? ⟨bk, offk + pn * 2, none⟩ = some (.int .u8 (km : Int)) ∧ W'.cell? ⟨bk, offk + pn * 2 + 1, none⟩ = some (.slice xA xn xc) ∧ Rd W' W'.heap.size xA xn (iv zm)) := by rw [← hW0]; exact HLast
        rw [hW0]
        clear hW0 HI8 HM8 HK8 HLast
        have HL : Hid (∀ W, Below W0.heap.size W0 W → W.cell? ⟨bk, offk + pn * 2, none⟩ = some (.int .u8 (km : Int)) ∧ W.cell? ⟨bk, offk + pn * 2 + 1, none⟩ = some (.slice xA xn xc) ∧ W.cell? ⟨w.heap.size, 0, none⟩ = some (.int .u8 (km : Int)) ∧ W.cell? ⟨w.heap.size, 1, none⟩ = some (.slice Am nm cm) ∧
            RecsAt w4.heap.size W (.slice Al5 pn cl5) P ∧ RecsAt (w7.alloc (.cells #[.slice A7 n4 c7, .int .i64 up, .int .i64 (9000 : Nat)] 24)).heap.size W (.slice (some ⟨bk, offk, none⟩) (pn + 1) cl8) (P ++ [(km, zm)]) ∧ Rd W W.heap.size xA xn (iv zm) ∧ Below w.heap.size w W) := fun W hW => by
          have g := HI0.out.under hW
          have gl := HLa0.out W hW
          exact ⟨gl.1, gl.2.1, g.more.cell 0, g.more.cell 1, HM0.out.under hW, HK0.out.under hW, gl.2.2, g.below⟩
        have HC := Lib.hid ((Below.refl W0.heap.size W0).drew)
        have hH2 : ∀ W : World, (Instr.slice 25 (.slice (some ⟨bk, offk, none⟩) (pn + 1) cl8) none (some (.int .i64 (pn : Int))) none).run Try.prog W = .ok (.slice (some ⟨bk, offk, none⟩) pn cl8) W := fun W => run_headRec _ (pn + 1) cl8 pn (by omega) W
        have hc8 : (pn : Int) ≤ (cl8 : Int) := by omega
        have hlt1 : (pn : Int) < (pn : Int) + 1 := by omega
        clear HI0 HM0 HK0 HLa0
        refine wp_region_held_drew (S := fun W => Below W0.heap.size W0 W) (by kernel_rfl) HC.out (fun _ => ?_)
        refine takeH (i := 0) (v := ?_) rfl (by kernel_rfl) (by kernel_rfl) (by kernel_rfl) (fun _ _ _ h => h) (by rfl) ?_ HC.out ?_
        rotate_left
        · intro W hW; obtain ⟨N0, N1, L0, L1, G1, G2, RX, BA⟩ := HL.out W hW; go_simp <;> with_reducible rfl
        simp only [Act.put, List.setIfInBounds_toArray, List.set_cons_zero, List.set_cons_succ]
        refine takeH (i := 1) (v := ?_) rfl (by kernel_rfl) (by kernel_rfl) (by kernel_rfl) (fun _ _ _ h => h) (by rfl) ?_ HC.out ?_
        rotate_left
        · intro W hW; obtain ⟨N0, N1, L0, L1, G1, G2, RX, BA⟩ := HL.out W hW; go_simp <;> with_reducible rfl
        simp only [Act.put, List.setIfInBounds_toArray, List.set_cons_zero, List.set_cons_succ]
        refine takeH (i := 2) (v := ?_) rfl (by kernel_rfl) (by kernel_rfl) (by kernel_rfl) (fun _ _ _ h => h) (by rfl) ?_ HC.out ?_
        rotate_left
        · intro W hW; obtain ⟨N0, N1, L0, L1, G1, G2, RX, BA⟩ := HL.out W hW; go_simp <;> with_reducible rfl
        simp only [Act.put, List.setIfInBounds_toArray, List.set_cons_zero, List.set_cons_succ]
        refine takeH (i := 3) (v := ?_) rfl (by kernel_rfl) (by kernel_rfl) (by kernel_rfl) (fun _ _ _ h => h) (by rfl) ?_ HC.out ?_
        rotate_left
        · intro W hW; obtain ⟨N0, N1, L0, L1, G1, G2, RX, BA⟩ := HL.out W hW; go_simp <;> with_reducible rfl
        simp only [Act.put, List.setIfInBounds_toArray, List.set_cons_zero, List.set_cons_succ]
        refine takeH (i := 4) (v := ?_) rfl (by kernel_rfl) (by kernel_rfl) (by kernel_rfl) (fun _ _ _ h => h) (by rfl) ?_ HC.out ?_
        rotate_left
        · intro W hW; obtain ⟨N0, N1, L0, L1, G1, G2, RX, BA⟩ := HL.out W hW; go_simp <;> with_reducible rfl
        simp only [Act.put, List.setIfInBounds_toArray, List.set_cons_zero, List.set_cons_succ]
        refine takeH (i := 5) (v := ?_) rfl (by kernel_rfl) (by kernel_rfl) (by kernel_rfl) (fun _ _ _ h => h) (by rfl) ?_ HC.out ?_
        rotate_left
        · intro W hW; obtain ⟨N0, N1, L0, L1, G1, G2, RX, BA⟩ := HL.out W hW; go_simp <;> with_reducible rfl
        simp only [Act.put, List.setIfInBounds_toArray, List.set_cons_zero, List.set_cons_succ]
        refine takeH (i := 6) (v := ?_) rfl (by kernel_rfl) (by kernel_rfl) (by kernel_rfl) (fun _ _ _ h => h) (by rfl) ?_ HC.out ?_
        rotate_left
        · intro W hW; obtain ⟨N0, N1, L0, L1, G1, G2, RX, BA⟩ := HL.out W hW; go_simp <;> with_reducible rfl
        simp only [Act.put, List.setIfInBounds_toArray, List.set_cons_zero, List.set_cons_succ]
        refine takeH (i := 7) (v := ?_) rfl (by kernel_rfl) (by kernel_rfl) (by kernel_rfl) (fun _ _ _ h => h) (by rfl) ?_ HC.out ?_
        rotate_left
        · intro W hW; obtain ⟨N0, N1, L0, L1, G1, G2, RX, BA⟩ := HL.out W hW; go_simp <;> with_reducible rfl
        simp only [Act.put, List.setIfInBounds_toArray, List.set_cons_zero, List.set_cons_succ]
        refine takeH (i := 8) (v := ?_) rfl (by kernel_rfl) (by kernel_rfl) (by kernel_rfl) (fun _ _ _ h => h) (by rfl) ?_ HC.out ?_
        rotate_left
        · intro W hW; obtain ⟨N0, N1, L0, L1, G1, G2, RX, BA⟩ := HL.out W hW; go_simp <;> with_reducible rfl
        simp only [Act.put, List.setIfInBounds_toArray, List.set_cons_zero, List.set_cons_succ]
        refine takeH (i := 9) (v := ?_) rfl (by kernel_rfl) (by kernel_rfl) (by kernel_rfl) (fun _ _ _ h => h) (by rfl) ?_ HC.out ?_
        rotate_left
        · intro W hW; obtain ⟨N0, N1, L0, L1, G1, G2, RX, BA⟩ := HL.out W hW; go_simp <;> with_reducible rfl
        simp only [Act.put, List.setIfInBounds_toArray, List.set_cons_zero, List.set_cons_succ]
        refine takeH (i := 10) (v := ?_) rfl (by kernel_rfl) (by kernel_rfl) (by kernel_rfl) (fun _ _ _ h => h) (by rfl) ?_ HC.out ?_
        rotate_left
        · intro W hW; obtain ⟨N0, N1, L0, L1, G1, G2, RX, BA⟩ := HL.out W hW; go_simp <;> with_reducible rfl
        simp only [Act.put, List.setIfInBounds_toArray, List.set_cons_zero, List.set_cons_succ]
        refine takeH (i := 11) (v := ?_) rfl (by kernel_rfl) (by kernel_rfl) (by kernel_rfl) (fun _ _ _ h => h) (by rfl) ?_ HC.out ?_
        rotate_left
        · intro W hW; obtain ⟨N0, N1, L0, L1, G1, G2, RX, BA⟩ := HL.out W hW; go_simp <;> with_reducible rfl
        simp only [Act.put, List.setIfInBounds_toArray, List.set_cons_zero, List.set_cons_succ]
        refine takeH (i := 12) (v := ?_) rfl (by kernel_rfl) (by kernel_rfl) (by kernel_rfl) (fun _ _ _ h => h) (by rfl) ?_ HC.out ?_
        rotate_left
        · intro W hW; obtain ⟨N0, N1, L0, L1, G1, G2, RX, BA⟩ := HL.out W hW; go_simp <;> with_reducible rfl
        simp only [Act.put, List.setIfInBounds_toArray, List.set_cons_zero, List.set_cons_succ]
        refine takeH (i := 13) (v := ?_) rfl (by kernel_rfl) (by kernel_rfl) (by kernel_rfl) (fun _ _ _ h => h) (by rfl) ?_ HC.out ?_
        rotate_left
        · intro W hW; obtain ⟨N0, N1, L0, L1, G1, G2, RX, BA⟩ := HL.out W hW; go_simp <;> with_reducible rfl
        simp only [Act.put, List.setIfInBounds_toArray, List.set_cons_zero, List.set_cons_succ]
        refine takeH (i := 14) (v := ?_) rfl (by kernel_rfl) (by kernel_rfl) (by kernel_rfl) (fun _ _ _ h => h) (by rfl) ?_ HC.out ?_
        rotate_left
        · intro W hW; obtain ⟨N0, N1, L0, L1, G1, G2, RX, BA⟩ := HL.out W hW; go_simp <;> with_reducible rfl
        simp only [Act.put, List.setIfInBounds_toArray, List.set_cons_zero, List.set_cons_succ]
        refine takeH (i := 15) (v := ?_) rfl (by kernel_rfl) (by kernel_rfl) (by kernel_rfl) (fun _ _ _ h => h) (by rfl) ?_ HC.out ?_
        rotate_left
        · intro W hW; obtain ⟨N0, N1, L0, L1, G1, G2, RX, BA⟩ := HL.out W hW; go_simp <;> with_reducible rfl
        simp only [Act.put, List.setIfInBounds_toArray, List.set_cons_zero, List.set_cons_succ]
        refine oneH (i := 16) rfl (by kernel_rfl) (by rfl) (fun K hK => ?_)
        go_simp
        obtain ⟨N0, N1, L0, L1, G1, G2, RX, BA⟩ := HL.out _ HC.out
        refine (HS2.out _ _ _ _ _ _ _ G1 G2).mono ?_
        rintro e w11 ⟨rfl, d11⟩
        have HC9 := Lib.hid (HC.out.trans (d11.mono HC.out.size))
        clear HC d11 N0 N1 L0 L1 G1 G2 RX BA
        have HC := HC9
        clear HC9
        refine hK.out _ _ HC.out (fun _ => ?_)
        clear hK K
        refine takeH (i := 17) (v := ?_) rfl (by kernel_rfl) (by kernel_rfl) (by kernel_rfl) (fun _ _ _ h => h) (by rfl) ?_ HC.out ?_
        rotate_left
        · intro W hW; obtain ⟨N0, N1, L0, L1, G1, G2, RX, BA⟩ := HL.out W hW; go_simp <;> with_reducible rfl
        simp only [Act.put, List.setIfInBounds_toArray, List.set_cons_zero, List.set_cons_succ]
        refine takeH (i := 18) (v := ?_) rfl (by kernel_rfl) (by kernel_rfl) (by kernel_rfl) (fun _ _ _ h => h) (by rfl) ?_ HC.out ?_
        rotate_left
        · intro W hW; obtain ⟨N0, N1, L0, L1, G1, G2, RX, BA⟩ := HL.out W hW; go_simp <;> with_reducible rfl
        simp only [Act.put, List.setIfInBounds_toArray, List.set_cons_zero, List.set_cons_succ]
        refine takeH (i := 19) (v := ?_) rfl (by kernel_rfl) (by kernel_rfl) (by kernel_rfl) (fun _ _ _ h => h) (by rfl) ?_ HC.out ?_
        rotate_left
        · intro W hW; obtain ⟨N0, N1, L0, L1, G1, G2, RX, BA⟩ := HL.out W hW; go_simp <;> with_reducible rfl
        simp only [Act.put, List.setIfInBounds_toArray, List.set_cons_zero, List.set_cons_succ]
        refine takeH (i := 20) (v := ?_) rfl (by kernel_rfl) (by kernel_rfl) (by kernel_rfl) (fun _ _ _ h => h) (by rfl) ?_ HC.out ?_
        rotate_left
        · intro W hW; obtain ⟨N0, N1, L0, L1, G1, G2, RX, BA⟩ := HL.out W hW; go_simp <;> with_reducible rfl
        simp only [Act.put, List.setIfInBounds_toArray, List.set_cons_zero, List.set_cons_succ]
        refine takeH (i := 21) (v := ?_) rfl (by kernel_rfl) (by kernel_rfl) (by kernel_rfl) (fun _ _ _ h => h) (by rfl) ?_ HC.out ?_
        rotate_left
        · intro W hW; obtain ⟨N0, N1, L0, L1, G1, G2, RX, BA⟩ := HL.out W hW; go_simp <;> with_reducible rfl
        simp only [Act.put, List.setIfInBounds_toArray, List.set_cons_zero, List.set_cons_succ]
        refine takeH (i := 22) (v := ?_) rfl (by kernel_rfl) (by kernel_rfl) (by kernel_rfl) (fun _ _ _ h => h) (by rfl) ?_ HC.out ?_
        rotate_left
        · intro W hW; obtain ⟨N0, N1, L0, L1, G1, G2, RX, BA⟩ := HL.out W hW; go_simp <;> with_reducible rfl
        simp only [Act.put, List.setIfInBounds_toArray, List.set_cons_zero, List.set_cons_succ]
        refine takeH (i := 23) (v := ?_) rfl (by kernel_rfl) (by kernel_rfl) (by kernel_rfl) (fun _ _ _ h => h) (by rfl) ?_ HC.out ?_
        rotate_left
        · intro W hW; obtain ⟨N0, N1, L0, L1, G1, G2, RX, BA⟩ := HL.out W hW; go_simp <;> with_reducible rfl
        simp only [Act.put, List.setIfInBounds_toArray, List.set_cons_zero, List.set_cons_succ]
        refine takeH (i := 24) (v := ?_) rfl (by kernel_rfl) (by kernel_rfl) (by kernel_rfl) (fun _ _ _ h => h) (by rfl) ?_ HC.out ?_
        rotate_left
        · intro W hW; obtain ⟨N0, N1, L0, L1, G1, G2, RX, BA⟩ := HL.out W hW; go_simp <;> with_reducible rfl
        simp only [Act.put, List.setIfInBounds_toArray, List.set_cons_zero, List.set_cons_succ]
        refine oneH (i := 25) rfl (by kernel_rfl) (by rfl) (fun K hK => ?_)
        go_simp
        obtain ⟨N0, N1, L0, L1, G1, G2, RX, BA⟩ := HL.out _ HC.out
        refine (HS3.out _ _ _ _ RX BA).mono ?_
        rintro e w12 ⟨rfl, d12⟩
        have HC9 := Lib.hid (HC.out.trans (d12.mono HC.out.size))
        clear HC d12 N0 N1 L0 L1 G1 G2 RX BA
        have HC := HC9
        clear HC9
        refine hK.out _ _ HC.out (fun _ => ?_)
        clear hK K
        refine takeH (i := 26) (v := ?_) rfl (by kernel_rfl) (by kernel_rfl) (by kernel_rfl) (fun _ _ _ h => h) (by rfl) ?_ HC.out ?_
        rotate_left
        · intro W hW; obtain ⟨N0, N1, L0, L1, G1, G2, RX, BA⟩ := HL.out W hW; go_simp <;> with_reducible rfl
        simp only [Act.put, List.setIfInBounds_toArray, List.set_cons_zero, List.set_cons_succ]
        refine takeH (i := 27) (v := ?_) rfl (by kernel_rfl) (by kernel_rfl) (by kernel_rfl) (fun _ _ _ h => h) (by rfl) ?_ HC.out ?_
        rotate_left
        · intro W hW; obtain ⟨N0, N1, L0, L1, G1, G2, RX, BA⟩ := HL.out W hW; go_simp <;> with_reducible rfl
        simp only [Act.put, List.setIfInBounds_toArray, List.set_cons_zero, List.set_cons_succ]
        refine oneH (i := 28) rfl (by kernel_rfl) (by rfl) (fun K hK => ?_)
        go_simp
        obtain ⟨N0, N1, L0, L1, G1, G2, RX, BA⟩ := HL.out _ HC.out
        refine (wakesL_any _).mono ?_
        rintro e w13 ⟨rfl, d13⟩
        have HC9 := Lib.hid (HC.out.trans (d13.mono HC.out.size))
        clear HC d13 N0 N1 L0 L1 G1 G2 RX BA
        have HC := HC9
        clear HC9
        refine hK.out _ _ HC.out (fun _ => ?_)
        clear hK K
        refine takeH (i := 29) (v := ?_) rfl (by kernel_rfl) (by kernel_rfl) (by kernel_rfl) (fun _ _ _ h => h) (by rfl) ?_ HC.out ?_
        rotate_left
        · intro W hW; obtain ⟨N0, N1, L0, L1, G1, G2, RX, BA⟩ := HL.out W hW; go_simp <;> with_reducible rfl
        simp only [Act.put, List.setIfInBounds_toArray, List.set_cons_zero, List.set_cons_succ]
        refine takeH (i := 30) (v := ?_) rfl (by kernel_rfl) (by kernel_rfl) (by kernel_rfl) (fun _ _ _ h => h) (by rfl) ?_ HC.out ?_
        rotate_left
        · intro W hW; obtain ⟨N0, N1, L0, L1, G1, G2, RX, BA⟩ := HL.out W hW; go_simp <;> with_reducible rfl
        simp only [Act.put, List.setIfInBounds_toArray, List.set_cons_zero, List.set_cons_succ]
        refine wpAnyH_done (by kernel_rfl) ?_ _
        have BF := Lib.hid (HL.out _ HC.out).2.2.2.2.2.2.2
        go_wp2_with fail
        go_ret
        exact ⟨rfl, BF.out⟩

theorem logCrash_walk (Al : Option Addr) (nl cl : Nat) (el : List RE) (S32 : Int) (keep : Int) (km : Nat) (Am : Option Addr) (nm cm : Nat) (zm : List Int) (w : World) (hl : RdR w w.heap.size Al nl el) (hcl : nl ≤ cl) (hkm : km < 256) (hm : Rd w w.heap.size Am nm (iv zm)) :
    Calls Try.prog 4 #[.slice Al nl cl, .int .u32 S32, .int .i64 keep, .agg #[.int .u8 (km : Int), .slice Am nm cm]] w (TruePost w) := by
  cases hg : greatL 0 el
  · cases h2 : mayB km zm
    · exact logCrash_out2 Al nl cl el S32 keep km Am nm cm zm w hl hm hg h2
    · exact logCrash_in Al nl cl el S32 keep km Am nm cm zm w hl hkm hm hg h2 hcl _ rfl
  · exact logCrash_out1 Al nl cl el S32 keep km Am nm cm w hl hg

end Go.Proofs.Ytbkfpghpfaemeaa
