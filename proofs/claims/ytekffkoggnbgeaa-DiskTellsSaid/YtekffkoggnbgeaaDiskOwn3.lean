/-
  The region of 'DiskOwn' in which a disk is told, made safe, and crashed: whatever the order. Conditions: those that each theorem names.
-/
import Derived.Test.YtekffkoggnbgeaaDiskUse
import Derived.Test.YtekffkoggnbgeaaRegionInv
namespace Go.Proofs.Ytekffkoggnbgeaa
open Go.RowKit Go.Shelf

section
variable {K : Act → World → Prop} {Q : Exit → Act → World → Prop} {a : Act} {w : World} {dst : Option Tmp} {t : TypeId} {pos : String} {after : Array Edge} {x y : Operand}
theorem opD_load {b : Nat} {A : Option Addr} {n c : Nat} {s r : Int} (hx : a.eval x = .pointer (some ⟨b, 0, none⟩)) (hw : Whole w b 24 #[.slice A n c, .int .i64 s, .int .i64 r]) (h : K (a.put dst (diskV A n c s r)) w) :
    ({ dst := dst, op := .load 24 x, type := t, pos := pos, after := after, guard := none } : Oper).wp Try.prog a w K Q := by
  obtain ⟨c0, c1, c2⟩ := hw.cells3
  unfold Oper.wp execOp
  simp only [hx]
  go_simp
  exact h
theorem opD_move {v : Value} (hx : a.eval x = v) (h : K (a.put dst v) w) :
    ({ dst := dst, op := .move x, type := t, pos := pos, after := after, guard := none } : Oper).wp Try.prog a w K Q := by
  unfold Oper.wp execOp
  simp only [hx]
  go_simp
  exact h
theorem opD_alloc (h : K (a.put dst (.pointer (some ⟨w.heap.size, 0, none⟩))) (w.alloc zeroB)) :
    ({ dst := dst, op := .alloc 24, type := t, pos := pos, after := after, guard := none } : Oper).wp Try.prog a w K Q := by
  unfold Oper.wp execOp
  go_simp
  exact h
theorem opD_store {b : Nat} {A : Option Addr} {n c : Nat} {s r : Int} {u0 u1 u2 : Value} (hx : a.eval x = .pointer (some ⟨b, 0, none⟩)) (hy : a.eval y = diskV A n c s r) (hw : Whole w b 24 #[u0, u1, u2])
    (h : K a (setDisk w b (.slice A n c) (.int .i64 s) (.int .i64 r))) :
    ({ dst := none, op := .store 24 x y, type := t, pos := pos, after := after, guard := none } : Oper).wp Try.prog a w K Q := by
  have h0 := hw.frozen 0
  have h1 := hw.frozen 1
  have h2 := hw.frozen 2
  obtain ⟨c0, c1, c2⟩ := hw.cells3
  unfold Oper.wp execOp
  simp only [hx, hy]
  go_simp
  exact h
theorem opD_own {T : Ending → World → Prop} {vs : Value} (hx : a.eval x = vs) (hc : Calls Try.prog 14 #[vs] w T) (h : ∀ e w', T e w' → ∃ v, e = .returned v ∧ K (a.put dst v) w') :
    ({ dst := dst, op := .call { callee := .value (.func 14), args := #[x], argTypes := #[24] }, type := t, pos := pos, after := after, guard := none } : Oper).wp Try.prog a w K Q := by
  have hf : a.eval (.func 14) = .func (.func 14) #[] #[] := rfl
  unfold Oper.wp execOp
  simp only [resolve, List.map_toArray, List.map_cons, List.map_nil, hx, hf]
  go_simp
  refine hc.mono ?_
  intro e w' hT
  obtain ⟨v, rfl, hK⟩ := h e w' hT
  exact hK
theorem opD_sync {T : Ending → World → Prop} {vs : Value} (hx : a.eval x = vs) (hc : Calls Try.prog 16 #[vs] w T) (h : ∀ e w', T e w' → ∃ v, e = .returned v ∧ K (a.put dst v) w') :
    ({ dst := dst, op := .call { callee := .value (.func 16), args := #[x], argTypes := #[24] }, type := t, pos := pos, after := after, guard := none } : Oper).wp Try.prog a w K Q := by
  have hf : a.eval (.func 16) = .func (.func 16) #[] #[] := rfl
  unfold Oper.wp execOp
  simp only [resolve, List.map_toArray, List.map_cons, List.map_nil, hx, hf]
  go_simp
  refine hc.mono ?_
  intro e w' hT
  obtain ⟨v, rfl, hK⟩ := h e w' hT
  exact hK
theorem opD_crash {T : Ending → World → Prop} {vs vx : Value} (hx : a.eval x = vs) (hy : a.eval y = vx) (hc : Calls Try.prog 17 #[vs, vx] w T) (h : ∀ e w', T e w' → ∃ v, e = .returned v ∧ K (a.put dst v) w') :
    ({ dst := dst, op := .call { callee := .value (.func 17), args := #[x, y], argTypes := #[24, 3] }, type := t, pos := pos, after := after, guard := none } : Oper).wp Try.prog a w K Q := by
  have hf : a.eval (.func 17) = .func (.func 17) #[] #[] := rfl
  unfold Oper.wp execOp
  simp only [resolve, List.map_toArray, List.map_cons, List.map_nil, hx, hy, hf]
  go_simp
  refine hc.mono ?_
  intro e w' hT
  obtain ⟨v, rfl, hK⟩ := h e w' hT
  exact hK
end

/-- A store into a disk leaves a row of bytes. -/
theorem own_farDisk {w : World} {base n b : Nat} {v : Value} {xs : List Value} {cs : Array Value} (ho : w.ownsRow base 5 1 v n xs) (hw : Whole w b 24 cs) (v0 v1 v2 : Value) : (setDisk w b v0 v1 v2).ownsRow base 5 1 v n xs := by
  have hne := own_apart_of (by decide) ho hw
  exact ownsRow_setCell_other (ownsRow_setCell_other (ownsRow_setCell_other (a := ⟨b, 0, none⟩) ho hne _) (a := ⟨b, 1, none⟩) hne _) (a := ⟨b, 2, none⟩) hne _

abbrev own3Ds : List Nat := [13, 14, 15, 16, 17, 18, 19, 7, 8, 9]

/-- What holds behind any operations of the region that have come up. -/
structure Own3I (a0 : Act) (W0 : World) (A : Option Addr) (n c : Nat) (s r nv : Int) (D1 D2 D3 : Dk) (L : Nat → Bool) (a : Act) (w : World) (A1 : Option Addr) (c1 : Nat) (A2 : Option Addr) (c2 : Nat) (A3 : Option Addr) (c3 b1 b2 b3 : Nat) : Prop where
  agree : Agree own3Ds a0 a
  below : Below W0.heap.size W0 w
  x0 : L 0 = true → a.eval (.tmp 13) = diskV A n c s r
  x2 : L 2 = true → a.eval (.tmp 15) = diskV A n c s r
  x4 : L 4 = true → a.eval (.tmp 17) = diskV A n c s r
  x5 : L 5 = true → a.eval (.tmp 18) = .int .i64 nv
  p0 : L 1 = true → a.eval (.tmp 14) = diskV A1 D1.bs.length c1 D1.syn D1.room ∧ w.ownsRow W0.heap.size 5 1 (.slice A1 D1.bs.length c1) D1.bs.length (bv D1.bs)
  p1 : L 3 = true → a.eval (.tmp 16) = diskV A2 D2.bs.length c2 D2.syn D2.room ∧ w.ownsRow W0.heap.size 5 1 (.slice A2 D2.bs.length c2) D2.bs.length (bv D2.bs)
  p2 : L 6 = true → a.eval (.tmp 19) = diskV A3 D3.bs.length c3 D3.syn D3.room ∧ w.ownsRow W0.heap.size 5 1 (.slice A3 D3.bs.length c3) D3.bs.length (bv D3.bs)
  q0 : L 7 = true → a.eval (.tmp 7) = .pointer (some ⟨b1, 0, none⟩) ∧ W0.heap.size ≤ b1 ∧ Whole w b1 24 (if L 10 = true then #[.slice A1 D1.bs.length c1, .int .i64 D1.syn, .int .i64 D1.room] else #[.slice none 0 0, .int .i64 0, .int .i64 0])
  q1 : L 8 = true → a.eval (.tmp 8) = .pointer (some ⟨b2, 0, none⟩) ∧ W0.heap.size ≤ b2 ∧ Whole w b2 24 (if L 11 = true then #[.slice A2 D2.bs.length c2, .int .i64 D2.syn, .int .i64 D2.room] else #[.slice none 0 0, .int .i64 0, .int .i64 0])
  q2 : L 9 = true → a.eval (.tmp 9) = .pointer (some ⟨b3, 0, none⟩) ∧ W0.heap.size ≤ b3 ∧ Whole w b3 24 (if L 12 = true then #[.slice A3 D3.bs.length c3, .int .i64 D3.syn, .int .i64 D3.room] else #[.slice none 0 0, .int .i64 0, .int .i64 0])
  n01 : L 7 = true → L 8 = true → b1 ≠ b2
  n02 : L 7 = true → L 9 = true → b1 ≠ b3
  n12 : L 8 = true → L 9 = true → b2 ≠ b3

theorem own3_region {ops : Array Oper} {Q : Exit → Act → World → Prop} {id : Nat} (hsize : ops.size = 13) (hlow : lowOnly ops = true)
    (o0 : At ops 0 (some 13) (.load 24 (.tmp 3)) 24 [])
    (o1 : At ops 1 (some 14) (.call { callee := .value (.func 14), args := #[.tmp 13], argTypes := #[24] }) 24 [0])
    (o2 : At ops 2 (some 15) (.load 24 (.tmp 3)) 24 [])
    (o3 : At ops 3 (some 16) (.call { callee := .value (.func 16), args := #[.tmp 15], argTypes := #[24] }) 24 [2])
    (o4 : At ops 4 (some 17) (.load 24 (.tmp 3)) 24 [])
    (o5 : At ops 5 (some 18) (.move (.tmp 1)) 3 [])
    (o6 : At ops 6 (some 19) (.call { callee := .value (.func 17), args := #[.tmp 17, .tmp 18], argTypes := #[24, 3] }) 24 [4, 5])
    (o7 : At ops 7 (some 7) (.alloc 24) 0 [])
    (o8 : At ops 8 (some 8) (.alloc 24) 0 [])
    (o9 : At ops 9 (some 9) (.alloc 24) 0 [])
    (o10 : At ops 10 none (.store 24 (.tmp 7) (.tmp 14)) 0 [7, 1])
    (o11 : At ops 11 none (.store 24 (.tmp 8) (.tmp 16)) 0 [8, 3])
    (o12 : At ops 12 none (.store 24 (.tmp 9) (.tmp 19)) 0 [9, 6])
    (a0 : Act) (hds : ∀ d ∈ own3Ds, d < a0.tmps.size) (b0 : Nat) (W0 : World) (A : Option Addr) (n c : Nat) (s r nv : Int) (D1 D2 D3 : Dk) (h3 : a0.eval (.tmp 3) = .pointer (some ⟨b0, 0, none⟩)) (h1 : a0.eval (.tmp 1) = .int .i64 nv)
    (hx : Whole W0 b0 24 #[.slice A n c, .int .i64 s, .int .i64 r])
    (k1 : ∀ W, Below W0.heap.size W0 W → Calls Try.prog 14 #[diskV A n c s r] W (DiskIs D1 W))
    (k2 : ∀ W, Below W0.heap.size W0 W → Calls Try.prog 16 #[diskV A n c s r] W (DiskIs D2 W))
    (k3 : ∀ W, Below W0.heap.size W0 W → Calls Try.prog 17 #[diskV A n c s r, .int .i64 nv] W (DiskIs D3 W))
    (fin : ∀ σ w A1 c1 A2 c2 A3 c3 b1 b2 b3, σ 7 = .pointer (some ⟨b1, 0, none⟩) → σ 8 = .pointer (some ⟨b2, 0, none⟩) → σ 9 = .pointer (some ⟨b3, 0, none⟩) → Below W0.heap.size W0 w →
      Whole w b1 24 #[.slice A1 D1.bs.length c1, .int .i64 D1.syn, .int .i64 D1.room] → Whole w b2 24 #[.slice A2 D2.bs.length c2, .int .i64 D2.syn, .int .i64 D2.room] → Whole w b3 24 #[.slice A3 D3.bs.length c3, .int .i64 D3.syn, .int .i64 D3.room] →
      w.ownsRow W0.heap.size 5 1 (.slice A1 D1.bs.length c1) D1.bs.length (bv D1.bs) → w.ownsRow W0.heap.size 5 1 (.slice A2 D2.bs.length c2) D2.bs.length (bv D2.bs) → w.ownsRow W0.heap.size 5 1 (.slice A3 D3.bs.length c3) D3.bs.length (bv D3.bs) → Q .normal (lay σ own3Ds a0) w) :
    (Code.region id ops true).wp Try.prog Q a0 W0 := by
  refine region_clo (by kernel_rfl) hlow (fun L a w => ∃ A1 c1 A2 c2 A3 c3 b1 b2 b3, Own3I a0 W0 A n c s r nv D1 D2 D3 L a w A1 c1 A2 c2 A3 c3 b1 b2 b3) ?_ ?_ ?_
  · exact ⟨none, 0, none, 0, none, 0, 0, 0, 0, Agree.refl _ _, (Below.refl _ _).drew, by simp, by simp, by simp, by simp, by simp, by simp, by simp, by simp, by simp, by simp, by simp, by simp, by simp⟩
  · rintro i o L a w ho hi hclo hall ⟨A1, c1, A2, c2, A3, c3, b1, b2, b3, I⟩
    have hlt : i < 13 := by rw [← hsize]; exact (Array.getElem?_eq_some_iff.1 ho).1
    have hz : ∀ d ∈ own3Ds, d < a.tmps.size := fun d hd => by rw [I.agree.size]; exact hds d hd
    have hbs := I.below.size
    have hxw := hx.under I.below
    rcases (by omega : i = 0 ∨ i = 1 ∨ i = 2 ∨ i = 3 ∨ i = 4 ∨ i = 5 ∨ i = 6 ∨ i = 7 ∨ i = 8 ∨ i = 9 ∨ i = 10 ∨ i = 11 ∨ i = 12) with rfl | rfl | rfl | rfl | rfl | rfl | rfl | rfl | rfl | rfl | rfl | rfl | rfl
    · refine o0.run fun pos after => opD_load (b := b0) (by rw [I.agree.eval (by decide)]; exact h3) hxw ⟨A1, c1, A2, c2, A3, c3, b1, b2, b3, I.agree.put (by decide) _, I.below, ?_, ?_, ?_, ?_, ?_, ?_, ?_, ?_, ?_, ?_, ?_, ?_, ?_⟩
      · intro _; exact eval_new (hz _ (by decide)) _
      · simpa [eval_old] using I.x2
      · simpa [eval_old] using I.x4
      · simpa [eval_old] using I.x5
      · simpa [eval_old] using I.p0
      · simpa [eval_old] using I.p1
      · simpa [eval_old] using I.p2
      · simpa [eval_old] using I.q0
      · simpa [eval_old] using I.q1
      · simpa [eval_old] using I.q2
      · simpa [eval_old] using I.n01
      · simpa [eval_old] using I.n02
      · simpa [eval_old] using I.n12
    · have hd := o1.needs ho hall
      have ns := o10.not hclo (j := 1) (by simp) hi
      refine o1.run fun pos after => opD_own (I.x0 (hd 0 (by simp))) (k1 w I.below) ?_
      rintro e w' ⟨A', c', rfl, hown, hb⟩
      refine ⟨_, rfl, A', c', A2, c2, A3, c3, b1, b2, b3, I.agree.put (by decide) _, I.below.trans (hb.mono hbs), ?_, ?_, ?_, ?_, ?_, ?_, ?_, ?_, ?_, ?_, ?_, ?_, ?_⟩
      · simpa [eval_old] using I.x0
      · simpa [eval_old] using I.x2
      · simpa [eval_old] using I.x4
      · simpa [eval_old] using I.x5
      · intro _; exact ⟨eval_new (hz _ (by decide)) _, own_weaker hown hbs⟩
      · intro hL; have h := I.p1 (by simpa using hL); exact ⟨by rw [eval_old (by decide)]; exact h.1, own_under h.2 hb⟩
      · intro hL; have h := I.p2 (by simpa using hL); exact ⟨by rw [eval_old (by decide)]; exact h.1, own_under h.2 hb⟩
      · intro hL; have h := I.q0 (by simpa using hL); rw [ns] at h; exact ⟨by rw [eval_old (by decide)]; exact h.1, h.2.1, by simpa [ns] using h.2.2.under hb⟩
      · intro hL; have h := I.q1 (by simpa using hL); exact ⟨by rw [eval_old (by decide)]; exact h.1, h.2.1, by simpa using h.2.2.under hb⟩
      · intro hL; have h := I.q2 (by simpa using hL); exact ⟨by rw [eval_old (by decide)]; exact h.1, h.2.1, by simpa using h.2.2.under hb⟩
      · simpa [eval_old] using I.n01
      · simpa [eval_old] using I.n02
      · simpa [eval_old] using I.n12
    · refine o2.run fun pos after => opD_load (b := b0) (by rw [I.agree.eval (by decide)]; exact h3) hxw ⟨A1, c1, A2, c2, A3, c3, b1, b2, b3, I.agree.put (by decide) _, I.below, ?_, ?_, ?_, ?_, ?_, ?_, ?_, ?_, ?_, ?_, ?_, ?_, ?_⟩
      · simpa [eval_old] using I.x0
      · intro _; exact eval_new (hz _ (by decide)) _
      · simpa [eval_old] using I.x4
      · simpa [eval_old] using I.x5
      · simpa [eval_old] using I.p0
      · simpa [eval_old] using I.p1
      · simpa [eval_old] using I.p2
      · simpa [eval_old] using I.q0
      · simpa [eval_old] using I.q1
      · simpa [eval_old] using I.q2
      · simpa [eval_old] using I.n01
      · simpa [eval_old] using I.n02
      · simpa [eval_old] using I.n12
    · have hd := o3.needs ho hall
      have ns := o11.not hclo (j := 3) (by simp) hi
      refine o3.run fun pos after => opD_sync (I.x2 (hd 2 (by simp))) (k2 w I.below) ?_
      rintro e w' ⟨A', c', rfl, hown, hb⟩
      refine ⟨_, rfl, A1, c1, A', c', A3, c3, b1, b2, b3, I.agree.put (by decide) _, I.below.trans (hb.mono hbs), ?_, ?_, ?_, ?_, ?_, ?_, ?_, ?_, ?_, ?_, ?_, ?_, ?_⟩
      · simpa [eval_old] using I.x0
      · simpa [eval_old] using I.x2
      · simpa [eval_old] using I.x4
      · simpa [eval_old] using I.x5
      · intro hL; have h := I.p0 (by simpa using hL); exact ⟨by rw [eval_old (by decide)]; exact h.1, own_under h.2 hb⟩
      · intro _; exact ⟨eval_new (hz _ (by decide)) _, own_weaker hown hbs⟩
      · intro hL; have h := I.p2 (by simpa using hL); exact ⟨by rw [eval_old (by decide)]; exact h.1, own_under h.2 hb⟩
      · intro hL; have h := I.q0 (by simpa using hL); exact ⟨by rw [eval_old (by decide)]; exact h.1, h.2.1, by simpa using h.2.2.under hb⟩
      · intro hL; have h := I.q1 (by simpa using hL); rw [ns] at h; exact ⟨by rw [eval_old (by decide)]; exact h.1, h.2.1, by simpa [ns] using h.2.2.under hb⟩
      · intro hL; have h := I.q2 (by simpa using hL); exact ⟨by rw [eval_old (by decide)]; exact h.1, h.2.1, by simpa using h.2.2.under hb⟩
      · simpa [eval_old] using I.n01
      · simpa [eval_old] using I.n02
      · simpa [eval_old] using I.n12
    · refine o4.run fun pos after => opD_load (b := b0) (by rw [I.agree.eval (by decide)]; exact h3) hxw ⟨A1, c1, A2, c2, A3, c3, b1, b2, b3, I.agree.put (by decide) _, I.below, ?_, ?_, ?_, ?_, ?_, ?_, ?_, ?_, ?_, ?_, ?_, ?_, ?_⟩
      · simpa [eval_old] using I.x0
      · simpa [eval_old] using I.x2
      · intro _; exact eval_new (hz _ (by decide)) _
      · simpa [eval_old] using I.x5
      · simpa [eval_old] using I.p0
      · simpa [eval_old] using I.p1
      · simpa [eval_old] using I.p2
      · simpa [eval_old] using I.q0
      · simpa [eval_old] using I.q1
      · simpa [eval_old] using I.q2
      · simpa [eval_old] using I.n01
      · simpa [eval_old] using I.n02
      · simpa [eval_old] using I.n12
    · refine o5.run fun pos after => opD_move (v := .int .i64 nv) (by rw [I.agree.eval (by decide)]; exact h1) ⟨A1, c1, A2, c2, A3, c3, b1, b2, b3, I.agree.put (by decide) _, I.below, ?_, ?_, ?_, ?_, ?_, ?_, ?_, ?_, ?_, ?_, ?_, ?_, ?_⟩
      · simpa [eval_old] using I.x0
      · simpa [eval_old] using I.x2
      · simpa [eval_old] using I.x4
      · intro _; exact eval_new (hz _ (by decide)) _
      · simpa [eval_old] using I.p0
      · simpa [eval_old] using I.p1
      · simpa [eval_old] using I.p2
      · simpa [eval_old] using I.q0
      · simpa [eval_old] using I.q1
      · simpa [eval_old] using I.q2
      · simpa [eval_old] using I.n01
      · simpa [eval_old] using I.n02
      · simpa [eval_old] using I.n12
    · have hd := o6.needs ho hall
      have ns := o12.not hclo (j := 6) (by simp) hi
      refine o6.run fun pos after => opD_crash (I.x4 (hd 4 (by simp))) (I.x5 (hd 5 (by simp))) (k3 w I.below) ?_
      rintro e w' ⟨A', c', rfl, hown, hb⟩
      refine ⟨_, rfl, A1, c1, A2, c2, A', c', b1, b2, b3, I.agree.put (by decide) _, I.below.trans (hb.mono hbs), ?_, ?_, ?_, ?_, ?_, ?_, ?_, ?_, ?_, ?_, ?_, ?_, ?_⟩
      · simpa [eval_old] using I.x0
      · simpa [eval_old] using I.x2
      · simpa [eval_old] using I.x4
      · simpa [eval_old] using I.x5
      · intro hL; have h := I.p0 (by simpa using hL); exact ⟨by rw [eval_old (by decide)]; exact h.1, own_under h.2 hb⟩
      · intro hL; have h := I.p1 (by simpa using hL); exact ⟨by rw [eval_old (by decide)]; exact h.1, own_under h.2 hb⟩
      · intro _; exact ⟨eval_new (hz _ (by decide)) _, own_weaker hown hbs⟩
      · intro hL; have h := I.q0 (by simpa using hL); exact ⟨by rw [eval_old (by decide)]; exact h.1, h.2.1, by simpa using h.2.2.under hb⟩
      · intro hL; have h := I.q1 (by simpa using hL); exact ⟨by rw [eval_old (by decide)]; exact h.1, h.2.1, by simpa using h.2.2.under hb⟩
      · intro hL; have h := I.q2 (by simpa using hL); rw [ns] at h; exact ⟨by rw [eval_old (by decide)]; exact h.1, h.2.1, by simpa [ns] using h.2.2.under hb⟩
      · simpa [eval_old] using I.n01
      · simpa [eval_old] using I.n02
      · simpa [eval_old] using I.n12
    · have ns := o10.not hclo (j := 7) (by simp) hi
      refine o7.run fun pos after => opD_alloc ⟨A1, c1, A2, c2, A3, c3, w.heap.size, b2, b3, I.agree.put (by decide) _, I.below.alloc hbs _, ?_, ?_, ?_, ?_, ?_, ?_, ?_, ?_, ?_, ?_, ?_, ?_, ?_⟩
      · simpa [eval_old] using I.x0
      · simpa [eval_old] using I.x2
      · simpa [eval_old] using I.x4
      · simpa [eval_old] using I.x5
      · intro hL; have h := I.p0 (by simpa using hL); exact ⟨by rw [eval_old (by decide)]; exact h.1, h.2.alloc _⟩
      · intro hL; have h := I.p1 (by simpa using hL); exact ⟨by rw [eval_old (by decide)]; exact h.1, h.2.alloc _⟩
      · intro hL; have h := I.p2 (by simpa using hL); exact ⟨by rw [eval_old (by decide)]; exact h.1, h.2.alloc _⟩
      · intro _; exact ⟨eval_new (hz _ (by decide)) _, hbs, by simpa [ns] using Whole.new w 24 #[.slice none 0 0, .int .i64 0, .int .i64 0]⟩
      · intro hL; have h := I.q1 (by simpa using hL); exact ⟨by rw [eval_old (by decide)]; exact h.1, h.2.1, by simpa using h.2.2.alloc zeroB⟩
      · intro hL; have h := I.q2 (by simpa using hL); exact ⟨by rw [eval_old (by decide)]; exact h.1, h.2.1, by simpa using h.2.2.alloc zeroB⟩
      · intro _ hL; have h := (I.q1 (by simpa using hL)).2.2.lt; omega
      · intro _ hL; have h := (I.q2 (by simpa using hL)).2.2.lt; omega
      · simpa [eval_old] using I.n12
    · have ns := o11.not hclo (j := 8) (by simp) hi
      refine o8.run fun pos after => opD_alloc ⟨A1, c1, A2, c2, A3, c3, b1, w.heap.size, b3, I.agree.put (by decide) _, I.below.alloc hbs _, ?_, ?_, ?_, ?_, ?_, ?_, ?_, ?_, ?_, ?_, ?_, ?_, ?_⟩
      · simpa [eval_old] using I.x0
      · simpa [eval_old] using I.x2
      · simpa [eval_old] using I.x4
      · simpa [eval_old] using I.x5
      · intro hL; have h := I.p0 (by simpa using hL); exact ⟨by rw [eval_old (by decide)]; exact h.1, h.2.alloc _⟩
      · intro hL; have h := I.p1 (by simpa using hL); exact ⟨by rw [eval_old (by decide)]; exact h.1, h.2.alloc _⟩
      · intro hL; have h := I.p2 (by simpa using hL); exact ⟨by rw [eval_old (by decide)]; exact h.1, h.2.alloc _⟩
      · intro hL; have h := I.q0 (by simpa using hL); exact ⟨by rw [eval_old (by decide)]; exact h.1, h.2.1, by simpa using h.2.2.alloc zeroB⟩
      · intro _; exact ⟨eval_new (hz _ (by decide)) _, hbs, by simpa [ns] using Whole.new w 24 #[.slice none 0 0, .int .i64 0, .int .i64 0]⟩
      · intro hL; have h := I.q2 (by simpa using hL); exact ⟨by rw [eval_old (by decide)]; exact h.1, h.2.1, by simpa using h.2.2.alloc zeroB⟩
      · intro hL _; have h := (I.q0 (by simpa using hL)).2.2.lt; omega
      · simpa [eval_old] using I.n02
      · intro _ hL; have h := (I.q2 (by simpa using hL)).2.2.lt; omega
    · have ns := o12.not hclo (j := 9) (by simp) hi
      refine o9.run fun pos after => opD_alloc ⟨A1, c1, A2, c2, A3, c3, b1, b2, w.heap.size, I.agree.put (by decide) _, I.below.alloc hbs _, ?_, ?_, ?_, ?_, ?_, ?_, ?_, ?_, ?_, ?_, ?_, ?_, ?_⟩
      · simpa [eval_old] using I.x0
      · simpa [eval_old] using I.x2
      · simpa [eval_old] using I.x4
      · simpa [eval_old] using I.x5
      · intro hL; have h := I.p0 (by simpa using hL); exact ⟨by rw [eval_old (by decide)]; exact h.1, h.2.alloc _⟩
      · intro hL; have h := I.p1 (by simpa using hL); exact ⟨by rw [eval_old (by decide)]; exact h.1, h.2.alloc _⟩
      · intro hL; have h := I.p2 (by simpa using hL); exact ⟨by rw [eval_old (by decide)]; exact h.1, h.2.alloc _⟩
      · intro hL; have h := I.q0 (by simpa using hL); exact ⟨by rw [eval_old (by decide)]; exact h.1, h.2.1, by simpa using h.2.2.alloc zeroB⟩
      · intro hL; have h := I.q1 (by simpa using hL); exact ⟨by rw [eval_old (by decide)]; exact h.1, h.2.1, by simpa using h.2.2.alloc zeroB⟩
      · intro _; exact ⟨eval_new (hz _ (by decide)) _, hbs, by simpa [ns] using Whole.new w 24 #[.slice none 0 0, .int .i64 0, .int .i64 0]⟩
      · simpa [eval_old] using I.n01
      · intro hL _; have h := (I.q0 (by simpa using hL)).2.2.lt; omega
      · intro hL _; have h := (I.q1 (by simpa using hL)).2.2.lt; omega
    · have hd := o10.needs ho hall
      have da := hd 7 (by simp)
      obtain ⟨eb, gb, wb⟩ := I.q0 da
      rw [hi] at wb
      simp only [Bool.false_eq_true, if_false] at wb
      obtain ⟨ev, _⟩ := I.p0 (hd 1 (by simp))
      refine o10.run fun pos after => opD_store eb ev wb ⟨A1, c1, A2, c2, A3, c3, b1, b2, b3, I.agree, below_setDisk I.below gb _ _ _, ?_, ?_, ?_, ?_, ?_, ?_, ?_, ?_, ?_, ?_, ?_, ?_, ?_⟩
      · simpa using I.x0
      · simpa using I.x2
      · simpa using I.x4
      · simpa using I.x5
      · intro hL; have h := I.p0 (by simpa using hL); exact ⟨h.1, own_farDisk h.2 wb _ _ _⟩
      · intro hL; have h := I.p1 (by simpa using hL); exact ⟨h.1, own_farDisk h.2 wb _ _ _⟩
      · intro hL; have h := I.p2 (by simpa using hL); exact ⟨h.1, own_farDisk h.2 wb _ _ _⟩
      · intro _; exact ⟨eb, gb, by simpa using wb.disk _ _ _⟩
      · intro hL; have h := I.q1 (by simpa using hL); exact ⟨h.1, h.2.1, by simpa using h.2.2.farDisk (fun e => I.n01 da (by simpa using hL) e.symm) _ _ _⟩
      · intro hL; have h := I.q2 (by simpa using hL); exact ⟨h.1, h.2.1, by simpa using h.2.2.farDisk (fun e => I.n02 da (by simpa using hL) e.symm) _ _ _⟩
      · simpa using I.n01
      · simpa using I.n02
      · simpa using I.n12
    · have hd := o11.needs ho hall
      have da := hd 8 (by simp)
      obtain ⟨eb, gb, wb⟩ := I.q1 da
      rw [hi] at wb
      simp only [Bool.false_eq_true, if_false] at wb
      obtain ⟨ev, _⟩ := I.p1 (hd 3 (by simp))
      refine o11.run fun pos after => opD_store eb ev wb ⟨A1, c1, A2, c2, A3, c3, b1, b2, b3, I.agree, below_setDisk I.below gb _ _ _, ?_, ?_, ?_, ?_, ?_, ?_, ?_, ?_, ?_, ?_, ?_, ?_, ?_⟩
      · simpa using I.x0
      · simpa using I.x2
      · simpa using I.x4
      · simpa using I.x5
      · intro hL; have h := I.p0 (by simpa using hL); exact ⟨h.1, own_farDisk h.2 wb _ _ _⟩
      · intro hL; have h := I.p1 (by simpa using hL); exact ⟨h.1, own_farDisk h.2 wb _ _ _⟩
      · intro hL; have h := I.p2 (by simpa using hL); exact ⟨h.1, own_farDisk h.2 wb _ _ _⟩
      · intro hL; have h := I.q0 (by simpa using hL); exact ⟨h.1, h.2.1, by simpa using h.2.2.farDisk (I.n01 (by simpa using hL) da) _ _ _⟩
      · intro _; exact ⟨eb, gb, by simpa using wb.disk _ _ _⟩
      · intro hL; have h := I.q2 (by simpa using hL); exact ⟨h.1, h.2.1, by simpa using h.2.2.farDisk (fun e => I.n12 da (by simpa using hL) e.symm) _ _ _⟩
      · simpa using I.n01
      · simpa using I.n02
      · simpa using I.n12
    · have hd := o12.needs ho hall
      have da := hd 9 (by simp)
      obtain ⟨eb, gb, wb⟩ := I.q2 da
      rw [hi] at wb
      simp only [Bool.false_eq_true, if_false] at wb
      obtain ⟨ev, _⟩ := I.p2 (hd 6 (by simp))
      refine o12.run fun pos after => opD_store eb ev wb ⟨A1, c1, A2, c2, A3, c3, b1, b2, b3, I.agree, below_setDisk I.below gb _ _ _, ?_, ?_, ?_, ?_, ?_, ?_, ?_, ?_, ?_, ?_, ?_, ?_, ?_⟩
      · simpa using I.x0
      · simpa using I.x2
      · simpa using I.x4
      · simpa using I.x5
      · intro hL; have h := I.p0 (by simpa using hL); exact ⟨h.1, own_farDisk h.2 wb _ _ _⟩
      · intro hL; have h := I.p1 (by simpa using hL); exact ⟨h.1, own_farDisk h.2 wb _ _ _⟩
      · intro hL; have h := I.p2 (by simpa using hL); exact ⟨h.1, own_farDisk h.2 wb _ _ _⟩
      · intro hL; have h := I.q0 (by simpa using hL); exact ⟨h.1, h.2.1, by simpa using h.2.2.farDisk (I.n02 (by simpa using hL) da) _ _ _⟩
      · intro hL; have h := I.q1 (by simpa using hL); exact ⟨h.1, h.2.1, by simpa using h.2.2.farDisk (I.n12 (by simpa using hL) da) _ _ _⟩
      · intro _; exact ⟨eb, gb, by simpa using wb.disk _ _ _⟩
      · simpa using I.n01
      · simpa using I.n02
      · simpa using I.n12
  · rintro L a w hall ⟨A1, c1, A2, c2, A3, c3, b1, b2, b3, I⟩
    obtain ⟨e0, _, w0⟩ := I.q0 (hall 7 (by omega))
    obtain ⟨e1, _, w1⟩ := I.q1 (hall 8 (by omega))
    obtain ⟨e2, _, w2⟩ := I.q2 (hall 9 (by omega))
    rw [if_pos (hall 10 (by omega))] at w0
    rw [if_pos (hall 11 (by omega))] at w1
    rw [if_pos (hall 12 (by omega))] at w2
    rw [I.agree.lay hds]
    exact fin _ w A1 c1 A2 c2 A3 c3 b1 b2 b3 e0 e1 e2 I.below w0 w1 w2 (I.p0 (hall 1 (by omega))).2 (I.p1 (hall 3 (by omega))).2 (I.p2 (hall 6 (by omega))).2

end Go.Proofs.Ytekffkoggnbgeaa
