/-
  The region of the document's own 'Same' (herdref03) in which both disks are told as they count: whatever the order. Conditions: those that each theorem names.
-/
import Derived.Test.YtekffkoggnbgeaaRefMore
import Derived.Test.YtekffkoggnbgeaaDiskOwn3
namespace Go.Proofs.Ytekffkoggnbgeaa
open Go.RowKit Go.Shelf

theorem opR_own {K : Act → World → Prop} {Q : Exit → Act → World → Prop} {a : Act} {w : World} {dst : Option Tmp} {t : TypeId} {pos : String} {after : Array Edge} {x : Operand} {T : Ending → World → Prop} {vs : Value} (hx : a.eval x = vs) (hc : Calls Try.prog 18 #[vs] w T) (h : ∀ e w', T e w' → ∃ v, e = .returned v ∧ K (a.put dst v) w') :
    ({ dst := dst, op := .call { callee := .value (.func 18), args := #[x], argTypes := #[24] }, type := t, pos := pos, after := after, guard := none } : Oper).wp Try.prog a w K Q := by
  have hf : a.eval (.func 18) = .func (.func 18) #[] #[] := rfl
  unfold Oper.wp execOp
  simp only [resolve, List.map_toArray, List.map_cons, List.map_nil, hx, hf]
  go_simp
  refine hc.mono ?_
  intro e w' hT
  obtain ⟨v, rfl, hK⟩ := h e w' hT
  exact hK

abbrev rsDs : List Nat := [5, 6, 7, 8]

/-- What holds behind any operations of the region that have come up. -/
structure RSI (a0 : Act) (w0 : World) (v0 v1 : Value) (cs0 cs1 : Array Value) (ob : List Nat) (K S R : Nat) (ob' : List Nat) (K' S' R' : Nat) (b0 b1 : Nat) (L : Nat → Bool) (a : Act) (w : World) (A1 : Option Addr) (c1 : Nat) (A2 : Option Addr) (c2 : Nat) : Prop where
  agree : Agree rsDs a0 a
  below : Below w0.heap.size w0 w
  x0 : L 0 = true → a.eval (.tmp 5) = v0
  x2 : L 2 = true → a.eval (.tmp 7) = v1
  p0 : L 1 = true → a.eval (.tmp 6) = diskV A1 K c1 S R ∧ w.ownsRow (w0.heap.size + 2) 5 1 (.slice A1 K c1) K (bv ob)
  p1 : L 3 = true → a.eval (.tmp 8) = diskV A2 K' c2 S' R' ∧ w.ownsRow (w0.heap.size + 2) 5 1 (.slice A2 K' c2) K' (bv ob')
  q0 : Whole w b0 24 (if L 4 = true then #[.slice A1 K c1, .int .i64 S, .int .i64 R] else cs0)
  q1 : Whole w b1 24 (if L 5 = true then #[.slice A2 K' c2, .int .i64 S', .int .i64 R'] else cs1)

theorem rs_region {ops : Array Oper} {Q : Exit → Act → World → Prop} {id : Nat} (hsize : ops.size = 6) (hlow : lowOnly ops = true)
    (o0 : At ops 0 (some 5) (.load 24 (.tmp 2)) 24 [])
    (o1 : At ops 1 (some 6) (.call { callee := .value (.func 18), args := #[.tmp 5], argTypes := #[24] }) 24 [0])
    (o2 : At ops 2 (some 7) (.load 24 (.tmp 3)) 24 [])
    (o3 : At ops 3 (some 8) (.call { callee := .value (.func 18), args := #[.tmp 7], argTypes := #[24] }) 24 [2])
    (o4 : At ops 4 none (.store 24 (.tmp 2) (.tmp 6)) 0 [1, 0])
    (o5 : At ops 5 none (.store 24 (.tmp 3) (.tmp 8)) 0 [3, 2])
    (a0 : Act) (hds : ∀ d ∈ rsDs, d < a0.tmps.size) (W0 w0 : World) (hW0 : Below w0.heap.size w0 W0) (A : Option Addr) (n c : Nat) (s r : Int) (A' : Option Addr) (n' c' : Nat) (s' r' : Int) (ob : List Nat) (K S R : Nat) (ob' : List Nat) (K' S' R' : Nat)
    (h2 : a0.eval (.tmp 2) = .pointer (some ⟨w0.heap.size, 0, none⟩)) (h3 : a0.eval (.tmp 3) = .pointer (some ⟨w0.heap.size + 1, 0, none⟩))
    (hx : Whole W0 w0.heap.size 24 #[.slice A n c, .int .i64 s, .int .i64 r]) (hy : Whole W0 (w0.heap.size + 1) 24 #[.slice A' n' c', .int .i64 s', .int .i64 r'])
    (k1 : ∀ W, Below w0.heap.size w0 W → Calls Try.prog 18 #[diskV A n c s r] W (DiskN K ob S R W))
    (k2 : ∀ W, Below w0.heap.size w0 W → Calls Try.prog 18 #[diskV A' n' c' s' r'] W (DiskN K' ob' S' R' W))
    (fin : ∀ σ w A1 c1 A2 c2, Below w0.heap.size w0 w → Whole w w0.heap.size 24 #[.slice A1 K c1, .int .i64 S, .int .i64 R] → Whole w (w0.heap.size + 1) 24 #[.slice A2 K' c2, .int .i64 S', .int .i64 R'] →
      w.ownsRow (w0.heap.size + 2) 5 1 (.slice A1 K c1) K (bv ob) → w.ownsRow (w0.heap.size + 2) 5 1 (.slice A2 K' c2) K' (bv ob') → Q .normal (lay σ rsDs a0) w) :
    (Code.region id ops true).wp Try.prog Q a0 W0 := by
  refine region_clo (by kernel_rfl) hlow (fun L a w => ∃ A1 c1 A2 c2, RSI a0 w0 (diskV A n c s r) (diskV A' n' c' s' r') #[.slice A n c, .int .i64 s, .int .i64 r] #[.slice A' n' c', .int .i64 s', .int .i64 r'] ob K S R ob' K' S' R' w0.heap.size (w0.heap.size + 1) L a w A1 c1 A2 c2) ?_ ?_ ?_
  · exact ⟨none, 0, none, 0, Agree.refl _ _, hW0.drew, by simp, by simp, by simp, by simp, by simpa using Whole.drew hx, by simpa using Whole.drew hy⟩
  · rintro i o L a w ho hi hclo hall ⟨A1, c1, A2, c2, I⟩
    have hlt : i < 6 := by rw [← hsize]; exact (Array.getElem?_eq_some_iff.1 ho).1
    have hz : ∀ d ∈ rsDs, d < a.tmps.size := fun d hd => by rw [I.agree.size]; exact hds d hd
    have hbs := I.below.size
    have hl1 := I.q1.lt
    rcases (by omega : i = 0 ∨ i = 1 ∨ i = 2 ∨ i = 3 ∨ i = 4 ∨ i = 5) with rfl | rfl | rfl | rfl | rfl | rfl
    · have ns := o4.not hclo (j := 0) (by simp) hi
      have q := I.q0
      rw [ns] at q
      refine o0.run fun pos after => opD_load (b := w0.heap.size) (by rw [I.agree.eval (by decide)]; exact h2) (by simpa using q) ⟨A1, c1, A2, c2, I.agree.put (by decide) _, I.below, ?_, ?_, ?_, ?_, ?_, ?_⟩
      · intro _; exact eval_new (hz _ (by decide)) _
      · simpa [eval_old] using I.x2
      · simpa [eval_old] using I.p0
      · simpa [eval_old] using I.p1
      · simpa [ns] using q
      · simpa using I.q1
    · have hd := o1.needs ho hall
      have ns := o4.not hclo (j := 1) (by simp) hi
      refine o1.run fun pos after => opR_own (I.x0 (hd 0 (by simp))) (k1 w I.below) ?_
      rintro e w' ⟨B', d', rfl, hown, hb⟩
      refine ⟨_, rfl, B', d', A2, c2, I.agree.put (by decide) _, I.below.trans (hb.mono hbs), ?_, ?_, ?_, ?_, ?_, ?_⟩
      · simpa [eval_old] using I.x0
      · simpa [eval_old] using I.x2
      · intro _; exact ⟨eval_new (hz _ (by decide)) _, own_weaker hown (by omega)⟩
      · intro hL; have h := I.p1 (by simpa using hL); exact ⟨by rw [eval_old (by decide)]; exact h.1, own_under h.2 hb⟩
      · have q := I.q0; rw [ns] at q; simpa [ns] using q.under hb
      · simpa using I.q1.under hb
    · have ns := o5.not hclo (j := 2) (by simp) hi
      have q := I.q1
      rw [ns] at q
      refine o2.run fun pos after => opD_load (b := w0.heap.size + 1) (by rw [I.agree.eval (by decide)]; exact h3) (by simpa using q) ⟨A1, c1, A2, c2, I.agree.put (by decide) _, I.below, ?_, ?_, ?_, ?_, ?_, ?_⟩
      · simpa [eval_old] using I.x0
      · intro _; exact eval_new (hz _ (by decide)) _
      · simpa [eval_old] using I.p0
      · simpa [eval_old] using I.p1
      · simpa using I.q0
      · simpa [ns] using q
    · have hd := o3.needs ho hall
      have ns := o5.not hclo (j := 3) (by simp) hi
      refine o3.run fun pos after => opR_own (I.x2 (hd 2 (by simp))) (k2 w I.below) ?_
      rintro e w' ⟨B', d', rfl, hown, hb⟩
      refine ⟨_, rfl, A1, c1, B', d', I.agree.put (by decide) _, I.below.trans (hb.mono hbs), ?_, ?_, ?_, ?_, ?_, ?_⟩
      · simpa [eval_old] using I.x0
      · simpa [eval_old] using I.x2
      · intro hL; have h := I.p0 (by simpa using hL); exact ⟨by rw [eval_old (by decide)]; exact h.1, own_under h.2 hb⟩
      · intro _; exact ⟨eval_new (hz _ (by decide)) _, own_weaker hown (by omega)⟩
      · simpa using I.q0.under hb
      · have q := I.q1; rw [ns] at q; simpa [ns] using q.under hb
    · have hd := o4.needs ho hall
      obtain ⟨ev, _⟩ := I.p0 (hd 1 (by simp))
      have wb := I.q0
      rw [hi] at wb
      simp only [Bool.false_eq_true, if_false] at wb
      refine o4.run fun pos after => opD_store (b := w0.heap.size) (by rw [I.agree.eval (by decide)]; exact h2) ev wb ⟨A1, c1, A2, c2, I.agree, below_setDisk I.below (Nat.le_refl _) _ _ _, ?_, ?_, ?_, ?_, ?_, ?_⟩
      · simpa using I.x0
      · simpa using I.x2
      · intro hL; have h := I.p0 (by simpa using hL); exact ⟨h.1, own_farDisk h.2 wb _ _ _⟩
      · intro hL; have h := I.p1 (by simpa using hL); exact ⟨h.1, own_farDisk h.2 wb _ _ _⟩
      · simpa using wb.disk _ _ _
      · simpa using I.q1.farDisk (by omega) _ _ _
    · have hd := o5.needs ho hall
      obtain ⟨ev, _⟩ := I.p1 (hd 3 (by simp))
      have wb := I.q1
      rw [hi] at wb
      simp only [Bool.false_eq_true, if_false] at wb
      refine o5.run fun pos after => opD_store (b := w0.heap.size + 1) (by rw [I.agree.eval (by decide)]; exact h3) ev wb ⟨A1, c1, A2, c2, I.agree, below_setDisk I.below (Nat.le_succ _) _ _ _, ?_, ?_, ?_, ?_, ?_, ?_⟩
      · simpa using I.x0
      · simpa using I.x2
      · intro hL; have h := I.p0 (by simpa using hL); exact ⟨h.1, own_farDisk h.2 wb _ _ _⟩
      · intro hL; have h := I.p1 (by simpa using hL); exact ⟨h.1, own_farDisk h.2 wb _ _ _⟩
      · simpa using I.q0.farDisk (by omega) _ _ _
      · simpa using wb.disk _ _ _
  · rintro L a w hall ⟨A1, c1, A2, c2, I⟩
    have w0' := I.q0
    have w1' := I.q1
    rw [if_pos (hall 4 (by omega))] at w0'
    rw [if_pos (hall 5 (by omega))] at w1'
    rw [I.agree.lay hds]
    exact fin _ w A1 c1 A2 c2 I.below w0' w1' (I.p0 (hall 1 (by omega))).2 (I.p1 (hall 3 (by omega))).2

end Go.Proofs.Ytekffkoggnbgeaa
