/-
  The walk of the closure of 'write' of package disk: bytes put behind a disk's bytes, part by part. Conditions: those that each theorem names.
-/
import Derived.Test.YtekffkoggnbgeaaDiskParts
import Derived.Test.YtekffkoggnbgeaaDiskChgs
import Derived.Test.YtekffkoggnbgeaaDiskLess
import Derived.Test.YtekffkoggnbgeaaRegionIn
namespace Go.Proofs.Ytekffkoggnbgeaa
open Go.RowKit Go.Shelf

abbrev appDs : List Nat := [15, 16, 17, 18, 19, 20, 21, 22, 23]

/-- Blocks that the append leaves alone. -/
structure Far (base b2 b3 Bn Bo : Nat) (W0 w : World) : Prop where
  below : Below base W0 w
  keeps : KeepsOthers W0 w
  two : Whole w b2 50 #[.pointer (some ⟨Bo, 0, none⟩)]
  three : Whole w b3 4 #[.bool false]
  bn : w.heap[Bn]? = W0.heap[Bn]?

/-- What holds behind any operations of the region that have come up. -/
structure AppI (a0 : Act) (base b2 b3 Bn Bo : Nat) (W0 : World) (A0 : Option Addr) (n0 c0 : Nat) (xs0 : List Value) (Ax : Option Addr) (nx cx : Nat) (xs1 : List Value) (u1 u2 : Value) (L : Nat → Bool) (a : Act) (w : World) : Prop where
  agree : Agree appDs a0 a
  x0 : L 0 = true → a.eval (.tmp 15) = .pointer (some ⟨Bo, 0, none⟩)
  x1 : L 1 = true → a.eval (.tmp 16) = .pointer (some ⟨Bo, 0, none⟩)
  x2 : L 2 = true → a.eval (.tmp 17) = .pointer (some ⟨Bo, 0, none⟩)
  x3 : L 3 = true → a.eval (.tmp 18) = .pointer (some ⟨Bo, 0, none⟩)
  x4 : L 4 = true → a.eval (.tmp 19) = .slice A0 n0 c0
  x5 : L 5 = true → a.eval (.tmp 20) = .slice Ax nx cx
  x7 : L 7 = true → a.eval (.tmp 22) = .pointer (some ⟨Bo, 0, none⟩)
  x8 : L 8 = true → a.eval (.tmp 23) = .pointer (some ⟨Bo, 0, none⟩)
  pre : L 6 = false → Far base b2 b3 Bn Bo W0 w ∧ w.ownsRow base 5 1 (.slice A0 n0 c0) n0 xs0 ∧ Whole w Bo 24 #[.slice A0 n0 c0, u1, u2]
  post : L 6 = true → ∃ A1 c1, a.eval (.tmp 21) = .slice A1 (n0 + nx) c1 ∧ Far base b2 b3 Bn Bo W0 w ∧ w.ownsRow base 5 1 (.slice A1 (n0 + nx) c1) (n0 + nx) xs1 ∧ Whole w Bo 24 #[if L 9 = true then .slice A1 (n0 + nx) c1 else .slice A0 n0 c0, u1, u2]

theorem app_region {ops : Array Oper} {Q : Exit → Act → World → Prop} {id m l : Nat} (hsize : ops.size = 10) (hlow : lowOnly ops = true)
    (o0 : At ops 0 (some 15) (.load 50 (.tmp 2)) 50 [])
    (o1 : At ops 1 (some 16) (.load 50 (.tmp 2)) 50 [])
    (o2 : At ops 2 (some 17) (.nilCheck (.tmp 16)) 0 [1])
    (o3 : At ops 3 (some 18) (.fieldAddr 24 (.tmp 17) 0) 0 [2])
    (o4 : At ops 4 (some 19) (.load 22 (.tmp 18)) 22 [3])
    (o5 : At ops 5 (some 20) (.move (.tmp 4)) 22 [])
    (o6 : At ops 6 (some 21) (.call { callee := .builtin .append, args := #[.tmp 19, .tmp 20], argTypes := #[22, 22] }) 22 [4, 5])
    (o7 : At ops 7 (some 22) (.nilCheck (.tmp 15)) 0 [0, 6])
    (o8 : At ops 8 (some 23) (.fieldAddr 24 (.tmp 22) 0) 0 [7])
    (o9 : At ops 9 none (.store 22 (.tmp 23) (.tmp 21)) 0 [8, 6])
    (a0 : Act) (hds : ∀ d ∈ appDs, d < a0.tmps.size) (base b2 b3 Bn Bo : Nat) (W0 : World) (A0 : Option Addr) (n0 c0 : Nat) (ys : List Nat) (Ax : Option Addr) (nx cx : Nat) (zs : List Nat) (u1 u2 : Value)
    (h2 : a0.eval (.tmp 2) = .pointer (some ⟨b2, 0, none⟩)) (h4 : a0.eval (.tmp 4) = .slice Ax nx cx)
    (hb2 : Whole W0 b2 50 #[.pointer (some ⟨Bo, 0, none⟩)]) (hb3 : Whole W0 b3 4 #[.bool false]) (hBn : ∃ v, Whole W0 Bn 22 #[v]) (hbs : base ≤ W0.heap.size) (hbo : base ≤ Bo) (hne2 : b2 ≠ Bo) (hne3 : b3 ≠ Bo) (hneB : Bn ≠ Bo)
    (hown : W0.ownsRow base 5 1 (.slice A0 n0 c0) n0 (bv ys)) (hbox : Whole W0 Bo 24 #[.slice A0 n0 c0, u1, u2]) (hr : Rd W0 base Ax nx (bv zs)) (hn : n0 + nx ≤ 1000000)
    (fin : ∀ σ w A1 c1, Far base b2 b3 Bn Bo W0 w → w.ownsRow base 5 1 (.slice A1 (n0 + nx) c1) (n0 + nx) (bv (ys ++ zs)) → Whole w Bo 24 #[.slice A1 (n0 + nx) c1, u1, u2] → Q .normal (lay σ appDs a0) w) :
    (Code.region id ops true).wpIn (Fence.wide.inRound l) m Try.prog Q a0 W0 := by
  refine region_cloIn (by kernel_rfl) hlow (fun L a w => AppI a0 base b2 b3 Bn Bo W0 A0 n0 c0 (bv ys) Ax nx cx (bv (ys ++ zs)) u1 u2 L a w) ?_ ?_ ?_
  · exact ⟨Agree.refl _ _, by simp, by simp, by simp, by simp, by simp, by simp, by simp, by simp, fun _ => ⟨⟨(Below.refl _ _).drew, ⟨Nat.le_refl _, fun _ _ h _ => h⟩, hb2, hb3, rfl⟩, hown, hbox⟩, by simp⟩
  · rintro i o L a w ho hi hclo hall I
    have hlt : i < 10 := by rw [← hsize]; exact (Array.getElem?_eq_some_iff.1 ho).1
    have hz : ∀ d ∈ appDs, d < a.tmps.size := fun d hd => by rw [I.agree.size]; exact hds d hd
    have hfar : Far base b2 b3 Bn Bo W0 w := by
      cases h6 : L 6 with
      | false => exact (I.pre h6).1
      | true => obtain ⟨_, _, _, hf, _⟩ := I.post h6; exact hf
    rcases (by omega : i = 0 ∨ i = 1 ∨ i = 2 ∨ i = 3 ∨ i = 4 ∨ i = 5 ∨ i = 6 ∨ i = 7 ∨ i = 8 ∨ i = 9) with rfl | rfl | rfl | rfl | rfl | rfl | rfl | rfl | rfl | rfl
    · have hd := o0.needs ho hall
      refine o0.runIn fun pos after => opI_load_ptr (by rw [I.agree.eval (by decide)]; exact h2) (hfar.two.cell 0) ⟨I.agree.put (by decide) _, ?_, ?_, ?_, ?_, ?_, ?_, ?_, ?_, ?_, ?_⟩
      · intro _; exact eval_new (hz _ (by decide)) _
      · simpa [eval_old] using I.x1
      · simpa [eval_old] using I.x2
      · simpa [eval_old] using I.x3
      · simpa [eval_old] using I.x4
      · simpa [eval_old] using I.x5
      · simpa [eval_old] using I.x7
      · simpa [eval_old] using I.x8
      · simpa [eval_old] using I.pre
      · simpa [eval_old] using I.post
    · have hd := o1.needs ho hall
      refine o1.runIn fun pos after => opI_load_ptr (by rw [I.agree.eval (by decide)]; exact h2) (hfar.two.cell 0) ⟨I.agree.put (by decide) _, ?_, ?_, ?_, ?_, ?_, ?_, ?_, ?_, ?_, ?_⟩
      · simpa [eval_old] using I.x0
      · intro _; exact eval_new (hz _ (by decide)) _
      · simpa [eval_old] using I.x2
      · simpa [eval_old] using I.x3
      · simpa [eval_old] using I.x4
      · simpa [eval_old] using I.x5
      · simpa [eval_old] using I.x7
      · simpa [eval_old] using I.x8
      · simpa [eval_old] using I.pre
      · simpa [eval_old] using I.post
    · have hd := o2.needs ho hall
      refine o2.runIn fun pos after => opI_nil (I.x1 (hd 1 (by simp))) ⟨I.agree.put (by decide) _, ?_, ?_, ?_, ?_, ?_, ?_, ?_, ?_, ?_, ?_⟩
      · simpa [eval_old] using I.x0
      · simpa [eval_old] using I.x1
      · intro _; exact eval_new (hz _ (by decide)) _
      · simpa [eval_old] using I.x3
      · simpa [eval_old] using I.x4
      · simpa [eval_old] using I.x5
      · simpa [eval_old] using I.x7
      · simpa [eval_old] using I.x8
      · simpa [eval_old] using I.pre
      · simpa [eval_old] using I.post
    · have hd := o3.needs ho hall
      refine o3.runIn fun pos after => opI_field0 (I.x2 (hd 2 (by simp))) ⟨I.agree.put (by decide) _, ?_, ?_, ?_, ?_, ?_, ?_, ?_, ?_, ?_, ?_⟩
      · simpa [eval_old] using I.x0
      · simpa [eval_old] using I.x1
      · simpa [eval_old] using I.x2
      · intro _; exact eval_new (hz _ (by decide)) _
      · simpa [eval_old] using I.x4
      · simpa [eval_old] using I.x5
      · simpa [eval_old] using I.x7
      · simpa [eval_old] using I.x8
      · simpa [eval_old] using I.pre
      · simpa [eval_old] using I.post
    · have hd := o4.needs ho hall
      refine o4.runIn fun pos after => opI_load_sl (I.x3 (hd 3 (by simp))) ((I.pre (o6.not hclo (j := 4) (by simp) hi)).2.2.cell 0) ⟨I.agree.put (by decide) _, ?_, ?_, ?_, ?_, ?_, ?_, ?_, ?_, ?_, ?_⟩
      · simpa [eval_old] using I.x0
      · simpa [eval_old] using I.x1
      · simpa [eval_old] using I.x2
      · simpa [eval_old] using I.x3
      · intro _; exact eval_new (hz _ (by decide)) _
      · simpa [eval_old] using I.x5
      · simpa [eval_old] using I.x7
      · simpa [eval_old] using I.x8
      · simpa [eval_old] using I.pre
      · simpa [eval_old] using I.post
    · have hd := o5.needs ho hall
      refine o5.runIn fun pos after => opI_move (v := .slice Ax nx cx) (by rw [I.agree.eval (by decide)]; exact h4) ⟨I.agree.put (by decide) _, ?_, ?_, ?_, ?_, ?_, ?_, ?_, ?_, ?_, ?_⟩
      · simpa [eval_old] using I.x0
      · simpa [eval_old] using I.x1
      · simpa [eval_old] using I.x2
      · simpa [eval_old] using I.x3
      · simpa [eval_old] using I.x4
      · intro _; exact eval_new (hz _ (by decide)) _
      · simpa [eval_old] using I.x7
      · simpa [eval_old] using I.x8
      · simpa [eval_old] using I.pre
      · simpa [eval_old] using I.post
    · have hd := o6.needs ho hall
      have n9 := o9.not hclo (j := 6) (by simp) hi
      obtain ⟨hf, ho0, hx0⟩ := I.pre hi
      obtain ⟨v', w', hrun, hown', hg⟩ := run_app w base _ n0 (bv ys) ho0 base Ax nx cx zs (hr.below hf.below) hn (by have := hf.below.size; omega)
      rw [← bv_append] at hown'
      obtain ⟨A1, c1, rfl⟩ := own_form hown'
      have ap : ∀ {b : Nat} {t : TypeId} {cs : Array Value}, 5 ≠ t → Whole w b t cs → Whole w' b t cs := fun hne h => h.grown hg (Ne.symm (own_apart_of hne ho0 h))
      obtain ⟨vn, hvn⟩ := hBn
      have hvn' : Whole w Bn 22 #[vn] := hf.bn.trans hvn
      have hf' : Far base b2 b3 Bn Bo W0 w' := ⟨hf.below.trans (below_row ho0 hg (by have := hf.below.size; omega)), hf.keeps.trans (keeps_row ho0 hg), ap (by decide) hf.two, ap (by decide) hf.three, (ap (by decide) hvn').trans hvn.symm⟩
      refine o6.runIn fun pos after => opI_append (I.x4 (hd 4 (by simp))) (I.x5 (hd 5 (by simp))) hrun ⟨I.agree.put (by decide) _, ?_, ?_, ?_, ?_, ?_, ?_, ?_, ?_, ?_, ?_⟩
      · simpa [eval_old] using I.x0
      · simpa [eval_old] using I.x1
      · simpa [eval_old] using I.x2
      · simpa [eval_old] using I.x3
      · simpa [eval_old] using I.x4
      · simpa [eval_old] using I.x5
      · simpa [eval_old] using I.x7
      · simpa [eval_old] using I.x8
      · simp
      · intro _
        refine ⟨A1, c1, eval_new (hz _ (by decide)) _, hf', hown', ?_⟩
        simpa [n9] using ap (by decide) hx0
    · have hd := o7.needs ho hall
      refine o7.runIn fun pos after => opI_nil (I.x0 (hd 0 (by simp))) ⟨I.agree.put (by decide) _, ?_, ?_, ?_, ?_, ?_, ?_, ?_, ?_, ?_, ?_⟩
      · simpa [eval_old] using I.x0
      · simpa [eval_old] using I.x1
      · simpa [eval_old] using I.x2
      · simpa [eval_old] using I.x3
      · simpa [eval_old] using I.x4
      · simpa [eval_old] using I.x5
      · intro _; exact eval_new (hz _ (by decide)) _
      · simpa [eval_old] using I.x8
      · simpa [eval_old] using I.pre
      · simpa [eval_old] using I.post
    · have hd := o8.needs ho hall
      refine o8.runIn fun pos after => opI_field0 (I.x7 (hd 7 (by simp))) ⟨I.agree.put (by decide) _, ?_, ?_, ?_, ?_, ?_, ?_, ?_, ?_, ?_, ?_⟩
      · simpa [eval_old] using I.x0
      · simpa [eval_old] using I.x1
      · simpa [eval_old] using I.x2
      · simpa [eval_old] using I.x3
      · simpa [eval_old] using I.x4
      · simpa [eval_old] using I.x5
      · simpa [eval_old] using I.x7
      · intro _; exact eval_new (hz _ (by decide)) _
      · simpa [eval_old] using I.pre
      · simpa [eval_old] using I.post
    · have hd := o9.needs ho hall
      have d6 := hd 6 (by simp)
      obtain ⟨A1, c1, he, hf, ho1, hx1⟩ := I.post d6
      rw [hi] at hx1
      simp only [Bool.false_eq_true, if_false] at hx1
      have hbs9 := hf.below.size
      obtain ⟨vn, hvn⟩ := hBn
      have hf' : Far base b2 b3 Bn Bo W0 (w.setCell ⟨Bo, 0, none⟩ (.slice A1 (n0 + nx) c1)) :=
        ⟨hf.below.setCell (p := ⟨Bo, 0, none⟩) hbo _, hf.keeps.trans (KeepsOthers.setCell _ _ _), hf.two.far (p := ⟨Bo, 0, none⟩) hne2 _, hf.three.far (p := ⟨Bo, 0, none⟩) hne3 _, (Below.heap_setCell w ⟨Bo, 0, none⟩ _ Bn hneB).trans hf.bn⟩
      refine o9.runIn fun pos after => opI_store (I.x8 (hd 8 (by simp))) he (hx1.cell 0) (hx1.frozen 0) ⟨I.agree, ?_, ?_, ?_, ?_, ?_, ?_, ?_, ?_, ?_, ?_⟩
      · simpa using I.x0
      · simpa using I.x1
      · simpa using I.x2
      · simpa using I.x3
      · simpa using I.x4
      · simpa using I.x5
      · simpa using I.x7
      · simpa using I.x8
      · simp [d6]
      · intro _
        refine ⟨A1, c1, he, hf', ownsRow_setCell_other (a := ⟨Bo, 0, none⟩) ho1 (own_apart_of (by decide) ho1 hx1) _, ?_⟩
        have h3 := hx1.set 0 (.slice A1 (n0 + nx) c1)
        simpa using h3
  · rintro L a w hall I
    obtain ⟨A1, c1, he, hf, ho1, hx1⟩ := I.post (hall 6 (by omega))
    rw [if_pos (hall 9 (by omega))] at hx1
    rw [I.agree.lay hds]
    exact fin _ w A1 c1 hf ho1 hx1

end Go.Proofs.Ytekffkoggnbgeaa
