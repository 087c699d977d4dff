/-
  The region of 'sum' of package zone that adds a zone's place to the pull: whatever the order. Conditions: those that each theorem names.
-/
import Derived.Test.YtpjmmjkgcoongaaZnAt
import Derived.Test.YtpjmmjkgcoongaaZnEach
import Derived.Test.YtpjmmjkgcoongaaRegionIn
namespace Go.Proofs.Ytpjmmjkgcoongaa
open Go.RowKit Go.Shelf
attribute [local go_sem] run_store_complex

section
variable {m l : Nat} {K : Act → World → Prop} {Q : Exit → Act → World → Prop} {a : Act} {w : World} {dst : Option Tmp} {t : TypeId} {pos : String} {after : Array Edge} {x y : Operand}
theorem opI_loadC {p : Addr} {u v : Nat} (hx : a.eval x = .pointer (some p)) (hc : w.cell? p = some (.complex .f64 u v)) (h : K (a.put dst (.complex .f64 u v)) w) :
    ({ dst := dst, op := .load 23 x, type := t, pos := pos, after := after, guard := none } : Oper).wpIn (Fence.wide.inRound l) m Try.prog a w K Q := by
  refine opIn_of _ (by intro c; simp) ?_ h
  unfold execOp
  simp only [hx]
  go_simp
theorem opI_addC {u v : Value} {r : Value} (hx : a.eval x = u) (hy : a.eval y = v) (hr : (binOp .add 23 u v).run Try.prog w = .ok r w) (h : K (a.put dst r) w) :
    ({ dst := dst, op := .binOp .add 23 x y 23, type := t, pos := pos, after := after, guard := none } : Oper).wpIn (Fence.wide.inRound l) m Try.prog a w K Q := by
  refine opIn_of _ (by intro c; simp) (v := r) (w' := w) ?_ h
  unfold execOp
  have hg : eqGuard .add 23 x y u v = pure () := rfl
  simp only [hx, hy, hg, Sem.run_bind, Sem.run_pure, Result.andThen_ok, hr]
theorem opI_storeC {p : Addr} {c d : Nat} {u : Value} (hx : a.eval x = .pointer (some p)) (hy : a.eval y = .complex .f64 c d) (hc : w.cell? p = some u) (hf : w.frozen? p = false) (h : K a (w.setCell p (.complex .f64 c d))) :
    ({ dst := none, op := .store 23 x y, type := t, pos := pos, after := after, guard := none } : Oper).wpIn (Fence.wide.inRound l) m Try.prog a w K Q := by
  refine ⟨fun _ _ => trivial, ?_⟩
  rw [Fence.inRound_round, Oper.semAt_some l _ _ (by intro c; simp)]
  unfold execOp
  simp only [hx, hy]
  go_simp
  exact h
theorem opI_at {T : Ending → World → Prop} {vs : Value} (hx : a.eval x = vs) (hc : Calls Try.prog 10 #[vs] w T) (h : ∀ e w', T e w' → ∃ v, e = .returned v ∧ K (a.put dst v) w') :
    ({ dst := dst, op := .call { callee := .value (.func 10), args := #[x], argTypes := #[3] }, type := t, pos := pos, after := after, guard := none } : Oper).wpIn (Fence.wide.inRound l) (m + 1) Try.prog a w K Q := by
  have hf : a.eval (.func 10) = .func (.func 10) #[] #[] := rfl
  refine ⟨fun _ _ => trivial, ?_⟩
  rw [Fence.inRound_round, Oper.semAt_some l _ _ (by intro c; simp)]
  unfold execOp
  simp only [resolve, List.map_toArray, List.map_cons, List.map_nil, hx, hf]
  go_simp
  refine (CallsIn.inRound l (callsIn_wide.2 hc)).mono ?_
  intro e w' hT
  obtain ⟨v, rfl, hK⟩ := h e w' hT
  exact hK
end

abbrev sumDs : List Nat := [8, 9, 10, 11]

/-- What holds behind any operations of the region that have come up. -/
structure SumI (a0 : Act) (bp : Nat) (W0 : World) (cx cy : Nat) (z p q : Int) (L : Nat → Bool) (a : Act) (w : World) : Prop where
  agree : Agree sumDs a0 a
  b : L 4 = false → Below W0.heap.size W0 w
  x0 : L 0 = true → a.eval (.tmp 8) = .complex .f64 cx cy
  x1 : L 1 = true → a.eval (.tmp 9) = .int .i64 z
  x2 : L 2 = true → ∃ x y, a.eval (.tmp 10) = .complex .f64 x y ∧ IsW x (px z) ∧ IsW y (py z)
  x3 : L 3 = true → ∃ x y, a.eval (.tmp 11) = .complex .f64 x y ∧ IsW x (p + px z) ∧ IsW y (q + py z)
  s : L 4 = true → ∃ w1 x y, Below W0.heap.size W0 w1 ∧ IsW x (p + px z) ∧ IsW y (q + py z) ∧ w = w1.setCell ⟨bp, 0, none⟩ (.complex .f64 x y)

theorem sum_region {ops : Array Oper} {Q : Exit → Act → World → Prop} {id m l : Nat} (hsize : ops.size = 5) (hlow : lowOnly ops = true)
    (o0 : At ops 0 (some 8) (.load 23 (.tmp 3)) 23 [])
    (o1 : At ops 1 (some 9) (.move (.tmp 4)) 3 [])
    (o2 : At ops 2 (some 10) (.call { callee := .value (.func 10), args := #[.tmp 9], argTypes := #[3] }) 23 [1])
    (o3 : At ops 3 (some 11) (.binOp .add 23 (.tmp 8) (.tmp 10) 23) 23 [0, 2])
    (o4 : At ops 4 none (.store 23 (.tmp 3) (.tmp 11)) 0 [3])
    (a0 : Act) (hds : ∀ d ∈ sumDs, d < a0.tmps.size) (bp : Nat) (W0 : World) (cx cy : Nat) (z p q : Int)
    (h3 : a0.eval (.tmp 3) = .pointer (some ⟨bp, 0, none⟩)) (h4 : a0.eval (.tmp 4) = .int .i64 z)
    (hb : Whole W0 bp 23 #[.complex .f64 cx cy]) (hcx : IsW cx p) (hcy : IsW cy q) (hp : p.natAbs ≤ 1000000000) (hq : q.natAbs ≤ 1000000000)
    (fin : ∀ σ w1 x y, Below W0.heap.size W0 w1 → IsW x (p + px z) → IsW y (q + py z) → Q .normal (lay σ sumDs a0) (w1.setCell ⟨bp, 0, none⟩ (.complex .f64 x y))) :
    (Code.region id ops true).wpIn (Fence.wide.inRound l) (m + 1) Try.prog Q a0 W0 := by
  have b1 := px_bd z
  have b2 := py_bd z
  refine region_cloIn (by kernel_rfl) hlow (fun L a w => SumI a0 bp W0 cx cy z p q L a w) ?_ ?_ ?_
  · exact ⟨Agree.refl _ _, fun _ => (Below.refl _ _).drew, by simp, by simp, by simp, by simp, by simp⟩
  · rintro i o L a w ho hi hclo hall I
    have hlt : i < 5 := by rw [← hsize]; exact (Array.getElem?_eq_some_iff.1 ho).1
    have hz : ∀ d ∈ sumDs, d < a.tmps.size := fun d hd => by rw [I.agree.size]; exact hds d hd
    have ht : ∀ t, t ∉ sumDs → a.eval (.tmp t) = a0.eval (.tmp t) := fun t ht => I.agree.eval ht
    rcases (by omega : i = 0 ∨ i = 1 ∨ i = 2 ∨ i = 3 ∨ i = 4) with rfl | rfl | rfl | rfl | rfl
    · have n3 := o3.not hclo (j := 0) (by simp) hi
      have n4 := o4.not hclo (j := 3) (by simp) n3
      have hw := I.b n4
      refine o0.runIn fun pos after => opI_loadC ((ht 3 (by decide)).trans h3) ((hb.under hw).cell 0) ⟨I.agree.put (by decide) _, ?_, ?_, ?_, ?_, ?_, ?_⟩
      · intro _; exact hw
      · intro _; exact eval_new (hz _ (by decide)) _
      · simpa [eval_old] using I.x1
      · simpa [eval_old] using I.x2
      · simp [n3]
      · simp [n4]
    · have n2 := o2.not hclo (j := 1) (by simp) hi
      have n3 := o3.not hclo (j := 2) (by simp) n2
      have n4 := o4.not hclo (j := 3) (by simp) n3
      have hw := I.b n4
      refine o1.runIn fun pos after => opI_move ((ht 4 (by decide)).trans h4) ⟨I.agree.put (by decide) _, ?_, ?_, ?_, ?_, ?_, ?_⟩
      · intro _; exact hw
      · simpa [eval_old] using I.x0
      · intro _; exact eval_new (hz _ (by decide)) _
      · simp [n2]
      · simp [n3]
      · simp [n4]
    · have hd := o2.needs ho hall
      have n3 := o3.not hclo (j := 2) (by simp) hi
      have n4 := o4.not hclo (j := 3) (by simp) n3
      have hw := I.b n4
      refine o2.runIn fun pos after => opI_at (I.x1 (hd 1 (by simp))) (at_any z w) ?_
      rintro e w' ⟨⟨x, y, rfl, hx, hy⟩, hb'⟩
      refine ⟨_, rfl, I.agree.put (by decide) _, ?_, ?_, ?_, ?_, ?_, ?_⟩
      · intro _; exact hw.trans (hb'.mono hw.size)
      · simpa [eval_old] using I.x0
      · simpa [eval_old] using I.x1
      · intro _; exact ⟨x, y, eval_new (hz _ (by decide)) _, hx, hy⟩
      · simp [n3]
      · simp [n4]
    · have hd := o3.needs ho hall
      have n4 := o4.not hclo (j := 3) (by simp) hi
      have hw := I.b n4
      obtain ⟨x, y, he, hx, hy⟩ := I.x2 (hd 2 (by simp))
      obtain ⟨r, s, hr, h1, h2⟩ := run_caddW (P := Try.prog) w 23 hcx hcy hx hy (by omega) (by omega)
      refine o3.runIn fun pos after => opI_addC (I.x0 (hd 0 (by simp))) he hr ⟨I.agree.put (by decide) _, ?_, ?_, ?_, ?_, ?_, ?_⟩
      · intro _; exact hw
      · simpa [eval_old] using I.x0
      · simpa [eval_old] using I.x1
      · simpa [eval_old] using I.x2
      · intro _; exact ⟨r, s, eval_new (hz _ (by decide)) _, h1, h2⟩
      · simp [n4]
    · have hd := o4.needs ho hall
      have hw := I.b hi
      obtain ⟨x, y, he, hx, hy⟩ := I.x3 (hd 3 (by simp))
      have hb' := hb.under hw
      refine o4.runIn fun pos after => opI_storeC ((ht 3 (by decide)).trans h3) he (hb'.cell 0) (hb'.frozen 0) ⟨I.agree, ?_, ?_, ?_, ?_, ?_, ?_⟩
      · simp
      · simpa using I.x0
      · simpa using I.x1
      · simpa using I.x2
      · simpa using I.x3
      · intro _; exact ⟨w, x, y, hw, hx, hy, rfl⟩
  · intro L a w hall I
    obtain ⟨w1, x, y, hw, hx, hy, rfl⟩ := I.s (hall 4 (by omega))
    rw [I.agree.lay hds]
    exact fin _ w1 x y hw hx hy

end Go.Proofs.Ytpjmmjkgcoongaa
