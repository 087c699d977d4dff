/-
  The region of 'All' of package frame that adds a payload: whatever the order. Conditions: those that each theorem names.
-/
import Derived.Test.YtocleikdabclkaaFrFrames
import Derived.Test.YtocleikdabclkaaRowsOwn
import Derived.Test.YtocleikdabclkaaRegionIn
namespace Go.Proofs.Ytocleikdabclkaa
open Go.RowKit Go.Shelf

section
variable {m l : Nat} {K : Act → World → Prop} {Q : Exit → Act → World → Prop} {a : Act} {w : World} {dst : Option Tmp} {t : TypeId} {pos : String} {after : Array Edge} {x y : Operand}
theorem opI_load_rows {p : Addr} {A : Option Addr} {n c : Nat} (hx : a.eval x = .pointer (some p)) (hc : w.cell? p = some (.slice A n c)) (h : K (a.put dst (.slice A n c)) w) :
    ({ dst := dst, op := .load 29 x, type := t, pos := pos, after := after, guard := none } : Oper).wpIn (Fence.wide.inRound l) m Try.prog a w K Q := by
  refine opIn_of _ (by intro c; simp) ?_ h
  unfold execOp
  simp only [hx]
  go_simp
theorem opI_fieldF {b : Nat} (hx : a.eval x = .pointer (some ⟨b, 0, none⟩)) (h : K (a.put dst (.pointer (some ⟨b, 0, none⟩))) w) :
    ({ dst := dst, op := .fieldAddr 48 x 0, type := t, pos := pos, after := after, guard := none } : Oper).wpIn (Fence.wide.inRound l) m Try.prog a w K Q := by
  refine opIn_of _ (by intro c; simp) ?_ h
  unfold execOp
  simp only [hx]
  go_simp
theorem opI_appendR {vs vx v' : Value} {w' : World} (hx : a.eval x = vs) (hy : a.eval y = vx) (hr : (Builtin.append_ #[29, 29] t #[vs, vx]).run Try.prog w = .ok v' w') (h : K (a.put dst v') w') :
    ({ dst := dst, op := .call { callee := .builtin .append, args := #[x, y], argTypes := #[29, 29] }, type := t, pos := pos, after := after, guard := none } : Oper).wpIn (Fence.wide.inRound l) m Try.prog a w K Q := by
  refine opIn_of _ (by intro c; simp) (v := v') (w' := w') ?_ h
  unfold execOp
  simp only [resolve, invoke, builtin, Sem.run_bind, Sem.run_pure, Result.andThen_ok, List.map_toArray, List.map_cons, List.map_nil, hx, hy, hr]
theorem opI_storeR {p : Addr} {A : Option Addr} {n c : Nat} {u : Value} (hx : a.eval x = .pointer (some p)) (hy : a.eval y = .slice A n c) (hc : w.cell? p = some u) (hf : w.frozen? p = false) (h : K a (w.setCell p (.slice A n c))) :
    ({ dst := none, op := .store 29 x y, type := t, pos := pos, after := after, guard := none } : Oper).wpIn (Fence.wide.inRound l) m Try.prog a w K Q := by
  refine ⟨fun _ _ => trivial, ?_⟩
  rw [Fence.inRound_round, Oper.semAt_some l _ _ (by intro c; simp)]
  unfold execOp
  simp only [hx, hy]
  go_simp
  exact h
theorem opI_lit1 {A : Option Addr} {n c : Nat} (hx : a.eval x = .slice A n c) (h : K (a.put dst (.slice (some ⟨w.heap.size, 0, none⟩) 1 1)) (w.alloc (.cells #[.slice A n c] 22))) :
    ({ dst := dst, op := .buildSlice 29 1 #[(0, x)], type := t, pos := pos, after := after, guard := none } : Oper).wpIn (Fence.wide.inRound l) m Try.prog a w K Q := by
  refine opIn_of _ (by intro c; simp) (w' := w.alloc (.cells #[.slice A n c] 22)) ?_ h
  unfold execOp
  simp only [hx, List.map_toArray, List.map_cons, List.map_nil]
  go_simp
theorem opI_clone {T : Ending → World → Prop} {vs : Value} (hx : a.eval x = vs) (hc : Calls Try.prog 26 #[vs] w T) (h : ∀ e w', T e w' → ∃ v, e = .returned v ∧ K (a.put dst v) w') :
    ({ dst := dst, op := .call { callee := .value (.func 26), args := #[x], argTypes := #[22] }, type := t, pos := pos, after := after, guard := none } : Oper).wpIn (Fence.wide.inRound l) (m + 1) Try.prog a w K Q := by
  have hf : a.eval (.func 26) = .func (.func 26) #[] #[] := rfl
  refine ⟨fun _ _ => trivial, ?_⟩
  rw [Fence.inRound_round, Oper.semAt_some l _ _ (by intro c; simp)]
  unfold execOp
  simp only [resolve, List.map_toArray, List.map_cons, List.map_nil, hx, hf]
  go_simp
  refine (CallsIn.inRound l (callsIn_wide.2 hc)).mono ?_
  intro e w' hT
  obtain ⟨v, rfl, hK⟩ := h e w' hT
  exact hK
end

abbrev allDs : List Nat := [8, 9, 10, 11, 12, 13]

/-- Blocks that the region leaves alone. -/
structure AllFar (n₀ base b2 Bx : Nat) (fx : Value) (W0 w : World) : Prop where
  below : Below n₀ W0 w
  keeps : KeepsOthers W0 w
  same : ∀ i, i < base → i ≠ b2 → w.heap[i]? = W0.heap[i]?
  size : W0.heap.size ≤ w.heap.size
  box : ∃ v, Whole w Bx 48 #[v, fx]
theorem AllFar.of_below {n₀ base b2 Bx : Nat} {fx v : Value} {W0 w : World} (hn : n₀ ≤ W0.heap.size) (hb : base ≤ W0.heap.size) (hx : Whole W0 Bx 48 #[v, fx]) (h : Below W0.heap.size W0 w) : AllFar n₀ base b2 Bx fx W0 w :=
  ⟨h.mono hn, keeps_under h, fun i hi _ => h.block i (by omega), h.size, v, hx.under h⟩

/-- What holds behind any operations of the region that have come up. -/
structure AllI (a0 : Act) (n₀ base b2 Bx : Nat) (fx : Value) (W0 : World) (A0 : Option Addr) (c0 : Nat) (Ap : Option Addr) (cp : Nat) (ls : List (List Nat)) (p : List Nat) (L : Nat → Bool) (a : Act) (w : World) : Prop where
  agree : Agree allDs a0 a
  x0 : L 0 = true → a.eval (.tmp 8) = .slice A0 ls.length c0
  x1 : L 1 = true → a.eval (.tmp 9) = .pointer (some ⟨Bx, 0, none⟩)
  x2 : L 2 = true → a.eval (.tmp 10) = .slice Ap p.length cp
  s0 : L 5 = false → Below W0.heap.size W0 w
  s3 : L 3 = true → L 5 = false → ∃ A3 c3, a.eval (.tmp 11) = .slice A3 p.length c3 ∧ w.ownsRow base 5 1 (.slice A3 p.length c3) p.length (bv p)
  s4 : L 4 = true → L 5 = false → ∃ A3 c3 bl, a.eval (.tmp 12) = .slice (some ⟨bl, 0, none⟩) 1 1 ∧ w.cell? ⟨bl, 0, none⟩ = some (.slice A3 p.length c3) ∧ w.ownsRow base 5 1 (.slice A3 p.length c3) p.length (bv p)
  s5 : L 5 = true → ∃ A1 c1, a.eval (.tmp 13) = .slice A1 (ls.length + 1) c1 ∧ AllFar n₀ base b2 Bx fx W0 w ∧ RowsAt base w (.slice A1 (ls.length + 1) c1) (ls ++ [p]) ∧ Whole w b2 29 #[if L 6 = true then .slice A1 (ls.length + 1) c1 else .slice A0 ls.length c0]

theorem all_region {ops : Array Oper} {Q : Exit → Act → World → Prop} {id m l : Nat} (hsize : ops.size = 7) (hlow : lowOnly ops = true)
    (o0 : At ops 0 (some 8) (.load 29 (.tmp 2)) 29 [])
    (o1 : At ops 1 (some 9) (.fieldAddr 48 (.tmp 4) 0) 0 [])
    (o2 : At ops 2 (some 10) (.load 22 (.tmp 9)) 22 [1])
    (o3 : At ops 3 (some 11) (.call { callee := .value (.func 26), args := #[.tmp 10], argTypes := #[22] }) 22 [2])
    (o4 : At ops 4 (some 12) (.buildSlice 29 1 #[(0, .tmp 11)]) 29 [3])
    (o5 : At ops 5 (some 13) (.call { callee := .builtin .append, args := #[.tmp 8, .tmp 12], argTypes := #[29, 29] }) 29 [0, 4])
    (o6 : At ops 6 none (.store 29 (.tmp 2) (.tmp 13)) 0 [5])
    (a0 : Act) (hds : ∀ d ∈ allDs, d < a0.tmps.size) (n₀ base b2 Bx : Nat) (fx : Value) (W0 : World) (A0 : Option Addr) (c0 : Nat) (Ap : Option Addr) (cp : Nat) (ls : List (List Nat)) (p : List Nat)
    (h2 : a0.eval (.tmp 2) = .pointer (some ⟨b2, 0, none⟩)) (h4 : a0.eval (.tmp 4) = .pointer (some ⟨Bx, 0, none⟩))
    (hb2 : Whole W0 b2 29 #[.slice A0 ls.length c0]) (hbx : Whole W0 Bx 48 #[.slice Ap p.length cp, fx]) (hbs : base ≤ W0.heap.size) (hn0 : n₀ ≤ b2) (hnb : n₀ ≤ base)
    (hrows : RowsAt base W0 (.slice A0 ls.length c0) ls) (hr : Rd W0 n₀ Ap p.length (bv p)) (hlen : ls.length ≤ 1000000) (hp : p.length ≤ 4000)
    (fin : ∀ σ w A1 c1, AllFar n₀ base b2 Bx fx W0 w → RowsAt base w (.slice A1 (ls.length + 1) c1) (ls ++ [p]) → Whole w b2 29 #[.slice A1 (ls.length + 1) c1] → Q .normal (lay σ allDs a0) w) :
    (Code.region id ops true).wpIn (Fence.wide.inRound l) (m + 1) Try.prog Q a0 W0 := by
  refine region_cloIn (by kernel_rfl) hlow (fun L a w => AllI a0 n₀ base b2 Bx fx W0 A0 c0 Ap cp ls p L a w) ?_ ?_ ?_
  · exact ⟨Agree.refl _ _, by simp, by simp, by simp, fun _ => (Below.refl _ _).drew, by simp, by simp, by simp⟩
  · rintro i o L a w ho hi hclo hall I
    have hlt : i < 7 := by rw [← hsize]; exact (Array.getElem?_eq_some_iff.1 ho).1
    have hz : ∀ d ∈ allDs, d < a.tmps.size := fun d hd => by rw [I.agree.size]; exact hds d hd
    rcases (by omega : i = 0 ∨ i = 1 ∨ i = 2 ∨ i = 3 ∨ i = 4 ∨ i = 5 ∨ i = 6) with rfl | rfl | rfl | rfl | rfl | rfl | rfl
    · have hd := o0.needs ho hall
      refine o0.runIn fun pos after => opI_load_rows (by rw [I.agree.eval (by decide)]; exact h2) ((hb2.under (I.s0 (o5.not hclo (j := 0) (by simp) hi))).cell 0) ⟨I.agree.put (by decide) _, ?_, ?_, ?_, ?_, ?_, ?_, ?_⟩
      · intro _; exact eval_new (hz _ (by decide)) _
      · simpa [eval_old] using I.x1
      · simpa [eval_old] using I.x2
      · simpa [eval_old] using I.s0
      · simpa [eval_old] using I.s3
      · simpa [eval_old] using I.s4
      · simpa [eval_old] using I.s5
    · have hd := o1.needs ho hall
      refine o1.runIn fun pos after => opI_fieldF (by rw [I.agree.eval (by decide)]; exact h4) ⟨I.agree.put (by decide) _, ?_, ?_, ?_, ?_, ?_, ?_, ?_⟩
      · simpa [eval_old] using I.x0
      · intro _; exact eval_new (hz _ (by decide)) _
      · simpa [eval_old] using I.x2
      · simpa [eval_old] using I.s0
      · simpa [eval_old] using I.s3
      · simpa [eval_old] using I.s4
      · simpa [eval_old] using I.s5
    · have hd := o2.needs ho hall
      refine o2.runIn fun pos after => opI_load_sl (I.x1 (hd 1 (by simp))) ((hbx.under (I.s0 (o5.not hclo (j := 4) (by simp) (o4.not hclo (j := 3) (by simp) (o3.not hclo (j := 2) (by simp) hi))))).cell 0) ⟨I.agree.put (by decide) _, ?_, ?_, ?_, ?_, ?_, ?_, ?_⟩
      · simpa [eval_old] using I.x0
      · simpa [eval_old] using I.x1
      · intro _; exact eval_new (hz _ (by decide)) _
      · simpa [eval_old] using I.s0
      · simpa [eval_old] using I.s3
      · simpa [eval_old] using I.s4
      · simpa [eval_old] using I.s5
    · have hd := o3.needs ho hall
      have n4 := o4.not hclo (j := 3) (by simp) hi
      have n5 := o5.not hclo (j := 4) (by simp) n4
      have hw := I.s0 n5
      refine o3.runIn fun pos after => opI_clone (I.x2 (hd 2 (by simp))) (clone_any Ap p.length cp p W0.heap.size w ((hr.more (Nat.le_trans hnb hbs)).below hw) (by omega)) ?_
      rintro e w' ⟨A3, c3, rfl, hI3⟩
      have hw' : Below W0.heap.size W0 w' := hw.trans (hI3.2.1.mono hw.size)
      refine ⟨_, rfl, I.agree.put (by decide) _, ?_, ?_, ?_, ?_, ?_, ?_, ?_⟩
      · simpa [eval_old] using I.x0
      · simpa [eval_old] using I.x1
      · simpa [eval_old] using I.x2
      · intro _; exact hw'
      · intro _ _
        exact ⟨A3, c3, eval_new (hz _ (by decide)) _, own_weaker hI3.1 (Nat.le_trans hbs hw.size)⟩
      · intro h; simp [n4] at h
      · intro h; simp [n5] at h
    · have hd := o4.needs ho hall
      have n5 := o5.not hclo (j := 4) (by simp) hi
      have hw := I.s0 n5
      obtain ⟨A3, c3, he, ho3⟩ := I.s3 (hd 3 (by simp)) n5
      refine o4.runIn fun pos after => opI_lit1 he ⟨I.agree.put (by decide) _, ?_, ?_, ?_, ?_, ?_, ?_, ?_⟩
      · simpa [eval_old] using I.x0
      · simpa [eval_old] using I.x1
      · simpa [eval_old] using I.x2
      · intro _; exact hw.alloc hw.size _
      · intro _ _
        exact ⟨A3, c3, by simpa [eval_old] using he, ho3.alloc _⟩
      · intro _ _
        exact ⟨A3, c3, w.heap.size, eval_new (hz _ (by decide)) _, cell_new w _ _ 0, ho3.alloc _⟩
      · intro h; simp [n5] at h
    · have hd := o5.needs ho hall
      have n6 := o6.not hclo (j := 5) (by simp) hi
      have hw := I.s0 hi
      obtain ⟨A3, c3, bl, he, hcell, ho3⟩ := I.s4 (hd 4 (by simp)) hi
      have hR : RowsAt base w (.slice A0 ls.length c0) ls := hrows.under hw
      obtain ⟨A1, c1, w', hrun, hR', hg, hT⟩ := rows_app w base _ ls hR bl A3 p.length c3 p hcell ho3 hlen (Nat.le_trans hbs hw.size)
      have hb2' := hT b2 _ _ (hb2.under hw) (by decide)
      have hbx' := hT Bx _ _ (hbx.under hw) (by decide)
      have hlow : ∀ k, (Value.slice A0 ls.length c0).ownBlock = some k → base ≤ k := fun k e => by
        obtain ⟨es, h1, _⟩ := hR
        exact (h1.lt k e).1
      have hfar : AllFar n₀ base b2 Bx fx W0 w' := by
        refine ⟨(hw.mono (by omega)).grown hg (by have := hw.size; omega) (fun k e => Nat.le_trans hnb (hlow k e)), (keeps_under hw).trans ?_, fun i hi' _ => ?_, by have := hg.size; have := hw.size; omega, _, hbx'⟩
        · obtain ⟨es, h1, _⟩ := hR
          exact keeps_row h1 hg
        · rw [hg.block i (by have := hw.size; omega) (fun e => by have := hlow i e.symm; omega), hw.block i (by omega)]
      refine o5.runIn fun pos after => opI_appendR (I.x0 (hd 0 (by simp))) he hrun ⟨I.agree.put (by decide) _, ?_, ?_, ?_, ?_, ?_, ?_, ?_⟩
      · simpa [eval_old] using I.x0
      · simpa [eval_old] using I.x1
      · simpa [eval_old] using I.x2
      · simp
      · simp
      · simp
      · intro _
        refine ⟨A1, c1, eval_new (hz _ (by decide)) _, hfar, hR', ?_⟩
        simpa [n6] using hb2'
    · have hd := o6.needs ho hall
      have d5 := hd 5 (by simp)
      obtain ⟨A1, c1, he, hf, hR, hb⟩ := I.s5 d5
      rw [hi] at hb
      simp only [Bool.false_eq_true, if_false] at hb
      refine o6.runIn fun pos after => opI_storeR (by rw [I.agree.eval (by decide)]; exact h2) he (hb.cell 0) (hb.frozen 0) ⟨I.agree, ?_, ?_, ?_, ?_, ?_, ?_, ?_⟩
      · simpa using I.x0
      · simpa using I.x1
      · simpa using I.x2
      · intro h; simp [d5] at h
      · intro _ h; simp [d5] at h
      · intro _ h; simp [d5] at h
      · intro _
        have hset := hb.set 0 (.slice A1 (ls.length + 1) c1)
        simp only [List.setIfInBounds_toArray, List.set_cons_zero] at hset
        refine ⟨A1, c1, he, ⟨hf.below.setCell (p := ⟨b2, 0, none⟩) hn0 _, hf.keeps.trans (KeepsOthers.setCell _ _ _), fun i hi' hne => (Below.heap_setCell w ⟨b2, 0, none⟩ _ i hne).trans (hf.same i hi' hne), by simpa [World.setCell] using hf.size, ?_⟩, hR.far hb (by decide) (by decide) 0 _, ?_⟩
        · obtain ⟨v, hv⟩ := hf.box
          refine ⟨v, hv.far (p := ⟨b2, 0, none⟩) (fun e => ?_) _⟩
          unfold Whole at hv hb
          simp only at e
          rw [e, hb] at hv
          injection hv with hv
          injection hv with _ h9 _
          exact absurd h9 (by decide)
        · simpa using hset
  · intro L a w hall I
    obtain ⟨A1, c1, he, hf, hR, hb⟩ := I.s5 (hall 5 (by omega))
    rw [hall 6 (by omega), if_pos rfl] at hb
    rw [I.agree.lay hds]
    exact fin _ w A1 c1 hf hR hb

end Go.Proofs.Ytocleikdabclkaa
