/-
  The walk of 'All' of package frame. Conditions: those that each theorem names.
-/
import Derived.Test.YtocleikdabclkaaFrAllReg
namespace Go.Proofs.Ytocleikdabclkaa
open Go.RowKit Go.Shelf
attribute [local go_sem] Oper.semAt_some

def usedOf (l : List (List Nat)) : Nat := (l.flatMap fr).length
theorem usedOf_snoc (l : List (List Nat)) (p : List Nat) : usedOf (l ++ [p]) = usedOf l + frLen p.length := by simp [usedOf, fr_length]
theorem frLen_le {n : Nat} (h : n ≤ 4000) : frLen n ≤ 4006 := by have := put_two h; unfold frLen; omega
theorem usedOf_le (l : List (List Nat)) (h : ∀ p ∈ l, p.length ≤ 4000) : usedOf l ≤ 4006 * l.length := by
  induction l with
  | nil => simp [usedOf]
  | cons p l ih =>
    have h1 := ih (fun q hq => h q (List.mem_cons_of_mem _ hq))
    have h2 := frLen_le (h p (by simp))
    simp only [usedOf, List.flatMap_cons, List.length_append, fr_length, List.length_cons] at *
    omega
theorem usedOf_ge (l : List (List Nat)) : 5 * l.length ≤ usedOf l := by
  induction l with
  | nil => simp [usedOf]
  | cons p l ih =>
    have h2 := frLen_pos p.length
    simp only [usedOf, List.flatMap_cons, List.length_append, fr_length, List.length_cons] at *
    omega

/-- A store of what is there. -/
theorem Whole.set_same {w : World} {b : Nat} {t : TypeId} {cs : Array Value} (h : Whole w b t cs) (i : Nat) (v : Value) (hv : cs[i]? = some v) : w.setCell ⟨b, i, none⟩ v = w := by
  unfold Whole at h
  have e : (w.setCell ⟨b, i, none⟩ v).heap = w.heap := by
    refine Array.ext_getElem? fun j => ?_
    by_cases hj : j = b
    · subst hj
      have h1 : (w.setCell ⟨j, i, none⟩ v).heap[j]? = some (.cells (cs.setIfInBounds i v) t (0, 0)) := by simp [World.setCell, Array.getElem?_modify, h]
      rw [h1, h]
      congr 2
      refine Array.ext_getElem? fun k => ?_
      by_cases hk : i = k
      · subst hk
        have hlt : i < cs.size := (Array.getElem?_eq_some_iff.1 hv).1
        rw [Array.getElem?_setIfInBounds_self_of_lt hlt, hv]
      · rw [Array.getElem?_setIfInBounds_ne hk]
    · exact Below.heap_setCell w ⟨b, i, none⟩ v j hj
  cases w
  simp only [World.setCell] at e ⊢
  rw [e]

/-- What holds between two rounds. -/
structure AllAt (w w0 : World) (base Bs : Nat) (A : Option Addr) (n c : Nat) (pre : List (FrAt w0 w.heap.size)) (W : World) : Prop where
  res : ∃ v, Whole W w.heap.size 29 #[v] ∧ RowsAt base W v (pays pre)
  used : Whole W (w.heap.size + 1) 3 #[.int .i64 (usedOf (pays pre) : Int)]
  bn : Whole W (w.heap.size + 1 + 1) 22 #[.slice A n c]
  many : ∀ p ∈ pays pre, p.length ≤ 4000
  below : Below w.heap.size w W
  size : base ≤ W.heap.size
theorem allAt_own (w w0 : World) (base Bs : Nat) (A : Option Addr) (n c : Nat) (B : Nat) (hB : w.heap.size ≤ B) : OwnFrom B (AllAt w w0 base Bs A n c) := by
  intro pre W1 W2 row h hg hr
  have hr' : ∀ r, row = some r → ∃ o : Obj, W1.heap[r]? = some o ∧ o.isCells = false := fun r e => (hr r e).2
  obtain ⟨v, h1, h2⟩ := h.res
  exact ⟨⟨v, h1.turn hg hr', h2.turn hg hr'⟩, h.used.turn hg hr', h.bn.turn hg hr', h.many, h.below.grown hg h.below.size (fun k e => by have := (hr k e).1; omega), Nat.le_trans h.size hg.size⟩

/-- The payloads, and how many bytes they have. -/
def AllPost (l : List (List Nat)) (used : Nat) (w : World) (e : Ending) (w' : World) : Prop :=
  ∃ A c, e = .returned (.tuple #[.slice A l.length c, .int .i64 (used : Int)]) ∧ RowsAt w.heap.size w' (.slice A l.length c) l ∧ Below w.heap.size w w'

set_option maxRecDepth 100000 in
set_option maxHeartbeats 1000000 in
theorem frAll_any (A : Option Addr) (n c : Nat) (bs : List Nat) (L : List (List Nat)) (used : Nat) (B : Nat) (w : World) (hall : AllIs bs L used) (hr : Rd w B A n (bv bs)) (hB : B ≤ w.heap.size) (hb : ∀ x ∈ bs, x < 256) (hn : n ≤ 1000000) (hc : n ≤ c) :
    Calls Try.prog 13 #[.slice A n c] w (AllPost L used w) := by
  have hL : L.length ≤ 200000 := by
    have h1 := usedOf_ge L
    have h2 := hall.1
    have h3 : bs.length = n := by have := hr.1; rwa [bv_length] at this
    have h4 := congrArg List.length h2
    rw [List.length_append] at h4
    unfold usedOf at h1
    omega
  have HAll := Lib.hid hall
  have HR := Lib.hid (hr.more hB)
  have HBy := Lib.hid hb
  clear hall hr hB hb
  refine (callsIn_wide (n := 6)).1 ?_
  refine callsIn_of_wp_marks Try.func13 rfl trivial ?_ rfl
  simp only [Try.ntmps13, List.size_toArray, List.length_cons, List.length_nil, Nat.reduceAdd, Nat.reduceSub, Array.replicate_succ, Array.replicate_zero, List.push_toArray, List.append_toArray, List.nil_append, List.cons_append]
  gi_wp2_with (refine ⟨trivial, ?_⟩; gi_at_call 28; refine (callsIn_wide.2 (frames_any _ _ _ _)).mono ?_; rintro e w2 ⟨rfl, rfl⟩)
  obtain ⟨W0, hW0⟩ : ∃ W0, ((w.alloc (.cells #[.slice none 0 0] 29)).alloc (.cells #[.int .i64 0] 3)).alloc (.cells #[.slice A n c] 22) = W0 := ⟨_, rfl⟩
  have hs0 : W0.heap.size = w.heap.size + 1 + 1 + 1 := by rw [← hW0]; simp
  have hb0 : Below w.heap.size w W0 := by rw [← hW0]; exact (((Below.refl _ w).alloc (Nat.le_refl _) _).alloc (by simp) _).alloc (by simp; omega) _
  have hinv : AllAt w w W0.heap.size (w.heap.size + 1 + 1) A n c [] W0 := by
    refine ⟨⟨.slice none 0 0, ?_, RowsAt.nil_ _ _⟩, ?_, ?_, by simp [pays], hb0, Nat.le_refl _⟩
    · rw [← hW0]; exact ((Whole.new w _ _).alloc _).alloc _
    · rw [← hW0]; have := (Whole.new (w.alloc (.cells #[.slice none 0 0] 29)) 3 #[.int .i64 0]).alloc (.cells #[.slice A n c] 22); simpa [usedOf, pays] using this
    · rw [← hW0]; have := Whole.new ((w.alloc (.cells #[.slice none 0 0] 29)).alloc (.cells #[.int .i64 0] 3)) 22 #[.slice A n c]; simpa using this
  rw [hW0]
  clear hW0
  refine wpIn_rangeFunc_ownH rfl (by omega) (gf := 37) (lb := #[.pointer (some ⟨w.heap.size + 1 + 1, 0, none⟩)]) rfl trivial (enters_of Try.func37 (by kernel_rfl) rfl)
    (encs := fun x : FrAt w w.heap.size => #[.agg #[.slice x.1.A x.1.p.length x.1.c, .int .i64 (frLen x.1.p.length : Int)]])
    (frames_stops 5 (w.heap.size + 1 + 1) w.heap.size w A n c bs L used hn hc HBy.out HAll.out HR.out W0 (by omega) (by omega) hb0 (by simpa using hinv.bn.cell 0))
    (fun h k => kpB_t h k) (kpB_b (by omega) (by omega)) (Below.refl _ _) (fun _ => rfl)
    (AllAt w w W0.heap.size (w.heap.size + 1 + 1) A n c) (fun _ _ _ => False)
    (allAt_own _ _ _ _ _ _ _ _ (by omega)) (fun k pre W W' row h hg hr => h) hinv
    (fun x a' W => ∃ Bx, W0.heap.size ≤ Bx ∧ Whole W Bx 48 #[.slice x.1.A x.1.p.length x.1.c, .int .i64 (frLen x.1.p.length : Int)] ∧
      a' = { tmps := #[.slice A n c, undef, .pointer (some ⟨w.heap.size, 0, none⟩), .pointer (some ⟨w.heap.size + 1, 0, none⟩), .pointer (some ⟨Bx, 0, none⟩), .slice A n c, .func (.func 37) #[] #[.pointer (some ⟨w.heap.size + 1 + 1, 0, none⟩)], .agg #[.slice x.1.A x.1.p.length x.1.c, .int .i64 (frLen x.1.p.length : Int)], undef, undef, undef, undef, undef, undef, undef, undef, undef, undef, undef, undef], defers := [] })
    (fun x a' _ X Y row hs hg hr => by
      obtain ⟨Bx, h1, h2, h3⟩ := hs
      exact ⟨Bx, h1, h2.turn hg (fun r e => (hr r e).2), h3⟩) ?assign ?body ?done ?stop
  case assign =>
    intro l pre x W K' hI hK
    have hA : ∀ o : Obj, AllAt w w W0.heap.size (w.heap.size + 1 + 1) A n c pre (W.alloc o) := fun o => by
      obtain ⟨v, h1, h2⟩ := hI.res
      exact ⟨⟨v, h1.alloc _, h2.under ((Below.refl _ W).alloc (Nat.le_refl _) o)⟩, hI.used.alloc _, hI.bn.alloc _, hI.many, hI.below.alloc hI.below.size _, by have := hI.size; simp; omega⟩
    gi_wp2
    exact hK _ _ ((KeepsOthers.alloc _ _).from _) ⟨(Below.refl _ W).alloc hI.below.size _, Below.heap_alloc W _ _ (by have := hI.size; omega)⟩ (hA _) ⟨W.heap.size, hI.size, Whole.new W _ _, rfl⟩
  case body =>
    rintro l pre x a' W hl _ hI ⟨Bx, hBx, hX, rfl⟩ hlt
    obtain ⟨v, hv, hrows⟩ := hI.res
    obtain ⟨Av, cv, rfl⟩ := hrows.form
    have hpl : (pays pre).length = pre.length := by simp [pays]
    have hsz := hI.size
    have hul := usedOf_le (pays pre) hI.many
    have HI := Lib.hid hI
    have HX := Lib.hid hX
    have HV := Lib.hid hv
    have HRows := Lib.hid hrows
    have hx4 := x.2.many
    obtain ⟨U, hU⟩ : ∃ U, usedOf (pays pre) = U := ⟨_, rfl⟩
    obtain ⟨F, hF⟩ : ∃ F, frLen x.1.p.length = F := ⟨_, rfl⟩
    have hF6 : F ≤ 4006 := by rw [← hF]; exact frLen_le hx4
    have hUb : U ≤ 4006 * 200000 := by rw [← hU]; omega
    rw [hF] at HX
    have HU := Lib.hid hU
    have HF := Lib.hid hF
    clear hI hX hv hrows hU hF hul
    gi_wp2_with fail
    refine all_region rfl (by kernel_rfl) ⟨_, rfl, rfl, rfl, rfl, rfl, by kernel_rfl⟩ ⟨_, rfl, rfl, rfl, rfl, rfl, by kernel_rfl⟩ ⟨_, rfl, rfl, rfl, rfl, rfl, by kernel_rfl⟩ ⟨_, rfl, rfl, rfl, rfl, rfl, by kernel_rfl⟩ ⟨_, rfl, rfl, rfl, rfl, rfl, by kernel_rfl⟩ ⟨_, rfl, rfl, rfl, rfl, rfl, by kernel_rfl⟩ ⟨_, rfl, rfl, rfl, rfl, rfl, by kernel_rfl⟩ _ ?_ w.heap.size W0.heap.size w.heap.size Bx _ W Av cv x.1.A x.1.c (pays pre) x.1.p rfl rfl HV.out HX.out HI.out.size (Nat.le_refl _) (by omega) HRows.out (x.2.rd.below HI.out.below) (by omega) hx4 ?_
    · intro d hd
      simp only [List.mem_cons, List.not_mem_nil, or_false] at hd
      rcases hd with rfl | rfl | rfl | rfl | rfl | rfl <;> simp
    intro σ W2 A2 c2 hfar hR2 hv2
    have hu2 : Whole W2 (w.heap.size + 1) 3 #[.int .i64 (U : Int)] := by
      have h1 := HI.out.used
      rw [HU.out] at h1
      exact (hfar.same _ (by omega) (by omega)).trans h1
    have hbn2 : Whole W2 (w.heap.size + 1 + 1) 22 #[.slice A n c] := (hfar.same _ (by omega) (by omega)).trans HI.out.bn
    obtain ⟨vx, hbx2⟩ := hfar.box
    have u0 := hu2.cell 0
    have uf := hu2.frozen 0
    have bx1 := hbx2.cell 1
    simp only [List.getElem?_toArray, List.getElem?_cons_zero, List.getElem?_cons_succ] at u0 bx1
    have HFar := Lib.hid hfar
    have HR2 := Lib.hid hR2
    have HV2 := Lib.hid hv2
    have HU2 := Lib.hid hu2
    have HBN2 := Lib.hid hbn2
    clear hfar hR2 hv2 hu2 hbn2 hbx2
    simp only [lay, List.foldl_cons, List.foldl_nil, Act.put, List.setIfInBounds_toArray, List.set_cons_zero, List.set_cons_succ]
    gi_wp2_with fail
    have e1 : (U : Int) + (F : Int) = ((usedOf (pays (pre ++ [x])) : Nat) : Int) := by rw [pays_snoc, usedOf_snoc, HU.out, HF.out]; omega
    rw [e1]
    have hu3 := HU2.out.set 0 (.int .i64 ((usedOf (pays (pre ++ [x])) : Nat) : Int))
    simp only [List.setIfInBounds_toArray, List.set_cons_zero] at hu3
    refine ⟨(HFar.out.keeps.trans (KeepsOthers.setCell _ _ _)).from _, ⟨HFar.out.below.setCell (p := ⟨w.heap.size + 1, 0, none⟩) (by simp) _, ?_⟩, ?_⟩
    · exact ((Below.heap_setCell W2 ⟨w.heap.size + 1, 0, none⟩ _ _ (by simp)).trans (HFar.out.same _ (by omega) (by omega)))
    · refine ⟨⟨.slice A2 ((pays pre).length + 1) c2, HV2.out.far (p := ⟨w.heap.size + 1, 0, none⟩) (by simp) _, ?_⟩, hu3, HBN2.out.far (p := ⟨w.heap.size + 1, 0, none⟩) (by simp) _, ?_, (HI.out.below.trans HFar.out.below).setCell (p := ⟨w.heap.size + 1, 0, none⟩) (by simp) _, ?_⟩
      · rw [pays_snoc]; exact HR2.out.far HU2.out (by decide) (by decide) 0 _
      · intro p hp
        rw [pays_snoc] at hp
        rcases List.mem_append.1 hp with hp | hp
        · exact HI.out.many p hp
        · simp only [List.mem_singleton] at hp; subst hp; exact hx4
      · have h1 := HFar.out.size
        simpa [World.setCell] using Nat.le_trans hsz h1
  case done =>
    rintro D ys W1 hD hys hI hK
    obtain ⟨v, hv, hrows⟩ := hI.res
    rw [hys] at hrows
    obtain ⟨Av, cv, rfl⟩ := hrows.form
    have hu := hI.used
    rw [hys] at hu
    have hU : usedOf L = used := HAll.out.2.1.symm
    rw [hU] at hu
    have v0 := hv.cell 0
    have vf := hv.frozen 0
    have u0 := hu.cell 0
    have uf := hu.frozen 0
    simp only [List.getElem?_toArray, List.getElem?_cons_zero] at v0 u0
    have HV := Lib.hid hv
    have HU := Lib.hid hu
    have HRows := Lib.hid hrows
    have HI := Lib.hid hI
    have HK := Lib.hid hK
    have e2 := hv.set_same 0 (.slice Av L.length cv) rfl
    have e3 := hu.set_same 0 (.int .i64 (used : Int)) rfl
    have E2 := Lib.hid e2
    have E3 := Lib.hid e3
    clear e2 e3
    have hmix : Try.prog.follows .mixedOrders = true := by kernel_rfl
    clear hv hu hrows hI hK hU hys
    gi_wp2_with fail
    gi_region_with_o (fail)
    all_goals gi_wp2
    all_goals
      rw [E2.out, E3.out]
      have hK1 : W1.drew.heap[D]? = some (.deferred (some [])) := HK.out
      have hg' := grownBy_putObj' W1.drew D (.deferred none)
      have hr' : ∀ r, (some D) = some r → ∃ o : Obj, W1.drew.heap[r]? = some o ∧ o.isCells = false := fun r e => by cases e; exact ⟨_, hK1, rfl⟩
      have q2 := (Whole.turn (W := W1.drew) HV.out hg' hr').cell 0
      have q3 := (Whole.turn (W := W1.drew) HU.out hg' hr').cell 0
      simp only [List.getElem?_toArray, List.getElem?_cons_zero] at q2 q3
      refine ⟨by simp, .inl ⟨_, _, rfl, run_takeDeferred hK1, ?_⟩⟩
      refine ⟨.tuple #[.slice Av L.length cv, .int .i64 (used : Int)], by simp [results, Try.results13, go_sem, q2, q3], Av, cv, rfl, ?_, ?_⟩
      · exact ((HRows.out.under (Below.refl _ W1).drew).turn hg' hr').weaker (by omega)
      · exact HI.out.below.drew.trans ((Below.refl _ _).grown hg' HI.out.below.size (fun k e => by cases e; omega))
  case stop =>
    rintro D k pre W hD hpre hO hK
    exact hO.elim

end Go.Proofs.Ytocleikdabclkaa
