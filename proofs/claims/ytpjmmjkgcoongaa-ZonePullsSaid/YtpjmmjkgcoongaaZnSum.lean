/-
  The walks of 'sum', 'first' and 'Pull' of package zone. Conditions: those that each theorem names.
-/
import Derived.Test.YtpjmmjkgcoongaaZnSumReg
namespace Go.Proofs.Ytpjmmjkgcoongaa
open Go.RowKit Go.Shelf
attribute [local go_sem] Oper.semAt_some run_store_complex

/-- What holds between two rounds. -/
structure SumAt (w : World) (A : Option Addr) (n c : Nat) (pre : List Int) (W : World) : Prop where
  box : ∃ x y, Whole W w.heap.size 23 #[.complex .f64 x y] ∧ IsW x (sx pre) ∧ IsW y (sy pre)
  bn : Whole W (w.heap.size + 1) 29 #[.slice A n c]
  below : Below w.heap.size w W
theorem sumAt_own (w : World) (A : Option Addr) (n c : Nat) (B : Nat) (hB : w.heap.size ≤ B) : OwnFrom B (SumAt w A n c) := by
  intro pre W1 W2 row h hg hr
  have hr' : ∀ r, row = some r → ∃ o : Obj, W1.heap[r]? = some o ∧ o.isCells = false := fun r e => (hr r e).2
  obtain ⟨x, y, h1, h2⟩ := h.box
  exact ⟨⟨x, y, h1.turn hg hr', h2⟩, h.bn.turn hg hr', h.below.grown hg h.below.size (fun k e => by have := (hr k e).1; omega)⟩

/-- A call that tells a number whose parts stand for these. -/
def CxB (p q : Int) (w : World) (e : Ending) (w' : World) : Prop := (∃ x y, e = .returned (.complex .f64 x y) ∧ IsW x p ∧ IsW y q) ∧ Below w.heap.size w w'

set_option maxRecDepth 100000 in
set_option maxHeartbeats 1000000 in
theorem sum_any (A : Option Addr) (n c : Nat) (l : List Int) (B : Nat) (w : World) (hr : Rd w B A n (iv l)) (hB : B ≤ w.heap.size) (hn : n ≤ 1000000) :
    Calls Try.prog 17 #[.slice A n c] w (CxB (sx l) (sy l) w) := by
  have hl : l.length = n := by have := hr.1; rwa [iv_length] at this
  have HR := Lib.hid (hr.more hB)
  have HL := Lib.hid hl
  clear hr hB hl
  refine (callsIn_wide (n := 6)).1 ?_
  refine callsIn_of_wp_marks Try.func17 rfl trivial ?_ rfl
  simp only [Try.ntmps17, List.size_toArray, List.length_cons, List.length_nil, Nat.reduceAdd, Nat.reduceSub, Array.replicate_succ, Array.replicate_zero, List.push_toArray, List.append_toArray, List.nil_append, List.cons_append]
  gi_wp2_with (refine ⟨trivial, ?_⟩; gi_at_call 18; refine (callsIn_wide.2 (each_any _ _ _ _)).mono ?_; rintro e w2 ⟨rfl, rfl⟩)
  obtain ⟨W0, hW0⟩ : ∃ W0, (w.alloc (.cells #[.complex .f64 0 0] 23)).alloc (.cells #[.slice A n c] 29) = W0 := ⟨_, rfl⟩
  have hs0 : W0.heap.size = w.heap.size + 1 + 1 := by rw [← hW0]; simp
  have hb0 : Below w.heap.size w W0 := by rw [← hW0]; exact ((Below.refl _ w).alloc (Nat.le_refl _) _).alloc (by simp) _
  have hinv : SumAt w A n c [] W0 := by
    refine ⟨⟨0, 0, ?_, isW_0, isW_0⟩, ?_, hb0⟩
    · rw [← hW0]; exact (Whole.new w _ _).alloc _
    · rw [← hW0]; have := Whole.new (w.alloc (.cells #[.complex .f64 0 0] 23)) 29 #[.slice A n c]; simpa using this
  rw [hW0]
  clear hW0
  refine wpIn_rangeFunc_ownF rfl (by omega) (gf := 21) (lb := #[.pointer (some ⟨w.heap.size + 1, 0, none⟩)]) rfl trivial (enters_of Try.func21 (by kernel_rfl) rfl)
    (each_stops 5 (w.heap.size + 1) w.heap.size A n c l (by unfold maxLen; omega) W0 (by omega) (by omega) (by simpa using hinv.bn.cell 0) (HR.out.below hb0)) (fun h k => kpB_t h k) (kpB_b (by omega) (by omega)) (Below.refl _ _) (fun _ => rfl)
    (SumAt w A n c) (fun _ _ _ => False)
    (sumAt_own _ _ _ _ _ (by omega)) (fun k pre W W' row h hg hr => h) hinv
    (fun x => { tmps := #[.slice A n c, undef, .complex .f64 0 0, .pointer (some ⟨w.heap.size, 0, none⟩), .int .i64 x, .slice A n c, .func (.func 21) #[] #[.pointer (some ⟨w.heap.size + 1, 0, none⟩)], .int .i64 x, undef, undef, undef, undef, undef], defers := [] }) ?assign ?body ?done ?stop
  case assign =>
    intro l x W K hK
    gi_wp2
    exact hK
  case body =>
    rintro lp pre x W hI hlen
    obtain ⟨cx, cy, hv, hx, hy⟩ := hI.box
    have b1 := sx_bd pre
    have b2 := sy_bd pre
    have hl2 : l.length ≤ 1000000 := by rw [HL.out]; exact hn
    have HI := Lib.hid hI
    have HV := Lib.hid hv
    have HX := Lib.hid hx
    have HY := Lib.hid hy
    clear hI hv hx hy
    gi_wp2_with fail
    refine sum_region rfl (by kernel_rfl) ⟨_, rfl, rfl, rfl, rfl, rfl, by kernel_rfl⟩ ⟨_, rfl, rfl, rfl, rfl, rfl, by kernel_rfl⟩ ⟨_, rfl, rfl, rfl, rfl, rfl, by kernel_rfl⟩ ⟨_, rfl, rfl, rfl, rfl, rfl, by kernel_rfl⟩ ⟨_, rfl, rfl, rfl, rfl, rfl, by kernel_rfl⟩ _ ?_ w.heap.size W cx cy x (sx pre) (sy pre) rfl rfl HV.out HX.out HY.out (by omega) (by omega) ?_
    · intro d hd
      simp only [List.mem_cons, List.not_mem_nil, or_false] at hd
      rcases hd with rfl | rfl | rfl | rfl <;> simp
    intro σ w1 x' y' hb1 hx' hy'
    have hsz := HI.out.below.size
    have hset := (HV.out.under hb1).set 0 (.complex .f64 x' y')
    simp only [List.setIfInBounds_toArray, List.set_cons_zero] at hset
    have hbn : Whole (w1.setCell ⟨w.heap.size, 0, none⟩ (.complex .f64 x' y')) (w.heap.size + 1) 29 #[.slice A n c] :=
      (HI.out.bn.under hb1).far (p := ⟨w.heap.size, 0, none⟩) (by simp) _
    refine ⟨(keeps_under hb1).trans (KeepsOthers.setCell _ _ _), ⟨(hb1.mono hsz).setCell (p := ⟨w.heap.size, 0, none⟩) (Nat.le_refl _) _, ?_⟩, ⟨x', y', hset, by rw [sx_snoc]; exact hx', by rw [sy_snoc]; exact hy'⟩, hbn, (HI.out.below.trans (hb1.mono hsz)).setCell (p := ⟨w.heap.size, 0, none⟩) (Nat.le_refl _) _⟩
    exact hbn.trans HI.out.bn.symm
  case done =>
    rintro D ys W hD rfl hI hK
    obtain ⟨cx, cy, hv, hx, hy⟩ := hI.box
    have hc := hv.cell 0
    simp only [List.getElem?_toArray, List.getElem?_cons_zero] at hc
    have HK := Lib.hid hK
    have HI := Lib.hid hI
    have HX := Lib.hid hx
    have HY := Lib.hid hy
    clear hK hI hv hx hy
    gi_wp2_with fail
    refine ⟨by simp, .inl ⟨_, _, rfl, run_takeDeferred HK.out, ?_⟩⟩
    refine ⟨.complex .f64 cx cy, by simp [results, Try.results17, go_sem], ⟨cx, cy, rfl, HX.out, HY.out⟩, ?_⟩
    exact HI.out.below.trans ((Below.refl _ _).grown (grownBy_putObj' W D (.deferred none)) HI.out.below.size (fun k e => by cases e; omega))
  case stop =>
    rintro D k pre W hD hpre h hK
    exact h.elim

set_option maxRecDepth 100000 in
/-- 'x[:k]' of integers, as the model cuts it. -/
theorem run_headI (A : Option Addr) (n c k : Nat) (hk : k ≤ c) (w : World) : (Instr.slice 29 (.slice A n c) none (some (.int .i64 (k : Int))) none).run Try.prog w = .ok (.slice A k c) w := by
  obtain ⟨i0, hi, hz0, hz1, hz2⟩ := info_parts info_int
  have hz : (sizeOf (Try.prog.elem 29)).run Try.prog w = .ok 1 w := by
    have he : Try.prog.elem 29 = 3 := by kernel_rfl
    simp [he, Go.sizeOf, typeInfo, hi, hz1]
  have h63 : (k : Int).toNat = k := by omega
  rw [run_slice_h (P := Try.prog) w 29 A n c Try.underlying29 .i64 (k : Int) (by omega) (by omega), hz, h63]
  have e : ∀ o : Option Addr, o.map (fun a => a.add (0 * 1)) = o := fun o => by cases o <;> simp [Addr.add]
  simp only [Result.andThen_ok, sliced, e, Nat.sub_zero, ite_self]

set_option maxRecDepth 100000 in
/-- Of at most 1000 zones all are told. -/
theorem zfirst_any (A : Option Addr) (n c : Nat) (hn : n ≤ 1000) (hc : n ≤ c) (w : World) :
    Calls Try.prog 19 #[.slice A n c] w fun e w' => e = .returned (.slice A n c) ∧ w = w' := by
  rcases Nat.lt_or_eq_of_le hn with h | h
  · have h1 := run_headI A n c n hc w
    have hlt : (n : Int) < 1000 := by omega
    clear hn h
    go_enter Try.func19, Try.ntmps19
    go_wp2_with fail
    go_ret
    exact ⟨rfl, rfl⟩
  · subst h
    have h1 := run_headI A 1000 c 1000 hc w
    simp only [Int.cast_ofNat_Int] at h1
    clear hn
    go_enter Try.func19, Try.ntmps19
    go_wp2_with fail
    go_ret
    exact ⟨rfl, rfl⟩

/-- The pull of at most 1000 zones. -/
theorem pull_any (A : Option Addr) (n c : Nat) (l : List Int) (B : Nat) (w : World) (hr : Rd w B A n (iv l)) (hB : B ≤ w.heap.size) (hn : n ≤ 1000) (hc : n ≤ c) :
    Calls Try.prog 13 #[.slice A n c] w (CxB (sx l) (sy l) w) := by
  have HF := Lib.hid (fun W => zfirst_any A n c hn hc W)
  have HS := Lib.hid (sum_any A n c l B w hr hB (by omega))
  clear hr hB hn hc
  go_enter Try.func13, Try.ntmps13
  go_wp2_with fail
  refine (HF.out _).mono ?_
  rintro e w1 ⟨rfl, rfl⟩
  go_wp2_with fail
  refine HS.out.mono ?_
  rintro e w1 ⟨⟨x, y, rfl, hx, hy⟩, hb⟩
  have HX := Lib.hid hx
  have HY := Lib.hid hy
  have HB := Lib.hid hb
  clear hx hy hb
  go_wp2_with fail
  go_ret
  exact ⟨⟨x, y, rfl, HX.out, HY.out⟩, HB.out⟩

end Go.Proofs.Ytpjmmjkgcoongaa
