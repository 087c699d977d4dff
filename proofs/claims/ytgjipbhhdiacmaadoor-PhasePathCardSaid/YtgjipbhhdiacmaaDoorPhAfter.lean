/-
  The walks of 'after' of package phase and of the iterator that it hands back: the phases that may follow one, in order. Conditions: those that each theorem names.
-/
import Derived.Test.YtgjipbhhdiacmaaDoorPhMap
import Derived.Test.YtgjipbhhdiacmaaDoorRegTwo
import Derived.Test.YtgjipbhhdiacmaaDoorRangeMem
import Derived.Test.YtgjipbhhdiacmaaDoorBoxW
import Derived.Test.YtgjipbhhdiacmaaDoorWalkAt
namespace Go.Proofs.YtgjipbhhdiacmaaDoor
open Go.RowKit Go.Shelf
attribute [local go_sem] Oper.semAt_some

set_option maxHeartbeats 400000 in
theorem after_any (k : Int) (w : World) :
    Calls Tryd.prog 16 #[.int .u8 k] w fun e w' => e = .returned (.func (.func 18) #[] #[.pointer (some ⟨w.heap.size, 0, none⟩)]) ∧ w' = w.alloc (.cells #[.int .u8 k] 5) := by
  go_enter Tryd.func16, Tryd.ntmps16
  go_wp2
  go_ret
  exact ⟨rfl, rfl⟩

/-- What a round that goes on keeps: each row of phases. -/
def KpR2 (W W' : World) : Prop := ∀ (g : Nat) (cs : Array Value) (fz : Nat × Nat), W.heap[g]? = some (Obj.cells cs 47 fz) → W'.heap[g]? = W.heap[g]?
theorem kpR2_refl {W : World} : KpR2 W W := fun _ _ _ _ => rfl
theorem kpR2_t {A B C : World} (h : KpR2 A B) (k : KpR2 B C) : KpR2 A C := fun g cs fz hg => (k g cs fz ((h g cs fz hg).trans hg)).trans (h g cs fz hg)
theorem kpR2_b (W : World) (l : Nat) (o o' : Obj) (h : W.heap[l]? = some o) (h1 : o.isCells = false) : KpR2 W (W.putObj l o') :=
  fun g cs fz hg => World.putObj_heap_other (by rintro rfl; rw [hg] at h; cases h; cases h1)
theorem kpR2_below {W W' : World} (hb : Below W.heap.size W W') : KpR2 W W' := fun g _ _ hg => hb.block g (Array.getElem?_eq_some_iff.1 hg).1

/-- How far it has come. -/
def AftPre (f : Nat) (pre : List Nat) : Prop := pre = [] ∨ (pre = [nxA f] ∧ ¬ nxA f = 0) ∨ (pre = [nxA f, nxB f] ∧ ¬ nxA f = 0 ∧ ¬ nxB f = 0)
/-- Where the iterator stands. -/
def AftAt (l X f : Nat) (J : List Nat → World → Prop) (a' : Act) (w' : World) : Prop :=
  ∃ (Y : Nat) (pre : List Nat) (u5 u6 u7 u8 u9 u10 u11 u12 u13 u14 u15 u16 u17 u18 u19 u20 u21 u22 u23 u24 : Value), a' = { tmps := #[.func (.yield l) #[] #[], .pointer (some ⟨X, 0, none⟩), undef, .pointer (some ⟨Y, 0, none⟩), .int .i64 (pre.length : Int), u5, u6, u7, u8, u9, u10, u11, u12, u13, u14, u15, u16, u17, u18, u19, u20, u21, u22, u23, u24], defers := [] } ∧ AftPre f pre ∧ Whole w' Y 47 #[.int .u8 (nxA f : Int), .int .u8 (nxB f : Int)] ∧ J pre w'

theorem nxs_nil {f : Nat} (h : nxA f = 0) : ([] : List Nat) = nxs f := by simp [nxs, h]
theorem nxs_one {f : Nat} (h : ¬ nxA f = 0) (h2 : nxB f = 0) : [nxA f] = nxs f := by simp [nxs, h, h2]
theorem nxs_two {f : Nat} (h : ¬ nxA f = 0) (h2 : ¬ nxB f = 0) : [nxA f, nxB f] = nxs f := by simp [nxs, h, h2]
theorem nxs_pre {f : Nat} (h : ¬ nxA f = 0) : [nxA f] <+: nxs f := by
  unfold nxs
  rw [if_neg h]
  split
  · exact ⟨[], rfl⟩
  · exact ⟨[nxB f], rfl⟩
theorem grown_under {w w' : World} (h : Below w.heap.size w w') : w.grownBy w' none := ⟨h.os, h.tape, h.output, h.size, fun i hi _ => h.block i hi⟩
theorem aft_end {l X f Y : Nat} {J : List Nat → World → Prop} {W0 V : World} (hJ : AbidesFrom W0.heap.size J) (h0 : J [] W0) (hw : Whole V Y 47 #[.int .u8 0, .int .u8 0]) (hb : Below W0.heap.size W0 V) (hY : W0.heap.size ≤ Y) (u5 u6 u7 u8 u9 u10 u11 u12 u13 u14 u15 u16 u17 u18 u19 u20 u21 u22 u23 u24 : Value) :
    AftAt l X f J { tmps := #[.func (.yield l) #[] #[], .pointer (some ⟨X, 0, none⟩), undef, .pointer (some ⟨Y, 0, none⟩), .int .i64 0, u5, u6, u7, u8, u9, u10, u11, u12, u13, u14, u15, u16, u17, u18, u19, u20, u21, u22, u23, u24], defers := [] } ((V.setCell ⟨Y, 0, none⟩ (.int .u8 (nxA f : Int))).setCell ⟨Y, 1, none⟩ (.int .u8 (nxB f : Int))) := by
  obtain ⟨h1, h2⟩ := put2 hw (.int .u8 (nxA f : Int)) (.int .u8 (nxB f : Int))
  exact ⟨Y, [], u5, u6, u7, u8, u9, u10, u11, u12, u13, u14, u15, u16, u17, u18, u19, u20, u21, u22, u23, u24, rfl, .inl rfl, h1, hJ _ _ _ none h0 (grown_under (h2.bel hb hY)) (fun r e => by cases e)⟩

set_option maxRecDepth 100000 in
set_option maxHeartbeats 4000000 in
theorem after1_in (m l X f : Nat) (hf : f < 256) (J Jx : List Nat → World → Prop) (W0 : World) (hJ : AbidesFrom W0.heap.size J)
    (hY : ∀ (pre : List Nat) (x : Nat) W, J pre W → pre ++ [x] <+: nxs f → YieldAt Fence.wide (m - 1) Tryd.prog l #[.int .u8 (x : Int)] W fun e W' =>
      (e = .returned (.bool true) ∧ J (pre ++ [x]) W' ∧ KpR2 W W') ∨ (e = .returned (.bool false) ∧ Jx (pre ++ [x]) W'))
    (hX : W0.cell? ⟨X, 0, none⟩ = some (.int .u8 (f : Int))) (hXl : X < W0.heap.size) (h0 : J [] W0) :
    CallsIn Fence.wide m Tryd.prog 18 #[.func (.yield l) #[] #[], .pointer (some ⟨X, 0, none⟩)] W0 fun e W' => (∃ v, e = .returned v) ∧
      ((∃ ys : List Nat, ys = nxs f ∧ J ys W') ∨ ∃ pre, pre <+: nxs f ∧ Jx pre W') := by
  have HY := Lib.hid hY
  have HJ := Lib.hid hJ
  have H0 := Lib.hid h0
  have HXl := Lib.hid hXl
  have HX := Lib.hid hX
  clear hY hJ h0 hX hXl
  refine callsIn_of_wp Tryd.func18 rfl trivial ?_ rfl
  simp only [Tryd.ntmps18, List.size_toArray, List.length_cons, List.length_nil, Nat.reduceAdd, Nat.reduceSub, Array.replicate_succ, Array.replicate_zero, List.push_toArray, List.append_toArray, List.nil_append, List.cons_append]
  refine wpIn_wide.2 (wp_scope_back_behind 0 (AftAt l X f J) (fun a' _ => 3 - (intOf (a'.tmps.getD 4 undef)).toNat) rfl ?ahead (fun a' w' hJ' => wpIn_wide (n := m).1 ?pass))
  case ahead =>
    clear HY
    have HL := Lib.hid (show ∀ V, Below W0.heap.size W0 V → V.cell? ⟨X, 0, none⟩ = some (.int .u8 (f : Int)) from fun V hV => (hV.cell (p := ⟨X, 0, none⟩) HXl.out).trans HX.out)
    refine wp_region_T (ls := []) (T := (fun V => Below W0.heap.size W0 V)) (by kernel_rfl) ?_
    obtain ⟨U, hU⟩ : ∃ U, W0.drew = U := ⟨_, rfl⟩
    have HT0 : Hid ((fun V => Below W0.heap.size W0 V) U) := Lib.hid (by rw [← hU]; exact below_drewB (Below.refl _ W0) 1)
    rw [hU]
    clear hU
    refine takeT (i := 1) (v := ?_) rfl (by kernel_rfl) (by kernel_rfl) (by kernel_rfl) (by kernel_rfl) (fun _ _ _ h => nomatch h.1) (by rfl) ?_ HT0.out ?_
    rotate_left
    · intro V' hV; have y0 := HL.out V' hV; go_simp <;> with_reducible rfl
    simp only [Act.put, List.setIfInBounds_toArray, List.set_cons_zero, List.set_cons_succ]
    refine twoT (i := 0) (j := 3) rfl rfl (by kernel_rfl) (by rfl) (by rfl) (fun K hK => ?_) (fun K hK => ?_)
    · go_simp
      refine (follows_any _).mono ?_
      rintro e V1 ⟨rfl, hm, hb⟩
      have HM := Lib.hid hm
      have HB_ := Lib.hid (HT0.out.trans (hb.mono HT0.out.size))
      clear hb hm
      have HB := HB_
      clear HB_
      refine hK.out _ _ (fun _ => HB.out) ?_
      clear hK K
      refine twoT (i := 2) (j := 3) rfl rfl (by kernel_rfl) (by rfl) (by rfl) (fun K hK => ?_) (fun K hK => ?_)
      · have hl := HM.out.look hf
        go_simp
        refine hK.out _ _ (fun _ => HB.out) ?_
        clear hK K
        refine oneT (i := 3) rfl (by kernel_rfl) (by rfl) (fun K hK => ?_)
        obtain ⟨V2, hV2⟩ : ∃ V, V1.alloc (.cells #[.int .u8 0, .int .u8 0] 47) = V := ⟨_, rfl⟩
        have hw2 : Whole V2 V1.heap.size 47 #[.int .u8 0, .int .u8 0] := by rw [← hV2]; exact Whole.new _ _ _
        have hb2 : Below W0.heap.size W0 V2 := by rw [← hV2]; exact HB.out.alloc HB.out.size _
        go_simp
        clear hV2
        have HG := Lib.hid (show W0.heap.size ≤ V1.heap.size from HB.out.size)
        clear HB
        have HB := Lib.hid hb2
        have HW2 := Lib.hid hw2
        clear hb2 hw2
        refine hK.out _ _ (fun _ => HB.out) ?_
        clear hK K
        unfold phV
        refine oneT (i := 4) rfl (by kernel_rfl) (by rfl) (fun K hK => ?_)
        obtain ⟨c0, c1⟩ := cells2 HW2.out
        have z0 := HW2.out.frozen 0
        have z1 := HW2.out.frozen 1
        go_simp
        clear c0 c1 z0 z1
        refine hK.out _ _ (fun _ => (put2 HW2.out _ _).2.bel HB.out HG.out) ?_
        clear hK K
        refine oneT (i := 5) rfl (by kernel_rfl) (by rfl) (fun K hK => ?_)
        go_simp
        refine hK.out _ _ (fun _ => (put2 HW2.out _ _).2.bel HB.out HG.out) ?_
        clear hK K
        refine doneT (by kernel_rfl) ?_ _
        exact ⟨rfl, aft_end HJ.out H0.out HW2.out HB.out HG.out _ _ _ _ _ _ _ _ _ _ _ _ _ _ _ _ _ _ _ _⟩
      · obtain ⟨V2, hV2⟩ : ∃ V, V1.alloc (.cells #[.int .u8 0, .int .u8 0] 47) = V := ⟨_, rfl⟩
        have hw2 : Whole V2 V1.heap.size 47 #[.int .u8 0, .int .u8 0] := by rw [← hV2]; exact Whole.new _ _ _
        have hb2 : Below W0.heap.size W0 V2 := by rw [← hV2]; exact HB.out.alloc HB.out.size _
        have HA := Lib.hid (show Below V1.heap.size V1 V2 by rw [← hV2]; exact (Below.refl _ _).alloc (Nat.le_refl _) _)
        go_simp
        clear hV2
        have HG := Lib.hid (show W0.heap.size ≤ V1.heap.size from HB.out.size)
        clear HB
        have HB := Lib.hid hb2
        have HW2 := Lib.hid hw2
        clear hb2 hw2
        refine hK.out _ _ (fun _ => HB.out) ?_
        clear hK K
        have HM_ := Lib.hid (HM.out.under HA.out)
        clear HM
        have HM := HM_
        refine oneT (i := 2) rfl (by kernel_rfl) (by rfl) (fun K hK => ?_)
        have hl := HM.out.look hf
        go_simp
        refine hK.out _ _ (fun _ => HB.out) ?_
        clear hK K
        unfold phV
        refine oneT (i := 4) rfl (by kernel_rfl) (by rfl) (fun K hK => ?_)
        obtain ⟨c0, c1⟩ := cells2 HW2.out
        have z0 := HW2.out.frozen 0
        have z1 := HW2.out.frozen 1
        go_simp
        clear c0 c1 z0 z1
        refine hK.out _ _ (fun _ => (put2 HW2.out _ _).2.bel HB.out HG.out) ?_
        clear hK K
        refine oneT (i := 5) rfl (by kernel_rfl) (by rfl) (fun K hK => ?_)
        go_simp
        refine hK.out _ _ (fun _ => (put2 HW2.out _ _).2.bel HB.out HG.out) ?_
        clear hK K
        refine doneT (by kernel_rfl) ?_ _
        exact ⟨rfl, aft_end HJ.out H0.out HW2.out HB.out HG.out _ _ _ _ _ _ _ _ _ _ _ _ _ _ _ _ _ _ _ _⟩
    · obtain ⟨V2, hV2⟩ : ∃ V, U.alloc (.cells #[.int .u8 0, .int .u8 0] 47) = V := ⟨_, rfl⟩
      have hw2 : Whole V2 U.heap.size 47 #[.int .u8 0, .int .u8 0] := by rw [← hV2]; exact Whole.new _ _ _
      have hb2 : Below W0.heap.size W0 V2 := by rw [← hV2]; exact HT0.out.alloc HT0.out.size _
      go_simp
      clear hV2
      have HG := Lib.hid (show W0.heap.size ≤ U.heap.size from HT0.out.size)
      have HB := Lib.hid hb2
      have HW2 := Lib.hid hw2
      clear hb2 hw2
      refine hK.out _ _ (fun _ => HB.out) ?_
      clear hK K
      refine oneT (i := 0) rfl (by kernel_rfl) (by rfl) (fun K hK => ?_)
      go_simp
      refine (follows_any _).mono ?_
      rintro e V1 ⟨rfl, hm, hb⟩
      have HM := Lib.hid hm
      have HB_ := Lib.hid (HB.out.trans (hb.mono HB.out.size))
      have HW_ := Lib.hid (HW2.out.under hb)
      clear HW2
      have HW2 := HW_
      clear HW_
      clear hb hm
      clear HB
      have HB := HB_
      clear HB_
      refine hK.out _ _ (fun _ => HB.out) ?_
      clear hK K
      refine oneT (i := 2) rfl (by kernel_rfl) (by rfl) (fun K hK => ?_)
      have hl := HM.out.look hf
      go_simp
      refine hK.out _ _ (fun _ => HB.out) ?_
      clear hK K
      unfold phV
      refine oneT (i := 4) rfl (by kernel_rfl) (by rfl) (fun K hK => ?_)
      obtain ⟨c0, c1⟩ := cells2 HW2.out
      have z0 := HW2.out.frozen 0
      have z1 := HW2.out.frozen 1
      go_simp
      clear c0 c1 z0 z1
      refine hK.out _ _ (fun _ => (put2 HW2.out _ _).2.bel HB.out HG.out) ?_
      clear hK K
      refine oneT (i := 5) rfl (by kernel_rfl) (by rfl) (fun K hK => ?_)
      go_simp
      refine hK.out _ _ (fun _ => (put2 HW2.out _ _).2.bel HB.out HG.out) ?_
      clear hK K
      refine doneT (by kernel_rfl) ?_ _
      exact ⟨rfl, aft_end HJ.out H0.out HW2.out HB.out HG.out _ _ _ _ _ _ _ _ _ _ _ _ _ _ _ _ _ _ _ _⟩
  case pass =>
    obtain ⟨Y, pre, u5, u6, u7, u8, u9, u10, u11, u12, u13, u14, u15, u16, u17, u18, u19, u20, u21, u22, u23, u24, rfl, hp, hw, hJp⟩ := hJ'
    have HW := Lib.hid hw
    have HJ' := Lib.hid hJp
    obtain ⟨c0, c1⟩ := cells2 hw
    clear hw hJp HX HXl H0 HJ
    have HJ := HJ'
    clear HJ'
    rcases hp with rfl | ⟨rfl, h1⟩ | ⟨rfl, h1, h2⟩
    · have e0 : (([] : List Nat).length : Int) = 0 := rfl
      rw [e0]
      clear e0
      by_cases h1 : nxA f = 0
      · have c0_ := c0
        rw [h1] at c0_
        clear c0
        have c0 : w'.cell? ⟨Y, 0, none⟩ = some (.int .u8 0) := c0_
        clear c0_
        have HN := Lib.hid h1
        clear h1 HY c1
        gi_wp2_with fail
        refine ⟨fun _ h => (by cases h), ?_⟩
        gi_wp2_with fail
        simp only [Exit.jump]
        go_end0
        exact ⟨⟨_, rfl⟩, .inl (by rw [← nxs_nil HN.out]; exact HJ.out)⟩
      · obtain ⟨fn, tmps, assign, body, hy, hR⟩ := HY.out [] (nxA f) w' HJ.out (nxs_pre h1)
        have HR := Lib.hid hR
        clear hR
        gi_wp2_with fail
        refine ⟨fun h => (by cases h), HR.out.mono ?_⟩
        rintro e W3 (⟨rfl, hJ3, hk3⟩ | ⟨rfl, hJx3⟩)
        · have HJ3 := Lib.hid hJ3
          have HW3 := Lib.hid (show Whole W3 Y 47 #[.int .u8 (nxA f : Int), .int .u8 (nxB f : Int)] from (hk3 Y _ _ HW.out).trans HW.out)
          clear hJ3 hk3 c0 c1
          gi_wp2_with fail
          refine wpIn_goto ?_
          refine ⟨rfl, ⟨Y, [nxA f], _, _, _, _, _, _, _, _, _, _, _, _, _, _, _, _, _, _, _, _, rfl, .inr (.inl ⟨rfl, h1⟩), HW3.out, HJ3.out⟩, ?_⟩
          simp [intOf]
        · have HJx := Lib.hid hJx3
          clear hJx3 c0 c1
          gi_wp2_with fail
          simp only [Exit.jump]
          go_end0
          exact ⟨⟨_, rfl⟩, .inr ⟨_, nxs_pre h1, HJx.out⟩⟩
    · have e0 : ((([nxA f] : List Nat).length : Nat) : Int) = 1 := rfl
      rw [e0]
      clear e0
      by_cases h2 : nxB f = 0
      · have c1_ := c1
        rw [h2] at c1_
        clear c1
        have c1 : w'.cell? ⟨Y, 1, none⟩ = some (.int .u8 0) := c1_
        clear c1_
        have HN := Lib.hid h2
        clear h2 HY c0
        gi_wp2_with fail
        refine ⟨fun _ h => (by cases h), ?_⟩
        gi_wp2_with fail
        simp only [Exit.jump]
        go_end0
        exact ⟨⟨_, rfl⟩, .inl (by rw [← nxs_one h1 HN.out]; exact HJ.out)⟩
      · obtain ⟨fn, tmps, assign, body, hy, hR⟩ := HY.out [nxA f] (nxB f) w' HJ.out (⟨[], by rw [List.append_nil]; exact nxs_two h1 h2⟩)
        have HR := Lib.hid hR
        clear hR
        gi_wp2_with fail
        refine ⟨fun h => (by cases h), HR.out.mono ?_⟩
        rintro e W3 (⟨rfl, hJ3, hk3⟩ | ⟨rfl, hJx3⟩)
        · have HJ3 := Lib.hid hJ3
          have HW3 := Lib.hid (show Whole W3 Y 47 #[.int .u8 (nxA f : Int), .int .u8 (nxB f : Int)] from (hk3 Y _ _ HW.out).trans HW.out)
          clear hJ3 hk3 c0 c1
          gi_wp2_with fail
          refine wpIn_goto ?_
          refine ⟨rfl, ⟨Y, [nxA f, nxB f], _, _, _, _, _, _, _, _, _, _, _, _, _, _, _, _, _, _, _, _, rfl, .inr (.inr ⟨rfl, h1, h2⟩), HW3.out, HJ3.out⟩, ?_⟩
          simp [intOf]
        · have HJx := Lib.hid hJx3
          clear hJx3 c0 c1
          gi_wp2_with fail
          simp only [Exit.jump]
          go_end0
          exact ⟨⟨_, rfl⟩, .inr ⟨_, ⟨[], by rw [List.append_nil]; exact nxs_two h1 h2⟩, HJx.out⟩⟩
    · have e0 : ((([nxA f, nxB f] : List Nat).length : Nat) : Int) = 2 := rfl
      rw [e0]
      clear e0
      have HN := Lib.hid (nxs_two h1 h2)
      clear h1 h2 HY c0 c1
      gi_wp2_with fail
      refine ⟨fun _ h => (by cases h), ?_⟩
      gi_wp2_with fail
      simp only [Exit.jump]
      go_end0
      exact ⟨⟨_, rfl⟩, .inl (by rw [← HN.out]; exact HJ.out)⟩

/-- The iterator hands over the phases that may follow, in order. -/
theorem after_stops (m X f : Nat) (hf : f < 256) (w : World) (hX : w.cell? ⟨X, 0, none⟩ = some (.int .u8 (f : Int))) (hXl : X < w.heap.size) :
    SeqStopsK Fence.wide m Tryd.prog 18 #[.pointer (some ⟨X, 0, none⟩)] (fun x : Nat => #[Value.int .u8 (x : Int)]) KpR2 (fun ys => ys = nxs f) (fun pre => pre <+: nxs f) (nxs f).length w := fun l J Jx W hW hJ _ hY h0 =>
  after1_in m l X f hf J Jx W hJ (fun pre x V hV hp => hY pre x V hV (by have := hp.length_le; simp at this; omega)) ((hW.cell (p := ⟨X, 0, none⟩) hXl).trans hX) (Nat.lt_of_lt_of_le hXl hW.size) h0

end Go.Proofs.YtgjipbhhdiacmaaDoor
