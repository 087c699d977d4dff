/-
  The walks of 'slices.Collect' over a record's iterator, and of 'Put' of package record. Conditions: those that each theorem names.
-/
import Derived.Test.YtcgfakpolfopnaaRecRight
import Derived.Test.YtcgfakpolfopnaaRecOf
namespace Go.Proofs.Ytcgfakpolfopnaa
open Go.RowKit Go.Shelf
attribute [local go_sem] Oper.semAt_some

/-- What has been collected: s: the box of the slice. -/
structure CollAt (w : World) (pre : List Int) (W : World) : Prop where
  box : ∃ v, Boxed W w.heap.size 22 v ∧ W.ownsRow (w.heap.size + 1) 3 1 v pre.length (iv pre)
  below : Below w.heap.size w W
  size : w.heap.size + 1 ≤ W.heap.size
theorem collAt_own (w : World) (B : Nat) (hB : w.heap.size ≤ B) : OwnFrom B (CollAt w) := by
  intro pre W W' row h hg hr
  have hr' : ∀ r, row = some r → ∃ o : Obj, W.heap[r]? = some o ∧ o.isCells = false := fun r e => (hr r e).2
  obtain ⟨v, h1, h2⟩ := h.box
  exact ⟨⟨v, boxed_turn h1 hg hr', own_turn h2 hg hr'⟩, h.below.grown hg (by have := h.below.size; omega) (fun k e => by have := (hr k e).1; omega), Nat.le_trans h.size hg.size⟩
theorem iv_snoc (l : List Int) (x : Int) : iv (l ++ [x]) = iv l ++ [.int .i64 x] := by simp [iv]

/-- A round that has added a number. -/
theorem collAt_step {w : World} {Bn : Nat} (hBn : Bn < w.heap.size) {pre : List Int} {W w3 : World} (h : CollAt w pre W) {x : Int} {v v' : Value} (hv : Boxed W w.heap.size 22 v) (hown : W.ownsRow (w.heap.size + 1) 3 1 v pre.length (iv pre))
    {o : Obj} (hg : (W.alloc o).grownBy w3 v.ownBlock) (hown' : w3.ownsRow (w.heap.size + 1) 3 1 v' (pre.length + 1) (iv pre ++ [.int .i64 x])) :
    KeepsOthers W (w3.setCell ⟨w.heap.size, 0, none⟩ v') ∧ KpB w.heap.size Bn W (w3.setCell ⟨w.heap.size, 0, none⟩ v') ∧ CollAt w (pre ++ [x]) (w3.setCell ⟨w.heap.size, 0, none⟩ v') := by
  have hs := h.size
  have far : ∀ b, b < w.heap.size + 1 → some b ≠ v.ownBlock := fun b hb e => by have := (hown.lt b e.symm).1; omega
  have far' : v'.ownBlock ≠ some w.heap.size := fun e => by have := (hown'.lt _ e).1; omega
  have b1 : Boxed w3 w.heap.size 22 v := (hv.alloc o).kept hg (far _ (by omega))
  have hb3 : Below w.heap.size W w3 := ((Below.refl _ W).alloc (by omega) o).trans (below_row (hown.alloc o) hg (by simp; omega) |>.mono (by omega))
  have hb4 : Below w.heap.size W (w3.setCell ⟨w.heap.size, 0, none⟩ v') := hb3.setCell (p := ⟨w.heap.size, 0, none⟩) (Nat.le_refl _) v'
  refine ⟨((KeepsOthers.alloc W o).trans (keeps_row (hown.alloc o) hg)).trans (KeepsOthers.setCell _ _ _), ⟨hb4, hb4.block Bn hBn⟩, ⟨v', b1.set v', ?_⟩, h.below.trans hb4, ?_⟩
  · rw [List.length_append, iv_snoc]
    exact ownsRow_setCell_other (a := ⟨w.heap.size, 0, none⟩) hown' far' v'
  · have := hb4.size; omega

/-- What is collected: a slice of the call's own. -/
def CollIs (xs : List Int) (w : World) (e : Ending) (w' : World) : Prop :=
  ∃ A c, e = .returned (.slice A xs.length c) ∧ w'.ownsRow w.heap.size 3 1 (.slice A xs.length c) xs.length (iv xs) ∧ Below w.heap.size w w'

set_option maxRecDepth 100000 in
set_option maxHeartbeats 400000 in
theorem appendSeq_any (Bn : Nat) (k : Nat) (hk : k < 256) (A : Option Addr) (n c : Nat) (zs : List Int) (B : Nat) (w : World) (hn : n ≤ 1000) (hr : Rd w B A n (iv zs)) (hB : B ≤ w.heap.size) (hBox : Whole w Bn 24 #[.int .u8 (k : Int), .slice A n c]) :
    Calls Try.prog 38 #[.slice none 0 0, .func (.func 39) #[] #[.pointer (some ⟨Bn, 0, none⟩)]] w (CollIs ((k : Int) :: zs) w) := by
  obtain ⟨i0, hi, hz0, hz1, hz2⟩ := info_parts info_int
  have hlen : ((k : Int) :: zs).length ≤ 1001 := by have := hr.1; rw [iv_length] at this; simp; omega
  have Hlen := Lib.hid hlen
  have Hr := Lib.hid hr
  have hBn := hBox.lt
  have HBox := Lib.hid hBox
  clear hr hBox hlen
  refine (callsIn_wide (n := 5)).1 ?_
  refine callsIn_of_wp_marks Try.func38 rfl trivial ?_ rfl
  simp only [Try.ntmps38, List.size_toArray, List.length_cons, List.length_nil, Nat.reduceAdd, Nat.reduceSub, Array.replicate_succ, Array.replicate_zero, List.push_toArray, List.append_toArray, List.nil_append, List.cons_append]
  gi_wp2_with fail
  obtain ⟨W0, hW0⟩ : ∃ W0, w.alloc (.cells #[.slice none 0 0] 22) = W0 := ⟨_, rfl⟩
  have hs0 : W0.heap.size = w.heap.size + 1 := by rw [← hW0]; simp
  have hb0 : Below w.heap.size w W0 := by rw [← hW0]; exact (Below.refl _ w).alloc (Nat.le_refl _) _
  have bRec := HBox.out.below hb0 hBn
  have hInv : CollAt w [] W0 := by
    refine ⟨⟨.slice none 0 0, by rw [← hW0]; exact Boxed.new w 22 _, World.ownsRow_nil _ _ _ _⟩, hb0, by omega⟩
  rw [hW0]
  clear hW0
  refine wpIn_rangeFunc_ownF rfl (by omega) (gf := 39) (lb := #[.pointer (some ⟨Bn, 0, none⟩)]) rfl trivial (enters_of Try.func39 (by kernel_rfl) rfl)
    (rowOf_stops 4 Bn w.heap.size k hk A n c zs (by unfold maxLen; omega) W0 (by omega) (by omega) (by simpa using bRec.cell 0) (by simpa using bRec.cell 1) ((Hr.out.more hB).below hb0)) (fun h k => kpB_t h k) (kpB_b (by omega) (by omega)) (Below.refl _ _) (fun _ => rfl)
    (CollAt w) (fun _ _ _ => False)
    (collAt_own _ _ (by omega)) (fun _ _ _ _ _ h _ _ => h) hInv
    (fun x => { tmps := #[.slice none 0 0, .func (.func 39) #[] #[.pointer (some ⟨Bn, 0, none⟩)], .pointer (some ⟨w.heap.size, 0, none⟩), undef, .slice none 0 0, .int .i64 x, .func (.func 39) #[] #[.pointer (some ⟨Bn, 0, none⟩)], .int .i64 x, undef, undef, undef, undef, undef], defers := [] }) ?assign ?body ?done ?stop
  case assign =>
    intro l x W K hK
    gi_wp2
    exact hK
  case body =>
    rintro l pre x W hI hlen
    obtain ⟨v, hv, hown⟩ := hI.box
    obtain ⟨Av, cv, rfl⟩ := own_form hown
    have c2 := hv.cell
    have hsz := hI.size
    have hp : pre.length ≤ 1001 := by have := Hlen.out; omega
    have HI := Lib.hid hI
    have Hv := Lib.hid hv
    have Hown := Lib.hid hown
    clear hI hv hown hlen
    gi_wp2_with (gi_at_builtin; refine wpListIn_append_own _ rfl _ _ 22 rfl (w.heap.size + 1) 3 i0 (.int .i64 0) 1 8 Try.underlying22 hi hz0 hz1 hz2 rfl (by decide) _ _ _ rfl (Hown.out.alloc _) ⟨W.heap.size, 0, none⟩ 1 1 [.int .i64 x] rfl rfl (cell_one_new _ _ _) (by simp [Value.oneCell']) (by unfold maxLen; omega) (by omega) (by simp; omega) ?_; intro v' w3 hown' hgrow _; obtain ⟨g', cap', rfl⟩ := ownsRow_succ hown'; have Hown' := Lib.hid hown'; have Hgrow := Lib.hid hgrow; clear hown' hgrow; have e2 := (Hv.out.alloc _).kept Hgrow.out (fun e => by have := (Hown.out.lt _ e.symm).1; omega); have ec2 := e2.cell; have ef2 := e2.frozen; clear e2)
    exact collAt_step hBn HI.out Hv.out Hown.out Hgrow.out Hown'.out
  case done =>
    rintro D ys W hD rfl hI hK
    obtain ⟨v, hv, hown⟩ := hI.box
    obtain ⟨Av, cv, rfl⟩ := own_form hown
    have c2 := hv.cell
    have HK := Lib.hid hK
    have HI := Lib.hid hI
    have Hown := Lib.hid hown
    clear hK hI hown
    gi_wp2_with fail
    refine ⟨by simp, .inl ⟨_, _, rfl, run_takeDeferred HK.out, ?_⟩⟩
    have hg' := grownBy_putObj' W D (.deferred none)
    have hsz := HI.out.below.size
    refine ⟨.slice Av ((k : Int) :: zs).length cv, by simp [results, Try.results38], Av, cv, rfl, ?_, ?_⟩
    · exact own_weaker (ownsRow_putObj Hown.out _ HK.out rfl) (Nat.le_succ _)
    · exact HI.out.below.trans ((Below.refl _ _).grown hg' hsz (fun k e => by cases e; omega))
  case stop =>
    rintro D k pre W hD hpre h hK
    exact h.elim

set_option maxHeartbeats 400000 in
theorem collect_any (Bn : Nat) (k : Nat) (hk : k < 256) (A : Option Addr) (n c : Nat) (zs : List Int) (B : Nat) (w : World) (hn : n ≤ 1000) (hr : Rd w B A n (iv zs)) (hB : B ≤ w.heap.size) (hBox : Whole w Bn 24 #[.int .u8 (k : Int), .slice A n c]) :
    Calls Try.prog 26 #[.func (.func 39) #[] #[.pointer (some ⟨Bn, 0, none⟩)]] w (CollIs ((k : Int) :: zs) w) := by
  have HA := Lib.hid (appendSeq_any Bn k hk A n c zs B w hn hr hB hBox)
  clear hr hBox hk hn hB
  go_enter Try.func26, Try.ntmps26
  go_wp2_with fail
  refine (HA.out).mono ?_
  rintro e w1 ⟨A1, c1, rfl, o1, b1⟩
  go_wp2_with fail
  go_ret
  exact ⟨A1, c1, rfl, o1, b1⟩

/-- A record's bytes. -/
def recB (k : Nat) (zs : List Int) : List Nat := row (nats ((k : Int) :: zs))
theorem mayB_row {k : Nat} {zs : List Int} (h : mayB k zs = true) : isRow ((k : Int) :: zs) = true := by
  obtain ⟨_, h2, h3⟩ := mayB_yes h
  have h4 := (hi_le k).1
  have h5 := (mayB_kind h).2
  have h6 : isNum (k : Int) = true := isNum_yes (by omega) (by omega)
  simp only [isRow, List.length_cons, List.all_cons, h3, h6, Bool.and_true, decide_eq_true_eq]
  omega

set_option maxHeartbeats 400000 in
theorem putRec_no (k : Nat) (hk : k < 256) (A : Option Addr) (n c : Nat) (zs : List Int) (B : Nat) (w : World) (hr : Rd w B A n (iv zs)) (hB : B ≤ w.heap.size) (h : mayB k zs = false) :
    Calls Try.prog 11 #[.agg #[.int .u8 (k : Int), .slice A n c]] w fun e w' => e = .returned (.tuple #[.slice none 0 0, .int .i64 2]) ∧ Below w.heap.size w w' := by
  have hb : Below w.heap.size w (w.alloc (.cells #[.int .u8 (k : Int), .slice A n c] 24)) := (Below.refl _ w).alloc (Nat.le_refl _) _
  have HR := Lib.hid (right_rec k hk A n c zs w.heap.size (w.alloc (.cells #[.int .u8 (k : Int), .slice A n c] 24)) ((hr.more hB).below hb) hb.size)
  rw [h] at HR
  have HB := Lib.hid hb
  clear hr h hk hb hB
  go_enter Try.func11, Try.ntmps11
  go_wp2_with fail
  refine (HR.out).mono ?_
  rintro e w1 ⟨rfl, b1⟩
  go_wp2_with fail
  go_ret2
  exact ⟨rfl, HB.out.trans (b1.mono HB.out.size)⟩

set_option maxHeartbeats 400000 in
theorem putRec_yes (k : Nat) (A : Option Addr) (n c : Nat) (zs : List Int) (B : Nat) (w : World) (hr : Rd w B A n (iv zs)) (hB : B ≤ w.heap.size) (h : mayB k zs = true) :
    Calls Try.prog 11 #[.agg #[.int .u8 (k : Int), .slice A n c]] w (TwoPost w.heap.size (recB k zs).length (bv (recB k zs)) w) := by
  have hk : k < 256 := by have := mayB_kind h; omega
  have hl : zs.length = n := by have := hr.1; rwa [iv_length] at this
  have hn : n ≤ 18 := by have h1 := (mayB_yes h).2.1; have h2 := (hi_le k).1; omega
  have hrow := mayB_row h
  have hbox := Whole.new w 24 #[.int .u8 (k : Int), .slice A n c]
  have hb : Below w.heap.size w (w.alloc (.cells #[.int .u8 (k : Int), .slice A n c] 24)) := (Below.refl _ w).alloc (Nat.le_refl _) _
  have HR := Lib.hid (right_rec k hk A n c zs w.heap.size (w.alloc (.cells #[.int .u8 (k : Int), .slice A n c] 24)) ((hr.more hB).below hb) hb.size)
  rw [h] at HR
  have HB := Lib.hid hb
  have Hr := Lib.hid (hr.more hB)
  have HBox := Lib.hid hbox
  have Hrow := Lib.hid hrow
  clear hr h hb hB hrow hbox hl
  go_enter Try.func11, Try.ntmps11
  go_wp2_with fail
  refine (HR.out).mono ?_
  rintro e w1 ⟨rfl, b1⟩
  have hw1 := HBox.out.under b1
  have q0 := hw1.cell 0
  have q1 := hw1.cell 1
  have b1' : Below w.heap.size w w1 := HB.out.trans (b1.mono HB.out.size)
  have Hb1 := Lib.hid b1'
  clear b1 b1' hw1
  simp only [List.getElem?_toArray, List.getElem?_cons_zero, List.getElem?_cons_succ] at q0 q1
  go_wp2_with fail
  refine (rowOf_any _ _ _ _ _).mono ?_
  rintro e w2 ⟨rfl, rfl⟩
  go_wp2_with fail
  refine (collect_any w1.heap.size k hk A n c zs w.heap.size _ (by omega) ((Hr.out.below Hb1.out).alloc Hb1.out.size _) (by have := Hb1.out.size; simp; omega) (Whole.new w1 _ _)).mono ?_
  rintro e w3 ⟨A3, c3, rfl, o3, b3⟩
  have R3 := Rd.of_own o3
  have b3' : Below w.heap.size w w3 := (Hb1.out.alloc Hb1.out.size _).trans (b3.mono (by have := Hb1.out.size; simp; omega))
  have Hb3 := Lib.hid b3'
  clear o3 b3 b3'
  go_wp2_with fail
  refine (row_any A3 ((k : Int) :: zs).length c3 ((k : Int) :: zs) _ R3).mono ?_
  rintro e w4 (⟨_, A4, c4, rfl, I4⟩ | ⟨h0, _⟩)
  · have I4' := I4.after Hb3.out (below_keeps Hb3.out) Hb3.out.size
    clear I4
    go_wp2_with fail
    go_ret2
    exact ⟨A4, c4, rfl, I4'⟩
  · rw [Hrow.out] at h0; cases h0

end Go.Proofs.Ytcgfakpolfopnaa
