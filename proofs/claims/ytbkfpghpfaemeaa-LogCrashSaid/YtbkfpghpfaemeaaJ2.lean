/-
  Texts that the walks of the statements over logs lean on, joined (RecRight, RecOf, RecPut, RecTake, RecName, RecSame, RecAll, RecWakes, RecRef, MemOpen, RecOpen, RecOnly, RecNames, NumPut, NumTake). Conditions: those that each theorem names.
-/
import Derived.Test.YtbkfpghpfaemeaaJ0
import Derived.Test.YtbkfpghpfaemeaaJ1
import Derived.Maps.OwnOps
import Derived.Maps.OwnSet
import Derived.Lib.SmallJoins
import Derived.Deep.Fields
import Derived.ChangeSame

/-
  The walk of 'Right' of package record. Conditions: those that each theorem names.
-/
namespace Go.Proofs.Ytbkfpghpfaemeaa
open Go.RowKit Go.Shelf
attribute [local go_sem] Oper.semAt_some

set_option maxRecDepth 100000 in
theorem mayB_short {k : Nat} {zs : List Int} (h : zs.length < lo k) : mayB k zs = false := by
  have h1 : ¬ lo k ≤ zs.length := by omega
  simp [mayB, h1]
set_option maxRecDepth 100000 in
theorem mayB_long {k : Nat} {zs : List Int} (h : hi k < zs.length) : mayB k zs = false := by
  have h1 : ¬ zs.length ≤ hi k := by omega
  simp [mayB, h1]

set_option maxRecDepth 100000 in
set_option maxHeartbeats 400000 in
theorem right_out (k : Nat) (A : Option Addr) (n c : Nat) (w : World) (h : n < lo k ∨ (lo k ≤ n ∧ hi k < n)) :
    Calls Try.prog 61 #[.agg #[.int .u8 (k : Int), .slice A n c]] w (BoolPost false w) := by
  obtain ⟨L, hL⟩ : ∃ L, lo k = L := ⟨_, rfl⟩
  obtain ⟨H, hH⟩ : ∃ H, hi k = H := ⟨_, rfl⟩
  have HM := Lib.hid (fun W => many_any k W)
  rw [hL, hH] at HM h
  clear hL hH
  rcases h with h | ⟨h1, h⟩
  all_goals
    go_enter Try.func61, Try.ntmps61
    go_wp2_with fail
    refine (HM.out _).mono ?_
    rintro e w1 ⟨rfl, rfl⟩
    go_wp2_with fail
    refine bodyPost_ret (v := .bool false) (by simp [results, Try.results61, go_sem]) rfl ⟨rfl, ?_⟩
    exact (((Below.refl _ w).alloc (Nat.le_refl _) _).alloc (by simp) _)

/-- What holds between two rounds, and where one has left: s + 1: the result's cell. -/
structure RightAt (v : Bool) (w : World) (pre : List Int) (W : World) : Prop where
  num : pre.all isNum = v
  res : Boxed W (w.heap.size + 1) 4 (.bool false)
  below : Below w.heap.size w W
set_option maxRecDepth 100000 in
theorem rightAt_own (v : Bool) (w : World) (B : Nat) (hB : w.heap.size ≤ B) : OwnFrom B (RightAt v w) := by
  intro pre W W' row h hg hr
  have hr' : ∀ r, row = some r → ∃ o : Obj, W.heap[r]? = some o ∧ o.isCells = false := fun r e => (hr r e).2
  exact ⟨h.num, boxed_turn h.res hg hr', h.below.grown hg (by have := h.below.size; omega) (fun k e => by have := (hr k e).1; omega)⟩
set_option maxRecDepth 100000 in
set_option maxHeartbeats 400000 in
theorem right_in (k : Nat) (hk : k < 256) (A : Option Addr) (n c : Nat) (zs : List Int) (w : World) (hr : Rd w w.heap.size A n (iv zs)) (h1 : lo k ≤ n) (h2 : n ≤ hi k) :
    Calls Try.prog 61 #[.agg #[.int .u8 (k : Int), .slice A n c]] w (BoolPost (zs.all isNum) w) := by
  obtain ⟨L, hL⟩ : ∃ L, lo k = L := ⟨_, rfl⟩
  obtain ⟨H, hH⟩ : ∃ H, hi k = H := ⟨_, rfl⟩
  have HM := Lib.hid (fun W => many_any k W)
  have hn : n ≤ 18 := by have := hi_le k; omega
  rw [hL, hH] at HM
  rw [hL] at h1
  rw [hH] at h2
  clear hL hH
  have Hr := Lib.hid hr
  clear hr
  have d1 : decide (n < L) = false := by simp; omega
  have d2 : decide (H < n) = false := by simp; omega
  clear h1 h2
  refine (callsIn_wide (n := 5)).1 ?_
  refine callsIn_of_wp_marks Try.func61 rfl trivial ?_ rfl
  simp only [Try.ntmps61, List.size_toArray, List.length_cons, List.length_nil, Nat.reduceAdd, Nat.reduceSub, Array.replicate_succ, Array.replicate_zero, List.push_toArray, List.append_toArray, List.nil_append, List.cons_append]
  gi_wp2_with (first | (refine ⟨trivial, ?_⟩; gi_at_call 77; refine (callsIn_wide.2 (HM.out _)).mono ?_; rintro e w1 ⟨rfl, rfl⟩) | (refine ⟨trivial, ?_⟩; gi_at_call 78; refine (callsIn_wide.2 (rowOf_any _ _ _ _ _)).mono ?_; rintro e w2 ⟨rfl, rfl⟩))
  obtain ⟨W0, hW0⟩ : ∃ W0, ((w.alloc (.cells #[.int .u8 (k : Int), .slice A n c] 43)).alloc (.cells #[.bool false] 4)).alloc (.cells #[.int .u8 (k : Int), .slice A n c] 43) = W0 := ⟨_, rfl⟩
  have hs0 : W0.heap.size = w.heap.size + 1 + 1 + 1 := by rw [← hW0]; simp
  have bRec : Whole W0 (w.heap.size + 1 + 1) 43 #[.int .u8 (k : Int), .slice A n c] := by
    rw [← hW0]; have := Whole.new ((w.alloc (.cells #[.int .u8 (k : Int), .slice A n c] 43)).alloc (.cells #[.bool false] 4)) 43 #[.int .u8 (k : Int), .slice A n c]; simpa using this
  have hInv : RightAt true w [] W0 := by
    refine ⟨rfl, ?_, ?_⟩
    · rw [← hW0]; have := (Boxed.new (w.alloc (.cells #[.int .u8 (k : Int), .slice A n c] 43)) 4 (.bool false)).alloc (.cells #[.int .u8 (k : Int), .slice A n c] 43); simpa using this
    · rw [← hW0]; exact (((Below.refl _ w).alloc (Nat.le_refl _) _).alloc (by simp) _).alloc (by simp; omega) _
  rw [hW0]
  clear hW0
  refine wpIn_rangeFunc_ownF rfl (by omega) (gf := 90) (lb := #[.pointer (some ⟨w.heap.size + 1 + 1, 0, none⟩)]) rfl trivial (enters_of Try.func90 (by kernel_rfl) rfl)
    (rowOf_stops 4 (w.heap.size + 1 + 1) w.heap.size k hk A n c zs (by unfold maxLen; omega) W0 (by omega) (by omega) (by simpa using bRec.cell 0) (by simpa using bRec.cell 1) (Hr.out.below hInv.below)) (fun h k => kpB_t h k) (kpB_b (by omega) (by omega)) (Below.refl _ _) (fun _ => rfl)
    (RightAt true w) (fun k pre W => k = .ret ∧ RightAt false w pre W)
    (rightAt_own _ _ _ (by omega)) (fun k pre W W' row h hg hr => ⟨h.1, rightAt_own false w W0.heap.size (by omega) pre W W' row h.2 hg hr⟩) hInv
    (fun x => { tmps := #[.agg #[.int .u8 (k : Int), .slice A n c], .pointer (some ⟨w.heap.size, 0, none⟩), .pointer (some ⟨w.heap.size + 1, 0, none⟩), .int .i64 (L : Int), .int .i64 (H : Int), .int .i64 x, .tuple #[.int .i64 (L : Int), .int .i64 (H : Int)], .pointer (some ⟨w.heap.size, 0, none⟩), .int .u8 (k : Int), .tuple #[.int .i64 (L : Int), .int .i64 (H : Int)], .int .i64 (L : Int), .int .i64 (H : Int), .pointer (some ⟨w.heap.size, 1, none⟩), .slice A n c, .int .i64 (n : Int), .int .i64 (L : Int), .bool false, .bool false, .pointer (some ⟨w.heap.size, 1, none⟩), .slice A n c, .int .i64 (n : Int), .int .i64 (H : Int), .bool false, .bool false, .agg #[.int .u8 (k : Int), .slice A n c], .func (.func 90) #[] #[.pointer (some ⟨w.heap.size + 1 + 1, 0, none⟩)], .int .i64 x, undef, undef, undef, undef, undef, undef], defers := [] }) ?assign ?body ?done ?stop
  case assign =>
    intro l x W K hK
    gi_wp2
    exact hK
  case body =>
    rintro l pre x W hI hlen
    have c2 := hI.res.cell
    have f2 := hI.res.frozen
    have HI := Lib.hid hI
    clear hI
    by_cases hx0 : 0 ≤ x
    · by_cases hx1 : x ≤ 1099511627776
      · have HN := Lib.hid (isNum_yes hx0 hx1)
        gi_wp2_with fail
        exact ⟨KeepsOthers.refl _, kpB_refl, by rw [List.all_append, HI.out.num]; simp [HN.out], HI.out.res, HI.out.below⟩
      · have HN := Lib.hid (show isNum x = false by simp [isNum, hx1])
        gi_wp2_with fail
        exact ⟨KeepsOthers.setCell _ _ _, rfl, by rw [List.all_append]; simp [HN.out], HI.out.res.set _, HI.out.below.setCell (p := ⟨w.heap.size + 1, 0, none⟩) (Nat.le_succ _) _⟩
    · have HN := Lib.hid (show isNum x = false by simp [isNum, hx0])
      gi_wp2_with fail
      exact ⟨KeepsOthers.setCell _ _ _, rfl, by rw [List.all_append]; simp [HN.out], HI.out.res.set _, HI.out.below.setCell (p := ⟨w.heap.size + 1, 0, none⟩) (Nat.le_succ _) _⟩
  case done =>
    rintro D ys W hD rfl hI hK
    have c2 := hI.res.cell
    have f2 := hI.res.frozen
    have HK := Lib.hid hK
    have HI := Lib.hid hI
    clear hK hI
    gi_wp2_with fail
    have hK1 : (W.setCell ⟨w.heap.size + 1, 0, none⟩ (.bool true)).heap[D]? = some (.deferred (some [])) := (KeepsOthers.setCell _ _ _).same D _ HK.out rfl
    have r1 := HI.out.res.set (.bool true)
    have hb : Below w.heap.size w (W.setCell ⟨w.heap.size + 1, 0, none⟩ (.bool true)) := HI.out.below.setCell (p := ⟨w.heap.size + 1, 0, none⟩) (Nat.le_succ _) _
    have hnum : zs.all isNum = true := by have := HI.out.num; simp only [List.all_cons, Bool.and_eq_true] at this; exact this.2
    obtain ⟨W1, hW1⟩ : ∃ W1, W.setCell ⟨w.heap.size + 1, 0, none⟩ (.bool true) = W1 := ⟨_, rfl⟩
    rw [hW1] at hK1 r1 hb ⊢
    have hg' := grownBy_putObj' W1 D (.deferred none)
    have hr' : ∀ r, (some D) = some r → ∃ o : Obj, W1.heap[r]? = some o ∧ o.isCells = false := fun r e => by cases e; exact ⟨_, hK1, rfl⟩
    have q1 := (boxed_turn r1 hg' hr').cell
    refine ⟨by simp, .inl ⟨_, _, rfl, run_takeDeferred hK1, ?_⟩⟩
    refine ⟨.bool true, by simp [results, Try.results61, go_sem, q1], by rw [hnum], ?_⟩
    exact hb.trans ((Below.refl _ _).grown hg' hb.size (fun k e => by cases e; omega))
  case stop =>
    rintro D k pre W hD hpre ⟨rfl, hO⟩ hK
    gi_wp2_with fail
    have hg' := grownBy_putObj' W D (.deferred none)
    have hr' : ∀ r, (some D) = some r → ∃ o : Obj, W.heap[r]? = some o ∧ o.isCells = false := fun r e => by cases e; exact ⟨_, hK, rfl⟩
    have q1 := (boxed_turn hO.res hg' hr').cell
    have hnum : zs.all isNum = false := by
      obtain ⟨t, ht⟩ := hpre
      have h1 : ((k : Int) :: zs).all isNum = false := by rw [← ht, List.all_append, hO.num]; rfl
      have h2 : isNum (k : Int) = true := isNum_yes (by omega) (by omega)
      simpa [List.all_cons, h2] using h1
    refine ⟨by simp, .inl ⟨_, _, rfl, run_takeDeferred hK, ?_⟩⟩
    refine ⟨.bool false, by simp [results, Try.results61, go_sem, q1], by rw [hnum], ?_⟩
    exact hO.below.trans ((Below.refl _ _).grown hg' hO.below.size (fun k e => by cases e; omega))

set_option maxRecDepth 100000 in
/-- Whether it may be. -/
theorem right_rec (k : Nat) (hk : k < 256) (A : Option Addr) (n c : Nat) (zs : List Int) (B : Nat) (w : World) (hr : Rd w B A n (iv zs)) (hB : B ≤ w.heap.size) :
    Calls Try.prog 61 #[.agg #[.int .u8 (k : Int), .slice A n c]] w (BoolPost (mayB k zs) w) := by
  have hl : zs.length = n := by have := hr.1; rwa [iv_length] at this
  by_cases h1 : lo k ≤ n
  · by_cases h2 : n ≤ hi k
    · have e : mayB k zs = zs.all isNum := by simp [mayB, hl, h1, h2]
      rw [e]
      exact right_in k hk A n c zs w (hr.more hB) h1 h2
    · rw [mayB_long (by omega)]
      exact right_out k A n c w (.inr ⟨h1, by omega⟩)
  · rw [mayB_short (by omega)]
    exact right_out k A n c w (.inl (by omega))

end Go.Proofs.Ytbkfpghpfaemeaa

/-
  The walk of 'Of' of package record. Conditions: those that each theorem names.
-/
namespace Go.Proofs.Ytbkfpghpfaemeaa
open Go.RowKit Go.Shelf

/-- A record that is answered: its kind, its numbers in memory of the call's own. -/
def RecIs (k : Nat) (zs : List Int) (w : World) (e : Ending) (w' : World) : Prop :=
  ∃ A c, e = .returned (.agg #[.int .u8 (k : Int), .slice A zs.length c]) ∧ w'.ownsRow w.heap.size 3 1 (.slice A zs.length c) zs.length (iv zs) ∧ Below w.heap.size w w'

set_option maxRecDepth 100000 in
set_option maxHeartbeats 400000 in
theorem of_any (k : Nat) (A : Option Addr) (n c : Nat) (zs : List Int) (B : Nat) (w : World) (hr : Rd w B A n (iv zs)) (hB : B ≤ w.heap.size) (hn : n ≤ 1000000) :
    Calls Try.prog 60 #[.int .u8 (k : Int), .slice A n c] w (RecIs k zs w) := by
  have hl : zs.length = n := by have := hr.1; rwa [iv_length] at this
  have hbox := Whole.new w 43 #[.int .u8 0, .slice none 0 0]
  have hbel : Below w.heap.size w (w.alloc (.cells #[.int .u8 0, .slice none 0 0] 43)) := (Below.refl _ w).alloc (Nat.le_refl _) _
  obtain ⟨v1, W1, e1, o1, g1⟩ := run_appI (w.alloc (.cells #[.int .u8 0, .slice none 0 0] 43)) (w.heap.size + 1) (.slice none 0 0) 0 [] (World.ownsRow_nil _ _ _ _) B A n c zs (hr.below (hbel.mono hB)) (by omega) (by simp)
  rw [Nat.zero_add, List.nil_append] at o1
  obtain ⟨A1, c1, rfl⟩ := own_form o1
  have hbox1 := hbox.grown g1 (by simp [Value.ownBlock])
  have hb1 : Below w.heap.size w W1 := hbel.trans ((Below.refl _ _).grown g1 (by simp) (fun k e => by simp [Value.ownBlock] at e))
  have h0 := hbox1.cell 0
  have h1 := hbox1.cell 1
  have f0 := hbox1.frozen 0
  have f1 := hbox1.frozen 1
  have E1 := Lib.hid e1
  have O1 := Lib.hid o1
  have HX := Lib.hid hbox1
  have HB := Lib.hid hb1
  have Hl := Lib.hid hl
  clear e1 o1 g1 hbox hbel hr hl hbox1 hb1
  simp only [List.getElem?_toArray, List.getElem?_cons_zero, List.getElem?_cons_succ] at h0 h1
  go_enter Try.func60, Try.ntmps60
  go_wp2_with (at_builtin; refine wpList_app (by rfl) _ _ _ rfl _ _ _ _ rfl rfl E1.out ?_; clear E1)
  have hw := (HX.out.set 0 (.int .u8 (k : Int))).set 1 (.slice A1 n c1)
  have q0 := hw.cell 0
  have q1 := hw.cell 1
  simp at q0 q1
  refine bodyPost_ret (v := .agg #[.int .u8 (k : Int), .slice A1 n c1]) (by simp [results, Try.results60, go_sem, q0, q1]) rfl ⟨A1, c1, by rw [Hl.out], ?_, ?_⟩
  · rw [Hl.out]
    have hne : (Value.slice A1 n c1).ownBlock ≠ some w.heap.size := fun e => by have := (O1.out.lt _ e).1; omega
    exact own_weaker (ownsRow_setCell_other (ownsRow_setCell_other (a := ⟨w.heap.size, 0, none⟩) O1.out hne _) (a := ⟨w.heap.size, 1, none⟩) hne _) (Nat.le_succ _)
  · exact (HB.out.setCell (p := ⟨w.heap.size, 0, none⟩) (Nat.le_refl _) _).setCell (p := ⟨w.heap.size, 1, none⟩) (Nat.le_refl _) _

end Go.Proofs.Ytbkfpghpfaemeaa

/-
  The walks of 'slices.Collect' over a record's iterator, and of 'Put' of package record. Conditions: those that each theorem names.
-/
namespace Go.Proofs.Ytbkfpghpfaemeaa
open Go.RowKit Go.Shelf
attribute [local go_sem] Oper.semAt_some

/-- What has been collected: s: the box of the slice. -/
structure CollAt (w : World) (pre : List Int) (W : World) : Prop where
  box : ∃ v, Boxed W w.heap.size 41 v ∧ W.ownsRow (w.heap.size + 1) 3 1 v pre.length (iv pre)
  below : Below w.heap.size w W
  size : w.heap.size + 1 ≤ W.heap.size
set_option maxRecDepth 100000 in
theorem collAt_own (w : World) (B : Nat) (hB : w.heap.size ≤ B) : OwnFrom B (CollAt w) := by
  intro pre W W' row h hg hr
  have hr' : ∀ r, row = some r → ∃ o : Obj, W.heap[r]? = some o ∧ o.isCells = false := fun r e => (hr r e).2
  obtain ⟨v, h1, h2⟩ := h.box
  exact ⟨⟨v, boxed_turn h1 hg hr', own_turn h2 hg hr'⟩, h.below.grown hg (by have := h.below.size; omega) (fun k e => by have := (hr k e).1; omega), Nat.le_trans h.size hg.size⟩
set_option maxRecDepth 100000 in
theorem iv_snoc (l : List Int) (x : Int) : iv (l ++ [x]) = iv l ++ [.int .i64 x] := by simp [iv]

set_option maxRecDepth 100000 in
/-- A round that has added a number. -/
theorem collAt_step {w : World} {Bn : Nat} (hBn : Bn < w.heap.size) {pre : List Int} {W w3 : World} (h : CollAt w pre W) {x : Int} {v v' : Value} (hv : Boxed W w.heap.size 41 v) (hown : W.ownsRow (w.heap.size + 1) 3 1 v pre.length (iv pre))
    {o : Obj} (hg : (W.alloc o).grownBy w3 v.ownBlock) (hown' : w3.ownsRow (w.heap.size + 1) 3 1 v' (pre.length + 1) (iv pre ++ [.int .i64 x])) :
    KeepsOthers W (w3.setCell ⟨w.heap.size, 0, none⟩ v') ∧ KpB w.heap.size Bn W (w3.setCell ⟨w.heap.size, 0, none⟩ v') ∧ CollAt w (pre ++ [x]) (w3.setCell ⟨w.heap.size, 0, none⟩ v') := by
  have hs := h.size
  have far : ∀ b, b < w.heap.size + 1 → some b ≠ v.ownBlock := fun b hb e => by have := (hown.lt b e.symm).1; omega
  have far' : v'.ownBlock ≠ some w.heap.size := fun e => by have := (hown'.lt _ e).1; omega
  have b1 : Boxed w3 w.heap.size 41 v := (hv.alloc o).kept hg (far _ (by omega))
  have hb3 : Below w.heap.size W w3 := ((Below.refl _ W).alloc (by omega) o).trans (below_row (hown.alloc o) hg (by simp; omega) |>.mono (by omega))
  have hb4 : Below w.heap.size W (w3.setCell ⟨w.heap.size, 0, none⟩ v') := hb3.setCell (p := ⟨w.heap.size, 0, none⟩) (Nat.le_refl _) v'
  refine ⟨((KeepsOthers.alloc W o).trans (keeps_row (hown.alloc o) hg)).trans (KeepsOthers.setCell _ _ _), ⟨hb4, hb4.block Bn hBn⟩, ⟨v', b1.set v', ?_⟩, h.below.trans hb4, ?_⟩
  · rw [List.length_append, iv_snoc]
    exact ownsRow_setCell_other (a := ⟨w.heap.size, 0, none⟩) hown' far' v'
  · have := hb4.size; omega

/-- What is collected: a slice of the call's own. -/
def CollIs (xs : List Int) (w : World) (e : Ending) (w' : World) : Prop :=
  ∃ A c, e = .returned (.slice A xs.length c) ∧ w'.ownsRow w.heap.size 3 1 (.slice A xs.length c) xs.length (iv xs) ∧ Below w.heap.size w w'

set_option maxRecDepth 100000 in
set_option maxHeartbeats 400000 in
theorem appendSeq_any (Bn : Nat) (k : Nat) (hk : k < 256) (A : Option Addr) (n c : Nat) (zs : List Int) (B : Nat) (w : World) (hn : n ≤ 1000) (hr : Rd w B A n (iv zs)) (hB : B ≤ w.heap.size) (hBox : Whole w Bn 43 #[.int .u8 (k : Int), .slice A n c]) :
    Calls Try.prog 92 #[.slice none 0 0, .func (.func 90) #[] #[.pointer (some ⟨Bn, 0, none⟩)]] w (CollIs ((k : Int) :: zs) w) := by
  obtain ⟨i0, hi, hz0, hz1, hz2⟩ := info_parts info_int
  have hlen : ((k : Int) :: zs).length ≤ 1001 := by have := hr.1; rw [iv_length] at this; simp; omega
  have Hlen := Lib.hid hlen
  have Hr := Lib.hid hr
  have hBn := hBox.lt
  have HBox := Lib.hid hBox
  clear hr hBox hlen
  refine (callsIn_wide (n := 5)).1 ?_
  refine callsIn_of_wp_marks Try.func92 rfl trivial ?_ rfl
  simp only [Try.ntmps92, List.size_toArray, List.length_cons, List.length_nil, Nat.reduceAdd, Nat.reduceSub, Array.replicate_succ, Array.replicate_zero, List.push_toArray, List.append_toArray, List.nil_append, List.cons_append]
  gi_wp2_with fail
  obtain ⟨W0, hW0⟩ : ∃ W0, w.alloc (.cells #[.slice none 0 0] 41) = W0 := ⟨_, rfl⟩
  have hs0 : W0.heap.size = w.heap.size + 1 := by rw [← hW0]; simp
  have hb0 : Below w.heap.size w W0 := by rw [← hW0]; exact (Below.refl _ w).alloc (Nat.le_refl _) _
  have bRec := HBox.out.below hb0 hBn
  have hInv : CollAt w [] W0 := by
    refine ⟨⟨.slice none 0 0, by rw [← hW0]; exact Boxed.new w 41 _, World.ownsRow_nil _ _ _ _⟩, hb0, by omega⟩
  rw [hW0]
  clear hW0
  refine wpIn_rangeFunc_ownF rfl (by omega) (gf := 90) (lb := #[.pointer (some ⟨Bn, 0, none⟩)]) rfl trivial (enters_of Try.func90 (by kernel_rfl) rfl)
    (rowOf_stops 4 Bn w.heap.size k hk A n c zs (by unfold maxLen; omega) W0 (by omega) (by omega) (by simpa using bRec.cell 0) (by simpa using bRec.cell 1) ((Hr.out.more hB).below hb0)) (fun h k => kpB_t h k) (kpB_b (by omega) (by omega)) (Below.refl _ _) (fun _ => rfl)
    (CollAt w) (fun _ _ _ => False)
    (collAt_own _ _ (by omega)) (fun _ _ _ _ _ h _ _ => h) hInv
    (fun x => { tmps := #[.slice none 0 0, .func (.func 90) #[] #[.pointer (some ⟨Bn, 0, none⟩)], .pointer (some ⟨w.heap.size, 0, none⟩), undef, .slice none 0 0, .int .i64 x, .func (.func 90) #[] #[.pointer (some ⟨Bn, 0, none⟩)], .int .i64 x, undef, undef, undef, undef, undef], defers := [] }) ?assign ?body ?done ?stop
  case assign =>
    intro l x W K hK
    gi_wp2
    exact hK
  case body =>
    rintro l pre x W hI hlen
    obtain ⟨v, hv, hown⟩ := hI.box
    obtain ⟨Av, cv, rfl⟩ := own_form hown
    have c2 := hv.cell
    have hsz := hI.size
    have hp : pre.length ≤ 1001 := by have := Hlen.out; omega
    have HI := Lib.hid hI
    have Hv := Lib.hid hv
    have Hown := Lib.hid hown
    clear hI hv hown hlen
    gi_wp2_with (gi_at_builtin; refine wpListIn_append_own _ rfl _ _ 41 rfl (w.heap.size + 1) 3 i0 (.int .i64 0) 1 8 Try.underlying41 hi hz0 hz1 hz2 rfl (by decide) _ _ _ rfl (Hown.out.alloc _) ⟨W.heap.size, 0, none⟩ 1 1 [.int .i64 x] rfl rfl (cell_one_new _ _ _) (by simp [Value.oneCell']) (by unfold maxLen; omega) (by omega) (by simp; omega) ?_; intro v' w3 hown' hgrow _; obtain ⟨g', cap', rfl⟩ := ownsRow_succ hown'; have Hown' := Lib.hid hown'; have Hgrow := Lib.hid hgrow; clear hown' hgrow; have e2 := (Hv.out.alloc _).kept Hgrow.out (fun e => by have := (Hown.out.lt _ e.symm).1; omega); have ec2 := e2.cell; have ef2 := e2.frozen; clear e2)
    exact collAt_step hBn HI.out Hv.out Hown.out Hgrow.out Hown'.out
  case done =>
    rintro D ys W hD rfl hI hK
    obtain ⟨v, hv, hown⟩ := hI.box
    obtain ⟨Av, cv, rfl⟩ := own_form hown
    have c2 := hv.cell
    have HK := Lib.hid hK
    have HI := Lib.hid hI
    have Hown := Lib.hid hown
    clear hK hI hown
    gi_wp2_with fail
    refine ⟨by simp, .inl ⟨_, _, rfl, run_takeDeferred HK.out, ?_⟩⟩
    have hg' := grownBy_putObj' W D (.deferred none)
    have hsz := HI.out.below.size
    refine ⟨.slice Av ((k : Int) :: zs).length cv, by simp [results, Try.results92], Av, cv, rfl, ?_, ?_⟩
    · exact own_weaker (ownsRow_putObj Hown.out _ HK.out rfl) (Nat.le_succ _)
    · exact HI.out.below.trans ((Below.refl _ _).grown hg' hsz (fun k e => by cases e; omega))
  case stop =>
    rintro D k pre W hD hpre h hK
    exact h.elim

set_option maxRecDepth 100000 in
set_option maxHeartbeats 400000 in
theorem collect_any (Bn : Nat) (k : Nat) (hk : k < 256) (A : Option Addr) (n c : Nat) (zs : List Int) (B : Nat) (w : World) (hn : n ≤ 1000) (hr : Rd w B A n (iv zs)) (hB : B ≤ w.heap.size) (hBox : Whole w Bn 43 #[.int .u8 (k : Int), .slice A n c]) :
    Calls Try.prog 83 #[.func (.func 90) #[] #[.pointer (some ⟨Bn, 0, none⟩)]] w (CollIs ((k : Int) :: zs) w) := by
  have HA := Lib.hid (appendSeq_any Bn k hk A n c zs B w hn hr hB hBox)
  clear hr hBox hk hn hB
  go_enter Try.func83, Try.ntmps83
  go_wp2_with fail
  refine (HA.out).mono ?_
  rintro e w1 ⟨A1, c1, rfl, o1, b1⟩
  go_wp2_with fail
  go_ret
  exact ⟨A1, c1, rfl, o1, b1⟩

/-- A record's bytes. -/
def recB (k : Nat) (zs : List Int) : List Nat := row (nats ((k : Int) :: zs))
set_option maxRecDepth 100000 in
theorem mayB_row {k : Nat} {zs : List Int} (h : mayB k zs = true) : isRow ((k : Int) :: zs) = true := by
  obtain ⟨_, h2, h3⟩ := mayB_yes h
  have h4 := (hi_le k).1
  have h5 := (mayB_kind h).2
  have h6 : isNum (k : Int) = true := isNum_yes (by omega) (by omega)
  simp only [isRow, List.length_cons, List.all_cons, h3, h6, Bool.and_true, decide_eq_true_eq]
  omega

set_option maxRecDepth 100000 in
set_option maxHeartbeats 400000 in
theorem putRec_no (k : Nat) (hk : k < 256) (A : Option Addr) (n c : Nat) (zs : List Int) (B : Nat) (w : World) (hr : Rd w B A n (iv zs)) (hB : B ≤ w.heap.size) (h : mayB k zs = false) :
    Calls Try.prog 71 #[.agg #[.int .u8 (k : Int), .slice A n c]] w fun e w' => e = .returned (.tuple #[.slice none 0 0, .int .i64 2]) ∧ Below w.heap.size w w' := by
  have hb : Below w.heap.size w (w.alloc (.cells #[.int .u8 (k : Int), .slice A n c] 43)) := (Below.refl _ w).alloc (Nat.le_refl _) _
  have HR := Lib.hid (right_rec k hk A n c zs w.heap.size (w.alloc (.cells #[.int .u8 (k : Int), .slice A n c] 43)) ((hr.more hB).below hb) hb.size)
  rw [h] at HR
  have HB := Lib.hid hb
  clear hr h hk hb hB
  go_enter Try.func71, Try.ntmps71
  go_wp2_with fail
  refine (HR.out).mono ?_
  rintro e w1 ⟨rfl, b1⟩
  go_wp2_with fail
  go_ret2
  exact ⟨rfl, HB.out.trans (b1.mono HB.out.size)⟩

set_option maxRecDepth 100000 in
set_option maxHeartbeats 400000 in
theorem putRec_yes (k : Nat) (A : Option Addr) (n c : Nat) (zs : List Int) (B : Nat) (w : World) (hr : Rd w B A n (iv zs)) (hB : B ≤ w.heap.size) (h : mayB k zs = true) :
    Calls Try.prog 71 #[.agg #[.int .u8 (k : Int), .slice A n c]] w (TwoPost w.heap.size (recB k zs).length (bv (recB k zs)) w) := by
  have hk : k < 256 := by have := mayB_kind h; omega
  have hl : zs.length = n := by have := hr.1; rwa [iv_length] at this
  have hn : n ≤ 18 := by have h1 := (mayB_yes h).2.1; have h2 := (hi_le k).1; omega
  have hrow := mayB_row h
  have hbox := Whole.new w 43 #[.int .u8 (k : Int), .slice A n c]
  have hb : Below w.heap.size w (w.alloc (.cells #[.int .u8 (k : Int), .slice A n c] 43)) := (Below.refl _ w).alloc (Nat.le_refl _) _
  have HR := Lib.hid (right_rec k hk A n c zs w.heap.size (w.alloc (.cells #[.int .u8 (k : Int), .slice A n c] 43)) ((hr.more hB).below hb) hb.size)
  rw [h] at HR
  have HB := Lib.hid hb
  have Hr := Lib.hid (hr.more hB)
  have HBox := Lib.hid hbox
  have Hrow := Lib.hid hrow
  clear hr h hb hB hrow hbox hl
  go_enter Try.func71, Try.ntmps71
  go_wp2_with fail
  refine (HR.out).mono ?_
  rintro e w1 ⟨rfl, b1⟩
  have hw1 := HBox.out.under b1
  have q0 := hw1.cell 0
  have q1 := hw1.cell 1
  have b1' : Below w.heap.size w w1 := HB.out.trans (b1.mono HB.out.size)
  have Hb1 := Lib.hid b1'
  clear b1 b1' hw1
  simp only [List.getElem?_toArray, List.getElem?_cons_zero, List.getElem?_cons_succ] at q0 q1
  go_wp2_with fail
  refine (rowOf_any _ _ _ _ _).mono ?_
  rintro e w2 ⟨rfl, rfl⟩
  go_wp2_with fail
  refine (collect_any w1.heap.size k hk A n c zs w.heap.size _ (by omega) ((Hr.out.below Hb1.out).alloc Hb1.out.size _) (by have := Hb1.out.size; simp; omega) (Whole.new w1 _ _)).mono ?_
  rintro e w3 ⟨A3, c3, rfl, o3, b3⟩
  have R3 := Rd.of_own o3
  have b3' : Below w.heap.size w w3 := (Hb1.out.alloc Hb1.out.size _).trans (b3.mono (by have := Hb1.out.size; simp; omega))
  have Hb3 := Lib.hid b3'
  clear o3 b3 b3'
  go_wp2_with fail
  refine (row_any A3 ((k : Int) :: zs).length c3 ((k : Int) :: zs) _ R3).mono ?_
  rintro e w4 (⟨_, A4, c4, rfl, I4⟩ | ⟨h0, _⟩)
  · have I4' := I4.after Hb3.out (below_keeps Hb3.out) Hb3.out.size
    clear I4
    go_wp2_with fail
    go_ret2
    exact ⟨A4, c4, rfl, I4'⟩
  · rw [Hrow.out] at h0; cases h0

end Go.Proofs.Ytbkfpghpfaemeaa

/-
  The walk of 'Take' of package record. Conditions: those that each theorem names.
-/
namespace Go.Proofs.Ytbkfpghpfaemeaa
open Go.RowKit Go.Shelf

/-- The record whose bytes they are, all of them. -/
def takenL : List Nat → Option (Nat × List Nat)
  | [] => none
  | k :: l => if k < 17 ∧ mayB k (ints l) = true then some (k, l) else none
def takenRec (bs : List Nat) : Option (Nat × List Nat) := if (takeRow bs).2.2 = 0 ∧ behindRow bs = [] then takenL (takeRow bs).2.1 else none

/-- What Take answers if there is no record; and if there is one. -/
def NoRec (w : World) (e : Ending) (w' : World) : Prop := e = .returned (.tuple #[.agg #[.int .u8 0, .slice none 0 0], .int .i64 11]) ∧ Below w.heap.size w w'
def YesRec (k : Nat) (zs : List Int) (w : World) (e : Ending) (w' : World) : Prop :=
  ∃ A c, e = .returned (.tuple #[.agg #[.int .u8 (k : Int), .slice A zs.length c], .int .i64 0]) ∧ w'.ownsRow w.heap.size 3 1 (.slice A zs.length c) zs.length (iv zs) ∧ Below w.heap.size w w'
def TakeRecIs (r : Option (Nat × List Nat)) (w : World) (e : Ending) (w' : World) : Prop :=
  match r with
  | none => NoRec w e w'
  | some (k, l) => YesRec k (ints l) w e w'

/-- Where the run stands at the label. -/
def TakeAt (w : World) (r : Option (Nat × List Nat)) (a' : Act) (w' : World) : Prop :=
  ∃ u0 u1 u3 u4 u5 u6 u7 u8 u9 u10 u11 u12 u13 u14 u15 u16 u17 u18 u19 u20 u21 u22 u23 u24 u25 u26 u27 u28 u29 u30 u31 u32 u33 u34 u35 u36 u37 u38 u39 u40 u41 : Value, a' = { tmps := #[u0, u1, .pointer (some ⟨w.heap.size, 0, none⟩), u3, u4, u5, u6, u7, u8, u9, u10, u11, u12, u13, u14, u15, u16, u17, u18, u19, u20, u21, u22, u23, u24, u25, u26, u27, u28, u29, u30, u31, u32, u33, u34, u35, u36, u37, u38, u39, u40, u41], defers := [] } ∧ r = none ∧ Whole w' w.heap.size 43 #[.int .u8 0, .slice none 0 0] ∧ Below w.heap.size w w'

set_option maxRecDepth 100000 in
set_option maxHeartbeats 1000000 in
theorem takeRec_is (A : Option Addr) (n c : Nat) (bs : List Nat) (B : Nat) (w : World) (hr : Rd w B A n (bv bs)) (hB : B ≤ w.heap.size) (hb : ∀ x ∈ bs, x < 256) (hn : n ≤ 140737488355328) (hc : n ≤ c) {r : Option (Nat × List Nat)} (hR : takenRec bs = r) :
    Calls Try.prog 42 #[.slice A n c] w (TakeRecIs r w) := by
  obtain ⟨L, hL⟩ : ∃ L, (takeRow bs).2.1 = L := ⟨_, rfl⟩
  obtain ⟨E, hE⟩ : ∃ E, (takeRow bs).2.2 = E := ⟨_, rfl⟩
  obtain ⟨R, hRR⟩ : ∃ R, behindRow bs = R := ⟨_, rfl⟩
  have HT : Hid (∀ W : World, Below w.heap.size w W → Calls Try.prog 59 #[.slice A n c] W (RowIs L R E W)) := fun W hW =>
    takes_is A n c bs w.heap.size W ((hr.more hB).below hW) hW.size hb (by omega) hc hL hE hRR
  have hLen : E = 0 → L.length ≤ 40 := fun h => by have := (takeRow_only hb (hE.trans h)).2.1; rwa [hL] at this
  rw [takenRec, hL, hE, hRR] at hR
  have HR := Lib.hid hR
  have HLen := Lib.hid hLen
  clear hL hE hRR hr hB hb hn hc hR hLen
  have hb0 : Below w.heap.size w (w.alloc (.cells #[.int .u8 0, .slice none 0 0] 43)) := (Below.refl _ w).alloc (Nat.le_refl _) _
  have hb1 := hb0.alloc hb0.size (.cells #[.int .u8 0, .slice none 0 0] 43)
  have x0 := (Whole.new w 43 #[.int .u8 0, .slice none 0 0]).alloc (.cells #[.int .u8 0, .slice none 0 0] 43)
  have x1 := Whole.new (w.alloc (.cells #[.int .u8 0, .slice none 0 0] 43)) 43 #[.int .u8 0, .slice none 0 0]
  simp only [World.size_alloc] at x1
  have HB1 := Lib.hid hb1
  have X0 := Lib.hid x0
  have X1 := Lib.hid x1
  clear hb0 hb1 x0 x1
  go_enter Try.func42, Try.ntmps42
  go_wp2_with fail
  refine wp_scope_fwd 0 (TakeAt w r) rfl ?first ?tail
  case tail =>
    rintro a' w' ⟨u0, u1, u3, u4, u5, u6, u7, u8, u9, u10, u11, u12, u13, u14, u15, u16, u17, u18, u19, u20, u21, u22, u23, u24, u25, u26, u27, u28, u29, u30, u31, u32, u33, u34, u35, u36, u37, u38, u39, u40, u41, rfl, rfl, hw, hb⟩
    have q0 := hw.cell 0
    have q1 := hw.cell 1
    have f0 := hw.frozen 0
    have f1 := hw.frozen 1
    have Hw := Lib.hid hw
    have Hb := Lib.hid hb
    clear hw hb
    simp only [List.getElem?_toArray, List.getElem?_cons_zero, List.getElem?_cons_succ] at q0 q1
    go_wp2_with fail
    simp only [Exit.jump]
    have hw2 := (Hw.out.set 0 (.int .u8 0)).set 1 (.slice none 0 0)
    have p0 := hw2.cell 0
    have p1 := hw2.cell 1
    simp at p0 p1
    refine bodyPost_ret (v := .tuple #[.agg #[.int .u8 0, .slice none 0 0], .int .i64 11]) (by simp [results, Try.results42, go_sem, p0, p1]) rfl ⟨rfl, ?_⟩
    exact (Hb.out.setCell (p := ⟨w.heap.size, 0, none⟩) (Nat.le_refl _) _).setCell (p := ⟨w.heap.size, 1, none⟩) (Nat.le_refl _) _
  case first =>
    go_wp2_with fail
    refine (HT.out _ HB1.out).mono ?_
    rintro e w1 ⟨A1, c1, A2, c2, rfl, o1, o2, b1⟩
    have y0 := X0.out.under b1
    have y1 := X1.out.under b1
    have b1' := HB1.out.trans (b1.mono HB1.out.size)
    have Y0 := Lib.hid y0
    have Y1 := Lib.hid y1
    have B1 := Lib.hid b1'
    have O1 := Lib.hid o1
    clear y0 y1 b1 b1' o1 o2
    by_cases hE : E = 0
    · subst hE
      cases R with
      | cons x R =>
        have HrN := Lib.hid (show r = none by rw [← HR.out, if_neg (fun h => by cases h.2)])
        have hlt : (0 : Int) < ((R.length + 1 : Nat) : Int) := by omega
        clear HR
        go_wp2_with fail
        refine wp_goto ⟨rfl, _, _, _, _, _, _, _, _, _, _, _, _, _, _, _, _, _, _, _, _, _, _, _, _, _, _, _, _, _, _, _, _, _, _, _, _, _, _, _, _, _, rfl, HrN.out, Y0.out, B1.out⟩
      | nil =>
        cases L with
        | nil =>
          have HrN := Lib.hid (show r = none by rw [← HR.out, if_pos ⟨rfl, rfl⟩]; rfl)
          clear HR
          go_wp2_with fail
          refine wp_goto ⟨rfl, _, _, _, _, _, _, _, _, _, _, _, _, _, _, _, _, _, _, _, _, _, _, _, _, _, _, _, _, _, _, _, _, _, _, _, _, _, _, _, _, _, rfl, HrN.out, Y0.out, B1.out⟩
        | cons k t =>
          have hne : (((t.length + 1 : Nat) : Int) == 0) = false := by rw [beq_eq_false_iff_ne]; omega
          obtain ⟨g, cap, hv, hg1, hg2⟩ := O1.out.form (by simp)
          injection hv with hA _ hcap
          subst hA
          have hcell : w1.cell? ⟨g, 0, none⟩ = some (.int .i64 (k : Int)) := by
            rw [O1.out.cellAt 0 (by simp)]
            simp [iv, ints]
          have htl : t.length ≤ 39 := by have := HLen.out rfl; simp at this; omega
          have hg0 : w.heap.size + 1 + 1 ≤ g := by simpa using hg1
          have hgne0 : (⟨w.heap.size + 1, 0, none⟩ : Addr) ≠ ⟨g, 0, none⟩ := fun e => by injection e; omega
          have hgne1 : (⟨w.heap.size + 1, 1, none⟩ : Addr) ≠ ⟨g, 0, none⟩ := fun e => by injection e; omega
          by_cases hk : k < 17
          · obtain ⟨A', hA1, hA2⟩ := run_restI (some ⟨g, 0, none⟩) (t.length + 1) c1 1 (by omega)
            have e1 : ((1 : Nat) : Int) = 1 := rfl
            rw [e1] at hA1
            rw [Nat.add_sub_cancel] at hA1
            have hwrap : IntKind.u8.wrap (k : Int) = k := by rw [IntKind.wrap_u8]; omega
            have hge : decide ((17 : Int) ≤ (k : Int)) = false := by simp; omega
            have hRd : Rd w1.drew w1.heap.size A' t.length (iv (ints t)) := by
              have h1 := (Rd.of_own O1.out).cut (k := 1) (by simp) A' (fun h => hA2 ⟨by simpa using h, by have := own_cap O1.out; simpa using this⟩)
              have h2 : Rd w1 w1.heap.size A' t.length (iv (ints t)) := by simpa [iv, ints] using h1
              exact h2
            have HRd := Lib.hid hRd
            have HW := Lib.hid hwrap
            have HTL := Lib.hid htl
            clear hRd hA2 hcap htl e1
            have hwf : IntKind.u8.wrap (k : Int) = k := HW.out
            have HA1 := Lib.hid hA1
            have hA1 := HA1.out
            go_wp2_with fail
            have HOf := Lib.hid (of_any k A' t.length (c1 - 1) (ints t) w1.heap.size w1.drew HRd.out (Nat.le_refl _) (by have := HTL.out; omega))
            go_region_held3 (fun W => W.cell? ⟨g, 0, none⟩ = some (.int .i64 (k : Int))) (first | (with_reducible exact S4.out) | (with_reducible exact S3.out) | go_keep)
              (first | (go_at_call 60; refine (HOf.out).mono ?_; rintro e w3 ⟨A3, c3, rfl, o3, b3⟩; have O3 := Lib.hid o3; have B3 := Lib.hid b3; have S3 := Lib.hid ((b3.cell (p := ⟨g, 0, none⟩) hg2).trans hcell); have Y03 := Lib.hid (Whole.under (w := w1.drew) Y0.out b3); have Y13 := Lib.hid (Whole.under (w := w1.drew) Y1.out b3); have q0 := Y13.out.cell 0; have q1 := Y13.out.cell 1; have f0 := Y13.out.frozen 0; have f1 := Y13.out.frozen 1; have S4 := Lib.hid ((World.cell?_setCell_other _ ⟨w.heap.size + 1, 1, none⟩ ⟨g, 0, none⟩ (.slice A3 (ints t).length c3) hgne1).trans ((World.cell?_setCell_other w3 ⟨w.heap.size + 1, 0, none⟩ ⟨g, 0, none⟩ (.int .u8 (k : Int)) hgne0).trans S3.out)); clear o3 b3))
            have hlt2 : w.heap.size + 1 < w1.heap.size := Y1.out.lt
            have z0 := (Y03.out.far (p := ⟨w.heap.size + 1, 0, none⟩) (by simp) (.int .u8 (k : Int))).far (p := ⟨w.heap.size + 1, 1, none⟩) (by simp) (.slice A3 (ints t).length c3)
            have z1 := (Y13.out.set 0 (.int .u8 (k : Int))).set 1 (.slice A3 (ints t).length c3)
            have hne3 : (Value.slice A3 (ints t).length c3).ownBlock ≠ some (w.heap.size + 1) := fun e => by have h1 := (O3.out.lt _ e).1; have h2 : w1.heap.size ≤ w.heap.size + 1 := h1; omega
            have z3 := ownsRow_setCell_other (ownsRow_setCell_other (a := ⟨w.heap.size + 1, 0, none⟩) O3.out hne3 (.int .u8 (k : Int))) (a := ⟨w.heap.size + 1, 1, none⟩) hne3 (.slice A3 (ints t).length c3)
            have zb : Below w.heap.size w ((w3.setCell ⟨w.heap.size + 1, 0, none⟩ (.int .u8 (k : Int))).setCell ⟨w.heap.size + 1, 1, none⟩ (.slice A3 (ints t).length c3)) :=
              ((B1.out.drew.trans (B3.out.mono B1.out.size)).setCell (p := ⟨w.heap.size + 1, 0, none⟩) (Nat.le_succ _) _).setCell (p := ⟨w.heap.size + 1, 1, none⟩) (Nat.le_succ _) _
            clear q0 q1 f0 f1
            have hfin : (#[Value.int .u8 0, Value.slice none 0 0].setIfInBounds 0 (.int .u8 (k : Int))).setIfInBounds 1 (.slice A3 (ints t).length c3) = #[.int .u8 (k : Int), .slice A3 (ints t).length c3] := rfl
            rw [hfin] at z1
            clear hfin
            rename_i hHeld
            clear hHeld
            obtain ⟨W4, hW4⟩ : ∃ W4, (w3.setCell ⟨w.heap.size + 1, 0, none⟩ (.int .u8 (k : Int))).setCell ⟨w.heap.size + 1, 1, none⟩ (.slice A3 (ints t).length c3) = W4 := ⟨_, rfl⟩
            rw [hW4] at z0 z1 z3 zb ⊢
            clear S4 S3 Y03 Y13 O3 hW4 B3 hne3
            have p0 := z1.cell 0
            have p1 := z1.cell 1
            simp only [List.getElem?_toArray, List.getElem?_cons_zero, List.getElem?_cons_succ] at p0 p1
            have hRt : Calls Try.prog 61 #[.agg #[.int .u8 (k : Int), .slice A3 (ints t).length c3]] W4 (BoolPost (mayB k (ints t)) W4) := right_rec k (by omega) A3 _ c3 (ints t) _ W4 (Rd.of_own z3) (Nat.le_refl _)
            have HRt := Lib.hid hRt
            have Z0 := Lib.hid z0
            have Z1 := Lib.hid z1
            have Z3 := Lib.hid z3
            have ZB := Lib.hid zb
            clear hRt z0 z1 z3 zb
            by_cases hm : mayB k (ints t) = true
            · have HrY := Lib.hid (show r = some (k, t) by rw [← HR.out, if_pos (by simp)]; exact if_pos ⟨hk, hm⟩)
              rw [hm] at HRt
              clear hm HR
              go_wp2_with fail
              refine (HRt.out).mono ?_
              rintro e w5 ⟨rfl, b5⟩
              have y5 := Z0.out.under b5
              have y6 := Z1.out.under b5
              have b5' := ZB.out.trans (b5.mono ZB.out.size)
              have o5 := own_under Z3.out b5
              have Y5 := Lib.hid y5
              have Y6 := Lib.hid y6
              have B5 := Lib.hid b5'
              have O5 := Lib.hid o5
              have q0 := y5.cell 0
              have q1 := y5.cell 1
              have f0 := y5.frozen 0
              have f1 := y5.frozen 1
              have p0 := y6.cell 0
              have p1 := y6.cell 1
              simp only [List.getElem?_toArray, List.getElem?_cons_zero, List.getElem?_cons_succ] at q0 q1 p0 p1
              clear b5 y5 y6 b5' o5
              go_wp2_with fail
              simp only [Exit.jump]
              have hw2 := (Y5.out.set 0 (.int .u8 (k : Int))).set 1 (.slice A3 (ints t).length c3)
              have r0 := hw2.cell 0
              have r1 := hw2.cell 1
              simp at r0 r1
              have hne5 : (Value.slice A3 (ints t).length c3).ownBlock ≠ some w.heap.size := fun e => by have h1 := (O5.out.lt _ e).1; have h2 : w1.heap.size ≤ w.heap.size := h1; omega
              rw [HrY.out]
              refine bodyPost_ret (v := .tuple #[.agg #[.int .u8 (k : Int), .slice A3 (ints t).length c3], .int .i64 0]) (by simp [results, Try.results42, go_sem, r0, r1]) rfl ⟨A3, c3, rfl, ?_, ?_⟩
              · exact own_weaker (ownsRow_setCell_other (ownsRow_setCell_other (a := ⟨w.heap.size, 0, none⟩) O5.out hne5 _) (a := ⟨w.heap.size, 1, none⟩) hne5 _) B1.out.size
              · exact (B5.out.setCell (p := ⟨w.heap.size, 0, none⟩) (Nat.le_refl _) _).setCell (p := ⟨w.heap.size, 1, none⟩) (Nat.le_refl _) _
            · have hmf : mayB k (ints t) = false := by simpa using hm
              have HrN := Lib.hid (show r = none by rw [← HR.out, if_pos (by simp)]; exact if_neg (fun h => hm h.2))
              rw [hmf] at HRt
              clear hm hmf HR
              go_wp2_with fail
              refine (HRt.out).mono ?_
              rintro e w5 ⟨rfl, b5⟩
              have y5 := Z0.out.under b5
              have b5' := ZB.out.trans (b5.mono ZB.out.size)
              have Y5 := Lib.hid y5
              have B5 := Lib.hid b5'
              clear b5 y5 b5'
              go_wp2_with fail
              refine wp_goto ⟨rfl, _, _, _, _, _, _, _, _, _, _, _, _, _, _, _, _, _, _, _, _, _, _, _, _, _, _, _, _, _, _, _, _, _, _, _, _, _, _, _, _, _, rfl, HrN.out, Y5.out, B5.out⟩
          · have HrN := Lib.hid (show r = none by rw [← HR.out, if_pos (by simp)]; exact if_neg (fun h => hk h.1))
            have hge : (17 : Int) ≤ (k : Int) := by omega
            clear HR hk
            go_wp2_with fail
            refine wp_goto ⟨rfl, _, _, _, _, _, _, _, _, _, _, _, _, _, _, _, _, _, _, _, _, _, _, _, _, _, _, _, _, _, _, _, _, _, _, _, _, _, _, _, _, _, rfl, HrN.out, Y0.out, B1.out⟩
    · have hEb : ((E : Int) != 0) = true := by simp; exact hE
      have HrN := Lib.hid (show r = none by rw [← HR.out, if_neg (fun h => hE h.1)])
      clear hE
      go_wp2_with fail
      refine wp_goto ⟨rfl, _, _, _, _, _, _, _, _, _, _, _, _, _, _, _, _, _, _, _, _, _, _, _, _, _, _, _, _, _, _, _, _, _, _, _, _, _, _, _, _, _, rfl, HrN.out, Y0.out, B1.out⟩

end Go.Proofs.Ytbkfpghpfaemeaa

/-
  The walks of 'names' and 'Name' of package record. Conditions: those that each theorem names.
-/
namespace Go.Proofs.Ytbkfpghpfaemeaa
open Go.RowKit Go.Shelf
open Go.Maps (Keyed int_keyed keyOf_int_mk)

/-- A name, as a value of the map. -/
def nameR : Value → Option (DataW Value × List MemPlace) := fun v => some (.held v, [])
def nmV (l : List UInt8) : Value := .agg #[.string ⟨l.toArray⟩]
def nmL : List (List UInt8) := [[], [98, 111, 111, 116], [99, 111, 110, 102], [105, 110, 116, 101, 110, 116], [109, 97, 100, 101], [102, 97, 105, 108], [112, 104, 97, 115, 101], [103, 111, 110, 101], [116, 97, 107, 101], [103, 117, 97, 114, 100], [99, 111, 109, 112, 108, 101, 116, 101], [115, 116, 97, 114, 116], [99, 97, 110, 99, 101, 108], [114, 111, 108, 108], [112, 97, 117, 115, 101], [103, 111], [100, 111, 110, 101]]
def nmOf (k : Nat) : List UInt8 := nmL.getD k []
set_option maxRecDepth 100000 in
theorem nmOf_out {k : Nat} (h : 17 ≤ k) : nmOf k = [] := by simp [nmOf, nmL, List.getD, h]
/-- The map of the first n names. -/
def nmD (n : Nat) : DataW Value := .map ((List.range n).map fun i => (.int .u8 ((i + 1 : Nat) : Int), .held (nmV (nmOf (i + 1)))))
set_option maxRecDepth 100000 in
theorem nmD_put {n : Nat} (h : n < 16) : (nmD n).put (.int .u8 ((n + 1 : Nat) : Int)) (.held (nmV (nmOf (n + 1)))) = nmD (n + 1) := by
  rcases kind_cases (show n < 17 by omega) with rfl | rfl | rfl | rfl | rfl | rfl | rfl | rfl | rfl | rfl | rfl | rfl | rfl | rfl | rfl | rfl | rfl
  all_goals first | rfl | omega

set_option maxRecDepth 100000 in
theorem nmD_at (k : Nat) : (nmD 16).atKey (.int .u8 (k : Int)) (.held (nmV [])) = .held (nmV (nmOf k)) := by
  rcases Nat.lt_or_ge k 17 with h | h
  · rcases kind_cases h with rfl | rfl | rfl | rfl | rfl | rfl | rfl | rfl | rfl | rfl | rfl | rfl | rfl | rfl | rfl | rfl | rfl <;> rfl
  · rw [nmOf_out h]
    have h1 : ((List.range 16).map fun i => (Lit.int .u8 ((i + 1 : Nat) : Int), DataW.held (nmV (nmOf (i + 1))))).find? (fun p => p.1.sameKey (.int .u8 (k : Int))) = none := by
      rw [List.find?_eq_none]
      intro p hp
      simp only [List.mem_map, List.mem_range] at hp
      obtain ⟨i, hi, rfl⟩ := hp
      simp only [Lit.sameKey, true_and, decide_eq_true_eq]
      omega
    simp only [nmD, DataW.atKey, h1]

/-- The map under way: its own block is the first one. -/
def NmAt (w : World) (n : Nat) (W : World) : Prop := W.ownsMap Try.prog 5 nameR w.heap.size n (nmD n) ∧ Below w.heap.size w W

def NamesPost (w : World) (e : Ending) (w' : World) : Prop := e = .returned (.map (some w.heap.size)) ∧ NmAt w 16 w'

def NamePost (k : Nat) (w : World) (e : Ending) (w' : World) : Prop := e = .returned (.string ⟨(nmOf k).toArray⟩) ∧ Below w.heap.size w w'

end Go.Proofs.Ytbkfpghpfaemeaa

/-
  The walks of 'slices.Equal' at integers, and of 'Same' of package record. Conditions: those that each theorem names.
-/
namespace Go.Proofs.Ytbkfpghpfaemeaa
open Go.RowKit Go.Shelf

/-- A bool, and no block that was there turns but by draws. -/
def QuietBool (v : Bool) (w : World) (e : Ending) (w' : World) : Prop := e = .returned (.bool v) ∧ ∃ k, w' = w.drewN k

set_option maxRecDepth 100000 in
theorem take_grow {zs zs' : List Int} {j : Nat} {x : Int} (h : zs.take j = zs'.take j) (h1 : zs[j]? = some x) (h2 : zs'[j]? = some x) : zs.take (j + 1) = zs'.take (j + 1) := by
  have l1 : j < zs.length := (List.getElem?_eq_some_iff.1 h1).1
  have l2 : j < zs'.length := (List.getElem?_eq_some_iff.1 h2).1
  rw [List.take_succ_eq_append_getElem l1, List.take_succ_eq_append_getElem l2, h]
  rw [List.getElem?_eq_getElem l1] at h1
  rw [List.getElem?_eq_getElem l2] at h2
  rw [Option.some.inj h1, Option.some.inj h2]

/-- Whether two records are the same. -/
def sameB (k : Nat) (zs : List Int) (k' : Nat) (zs' : List Int) : Bool := decide (k = k') && decide (zs = zs')

end Go.Proofs.Ytbkfpghpfaemeaa

/-
  The walks of 'All' of package record, and of the statements' 'great'. Conditions: those that each theorem names.
-/
namespace Go.Proofs.Ytbkfpghpfaemeaa
open Go.RowKit Go.Shelf

/-- A record, as an element of a slice: its kind, its slice of numbers, and what that reads as. -/
structure RE where
  k : Nat
  A : Option Addr
  n : Nat
  c : Nat
  zs : List Int

/-- A slice of records that reads as the list l, in blocks below B. -/
def RdR (w : World) (B : Nat) (A : Option Addr) (n : Nat) (l : List RE) : Prop :=
  l.length = n ∧ (0 < n → ∃ b off, A = some ⟨b, off, none⟩ ∧ b < B ∧ ∀ j x, l[j]? = some x → w.cell? ⟨b, off + j * 2, none⟩ = some (.int .u8 (x.k : Int)) ∧ w.cell? ⟨b, off + j * 2 + 1, none⟩ = some (.slice x.A x.n x.c)) ∧
    ∀ x ∈ l, x.k < 256 ∧ Rd w B x.A x.n (iv x.zs)

section
variable {w w' : World} {B B' n : Nat} {A : Option Addr} {l : List RE}
set_option maxRecDepth 100000 in
theorem RdR.below (h : RdR w B A n l) (hb : Below B w w') : RdR w' B A n l :=
  ⟨h.1, fun hn => by
    obtain ⟨b, off, e, hlt, hc⟩ := h.2.1 hn
    exact ⟨b, off, e, hlt, fun j x hx => ⟨(hb.cell (p := ⟨b, off + j * 2, none⟩) hlt).trans (hc j x hx).1, (hb.cell (p := ⟨b, off + j * 2 + 1, none⟩) hlt).trans (hc j x hx).2⟩⟩,
   fun x hx => ⟨(h.2.2 x hx).1, (h.2.2 x hx).2.below hb⟩⟩
set_option maxRecDepth 100000 in
theorem RdR.more (h : RdR w B A n l) (hB : B ≤ B') : RdR w B' A n l :=
  ⟨h.1, fun hn => by
    obtain ⟨b, off, e, hlt, hc⟩ := h.2.1 hn
    exact ⟨b, off, e, by omega, hc⟩, fun x hx => ⟨(h.2.2 x hx).1, (h.2.2 x hx).2.more hB⟩⟩
end

set_option maxRecDepth 100000 in
/-- A literal of one record; of two. -/
theorem rdR_one (W : World) (x : RE) (B : Nat) (hB : B ≤ W.heap.size) (hk : x.k < 256) (hr : Rd W B x.A x.n (iv x.zs)) (b : Nat) (hb : W.heap.size = b) :
    RdR (W.alloc (.cells #[.int .u8 (x.k : Int), .slice x.A x.n x.c] 43)) (b + 1) (some ⟨b, 0, none⟩) 1 [x] := by
  subst hb
  refine ⟨rfl, fun _ => ⟨W.heap.size, 0, rfl, by omega, ?_⟩, ?_⟩
  · rintro (_ | j) y hy
    · simp only [List.getElem?_cons_zero, Option.some.injEq] at hy
      subst hy
      exact ⟨cell_new W _ _ 0, cell_new W _ _ 1⟩
    · simp at hy
  · intro y hy
    simp only [List.mem_singleton] at hy
    subst hy
    exact ⟨hk, (hr.alloc hB _).more (by omega)⟩

set_option maxRecDepth 100000 in
theorem rdR_two (W : World) (x y : RE) (B : Nat) (hB : B ≤ W.heap.size) (hk : x.k < 256) (hr : Rd W B x.A x.n (iv x.zs)) (hk' : y.k < 256) (hr' : Rd W B y.A y.n (iv y.zs)) (b : Nat) (hb : W.heap.size = b) :
    RdR (W.alloc (.cells #[.int .u8 (x.k : Int), .slice x.A x.n x.c, .int .u8 (y.k : Int), .slice y.A y.n y.c] 43)) (b + 1) (some ⟨b, 0, none⟩) 2 [x, y] := by
  subst hb
  refine ⟨rfl, fun _ => ⟨W.heap.size, 0, rfl, by omega, ?_⟩, ?_⟩
  · rintro (_ | _ | j) z hz
    · simp only [List.getElem?_cons_zero, Option.some.injEq] at hz
      subst hz
      exact ⟨cell_new W _ _ 0, cell_new W _ _ 1⟩
    · simp only [List.getElem?_cons_succ, List.getElem?_cons_zero, Option.some.injEq] at hz
      subst hz
      exact ⟨cell_new W _ _ 2, cell_new W _ _ 3⟩
    · simp at hz
  · intro z hz
    simp only [List.mem_cons, List.not_mem_nil, or_false] at hz
    rcases hz with rfl | rfl
    · exact ⟨hk, (hr.alloc hB _).more (by omega)⟩
    · exact ⟨hk', (hr'.alloc hB _).more (by omega)⟩

def allB (l : List RE) : Bool := l.all fun x => mayB x.k x.zs
set_option maxRecDepth 100000 in
theorem allB_take {l : List RE} {j : Nat} {x : RE} (hx : l[j]? = some x) : allB (l.take (j + 1)) = (allB (l.take j) && mayB x.k x.zs) := by
  have hjl : j < l.length := (List.getElem?_eq_some_iff.1 hx).1
  rw [List.take_succ_eq_append_getElem hjl]
  rw [List.getElem?_eq_getElem hjl] at hx
  rw [Option.some.inj hx]
  simp [allB]
set_option maxRecDepth 100000 in
theorem allB_no {l : List RE} {j : Nat} {x : RE} (hx : l[j]? = some x) (h : mayB x.k x.zs = false) : allB l = false := by
  have hjl : j < l.length := (List.getElem?_eq_some_iff.1 hx).1
  have hm : x ∈ l := List.mem_of_getElem? hx
  simp only [allB, List.all_eq_false]
  exact ⟨x, hm, by simp [h]⟩

def greatB (l : List RE) : Bool := ((l.take 41).any fun x => decide (60 < x.n)) || decide (40 < l.length)

set_option maxRecDepth 100000 in
theorem greatB_no {l : List RE} (h : greatB l = false) : l.length ≤ 40 ∧ ∀ x ∈ l, x.n ≤ 60 := by
  simp only [greatB, Bool.or_eq_false_iff, decide_eq_false_iff_not, List.any_eq_false, decide_eq_true_eq] at h
  refine ⟨by omega, fun x hx => ?_⟩
  have h1 := h.1 x (by rw [List.take_of_length_le (by omega)]; exact hx)
  omega
set_option maxRecDepth 100000 in
theorem great_yes {l : List RE} {j : Nat} {x : RE} (hj : j ≤ 40) (hx : l[j]? = some x) (h : 60 < x.n) : greatB l = true := by
  have h1 : (l.take 41)[j]? = some x := by rw [List.getElem?_take, if_pos (by omega)]; exact hx
  simp only [greatB, Bool.or_eq_true, List.any_eq_true, decide_eq_true_eq]
  exact .inl ⟨x, List.mem_of_getElem? h1, h⟩
set_option maxRecDepth 100000 in
theorem great_end {l : List RE} {j : Nat} (hj : j ≤ 41) (he : j = 41 ∨ j = l.length) (h : (l.take j).any (fun x => decide (60 < x.n)) = false) : greatB l = decide (40 < l.length) := by
  have h1 : (l.take 41).any (fun x => decide (60 < x.n)) = false := by
    rcases he with rfl | rfl
    · exact h
    · rwa [List.take_of_length_le (by omega)] at h ⊢
  rw [greatB, h1, Bool.false_or]

end Go.Proofs.Ytbkfpghpfaemeaa

/-
  The walk of the statements' 'wakes' of records: it answers true, and nothing that was there turns. Conditions: none.
-/
namespace Go.Proofs.Ytbkfpghpfaemeaa
open Go.RowKit Go.Shelf

set_option maxRecDepth 100000 in
theorem recB_boot : recB 1 [] = [1, 1] := by
  have e1 : put 1 = [1] := put_small (by omega)
  simp [recB, row, nats, puts, e1]
set_option maxRecDepth 100000 in
theorem put_boot (w : World) : Calls Try.prog 71 #[.agg #[.int .u8 1, .slice none 0 0]] w (TwoPost w.heap.size 2 (bv [1, 1]) w) := by
  have h := putRec_yes 1 none 0 0 [] 0 w (Rd.nil_ _ _ _) (Nat.zero_le _) (by decide)
  rw [recB_boot] at h
  exact h
set_option maxRecDepth 100000 in
theorem put_gone (w : World) : Calls Try.prog 71 #[.agg #[.int .u8 7, .slice none 0 0]] w fun e w' => e = .returned (.tuple #[.slice none 0 0, .int .i64 2]) ∧ Below w.heap.size w w' :=
  putRec_no 7 (by omega) none 0 0 [] 0 w (Rd.nil_ _ _ _) (Nat.zero_le _) (by decide)
set_option maxRecDepth 100000 in
theorem taken_made : takenRec [4, 4, 9, 2, 0] = some (4, [9, 2, 0]) := by decide
set_option maxRecDepth 100000 in
theorem taken_none : takenRec [1, 0] = none := by decide
set_option maxRecDepth 100000 in
theorem take_made (c : Nat) (hc : 5 ≤ c) (A : Option Addr) (B : Nat) (w : World) (hr : Rd w B A 5 (bv [4, 4, 9, 2, 0])) (hB : B ≤ w.heap.size) : Calls Try.prog 42 #[.slice A 5 c] w (YesRec 4 [9, 2, 0] w) :=
  takeRec_is A 5 c [4, 4, 9, 2, 0] B w hr hB (by decide) (by omega) hc taken_made
set_option maxRecDepth 100000 in
theorem take_none (c : Nat) (hc : 2 ≤ c) (A : Option Addr) (B : Nat) (w : World) (hr : Rd w B A 2 (bv [1, 0])) (hB : B ≤ w.heap.size) : Calls Try.prog 42 #[.slice A 2 c] w (NoRec w) :=
  takeRec_is A 2 c [1, 0] B w hr hB (by decide) (by omega) hc taken_none
set_option maxRecDepth 100000 in
theorem of_gone (A : Option Addr) (c : Nat) (B : Nat) (w : World) (hr : Rd w B A 1 (iv [5])) (hB : B ≤ w.heap.size) : Calls Try.prog 60 #[.int .u8 7, .slice A 1 c] w (RecIs 7 [5] w) := of_any 7 A 1 c [5] B w hr hB (by omega)
end Go.Proofs.Ytbkfpghpfaemeaa

/-
  The walks of the document's own 'many', 'Right' and 'Same' of records. Conditions: those that each theorem names.
-/
namespace Go.Proofs.Ytbkfpghpfaemeaa
open Go.RowKit Go.Shelf

def rlo (k : Nat) : Int := if 0 < k ∧ k < 17 then (lo k : Int) else -1
def rhi (k : Nat) : Int := if 0 < k ∧ k < 17 then (hi k : Int) else -1

set_option maxRecDepth 100000 in
set_option maxHeartbeats 4000000 in
theorem refMany_any (k : Nat) (w : World) :
    Calls Try.prog 39 #[.int .u8 (k : Int)] w fun e w' => e = .returned (.tuple #[.int .i64 (rlo k), .int .i64 (rhi k)]) ∧ w = w' := by
  rcases Nat.lt_or_ge k 17 with h | h
  · rcases kind_cases h with rfl | rfl | rfl | rfl | rfl | rfl | rfl | rfl | rfl | rfl | rfl | rfl | rfl | rfl | rfl | rfl | rfl
    all_goals
      clear h
      go_enter Try.func39, Try.ntmps39
      go_wp2
      go_ret2
      exact ⟨rfl, rfl⟩
  · rw [show rlo k = -1 from if_neg (by omega), show rhi k = -1 from if_neg (by omega)]
    obtain ⟨z, hz⟩ : ∃ z : Int, (k : Int) = z := ⟨_, rfl⟩
    have h17 : 17 ≤ z := by omega
    rw [hz]
    clear hz h
    have e1 := kind_ne h17 1 (by omega)
    have e2 := kind_ne h17 2 (by omega)
    have e3 := kind_ne h17 3 (by omega)
    have e4 := kind_ne h17 4 (by omega)
    have e5 := kind_ne h17 5 (by omega)
    have e6 := kind_ne h17 6 (by omega)
    have e7 := kind_ne h17 7 (by omega)
    have e8 := kind_ne h17 8 (by omega)
    have e9 := kind_ne h17 9 (by omega)
    have e10 := kind_ne h17 10 (by omega)
    have e11 := kind_ne h17 11 (by omega)
    have e12 := kind_ne h17 12 (by omega)
    have e13 := kind_ne h17 13 (by omega)
    have e14 := kind_ne h17 14 (by omega)
    have e15 := kind_ne h17 15 (by omega)
    have e16 := kind_ne h17 16 (by omega)
    clear h17
    go_enter Try.func39, Try.ntmps39
    go_wp2
    go_ret2
    exact ⟨rfl, rfl⟩

set_option maxRecDepth 100000 in
theorem mayB_none {k : Nat} {zs : List Int} (h : ¬ (0 < k ∧ k < 17)) : mayB k zs = false := by
  cases h1 : mayB k zs
  · rfl
  · exact absurd (mayB_kind h1) h

set_option maxRecDepth 100000 in
set_option maxHeartbeats 1000000 in
theorem refRight_out (k : Nat) (A : Option Addr) (n c : Nat) (w : World) (h : ¬ (0 < k ∧ k < 17) ∨ ((0 < k ∧ k < 17) ∧ n < lo k) ∨ ((0 < k ∧ k < 17) ∧ lo k ≤ n ∧ hi k < n)) :
    Calls Try.prog 22 #[.agg #[.int .u8 (k : Int), .slice A n c]] w (BoolPost false w) := by
  have HM := Lib.hid (fun W => refMany_any k W)
  rcases h with h | ⟨h0, h⟩ | ⟨h0, h1, h⟩
  · rw [show rlo k = -1 from if_neg h, show rhi k = -1 from if_neg h] at HM
    clear h
    go_enter Try.func22, Try.ntmps22
    go_wp2_with fail
    refine (HM.out _).mono ?_
    rintro e w1 ⟨rfl, rfl⟩
    go_wp2_with fail
    go_ret
    exact ⟨rfl, (Below.refl _ w).alloc (Nat.le_refl _) _⟩
  all_goals
    rw [show rlo k = (lo k : Int) from if_pos h0, show rhi k = (hi k : Int) from if_pos h0] at HM
    clear h0
    obtain ⟨L, hL⟩ : ∃ L, lo k = L := ⟨_, rfl⟩
    obtain ⟨H, hH⟩ : ∃ H, hi k = H := ⟨_, rfl⟩
    simp only [hL, hH] at HM h
    try rw [hL] at h1
    clear hL hH
    have d0 : decide ((L : Int) < 0) = false := by simp
    try have d1 : decide (n < L) = false := by simp; omega
    go_enter Try.func22, Try.ntmps22
    go_wp2_with fail
    refine (HM.out _).mono ?_
    rintro e w1 ⟨rfl, rfl⟩
    go_wp2_with fail
    go_ret
    exact ⟨rfl, (Below.refl _ w).alloc (Nat.le_refl _) _⟩

set_option maxRecDepth 100000 in
set_option maxHeartbeats 1000000 in
theorem refRight_in (k : Nat) (hk : 0 < k ∧ k < 17) (A : Option Addr) (n c : Nat) (zs : List Int) (w : World) (hr : Rd w w.heap.size A n (iv zs)) (h1 : lo k ≤ n) (h2 : n ≤ hi k) :
    Calls Try.prog 22 #[.agg #[.int .u8 (k : Int), .slice A n c]] w (BoolPost (zs.all isNum) w) := by
  have HM := Lib.hid (fun W => refMany_any k W)
  have hn : n ≤ 18 := by have := hi_le k; omega
  rw [show rlo k = (lo k : Int) from if_pos hk, show rhi k = (hi k : Int) from if_pos hk] at HM
  obtain ⟨L, hL⟩ : ∃ L, lo k = L := ⟨_, rfl⟩
  obtain ⟨H, hH⟩ : ∃ H, hi k = H := ⟨_, rfl⟩
  simp only [hL, hH] at HM h1 h2
  clear hL hH hk
  have hl : zs.length = n := by have := hr.1; rwa [iv_length] at this
  have Hl := Lib.hid hl
  have Hr := Lib.hid ((hr.below ((Below.refl _ w).alloc (Nat.le_refl _) (.cells #[.int .u8 (k : Int), .slice A n c] 43))))
  clear hr hl
  have d0 : decide ((L : Int) < 0) = false := by simp
  have d1 : decide (n < L) = false := by simp; omega
  have d2 : decide (H < n) = false := by simp; omega
  have hb : Below w.heap.size w (w.alloc (.cells #[.int .u8 (k : Int), .slice A n c] 43)) := (Below.refl _ w).alloc (Nat.le_refl _) _
  have HB := Lib.hid hb
  clear h1 h2 hb
  go_enter Try.func22, Try.ntmps22
  go_wp2_with fail
  refine (HM.out _).mono ?_
  rintro e w1 ⟨rfl, rfl⟩
  go_wp2_with fail
  go_loop [5] (fun i => ∃ j : Nat, i = .int .i64 (j : Int) ∧ j ≤ n ∧ (zs.take j).all isNum = true) (fun i => n - (intOf i).toNat)
  case atStart => exact ⟨0, rfl, Nat.zero_le _, rfl⟩
  case round =>
    obtain ⟨j, rfl, hj, hT⟩ := hrel
    have HT := Lib.hid hT
    clear hT
    by_cases hlt : j < n
    · obtain ⟨b, off, rfl, _, hc⟩ := Hr.out.2 (by omega)
      have hjl : j < zs.length := by rw [Hl.out]; exact hlt
      obtain ⟨x, hx⟩ : ∃ x, zs[j]? = some x := ⟨_, List.getElem?_eq_getElem hjl⟩
      have h1 := hc j hlt
      rw [show (iv zs)[j]? = some (.int .i64 x) by simp [iv, hx]] at h1
      have hI : (j : Int) < (n : Int) := by omega
      have HX := Lib.hid hx
      have HS : Hid ((zs.take (j + 1)).all isNum = ((zs.take j).all isNum && isNum x)) := by
        have e1 : zs.take (j + 1) = zs.take j ++ [x] := by
          rw [List.take_succ_eq_append_getElem hjl]
          rw [List.getElem?_eq_getElem hjl] at hx
          rw [Option.some.inj hx]
        show (zs.take (j + 1)).all isNum = ((zs.take j).all isNum && isNum x)
        rw [e1, List.all_append]; simp
      have HF : Hid (isNum x = false → zs.all isNum = false) := fun h => by
        rw [← List.take_append_drop (j + 1) zs, List.all_append, HS.out, h]; simp
      clear hc hx hjl
      by_cases hx0 : 0 ≤ x
      · by_cases hx1 : x ≤ 1099511627776
        · have HN := Lib.hid (isNum_yes hx0 hx1)
          go_wp2_with fail
          go_round
          case rel => exact ⟨j + 1, by go_num, by omega, by rw [HS.out, HT.out, HN.out]; rfl⟩
          case measure => simp [intOf]; omega
        · have HN := Lib.hid (show isNum x = false by simp [isNum, hx1])
          go_wp2_with fail
          go_ret
          exact ⟨by rw [HF.out HN.out]; rfl, HB.out⟩
      · have HN := Lib.hid (show isNum x = false by simp [isNum, hx0])
        go_wp2_with fail
        go_ret
        exact ⟨by rw [HF.out HN.out]; rfl, HB.out⟩
    · have HA := Lib.hid (show zs.all isNum = true by have h1 := HT.out; rwa [List.take_of_length_le (by have := Hl.out; omega)] at h1)
      go_wp2_with fail
      go_ret
      exact ⟨by rw [HA.out]; rfl, HB.out⟩

set_option maxRecDepth 100000 in
theorem refRight_any (k : Nat) (A : Option Addr) (n c : Nat) (zs : List Int) (B : Nat) (w : World) (hr : Rd w B A n (iv zs)) (hB : B ≤ w.heap.size) :
    Calls Try.prog 22 #[.agg #[.int .u8 (k : Int), .slice A n c]] w (BoolPost (mayB k zs) w) := by
  have hl : zs.length = n := by have := hr.1; rwa [iv_length] at this
  by_cases h0 : 0 < k ∧ k < 17
  · by_cases h1 : lo k ≤ n
    · by_cases h2 : n ≤ hi k
      · have e : mayB k zs = zs.all isNum := by simp [mayB, hl, h1, h2]
        rw [e]
        exact refRight_in k h0 A n c zs w (hr.more hB) h1 h2
      · rw [mayB_long (by omega)]
        exact refRight_out k A n c w (.inr (.inr ⟨h0, h1, by omega⟩))
    · rw [mayB_short (by omega)]
      exact refRight_out k A n c w (.inr (.inl ⟨h0, by omega⟩))
  · rw [mayB_none h0]
    exact refRight_out k A n c w (.inl h0)

set_option maxRecDepth 100000 in
set_option maxHeartbeats 1000000 in
theorem refSameRec_any (k k' : Nat) (A A' : Option Addr) (n c n' c' : Nat) (zs zs' : List Int) (B B' : Nat) (w : World) (hr : Rd w B A n (iv zs)) (hr' : Rd w B' A' n' (iv zs')) (hB : B ≤ w.heap.size) (hB' : B' ≤ w.heap.size) (hn : n ≤ 1000000) :
    Calls Try.prog 26 #[.agg #[.int .u8 (k : Int), .slice A n c], .agg #[.int .u8 (k' : Int), .slice A' n' c']] w (BoolPost (sameB k zs k' zs') w) := by
  have hl : zs.length = n := by have := hr.1; rwa [iv_length] at this
  have hl' : zs'.length = n' := by have := hr'.1; rwa [iv_length] at this
  have hb : Below w.heap.size w ((w.alloc (.cells #[.int .u8 (k : Int), .slice A n c] 43)).alloc (.cells #[.int .u8 (k' : Int), .slice A' n' c'] 43)) := ((Below.refl _ w).alloc (Nat.le_refl _) _).alloc (by simp) _
  have HB := Lib.hid hb
  by_cases hk : k = k'
  · subst hk
    by_cases hne : n = n'
    · subst hne
      obtain ⟨W0, hW0⟩ : ∃ W0, (w.alloc (.cells #[.int .u8 (k : Int), .slice A n c] 43)).alloc (.cells #[.int .u8 (k : Int), .slice A' n c'] 43) = W0 := ⟨_, rfl⟩
      have x1 : Whole W0 w.heap.size 43 #[.int .u8 (k : Int), .slice A n c] := by rw [← hW0]; exact (Whole.new w _ _).alloc _
      have x2 : Whole W0 (w.heap.size + 1) 43 #[.int .u8 (k : Int), .slice A' n c'] := by rw [← hW0]; have := Whole.new (w.alloc (.cells #[.int .u8 (k : Int), .slice A n c] 43)) 43 #[.int .u8 (k : Int), .slice A' n c']; rwa [World.size_alloc] at this
      have p0 := x1.cell 0
      have p1 := x1.cell 1
      have q0 := x2.cell 0
      have q1 := x2.cell 1
      simp only [List.getElem?_toArray, List.getElem?_cons_zero, List.getElem?_cons_succ] at p0 p1 q0 q1
      rw [hW0] at HB hb
      have HR := Lib.hid (hr.below (hb.mono hB))
      have HR' := Lib.hid (hr'.below (hb.mono hB'))
      have HL := Lib.hid hl
      have HL' := Lib.hid hl'
      have HS := Lib.hid (show sameB k zs k zs' = decide (zs = zs') by simp [sameB])
      clear hr hr' hl hl' hb x1 x2
      go_enter Try.func26, Try.ntmps26
      go_wp2_with fail
      go_loopw [5] (fun i wr => ∃ j : Nat, i = .int .i64 (j : Int) ∧ j ≤ n ∧ zs.take j = zs'.take j ∧ ∃ m, wr = W0.drewN m) (fun i _ => n - (intOf i).toNat)
      case atStart => exact ⟨0, rfl, Nat.zero_le _, rfl, 0, rfl⟩
      case round =>
        obtain ⟨j, rfl, hj, hT, m, rfl⟩ := hrel
        have HT := Lib.hid hT
        clear hT
        by_cases hlt : j < n
        · obtain ⟨b, off, rfl, _, hc⟩ := HR.out.2 (by omega)
          obtain ⟨b', off', rfl, _, hc'⟩ := HR'.out.2 (by omega)
          have hjl : j < zs.length := by rw [HL.out]; exact hlt
          have hjl' : j < zs'.length := by rw [HL'.out]; exact hlt
          obtain ⟨x, hx⟩ : ∃ x, zs[j]? = some x := ⟨_, List.getElem?_eq_getElem hjl⟩
          obtain ⟨y, hy⟩ : ∃ y, zs'[j]? = some y := ⟨_, List.getElem?_eq_getElem hjl'⟩
          have h1 := hc j hlt
          have h2 := hc' j hlt
          rw [show (iv zs)[j]? = some (.int .i64 x) by simp [iv, hx]] at h1
          rw [show (iv zs')[j]? = some (.int .i64 y) by simp [iv, hy]] at h2
          have hI : (j : Int) < (n : Int) := by omega
          have HX := Lib.hid hx
          have HY := Lib.hid hy
          have HW0 := Lib.hid hW0
          clear hc hc' hx hy hjl hjl' hW0
          by_cases hxy : x = y
          · subst hxy
            go_wp2_with fail
            go_quiet (fail)
            go_wp2_with fail
            go_roundw
            case rel => exact ⟨j + 1, by go_num, by omega, take_grow HT.out HX.out HY.out, _, rfl⟩
            case measure => simp [intOf]; omega
          · have hb1 : (x == y) = false := by rw [beq_eq_false_iff_ne]; exact hxy
            have hb2 : (x != y) = true := by simp [bne, hb1]
            have HF := Lib.hid (show decide (zs = zs') = false by rw [decide_eq_false_iff_not]; rintro rfl; have h3 := HX.out; rw [HY.out] at h3; exact hxy (Option.some.inj h3).symm)
            clear hxy
            go_wp2_with fail
            go_quiet (fail)
            go_wp2_with fail
            go_ret
            exact ⟨by rw [HS.out, HF.out]; rfl, below_drewN (below_drewN HB.out _) _⟩
        · have HF := Lib.hid (show decide (zs = zs') = true by
            rw [decide_eq_true_eq]
            have h1 := HT.out
            rwa [List.take_of_length_le (by have := HL.out; omega), List.take_of_length_le (by have := HL'.out; omega)] at h1)
          have HW0 := Lib.hid hW0
          clear hW0
          go_wp2_with fail
          go_ret
          exact ⟨by rw [HS.out, HF.out]; rfl, below_drewN HB.out _⟩
    · have HF := Lib.hid (show sameB k zs k zs' = false by
        have h1 : ¬ zs = zs' := by rintro rfl; omega
        simp [sameB, h1])
      have hb1 : ((n : Int) == (n' : Int)) = false := by rw [beq_eq_false_iff_ne]; omega
      have hb2 : ((n : Int) != (n' : Int)) = true := by simp [bne, hb1]
      clear hr hr' hl hl' hne hb
      go_enter Try.func26, Try.ntmps26
      go_wp2_with fail
      go_ret
      exact ⟨by rw [HF.out]; rfl, HB.out⟩
  · have HF := Lib.hid (show sameB k zs k' zs' = false by simp [sameB, hk])
    have hb1 : ((k : Int) == (k' : Int)) = false := by rw [beq_eq_false_iff_ne]; omega
    have hb2 : ((k : Int) != (k' : Int)) = true := by simp [bne, hb1]
    clear hr hr' hl hl' hk hb
    go_enter Try.func26, Try.ntmps26
    go_wp2_with fail
    go_ret
    exact ⟨by rw [HF.out]; rfl, HB.out⟩

end Go.Proofs.Ytbkfpghpfaemeaa

/-
  What statements are handed: bytes, numbers, rows of them, opened to lists. Conditions: those that each theorem names.
-/
namespace Go.Proofs.Ytbkfpghpfaemeaa
open Go.RowKit Go.Shelf Go.ChangeShapes Go.WideShapes Go.Deep Go.Joins

section
variable {H : Type} {enc : TypeId × Value → H} {W : World} {base : Nat} {held : Bool} {d : DataW H} {p : List MemPlace} {v : Value}

set_option maxRecDepth 100000 in
theorem open_u8 (hv : Value.okWide Try.prog W .any base 5 v) (h : DataW.Trod enc Try.prog W 0 (fun _ => true) held 5 v d p) : ∃ k : Nat, v = .int .u8 (k : Int) ∧ k < 256 := by
  obtain ⟨z, rfl, _, _, hw⟩ := open_int Try.underlying5 hv h
  have hb := bounds_u8 hw
  obtain ⟨k, rfl⟩ := Int.eq_ofNat_of_zero_le hb.1
  exact ⟨k, rfl, by omega⟩

set_option maxRecDepth 100000 in
theorem open_i64 (hv : Value.okWide Try.prog W .any base 3 v) (h : DataW.Trod enc Try.prog W 0 (fun _ => true) held 3 v d p) : ∃ z : Int, v = .int .i64 z ∧ (Lit.int .i64 z).wf = true := by
  obtain ⟨z, rfl, _, _, hw⟩ := open_int Try.underlying3 hv h
  exact ⟨z, rfl, hw⟩

set_option maxRecDepth 100000 in
/-- A slice of integers, its one cell read. -/
theorem open_intsC {n : Nat} {y : DataW H × List MemPlace} (h : DataW.trod enc Try.prog W 0 (fun _ => true) held n 41 [v] = some y) : ∃ A m c zs, v = .slice A m c ∧ Rd W W.heap.size A m (iv zs) ∧ m ≤ c ∧ c ≤ maxLen := by
  rcases open_ints Try.underlying41 Try.underlying3 (by kernel_rfl) h with ⟨hcs, _⟩ | ⟨x, l, c, zs, hcs, _, hl, hm, hz, _, hcell, hwz⟩
  · simp only [List.cons.injEq, and_true] at hcs
    subst hcs
    exact ⟨none, 0, 0, [], rfl, Rd.nil_ _ _ _, Nat.le_refl _, by omega⟩
  · simp only [List.cons.injEq, and_true] at hcs
    subst hcs
    obtain ⟨h1, h2, h3⟩ := rd_of_ints (w := W) (a := some x) (len := l) (cap := c) (zs := zs) (.inr ⟨x, rfl, hl, hm, by simpa using hz, hcell, hwz⟩)
    exact ⟨_, _, _, _, rfl, h1, h2, h3⟩

set_option maxRecDepth 100000 in
theorem open_intsV (hv : Value.okWide Try.prog W .any base 41 v) (h : DataW.Trod enc Try.prog W 0 (fun _ => true) held 41 v d p) : ∃ A m c zs, v = .slice A m c ∧ Rd W W.heap.size A m (iv zs) ∧ m ≤ c ∧ c ≤ maxLen := by
  obtain ⟨A, m, c, rfl⟩ := okWide_slice Try.underlying41 hv
  obtain ⟨fuel, hf⟩ := h
  exact open_intsC hf

set_option maxRecDepth 100000 in
theorem open_bytesV (hv : Value.okWide Try.prog W .any base 22 v) (h : DataW.Trod enc Try.prog W 0 (fun _ => true) held 22 v d p) : ∃ A m c bs, v = .slice A m c ∧ Rd W W.heap.size A m (bv bs) ∧ (∀ x ∈ bs, x < 256) ∧ m ≤ c ∧ c ≤ maxLen := by
  obtain ⟨A, m, c, rfl⟩ := okWide_slice Try.underlying22 hv
  obtain ⟨fuel, hf⟩ := h
  rcases open_ints Try.underlying22 Try.underlying5 (by kernel_rfl) hf with ⟨hcs, _⟩ | ⟨x, l, c', zs, hcs, _, hl, hm, hz, _, hcell, hwz⟩
  · simp [Value.cells] at hcs
    obtain ⟨rfl, rfl, rfl⟩ := hcs
    exact ⟨none, 0, 0, [], rfl, Rd.nil_ _ _ _, by simp, Nat.le_refl _, by omega⟩
  · simp [Value.cells] at hcs
    obtain ⟨rfl, rfl, rfl⟩ := hcs
    obtain ⟨bs, h1, h2, h3, h4⟩ := rd_of_bytes (w := W) (a := some x) (len := m) (cap := c) (zs := zs) (.inr ⟨x, rfl, hl, hm, by simpa using hz, hcell, hwz⟩)
    exact ⟨_, _, _, bs, rfl, h1, h2, h3, h4⟩

set_option maxRecDepth 100000 in
theorem open_kindC {n : Nat} {y : DataW H × List MemPlace} (h : DataW.trod enc Try.prog W 0 (fun _ => true) held n 5 [v] = some y) : ∃ k : Nat, v = .int .u8 (k : Int) ∧ k < 256 := by
  obtain ⟨z, hz, _, hw⟩ := DataW.trod_int Try.underlying5 h
  simp only [List.cons.injEq, and_true] at hz
  have hb := bounds_u8 hw
  obtain ⟨k, rfl⟩ := Int.eq_ofNat_of_zero_le hb.1
  exact ⟨k, hz, by omega⟩
end

end Go.Proofs.Ytbkfpghpfaemeaa

/-
  What the statements over records are handed: records, rows of them, bytes, numbers, opened to lists. Conditions: those that each theorem names.
-/
namespace Go.Proofs.Ytbkfpghpfaemeaa
open Go.RowKit Go.Shelf Go.ChangeShapes Go.WideShapes Go.Deep Go.Joins

section
variable {H : Type} {enc : TypeId × Value → H} {W : World} {base : Nat} {held : Bool} {d : DataW H} {p : List MemPlace} {v : Value}

set_option maxRecDepth 100000 in
theorem open_recV (hv : Value.okWide Try.prog W .any base 43 v) (h : DataW.Trod enc Try.prog W 0 (fun _ => true) held 43 v d p) :
    ∃ k A n c zs, v = .agg #[.int .u8 ((k : Nat) : Int), .slice A n c] ∧ k < 256 ∧ Rd W W.heap.size A n (iv zs) ∧ n ≤ maxLen := by
  obtain ⟨v0, v1, y0, y1, m, rfl, _, _, h0, h1⟩ := open_agg2 Try.underlying43 (by kernel_rfl) (by kernel_rfl) hv h
  obtain ⟨k, rfl, hk⟩ := open_kindC h0
  obtain ⟨A, n, c, zs, rfl, hr, h2, h3⟩ := open_intsC h1
  exact ⟨k, A, n, c, zs, rfl, hk, hr, by omega⟩

set_option maxRecDepth 100000 in
theorem open_recsV (hv : Value.okWide Try.prog W .any base 25 v) (h : DataW.Trod enc Try.prog W 0 (fun _ => true) held 25 v d p) :
    ∃ A n c l, v = .slice A n c ∧ RdR W W.heap.size A n l ∧ n ≤ maxLen := by
  obtain ⟨A, n, c, rfl⟩ := okWide_slice Try.underlying25 hv
  obtain ⟨fuel, hf⟩ := h
  rcases open_slice Try.underlying25 hf with ⟨hcs, _⟩ | ⟨a, len, cap, m, n', D, Pl, hcs, _, hl, hm, hmm, _, hi⟩
  · simp [Value.cells] at hcs
    obtain ⟨rfl, rfl, rfl⟩ := hcs
    exact ⟨none, 0, 0, [], rfl, ⟨rfl, fun h => absurd h (by omega), by simp⟩, by unfold maxLen; omega⟩
  · simp [Value.cells] at hcs
    obtain ⟨rfl, rfl, rfl⟩ := hcs
    have hC : Try.prog.cellsOf 43 = 2 := by kernel_rfl
    have k5 : Try.prog.cellsOf 5 = 1 := by kernel_rfl
    have k22 : Try.prog.cellsOf 41 = 1 := by kernel_rfl
    have hmc : m = c := by simpa using hmm
    have each : ∀ i, i < n → ∃ x : RE, W.cell? (a.add (i * 2)) = some (.int .u8 (x.k : Int)) ∧ W.cell? (a.add (i * 2 + 1)) = some (.slice x.A x.n x.c) ∧ x.k < 256 ∧ Rd W W.heap.size x.A x.n (iv x.zs) := by
      intro i hin
      obtain ⟨cs', hc, ht'⟩ := hi i (by omega)
      rw [hC] at hc
      obtain ⟨_, hcl, hat⟩ := World.cells?_some hc
      obtain ⟨y0, y1, q, _, _, h0, h1⟩ := trod_struct2 Try.underlying43 ht'
      match cs', hcl with
      | [c0, c1], _ =>
        have h0' : DataW.trod enc Try.prog W 0 (fun _ => true) held q 5 [c0] = some y0 := by simpa [k5] using h0
        have h1' : DataW.trod enc Try.prog W 0 (fun _ => true) held q 41 [c1] = some y1 := by simpa [k22] using h1
        obtain ⟨k, rfl, hk⟩ := open_kindC h0'
        obtain ⟨A, n1, c', zs, rfl, hr, _, _⟩ := open_intsC h1'
        have g0 := hat 0 (by omega)
        have g1 := hat 1 (by omega)
        rw [Go.Deep.add_add] at g0 g1
        exact ⟨⟨k, A, n1, c', zs⟩, by simpa using g0, by simpa using g1, hk, hr⟩
    have build : ∀ j, j ≤ n → ∃ l : List RE, l.length = j ∧ (∀ i x, l[i]? = some x → W.cell? (a.add (i * 2)) = some (.int .u8 (x.k : Int)) ∧ W.cell? (a.add (i * 2 + 1)) = some (.slice x.A x.n x.c)) ∧ ∀ x ∈ l, x.k < 256 ∧ Rd W W.heap.size x.A x.n (iv x.zs) := by
      intro j
      induction j with
      | zero => intro _; exact ⟨[], rfl, by simp, by simp⟩
      | succ j ih =>
        intro hj
        obtain ⟨l, hl1, hl2, hl3⟩ := ih (by omega)
        obtain ⟨x, x1, x2, x3, x4⟩ := each j (by omega)
        refine ⟨l ++ [x], by simp [hl1], ?_, ?_⟩
        · intro i y hy
          rcases Nat.lt_or_ge i l.length with h | h
          · rw [List.getElem?_append_left h] at hy
            exact hl2 i y hy
          · rw [List.getElem?_append_right h] at hy
            have h0 : i - l.length = 0 := by
              rcases Nat.eq_zero_or_pos (i - l.length) with h1 | h1
              · exact h1
              · rw [List.getElem?_eq_none (by simp; omega)] at hy; cases hy
            rw [h0] at hy
            simp only [List.getElem?_cons_zero, Option.some.injEq] at hy
            subst hy
            obtain rfl : i = j := by omega
            exact ⟨x1, x2⟩
        · intro y hy
          simp only [List.mem_append, List.mem_singleton] at hy
          rcases hy with hy | rfl
          · exact hl3 y hy
          · exact ⟨x3, x4⟩
    obtain ⟨l, hl1, hl2, hl3⟩ := build n (Nat.le_refl _)
    refine ⟨_, _, _, l, rfl, ⟨hl1, fun hn => ?_, hl3⟩, by omega⟩
    obtain ⟨x, hx⟩ : ∃ x, l[0]? = some x := ⟨_, List.getElem?_eq_getElem (by omega)⟩
    obtain ⟨b, off, spot⟩ := a
    have hspot : spot = none := by simpa [Addr.add] using World.cell?_spot (hl2 0 x hx).1
    subst hspot
    refine ⟨b, off, rfl, World.block_lt_of_cell? W _ (hl2 0 x hx).1, fun j y hy => ?_⟩
    have h1 := hl2 j y hy
    rw [Go.WideShapes.add_plain, Go.WideShapes.add_plain] at h1
    exact h1
end

end Go.Proofs.Ytbkfpghpfaemeaa

/-
  The walk of the statement 'RecordOnly': it answers true, and nothing that was there turns. Conditions: none.
-/
namespace Go.Proofs.Ytbkfpghpfaemeaa
open Go.RowKit Go.Shelf

set_option maxRecDepth 100000 in
theorem recB_ints (k : Nat) (l : List Nat) : recB k (ints l) = row (k :: l) := by
  have h : nats ((k : Int) :: ints l) = k :: l := by
    have := nats_ints (k :: l)
    simpa [ints] using this
  rw [recB, h]
set_option maxRecDepth 100000 in
theorem taken_some {bs : List Nat} {k : Nat} {l : List Nat} (hb : ∀ x ∈ bs, x < 256) (h : takenRec bs = some (k, l)) : k < 17 ∧ mayB k (ints l) = true ∧ bs = recB k (ints l) := by
  unfold takenRec at h
  split at h
  · rename_i hc
    obtain ⟨h1, h2⟩ := hc
    obtain ⟨h3, _, _, h4⟩ := takeRow_only hb h1
    obtain ⟨L, hL⟩ : ∃ L, (takeRow bs).2.1 = L := ⟨_, rfl⟩
    rw [hL] at h h3 h4
    rw [behindRow, if_pos h1] at h2
    cases L with
    | nil => simp [takenL] at h
    | cons x L =>
      simp only [takenL] at h
      split at h
      · rename_i hc
        simp only [Option.some.injEq, Prod.mk.injEq] at h
        obtain ⟨rfl, rfl⟩ := h
        refine ⟨hc.1, hc.2, ?_⟩
        rw [recB_ints]
        rw [h2, List.append_nil] at h3
        exact h3
      · simp at h
  · simp at h

end Go.Proofs.Ytbkfpghpfaemeaa

/-
  The walk of the statement 'RecordNames': it answers true, and nothing that was there turns. Conditions: none.
-/
namespace Go.Proofs.Ytbkfpghpfaemeaa
open Go.RowKit Go.Shelf

def nmS (k : Nat) : ByteArray := ⟨(nmOf k).toArray⟩
set_option maxRecDepth 100000 in
theorem nmS_list (k : Nat) : (nmS k).toList = nmOf k := by rw [ByteArray.toList_eq]; simp [nmS]
set_option maxRecDepth 100000 in
theorem nmOf_some {k : Nat} (h : 0 < k) (h' : k < 17) : nmOf k ≠ [] := by
  rcases kind_cases h' with rfl | rfl | rfl | rfl | rfl | rfl | rfl | rfl | rfl | rfl | rfl | rfl | rfl | rfl | rfl | rfl | rfl <;> first | decide | omega
set_option maxRecDepth 100000 in
theorem nmOf_none {k : Nat} (h : ¬ (0 < k ∧ k < 17)) : nmOf k = [] := by
  rcases Nat.lt_or_ge k 17 with h1 | h1
  · obtain rfl : k = 0 := by omega
    rfl
  · exact nmOf_out h1
set_option maxRecDepth 100000 in
theorem nmOf_inj : ∀ a, a < 17 → ∀ b, b < 17 → 0 < a → (nmOf a = nmOf b ↔ a = b) := by decide
set_option maxRecDepth 100000 in
theorem nmS_eq {a b : Nat} (h : 0 < a) (h' : a < 17) : ((nmS a).toList == (nmS b).toList) = decide (a = b) := by
  rw [nmS_list, nmS_list]
  rcases Nat.lt_or_ge b 17 with hb | hb
  · have := nmOf_inj a h' b hb h
    by_cases e : a = b
    · subst e; simp
    · rw [decide_eq_false e, beq_eq_false_iff_ne]
      exact fun h1 => e (this.1 h1)
  · have e : ¬ a = b := by omega
    rw [decide_eq_false e, beq_eq_false_iff_ne, nmOf_out hb]
    exact nmOf_some h h'

/-- What holds at each number: s: the record's box; its numbers from j on are as they were. -/
structure NamesAt (w : World) (s a : Nat) (A1 : Option Addr) (n c1 : Nat) (zs : List Int) (j : Nat) (W : World) : Prop where
  below : Below w.heap.size w W
  box : Whole W s 43 #[.int .u8 (a : Int), .slice A1 n c1]
  row : 0 < n → ∃ g cs, A1 = some ⟨g, 0, none⟩ ∧ Whole W g 3 cs ∧ w.heap.size ≤ g ∧ g ≠ s ∧ ∀ m, j ≤ m → m < n → cs[m]? = (iv zs)[m]?

set_option maxRecDepth 100000 in
theorem namesAt_start {w wE w5 : World} {n c1 : Nat} {A1 : Option Addr} {zs : List Int} (hE : Below w.heap.size w wE) (o5 : w5.ownsRow wE.heap.size 3 1 (.slice A1 n c1) n (iv zs)) (b5 : Below wE.heap.size wE w5) (a : Nat) :
    NamesAt w w5.heap.size a A1 n c1 zs 0 (w5.alloc (.cells #[.int .u8 (a : Int), .slice A1 n c1] 43)) := by
  have hb5 := hE.trans (b5.mono hE.size)
  refine ⟨hb5.alloc hb5.size _, Whole.new w5 _ _, fun hn => ?_⟩
  rcases o5.2 with ⟨h1, h2⟩ | ⟨g, cap, cur, h1, h2, h3, _⟩
  · have := o5.1; rw [h2] at this; simp at this; omega
  · injection h1 with hA _ _
    subst hA
    have hw : Whole w5 g 3 cur := h3
    have hlt := hw.lt
    refine ⟨g, cur, rfl, hw.alloc _, by have := hE.size; omega, by omega, fun m _ hm => ?_⟩
    rw [← hw.cell m]
    have h4 : w5.ownsRow wE.heap.size 3 1 (.slice (some ⟨g, 0, none⟩) n c1) n (iv zs) := o5
    exact h4.cellAt m (by omega)
set_option maxRecDepth 100000 in
theorem namesAt_step {w W : World} {s a n c1 j g k : Nat} {zs : List Int} {cs : Array Value} (h : NamesAt w s a (some ⟨g, 0, none⟩) n c1 zs j W) (hw : Whole W g 3 cs) (hg : w.heap.size ≤ g) (hgs : g ≠ s) (hrow : ∀ m, j ≤ m → m < n → cs[m]? = (iv zs)[m]?) (u : Value) :
    NamesAt w s a (some ⟨g, 0, none⟩) n c1 zs (j + 1) ((W.drewN k).setCell ⟨g, j, none⟩ u) := by
  have hwk : Whole (W.drewN k) g 3 cs := hw
  have hbk : Whole (W.drewN k) s 43 #[.int .u8 (a : Int), .slice (some ⟨g, 0, none⟩) n c1] := h.box
  refine ⟨(below_drewN h.below k).setCell (p := ⟨g, j, none⟩) hg u, hbk.far (fun e => hgs e.symm) u, fun _ => ⟨g, _, rfl, hwk.set j u, hg, hgs, fun m hm hmn => ?_⟩⟩
  rw [Array.getElem?_setIfInBounds_ne (by omega)]
  exact hrow m (by omega) hmn

end Go.Proofs.Ytbkfpghpfaemeaa

/-
  The walks of 'Put', 'Long' of package num. Conditions: those that each theorem names.
-/
namespace Go.Proofs.Ytbkfpghpfaemeaa
open Go.RowKit Go.Shelf

set_option maxRecDepth 100000 in
set_option maxHeartbeats 400000 in
theorem put_yes (n : Nat) (hn : n ≤ 1099511627776) (base : Nat) (w : World) (hb : base ≤ w.heap.size) :
    Calls Try.prog 84 #[.int .i64 (n : Int)] w (TwoPost base (put n).length (bv (put n)) w) := by
  have hnum : isNum (n : Int) = true := isNum_yes (by omega) (by omega)
  have HA := Lib.hid (add_any n hn (.slice none 0 0) 0 [] base w (World.ownsRow_nil _ _ _ _) (by omega) hb)
  go_enter Try.func84, Try.ntmps84
  go_wp2_with (first | (go_at_call 79; refine (right_any _ _).mono ?_; rintro e w' ⟨rfl, rfl⟩) | (go_at_call 80; refine (HA.out).mono ?_; rintro e w' ⟨v', rfl, hI, _⟩))
  obtain ⟨A, c, rfl⟩ := hI.form
  go_ret2
  rw [Nat.zero_add, List.nil_append] at hI
  exact ⟨A, c, by rw [Nat.zero_add]; rfl, hI⟩

set_option maxRecDepth 100000 in
set_option maxHeartbeats 400000 in
theorem put_no (n : Int) (hn : isNum n = false) (w : World) :
    Calls Try.prog 84 #[.int .i64 n] w fun e w' => e = .returned (.tuple #[.slice none 0 0, .int .i64 2]) ∧ w = w' := by
  go_enter Try.func84, Try.ntmps84
  go_wp2_with (first | (go_at_call 79; refine (right_any _ _).mono ?_; rintro e w' ⟨rfl, rfl⟩))
  go_ret2
  exact ⟨rfl, rfl⟩

def LongPost (k : Nat) (w : World) (e : Ending) (w' : World) : Prop :=
  e = .returned (.int .i64 (k : Int)) ∧ Below w.heap.size w w' ∧ KeepsOthers w w'

set_option maxRecDepth 100000 in
set_option maxHeartbeats 400000 in
theorem long_yes (n : Nat) (hn : n ≤ 1099511627776) (w : World) :
    Calls Try.prog 62 #[.int .i64 (n : Int)] w (LongPost (put n).length w) := by
  have hnum : isNum (n : Int) = true := isNum_yes (by omega) (by omega)
  have HA := Lib.hid (add_any n hn (.slice none 0 0) 0 [] w.heap.size w (World.ownsRow_nil _ _ _ _) (by omega) (Nat.le_refl _))
  go_enter Try.func62, Try.ntmps62
  go_wp2_with (first | (go_at_call 79; refine (right_any _ _).mono ?_; rintro e w' ⟨rfl, rfl⟩) | (go_at_call 80; refine (HA.out).mono ?_; rintro e w' ⟨v', rfl, hI, _⟩; rw [Nat.zero_add, List.nil_append] at hI; obtain ⟨A, c, rfl⟩ := hI.form))
  go_ret
  exact ⟨rfl, hI.2.1, hI.2.2.1⟩

set_option maxRecDepth 100000 in
set_option maxHeartbeats 400000 in
theorem long_no (n : Int) (hn : isNum n = false) (w : World) :
    Calls Try.prog 62 #[.int .i64 n] w fun e w' => e = .returned (.int .i64 0) ∧ w = w' := by
  go_enter Try.func62, Try.ntmps62
  go_wp2_with (first | (go_at_call 79; refine (right_any _ _).mono ?_; rintro e w' ⟨rfl, rfl⟩))
  go_ret
  exact ⟨rfl, rfl⟩

end Go.Proofs.Ytbkfpghpfaemeaa

/-
  The walk of 'Take' of package num. Conditions: those that each theorem names.
-/
namespace Go.Proofs.Ytbkfpghpfaemeaa
open Go.RowKit Go.Shelf

def TakePost (bs : List Nat) (w : World) (e : Ending) (w' : World) : Prop :=
  ∃ A c, e = .returned (.tuple #[.int .i64 ((first bs).1 : Int), .slice A (behind bs).length c, .int .i64 ((first bs).2.2 : Int)]) ∧ AddInv w.heap.size (behind bs).length (bv (behind bs)) w (.slice A (behind bs).length c) w'

set_option maxRecDepth 100000 in
set_option maxHeartbeats 1000000 in
theorem take_err (A : Option Addr) (n c : Nat) (bs : List Nat) (B : Nat) (w : World) (hr : Rd w B A n (bv bs)) (hB : B ≤ w.heap.size) (hb : ∀ x ∈ bs, x < 256) (hn : n ≤ maxLen) (he : (first bs).2.2 ≠ 0) :
    Calls Try.prog 87 #[.slice A n c] w (TakePost bs w) := by
  obtain ⟨N, K, E, hF⟩ : ∃ N K E, first bs = (N, K, E) := ⟨_, _, _, rfl⟩
  have H1 := Lib.hid (first_eq A n c bs B w hr hB hb hn hF)
  have h0 := first_err he
  rw [hF] at he h0
  obtain ⟨hN, hK, _⟩ := h0
  simp only at hN hK
  subst hN; subst hK
  have hE : ((E : Int) != 0) = true := by simp; exact he
  have HF := Lib.hid hF
  have HE : Hid (¬ E = 0) := he
  clear hF he hr hb
  go_enter Try.func87, Try.ntmps87
  go_wp2_with (first | (go_at_call 75; refine (H1.out).mono ?_; rintro e w1 ⟨rfl, hb1, hk1⟩; clear H1))
  go_quiet (fail)
  go_wp2
  go_ret3
  have e1 := HF.out
  refine ⟨none, 0, ?_, ?_⟩
  · simp only [e1, behind, if_neg (HE.out)]; rfl
  · simp only [e1, behind, if_neg (HE.out)]
    exact nil_inv ((hb1.alloc hb1.size _).trans (below_drewN (Below.refl _ _) _)) (hk1.trans ((KeepsOthers.alloc _ _).trans (keeps_drewN _ _)))

set_option maxRecDepth 100000 in
set_option maxHeartbeats 1000000 in
theorem take_ok (A : Option Addr) (n c : Nat) (bs : List Nat) (B : Nat) (w : World) (hr : Rd w B A n (bv bs)) (hB : B ≤ w.heap.size) (hb : ∀ x ∈ bs, x < 256) (hn : n ≤ 140737488355328) (hc : n ≤ c) (he : (first bs).2.2 = 0) :
    Calls Try.prog 87 #[.slice A n c] w (TakePost bs w) := by
  obtain ⟨N, K, E, hF⟩ : ∃ N K E, first bs = (N, K, E) := ⟨_, _, _, rfl⟩
  have H1 := Lib.hid (first_eq A n c bs B w hr hB hb (by unfold maxLen; omega) hF)
  rw [hF] at he
  simp only at he
  subst he
  have hKl := (first_ok hb (show (first bs).2.2 = 0 by rw [hF])).2.1
  rw [hF] at hKl
  have hKn : K ≤ n := by
    rcases scan_cases bs 0 0 with hc | hc | ⟨N', K', hc, h4, h5, h6⟩
    · unfold first at hF; rw [hc] at hF; simp at hF
    · unfold first at hF; rw [hc] at hF; simp at hF
    · unfold first at hF; rw [hc] at hF
      simp only [Prod.mk.injEq] at hF
      have := hr.1; rw [bv_length] at this; omega
  obtain ⟨A', hA1, hA2⟩ := run_rest A n c K hKn
  have HA1 := Lib.hid hA1
  have HKn : Hid (K ≤ n) := hKn
  have HA2 := Lib.hid hA2
  have HKl := Lib.hid hKl
  have HF := Lib.hid hF
  have HR := Lib.hid hr
  clear hF hr hb hA2 hKl hA1 hKn
  go_enter Try.func87, Try.ntmps87
  go_wp2_with (first | (go_at_call 75; refine (H1.out).mono ?_; rintro e w1 ⟨rfl, hb1, hk1⟩; clear H1))
  obtain ⟨W2, hW2⟩ : ∃ W2, w1.alloc (.cells #[.int .i64 (N : Int), .int .i64 (K : Int), .int .i64 0] 108) = W2 := ⟨_, rfl⟩
  have hz2 : w1.heap.size + 1 = W2.heap.size := by rw [← hW2]; simp
  have c0 : W2.cell? ⟨w1.heap.size, 0, none⟩ = some (.int .i64 (N : Int)) := by rw [← hW2]; exact cell_new w1 _ _ 0
  have c1 : W2.cell? ⟨w1.heap.size, 1, none⟩ = some (.int .i64 (K : Int)) := by rw [← hW2]; exact cell_new w1 _ _ 1
  have hB2 : Below w.heap.size w W2 := by rw [← hW2]; exact hb1.alloc hb1.size _
  have hK2 : KeepsOthers w W2 := by rw [← hW2]; exact hk1.trans (KeepsOthers.alloc _ _)
  rw [hW2]
  clear hW2 hb1 hk1
  obtain ⟨g, hg⟩ : ∃ g, w1.heap.size = g := ⟨_, rfl⟩
  rw [hg] at hz2 c0 c1 ⊢
  clear hg
  have HZ := Lib.hid hz2
  clear hz2
  have HRd : Hid (Rd W2.drew B A' (n - K) (bv (bs.drop K))) := by
    have h1 : Rd W2.drew B A n (bv bs) := HR.out.below ((hB2.mono hB).drew)
    have h2 := h1.cut HKn.out A' (fun hk => HA2.out ⟨hk, hc⟩)
    rw [bv, List.map_drop]
    exact h2
  have Hn : Hid (n - K ≤ 140737488355328) := by show n - K ≤ 140737488355328; omega
  have HL : Hid ((bs.drop K).length = n - K) := by
    have := HR.out.1; rw [bv_length] at this
    show (bs.drop K).length = n - K
    rw [List.length_drop, this]
  have Hc : Hid (∀ w3 : World, Below W2.drew.heap.size W2.drew w3 → w3.cell? ⟨g, 0, none⟩ = some (.int .i64 (N : Int)) ∧ w3.cell? ⟨g, 1, none⟩ = some (.int .i64 (K : Int))) := fun w3 h => by
    have hg : g < W2.drew.heap.size := by have := HZ.out; show g < W2.heap.size; omega
    exact ⟨(h.cell (p := ⟨g, 0, none⟩) hg).trans c0, (h.cell (p := ⟨g, 1, none⟩) hg).trans c1⟩
  have HB2 := Lib.hid hB2
  have HK2 := Lib.hid hK2
  clear hB2 hK2 hn hc hB
  have hA1 := HA1.out
  go_region_held3 (fun W => W.cell? ⟨g, 0, none⟩ = some (.int .i64 (N : Int)) ∧ W.cell? ⟨g, 1, none⟩ = some (.int .i64 (K : Int))) (go_keep)
    (first | (go_at_call 58; refine (clone_any A' (n - K) (c - K) (bs.drop K) B _ HRd.out Hn.out).mono ?_; rintro e w3 ⟨A3, c3, rfl, hI3⟩; obtain ⟨d0, d1⟩ := Hc.out w3 hI3.2.1))
  go_wp2
  go_ret3
  have e1 := HF.out
  have hbh : behind bs = bs.drop K := by simp [behind, e1]
  refine ⟨A3, c3, ?_, ?_⟩
  · rw [hbh, HL.out, e1]; rfl
  · rw [hbh, HL.out]
    exact hI3.after HB2.out.drew (HK2.out.trans (keeps_drewN W2 1)) (by have := HB2.out.size; exact this)

end Go.Proofs.Ytbkfpghpfaemeaa
