/-
  Texts that the walks of the statements over logs lean on, joined (NumRow, NumTakes, NumTakeRow, NumUse, RecMany, RecIter). Conditions: those that each theorem names.
-/
import Derived.Test.YtbkfpghpfaemeaaJ0
import Derived.Deep.RegionHeld3
import Derived.OpenShut
import Derived.Laws.AppendOwnNone

/-
  The walk of 'Row' of package num. Conditions: those that each theorem names.
-/
namespace Go.Proofs.Ytbkfpghpfaemeaa
open Go.RowKit Go.Shelf
attribute [local go_sem] Oper.semAt_some

/-- A row that is one. -/
def isRow (l : List Int) : Bool := decide (l.length ≤ 40) && l.all isNum

/-- The bytes that have been put when so many numbers have been gone over. -/
def sofar (n : Nat) (pre : List Int) : List Nat := put n ++ puts (nats pre)
set_option maxRecDepth 100000 in
theorem sofar_pos (n : Nat) (pre : List Int) : 0 < (sofar n pre).length := by have := put_pos n; rw [sofar, List.length_append]; omega
set_option maxRecDepth 100000 in
theorem sofar_snoc (n : Nat) (pre : List Int) (m : Nat) : sofar n (pre ++ [(m : Int)]) = sofar n pre ++ put m := by
  have hn : nats (pre ++ [(m : Int)]) = nats pre ++ [m] := by simp [nats]
  rw [sofar, sofar, hn, puts_snoc, ← List.append_assoc]

set_option maxRecDepth 100000 in
theorem puts_six : ∀ (l : List Int), l.all isNum = true → (puts (nats l)).length ≤ 6 * l.length := by
  intro l
  induction l with
  | nil => intro _; simp [nats, puts]
  | cons x l ih =>
    intro h
    simp only [List.all_cons, Bool.and_eq_true] at h
    have h1 := isNum_iff.1 h.1
    have h2 := put_six (n := x.toNat) (by omega)
    have h3 := ih h.2
    have e : nats (x :: l) = x.toNat :: nats l := rfl
    rw [e, puts_cons, List.length_append, List.length_cons]
    omega
set_option maxRecDepth 100000 in
theorem sofar_six {n : Nat} {l : List Int} (hn : n ≤ 40) (h : l.all isNum = true) : (sofar n l).length ≤ 6 + 6 * l.length := by
  have h1 := put_six (n := n) (by omega)
  have h2 := puts_six l h
  rw [sofar, List.length_append]; omega
set_option maxRecDepth 100000 in
theorem sofar_row (l : List Int) : sofar l.length l = row (nats l) := by simp [sofar, row, nats]
set_option maxRecDepth 100000 in
theorem below_keeps {w w' : World} (h : Below w.heap.size w w') : KeepsOthers w w' :=
  ⟨h.size, fun k o hk _ => (h.block k (by rcases Nat.lt_or_ge k w.heap.size with h1 | h1; exact h1; rw [Array.getElem?_eq_none h1] at hk; cases hk)).trans hk⟩

def RowPost (zs : List Int) (w : World) (e : Ending) (w' : World) : Prop :=
  (isRow zs = true ∧ ∃ A c, e = .returned (.tuple #[.slice A (row (nats zs)).length c, .int .i64 0]) ∧ AddInv w.heap.size (row (nats zs)).length (bv (row (nats zs))) w (.slice A (row (nats zs)).length c) w') ∨
  (isRow zs = false ∧ e = .returned (.tuple #[.slice none 0 0, .int .i64 2]) ∧ Below w.heap.size w w')

/-- What holds between two rounds: r2, r2 + 1: the results' cells; bB: the box of the bytes; bB + 1: the box of the numbers. -/
structure RowInv (A : Option Addr) (n c : Nat) (w : World) (r2 bB : Nat) (pre : List Int) (W : World) : Prop where
  num : pre.all isNum = true
  res2 : Boxed W r2 22 (.slice none 0 0)
  res3 : Boxed W (r2 + 1) 30 (.int .i64 0)
  box : ∃ v, Boxed W bB 22 v ∧ W.ownsRow w.heap.size 5 1 v (sofar n pre).length (bv (sofar n pre))
  arg : Boxed W (bB + 1) 41 (.slice A n c)
  below : Below w.heap.size w W

/-- What holds where a round has left: it was no number. -/
structure RowOut (w : World) (r2 : Nat) (pre : List Int) (W : World) : Prop where
  num : pre.all isNum = false
  res2 : Boxed W r2 22 (.slice none 0 0)
  res3 : Boxed W (r2 + 1) 30 (.int .i64 2)
  below : Below w.heap.size w W

set_option maxRecDepth 100000 in
theorem rowInv_own (A : Option Addr) (n c : Nat) (w : World) (r2 bB B : Nat) (hB : w.heap.size ≤ B) : OwnFrom B (RowInv A n c w r2 bB) := by
  intro pre W W' row h hg hr
  have hr' : ∀ r, row = some r → ∃ o : Obj, W.heap[r]? = some o ∧ o.isCells = false := fun r e => (hr r e).2
  obtain ⟨v, h1, h2⟩ := h.box
  exact ⟨h.num, boxed_turn h.res2 hg hr', boxed_turn h.res3 hg hr', ⟨v, boxed_turn h1 hg hr', own_turn h2 hg hr'⟩, boxed_turn h.arg hg hr', h.below.grown hg (by have := h.below.size; omega) (fun k e => by have := (hr k e).1; omega)⟩

set_option maxRecDepth 100000 in
/-- A round that has added a number's bytes. -/
theorem rowInv_step {A : Option Addr} {n c : Nat} {w : World} {r2 bB : Nat} {pre : List Int} {W W' : World} (h : RowInv A n c w r2 bB pre W) (h2 : r2 + 1 < bB) (hb : w.heap.size ≤ bB) {v v' : Value} (hv : Boxed W bB 22 v)
    (hown : W.ownsRow w.heap.size 5 1 v (sofar n pre).length (bv (sofar n pre))) {m : Nat} (hm : m ≤ 1099511627776)
    (hI : AddInv w.heap.size ((sofar n pre).length + (put m).length) (bv (sofar n pre) ++ bv (put m)) W v' W') (hF : AddFar v W v' W') :
    KeepsOthers W (W'.setCell ⟨bB, 0, none⟩ v') ∧ KpB w.heap.size (bB + 1) W (W'.setCell ⟨bB, 0, none⟩ v') ∧ RowInv A n c w r2 bB (pre ++ [(m : Int)]) (W'.setCell ⟨bB, 0, none⟩ v') := by
  have b2 : Boxed W' r2 22 (.slice none 0 0) := h.res2.kept hF.1 (h.res2.not_row (by decide) hown)
  have b3 : Boxed W' (r2 + 1) 30 (.int .i64 0) := h.res3.kept hF.1 (h.res3.not_row (by decide) hown)
  have bb : Boxed W' bB 22 v := hv.kept hF.1 (hv.not_row (by decide) hown)
  have ba : Boxed W' (bB + 1) 41 (.slice A n c) := h.arg.kept hF.1 (h.arg.not_row (by decide) hown)
  have hBelow : Below w.heap.size W (W'.setCell ⟨bB, 0, none⟩ v') := hI.2.1.setCell (p := ⟨bB, 0, none⟩) hb v'
  have ba' := ba.other (B' := bB) (by omega) v'
  refine ⟨hI.2.2.1.trans (KeepsOthers.setCell _ _ _), ⟨hBelow, ?_⟩, ?_⟩
  · exact (show (W'.setCell ⟨bB, 0, none⟩ v').heap[bB + 1]? = _ from ba').trans (show W.heap[bB + 1]? = _ from h.arg).symm
  · have hnum : isNum (m : Int) = true := isNum_yes (by omega) (by omega)
    refine ⟨by simp [h.num, hnum], b2.other (by omega) v', b3.other (by omega) v', ⟨v', bb.set v', ?_⟩, ba', h.below.trans hBelow⟩
    rw [sofar_snoc, List.length_append, bv_append]
    exact ownsRow_setCell_other hI.1 (fun e => bb.not_row (by decide) hI.1 e.symm) v'

set_option maxRecDepth 100000 in
/-- A round that has left. -/
theorem rowOut_step {A : Option Addr} {n c : Nat} {w : World} {r2 bB : Nat} {pre : List Int} {W : World} (h : RowInv A n c w r2 bB pre W) (hb : w.heap.size ≤ r2) {x : Int} (hx : isNum x = false) :
    RowOut w r2 (pre ++ [x]) ((W.setCell ⟨r2, 0, none⟩ (.slice none 0 0)).setCell ⟨r2 + 1, 0, none⟩ (.int .i64 2)) :=
  ⟨by simp [hx], (h.res2.set _).other (by omega) _, ((h.res3.other (by omega) _).set _), (h.below.setCell (p := ⟨r2, 0, none⟩) hb _).setCell (p := ⟨r2 + 1, 0, none⟩) (by show w.heap.size ≤ r2 + 1; omega) _⟩

set_option maxRecDepth 100000 in
theorem rowOut_own (w : World) (r2 B : Nat) (hB : w.heap.size ≤ B) : OwnFrom B (fun (pre : List Int) W => RowOut w r2 pre W) := by
  intro pre W W' row h hg hr
  have hr' : ∀ r, row = some r → ∃ o : Obj, W.heap[r]? = some o ∧ o.isCells = false := fun r e => (hr r e).2
  exact ⟨h.num, boxed_turn h.res2 hg hr', boxed_turn h.res3 hg hr', h.below.grown hg (by have := h.below.size; omega) (fun k e => by have := (hr k e).1; omega)⟩

set_option maxRecDepth 100000 in
set_option maxHeartbeats 400000 in
theorem row_long (A : Option Addr) (n c : Nat) (zs : List Int) (w : World) (hl : zs.length = n) (hn : 40 < n) :
    Calls Try.prog 82 #[.slice A n c] w (RowPost zs w) := by
  have hf : isRow zs = false := by simp [isRow]; omega
  have HL := Lib.hid hl
  have hn' : (40 : Int) < (n : Int) := by omega
  clear hl
  go_enter Try.func82, Try.ntmps82
  go_wp2_with fail
  refine bodyPost_ret (v := .tuple #[.slice none 0 0, .int .i64 2]) (by simp [results, Try.results82, go_sem]) rfl (.inr ⟨hf, rfl, ?_⟩)
  exact ((Below.refl _ w).alloc (Nat.le_refl _) _).alloc (by simp) _

set_option maxRecDepth 100000 in
set_option maxHeartbeats 400000 in
theorem row_short (A : Option Addr) (n c : Nat) (zs : List Int) (w : World) (hr : Rd w w.heap.size A n (iv zs)) (hn : n ≤ 40) :
    Calls Try.prog 82 #[.slice A n c] w (RowPost zs w) := by
  have Hr := Lib.hid hr
  clear hr
  have hd40 : decide ((40 : Int) < (n : Int)) = false := by simp; omega
  have HA := Lib.hid (fun (W : World) (hB : w.heap.size ≤ W.heap.size) => add_any n (by omega) (.slice none 0 0) 0 [] w.heap.size W (World.ownsRow_nil _ _ _ _) (by omega) hB)
  refine (callsIn_wide (n := 5)).1 ?_
  refine callsIn_of_wp_marks Try.func82 rfl trivial ?_ rfl
  simp only [Try.ntmps82, List.size_toArray, List.length_cons, List.length_nil, Nat.reduceAdd, Nat.reduceSub, Array.replicate_succ, Array.replicate_zero, List.push_toArray, List.append_toArray, List.nil_append, List.cons_append]
  gi_wp2_with (first | (refine ⟨trivial, ?_⟩; gi_at_call 80; refine (callsIn_wide.2 (HA.out _ (by simp; omega))).mono ?_; rintro e w1 ⟨v1, rfl, hI1, hF1⟩; obtain ⟨A1, c1, rfl⟩ := hI1.form; have HI1 := Lib.hid hI1; have HF1 := Lib.hid hF1; clear hI1 hF1; rw [Nat.zero_add, List.nil_append] at HI1) | (refine ⟨trivial, ?_⟩; gi_at_call 91; refine (callsIn_wide.2 (each_any _ _ _ _)).mono ?_; rintro e w2 ⟨rfl, rfl⟩))
  have hs1 : w.heap.size + 2 ≤ w1.heap.size := by have := HF1.out.1.size; simpa using this
  obtain ⟨W0, hW0⟩ : ∃ W0, (w1.alloc (.cells #[.slice A1 (put n).length c1] 22)).alloc (.cells #[.slice A n c] 41) = W0 := ⟨_, rfl⟩
  have hs0 : W0.heap.size = w1.heap.size + 2 := by rw [← hW0]; simp
  have bArg : Boxed W0 (w1.heap.size + 1) 41 (.slice A n c) := by
    rw [← hW0]; have := Boxed.new (w1.alloc (.cells #[.slice A1 (put n).length c1] 22)) 41 (.slice A n c); rwa [World.size_alloc] at this
  have hInv : RowInv A n c w w.heap.size w1.heap.size [] W0 := by
    have r2 : Boxed w1 w.heap.size 22 (.slice none 0 0) := ((Boxed.new w 22 (.slice none 0 0)).alloc _).kept HF1.out.1 (by simp [Value.ownBlock])
    have r3 : Boxed w1 (w.heap.size + 1) 30 (.int .i64 0) := by
      have := Boxed.new (w.alloc (.cells #[.slice none 0 0] 22)) 30 (.int .i64 0)
      rw [World.size_alloc] at this
      exact this.kept HF1.out.1 (by simp [Value.ownBlock])
    have hB0 : Below w.heap.size w w1 := (((Below.refl _ w).alloc (Nat.le_refl _) _).alloc (by simp) _).trans HI1.out.2.1
    refine ⟨rfl, ?_, ?_, ⟨.slice A1 (put n).length c1, ?_, ?_⟩, bArg, ?_⟩
    · rw [← hW0]; exact (r2.alloc _).alloc _
    · rw [← hW0]; exact (r3.alloc _).alloc _
    · rw [← hW0]; exact (Boxed.new w1 22 _).alloc _
    · rw [← hW0]
      have := (HI1.out.1.alloc (.cells #[.slice A1 (put n).length c1] 22)).alloc (.cells #[.slice A n c] 41)
      simpa [sofar, nats, puts] using this
    · rw [← hW0]; exact (hB0.alloc (by omega) _).alloc (by simp; omega) _
  rw [hW0]
  clear hW0
  refine wpIn_rangeFunc_ownF rfl (by omega) (gf := 95) (lb := #[.pointer (some ⟨w1.heap.size + 1, 0, none⟩)]) rfl trivial (enters_of Try.func95 (by kernel_rfl) rfl)
    (each_stops 4 (w1.heap.size + 1) w.heap.size A n c zs (by unfold maxLen; omega) W0 (by omega) (by omega) bArg.cell (Hr.out.below hInv.below)) (fun h k => kpB_t h k) (kpB_b (by omega) (by omega)) (Below.refl _ _) (fun _ => rfl)
    (RowInv A n c w w.heap.size w1.heap.size) (fun k pre W => k = .ret ∧ RowOut w w.heap.size pre W)
    (rowInv_own _ _ _ _ _ _ _ (by omega)) (fun k pre W W' row h hg hr => ⟨h.1, rowOut_own w w.heap.size W0.heap.size (by omega) pre W W' row h.2 hg hr⟩) hInv
    (fun x => { tmps := #[.slice A n c, undef, .pointer (some ⟨w.heap.size, 0, none⟩), .pointer (some ⟨w.heap.size + 1, 0, none⟩), .pointer (some ⟨w1.heap.size, 0, none⟩), .int .i64 x, .slice A n c, .int .i64 (n : Int), .bool false, .slice A n c, .int .i64 (n : Int), .slice A1 (put n).length c1, .slice A n c, .func (.func 95) #[] #[.pointer (some ⟨w1.heap.size + 1, 0, none⟩)], .int .i64 x, undef, undef, undef, undef, undef, undef, undef], defers := [] }) ?assign ?body ?done ?stop
  case assign =>
    intro l x W K hK
    gi_wp2
    exact hK
  case body =>
    rintro l pre x W hI hlen
    have c2 := hI.res2.cell
    have f2 := hI.res2.frozen
    have c3 := hI.res3.cell
    have f3 := hI.res3.frozen
    obtain ⟨v, hv, hown⟩ := hI.box
    have HI := Lib.hid hI
    clear hI
    by_cases hx : isNum x = true
    · obtain ⟨hx0, hx1⟩ := isNum_iff.1 hx
      obtain ⟨m, rfl⟩ := Int.eq_ofNat_of_zero_le hx0
      have hpos : 0 < (sofar n pre).length := sofar_pos n _
      obtain ⟨g, cap, rfl, _, _⟩ := hown.form hpos
      have hk : (sofar n pre).length ≤ 1000000 := by
        have h1 := sofar_six hn HI.out.num
        have h2 : zs.length = n := by have := Hr.out.1; rwa [iv_length] at this
        omega
      have HAd := Lib.hid (add_any m (by omega) _ _ _ w.heap.size W hown hk (by have := HI.out.below.size; omega))
      have cb := hv.cell
      have Hv := Lib.hid hv
      have Hown := Lib.hid hown
      clear hv hown hx0 hx1
      gi_wp2_with (first | (refine ⟨trivial, ?_⟩; gi_at_call 79; refine (CallsIn.inRound l (callsIn_wide.2 (right_any _ _))).mono ?_; rintro e w' ⟨rfl, rfl⟩) | (refine ⟨trivial, ?_⟩; gi_at_call 80; refine (CallsIn.inRound l (callsIn_wide.2 (HAd.out))).mono ?_; rintro e w3 ⟨v3, rfl, hI3, hF3⟩; obtain ⟨A3, c3', rfl⟩ := hI3.form; have HI3 := Lib.hid hI3; have HF3 := Lib.hid hF3; have hb3 := (Hv.out.kept hF3.1 (Hv.out.not_row (by decide) Hown.out)).cell; have hf3 := (Hv.out.kept hF3.1 (Hv.out.not_row (by decide) Hown.out)).frozen; clear hI3 hF3))
      exact rowInv_step HI.out (by omega) (by omega) Hv.out Hown.out (by have := (isNum_iff.1 hx).2; omega) HI3.out HF3.out
    · have hx' : isNum x = false := by simpa using hx
      clear hx
      gi_wp2_with (first | (refine ⟨trivial, ?_⟩; gi_at_call 79; refine (CallsIn.inRound l (callsIn_wide.2 (right_any _ _))).mono ?_; rintro e w' ⟨rfl, rfl⟩))
      exact ⟨(KeepsOthers.setCell _ _ _).trans (KeepsOthers.setCell _ _ _), rfl, rowOut_step HI.out (Nat.le_refl _) hx'⟩
  case done =>
    rintro D ys W hD rfl hI hK
    have c2 := hI.res2.cell
    have f2 := hI.res2.frozen
    have c3 := hI.res3.cell
    have f3 := hI.res3.frozen
    obtain ⟨v, hv, hown⟩ := hI.box
    have hpos : 0 < (sofar n ys).length := sofar_pos n _
    obtain ⟨g, cap, rfl, _, _⟩ := hown.form hpos
    have cb := hv.cell
    have HK := Lib.hid hK
    have HI := Lib.hid hI
    have Hown := Lib.hid hown
    have Hv := Lib.hid hv
    clear hK hI hown hv
    gi_wp2_with fail
    have hlen : ys.length = n := by have := Hr.out.1; rwa [iv_length] at this
    obtain ⟨W1, hW1⟩ : ∃ W1, (W.setCell ⟨w.heap.size, 0, none⟩ (.slice (some ⟨g, 0, none⟩) (sofar n ys).length cap)).setCell ⟨w.heap.size + 1, 0, none⟩ (.int .i64 0) = W1 := ⟨_, rfl⟩
    have hK1 : W1.heap[D]? = some (.deferred (some [])) := by
      rw [← hW1]; exact ((KeepsOthers.setCell _ _ _).trans (KeepsOthers.setCell _ _ _)).same D _ HK.out rfl
    have r2 : Boxed W1 w.heap.size 22 (.slice (some ⟨g, 0, none⟩) (sofar n ys).length cap) := by
      rw [← hW1]; exact (HI.out.res2.set _).other (by omega) _
    have r3 : Boxed W1 (w.heap.size + 1) 30 (.int .i64 0) := by
      rw [← hW1]; exact (HI.out.res3.other (by omega) _).set _
    have ho : W1.ownsRow w.heap.size 5 1 (.slice (some ⟨g, 0, none⟩) (sofar n ys).length cap) (sofar n ys).length (bv (sofar n ys)) := by
      have n2 := HI.out.res2.not_row (by decide) Hown.out
      have n3 := HI.out.res3.not_row (by decide) Hown.out
      rw [← hW1]; exact ownsRow_setCell_other (ownsRow_setCell_other Hown.out (fun e => n2 e.symm) _) (fun e => n3 e.symm) _
    have hb : Below w.heap.size w W1 := by
      rw [← hW1]; exact (HI.out.below.setCell (p := ⟨w.heap.size, 0, none⟩) (Nat.le_refl _) _).setCell (p := ⟨w.heap.size + 1, 0, none⟩) (by simp) _
    rw [hW1]
    have hg' := grownBy_putObj' W1 D (.deferred none)
    have hr' : ∀ r, (some D) = some r → ∃ o : Obj, W1.heap[r]? = some o ∧ o.isCells = false := fun r e => by cases e; exact ⟨_, hK1, rfl⟩
    have q2 := (boxed_turn r2 hg' hr').cell
    have q3 := (boxed_turn r3 hg' hr').cell
    have hb' : Below w.heap.size w (W1.putObj D (.deferred none)) := hb.trans ((Below.refl _ _).grown hg' hb.size (fun k e => by cases e; omega))
    refine ⟨by simp, .inl ⟨_, _, rfl, run_takeDeferred hK1, ?_⟩⟩
    refine ⟨.tuple #[.slice (some ⟨g, 0, none⟩) (sofar n ys).length cap, .int .i64 0], by simp [results, Try.results82, go_sem, q2, q3], .inl ⟨?_, some ⟨g, 0, none⟩, cap, ?_, ?_⟩⟩
    · simp only [isRow, Bool.and_eq_true, decide_eq_true_eq]; exact ⟨by omega, HI.out.num⟩
    · rw [← sofar_row, hlen]
    · rw [← sofar_row, hlen]
      exact ⟨ownsRow_putObj ho _ hK1 rfl, hb', below_keeps hb', hb'.size⟩
  case stop =>
    rintro D k pre W hD hpre ⟨rfl, hO⟩ hK
    gi_wp2_with fail
    have hg' := grownBy_putObj' W D (.deferred none)
    have hr' : ∀ r, (some D) = some r → ∃ o : Obj, W.heap[r]? = some o ∧ o.isCells = false := fun r e => by cases e; exact ⟨_, hK, rfl⟩
    have q2 := (boxed_turn hO.res2 hg' hr').cell
    have q3 := (boxed_turn hO.res3 hg' hr').cell
    have hb' : Below w.heap.size w (W.putObj D (.deferred none)) := hO.below.trans ((Below.refl _ _).grown hg' hO.below.size (fun k e => by cases e; have := hInv.below.size; omega))
    refine ⟨by simp, .inl ⟨_, _, rfl, run_takeDeferred hK, ?_⟩⟩
    refine ⟨.tuple #[.slice none 0 0, .int .i64 2], by simp [results, Try.results82, go_sem, q2, q3], .inr ⟨?_, rfl, hb'⟩⟩
    obtain ⟨t, rfl⟩ := hpre
    have := hO.num
    simp [isRow, List.all_append, this]

end Go.Proofs.Ytbkfpghpfaemeaa

/-
  The walks of 'takes' and of the iterator that it hands back (package num). Conditions: those that each theorem names.
-/
namespace Go.Proofs.Ytbkfpghpfaemeaa
open Go.RowKit Go.Shelf
attribute [local go_sem] Oper.semAt_some

/-- What may come of taking a number: at most six bytes, and no number above the greatest one. -/
abbrev Tk := { x : Nat × Nat × Nat // x.2.1 ≤ 6 ∧ x.1 ≤ 1099511627776 }
set_option maxRecDepth 100000 in
theorem scan_six : ∀ (bs : List Nat) (n long : Nat), long ≤ 5 → (scan n long bs).2.1 ≤ 6 := by
  intro bs
  induction bs with
  | nil => intro n long _; simp [scan]
  | cons d r ih =>
    intro n long h
    simp only [scan]
    split
    · exact ih _ _ (by omega)
    · split
      · simp
      · simp; omega
set_option maxRecDepth 100000 in
theorem first_le {bs : List Nat} {N K E : Nat} (h : first bs = (N, K, E)) : K ≤ bs.length ∧ N ≤ 1099511627776 ∧ E ≤ 11 := by
  rcases scan_cases bs 0 0 with hc | hc | ⟨N', K', hc, h1, _, h2⟩
  all_goals
    unfold first at h
    rw [hc] at h
    simp only [Prod.mk.injEq] at h
    omega
def firstT (bs : List Nat) : Tk := ⟨first bs, scan_six bs 0 0 (by omega), (first_le (N := (first bs).1) (K := (first bs).2.1) (E := (first bs).2.2) rfl).2.1⟩

/-- What comes of taking, number by number: each with how many bytes it has, up to the first error. -/
def items : Nat → List Nat → List Tk
  | 0, _ => []
  | k + 1, bs => firstT bs :: (if (first bs).2.2 = 0 then items k (bs.drop (first bs).2.1) else [])

set_option maxRecDepth 100000 in
set_option maxHeartbeats 400000 in
theorem takes_any (A : Option Addr) (n c : Nat) (m : Int) (w : World) :
    Calls Try.prog 76 #[.slice A n c, .int .i64 m] w fun e w' => e = .returned (.func (.func 89) #[] #[.pointer (some ⟨w.heap.size + 1, 0, none⟩), .pointer (some ⟨w.heap.size, 0, none⟩)]) ∧
      w' = (w.alloc (.cells #[.slice A n c] 22)).alloc (.cells #[.int .i64 m] 3) := by
  go_enter Try.func76, Try.ntmps76
  go_wp2
  go_ret
  exact ⟨rfl, rfl⟩

/-- What a round that goes on keeps: what lies below n₀, the box of the bytes, and each box of what was taken. -/
def KpT (n₀ Bs : Nat) (W W' : World) : Prop :=
  Below n₀ W W' ∧ W'.heap[Bs]? = W.heap[Bs]? ∧ ∀ (g : Nat) (cs : Array Value) (fz : Nat × Nat), W.heap[g]? = some (Obj.cells cs 108 fz) → W'.heap[g]? = W.heap[g]?
set_option maxRecDepth 100000 in
theorem kpT_t {n₀ Bs : Nat} {A B C : World} (h : KpT n₀ Bs A B) (k : KpT n₀ Bs B C) : KpT n₀ Bs A C :=
  ⟨h.1.trans k.1, k.2.1.trans h.2.1, fun g cs fz hg => (k.2.2 g cs fz ((h.2.2 g cs fz hg).trans hg)).trans (h.2.2 g cs fz hg)⟩
set_option maxRecDepth 100000 in
theorem kpT_b {n₀ Bs : Nat} {w : World} (hn : n₀ ≤ w.heap.size) (hBs : Bs < w.heap.size) (W : World) (l : Nat) (o o' : Obj) (hl : w.heap.size ≤ l) (h : W.heap[l]? = some o) (h1 : o.isCells = false) (h2 : o.isWalk = false) : KpT n₀ Bs W (W.putObj l o') :=
  ⟨belowK_b hn W l o o' hl h h1 h2, World.putObj_heap_other (by omega), fun g cs fz hg => World.putObj_heap_other (by rintro rfl; rw [hg] at h; cases h; cases h1)⟩

/-- What has been taken so far, and what is still to come. -/
structure TakesInv (bs : List Nat) (k n₀ Bs : Nat) (A : Option Addr) (n c : Nat) (J : List Tk → World → Prop) (pre : List Tk) (at_ left : Nat) (W : World) : Prop where
  all : pre ++ items left (bs.drop at_) = items k bs
  le : at_ ≤ n
  many : left ≤ k
  box : W.cell? ⟨Bs, 0, none⟩ = some (.slice A n c)
  rd : Rd W n₀ A n (bv bs)
  inv : J pre W

set_option maxRecDepth 100000 in
set_option maxHeartbeats 1000000 in
theorem takes1_in (m l Bm Bs n₀ : Nat) (A : Option Addr) (n c k : Nat) (bs : List Nat) (hn : n ≤ 140737488355328) (hc : n ≤ c) (hk : k ≤ 1000000) (hb : ∀ x ∈ bs, x < 256) (J Jx : List Tk → World → Prop)
    (W0 : World) (hJ : AbidesFrom W0.heap.size J)
    (hY : ∀ pre x W, J pre W → pre.length < (items k bs).length → YieldAt Fence.wide (m - 1) Try.prog l #[takenV x.1] W fun e W' =>
      (e = .returned (.bool true) ∧ J (pre ++ [x]) W' ∧ KpT n₀ Bs W W') ∨ (e = .returned (.bool false) ∧ Jx (pre ++ [x]) W'))
    (hBm : W0.cell? ⟨Bm, 0, none⟩ = some (.int .i64 (k : Int))) (hBs : W0.cell? ⟨Bs, 0, none⟩ = some (.slice A n c)) (hBsl : Bs < W0.heap.size) (hn₀ : n₀ ≤ W0.heap.size) (hr : Rd W0 n₀ A n (bv bs)) (h0 : J [] W0) :
    CallsIn Fence.wide m Try.prog 89 #[.func (.yield l) #[] #[], .pointer (some ⟨Bm, 0, none⟩), .pointer (some ⟨Bs, 0, none⟩)] W0 fun e W' => (∃ v, e = .returned v) ∧
      ((∃ ys, ys = items k bs ∧ J ys W') ∨ (∃ pre, pre <+: items k bs ∧ Jx pre W')) := by
  have HY := Lib.hid hY
  have HJ := Lib.hid hJ
  have Hb := Lib.hid hb
  have H0 : Hid (∀ nq, TakesInv bs k n₀ Bs A n c J [] 0 k (W0.drewN nq)) := fun nq => ⟨rfl, Nat.zero_le _, Nat.le_refl _, hBs, hr, hJ [] W0 (W0.drewN nq) none h0 ⟨rfl, rfl, rfl, Nat.le_refl _, fun _ _ _ => rfl⟩ (fun r e => by cases e)⟩
  have Hs := Lib.hid (show Bs < W0.heap.size from hBsl)
  have Hn := Lib.hid hn₀
  clear hY hJ hb hr h0 hBs hn₀ hBsl
  refine callsIn_of_wp Try.func89 rfl trivial ?_ rfl
  simp only [Try.ntmps89, List.size_toArray, List.length_cons, List.length_nil, Nat.reduceAdd, Nat.reduceSub, Array.replicate_succ, Array.replicate_zero, List.push_toArray, List.append_toArray, List.nil_append, List.cons_append]
  gi_wp2_with fail
  refine wpIn_wide.2 (wp_scope_back_behind 0 (fun a' w' => W0.heap.size ≤ w'.heap.size ∧ ∃ (pre : List Tk) (at_ left : Nat) (u6 u7 u8 u9 u10 u11 u12 u13 u14 u15 u16 u17 u18 u19 u20 u21 u22 u23 u24 u25 u26 u27 : Value), a' = { tmps := #[.func (.yield l) #[] #[], .pointer (some ⟨Bm, 0, none⟩), .pointer (some ⟨Bs, 0, none⟩), undef, .int .i64 (at_ : Int), .int .i64 (left : Int), u6, u7, u8, u9, u10, u11, u12, u13, u14, u15, u16, u17, u18, u19, u20, u21, u22, u23, u24, u25, u26, u27], defers := [] } ∧ TakesInv bs k n₀ Bs A n c J pre at_ left w')
    (fun a' _ => (intOf (a'.tmps.getD 5 undef)).toNat) rfl ?ahead (fun a' w' hJ' => wpIn_wide (n := m).1 ?pass))
  case ahead =>
    go_wp2_with fail
    go_quiet (fail)
    go_wp2_with fail
    exact ⟨[], 0, k, ⟨rfl, rfl⟩, H0.out nq⟩
  case pass =>
    obtain ⟨hsz, pre, at_, left, u6, u7, u8, u9, u10, u11, u12, u13, u14, u15, u16, u17, u18, u19, u20, u21, u22, u23, u24, u25, u26, u27, rfl, hI⟩ := hJ'
    have hat := hI.le
    have hleft := hI.many
    have hBox := hI.box
    have HI := Lib.hid hI
    clear hI hBm
    cases left with
    | zero =>
      gi_wp2_with fail
      simp only [Exit.jump]
      refine bodyPost_ret (results_none rfl _ _ _) rfl ?_
      exact ⟨⟨_, rfl⟩, .inl ⟨pre, by rw [← HI.out.all]; simp [items], HI.out.inv⟩⟩
    | succ left =>
      have hne : (((left + 1 : Nat) : Int) == 0) = false := by simp; omega
      obtain ⟨N, K, E, hF⟩ : ∃ N K E, first (bs.drop at_) = (N, K, E) := ⟨_, _, _, rfl⟩
      obtain ⟨hKl, hN, hE⟩ := first_le hF
      obtain ⟨A', hA1, hA2⟩ := run_rest A n c at_ hat
      have hl : bs.length = n := by have := HI.out.rd.1; rwa [bv_length] at this
      rw [List.length_drop, hl] at hKl
      have Hf : Hid (∀ W : World, Rd W n₀ A n (bv bs) → n₀ ≤ W.heap.size → Calls Try.prog 75 #[.slice A' (n - at_) (c - at_)] W fun e w' => e = .returned (.agg #[.int .i64 (N : Int), .int .i64 (K : Int), .int .i64 (E : Int)]) ∧ Below W.heap.size W w' ∧ KeepsOthers W w') := fun W hW hB => by
        have h2 := hW.cut hat A' (fun hk => hA2 ⟨hk, hc⟩)
        rw [bv, ← List.map_drop] at h2
        exact first_eq A' (n - at_) (c - at_) (bs.drop at_) n₀ W h2 hB (fun x hx => Hb.out x (List.mem_of_mem_drop hx)) (by unfold maxLen; omega) hF
      have HF := Lib.hid hF
      have HL := Lib.hid hl
      clear hF hA2 hl
      gi_wp2_with fail
      refine ⟨trivial, fun h => (by cases h), (callsIn_wide.2 (Hf.out _ HI.out.rd (by have := Hn.out; omega))).mono ?_⟩
      rintro e w1 ⟨rfl, hb1, _⟩
      clear Hf
      have hs1 := hb1.size
      obtain ⟨W2, hW2⟩ : ∃ W2, w1.alloc (.cells #[.int .i64 (N : Int), .int .i64 (K : Int), .int .i64 (E : Int)] 108) = W2 := ⟨_, rfl⟩
      have hb2 : Below w'.heap.size w' W2 := by rw [← hW2]; exact hb1.alloc hs1 _
      have hbox2 : W2.heap[w1.heap.size]? = some (Obj.cells #[.int .i64 (N : Int), .int .i64 (K : Int), .int .i64 (E : Int)] 108 (0, 0)) := by rw [← hW2]; exact heap_alloc_new w1 _
      have hJ2 : J pre W2 := HJ.out pre w' W2 none HI.out.inv ⟨hb2.os, hb2.tape, hb2.output, hb2.size, fun i hi _ => hb2.block i hi⟩ (fun r e => by cases e)
      obtain ⟨x, hx⟩ : ∃ x, firstT (bs.drop at_) = x := ⟨_, rfl⟩
      have hx1 : x.1 = (N, K, E) := by rw [← hx]; exact HF.out
      have hit : items k bs = pre ++ x :: (if E = 0 then items left ((bs.drop at_).drop K) else []) := by rw [← HI.out.all, items, HF.out, hx]
      obtain ⟨fn, tmps, assign, body, hy, hR⟩ := HY.out pre x W2 hJ2 (by rw [hit]; simp)
      rw [hx1] at hy
      dsimp only [takenV] at hy
      clear hx1 hx
      have x0 : W2.cell? ⟨w1.heap.size, 0, none⟩ = some (.int .i64 (N : Int)) := cell_of_row W2 _ 0 _ _ _ hbox2
      have x1 : W2.cell? ⟨w1.heap.size, 1, none⟩ = some (.int .i64 (K : Int)) := cell_of_row W2 _ 1 _ _ _ hbox2
      have x2 : W2.cell? ⟨w1.heap.size, 2, none⟩ = some (.int .i64 (E : Int)) := cell_of_row W2 _ 2 _ _ _ hbox2
      have HR := Lib.hid hR
      have HB2 := Lib.hid hb2
      have HX2 := Lib.hid hbox2
      have HT := Lib.hid hit
      clear hR hb2 hbox2 hit hJ2 hb1
      gi_wp2_with fail
      clear hW2 hy
      refine ⟨fun h => (by cases h), HR.out.mono ?_⟩
      clear x0 x1 x2
      rintro e W3 (⟨rfl, hJ3, hk3⟩ | ⟨rfl, hJx3⟩)
      · have hX3 := (hk3.2.2 _ _ _ HX2.out).trans HX2.out
        have y2 : W3.cell? ⟨w1.heap.size, 2, none⟩ = some (.int .i64 (E : Int)) := cell_of_row W3 _ 2 _ _ _ hX3
        have HJ3 := Lib.hid hJ3
        have HK3 := Lib.hid hk3
        clear hJ3 hk3 hX3
        by_cases hE0 : E = 0
        · have hEb : ((E : Int) == 0) = true := by simp; omega
          have hit := HT.out
          rw [if_pos hE0] at hit
          have HT2 := Lib.hid hit
          clear hE0 hit
          gi_wp2_with fail
          refine wpIn_goto ?_
          have hs2 := HB2.out.size
          have hBs' : Bs < w'.heap.size := by have := Hs.out; omega
          have hb3 : W3.cell? ⟨Bs, 0, none⟩ = some (.slice A n c) := ((World.cell?_of_block (a := ⟨Bs, 0, none⟩) HK3.out.2.1).trans (HB2.out.cell (p := ⟨Bs, 0, none⟩) hBs')).trans HI.out.box
          have hr3 : Rd W3 n₀ A n (bv bs) := (HI.out.rd.below (HB2.out.mono (by have := Hn.out; omega))).below HK3.out.1
          have hs3 := HK3.out.1.size
          refine ⟨rfl, ⟨by omega, pre ++ [x], at_ + K, left, _, _, _, _, _, _, _, _, _, _, _, _, _, _, _, _, _, _, _, _, _, _, rfl, ⟨by rw [HT2.out, List.drop_drop]; simp, by omega, by omega, hb3, hr3, HJ3.out⟩⟩, ?_⟩
          simp [intOf]
        · have hEb : ((E : Int) == 0) = false := by simp; omega
          have hit := HT.out
          rw [if_neg hE0] at hit
          have HT2 := Lib.hid hit
          clear hE0 hit
          gi_wp2_with fail
          simp only [Exit.jump]
          go_end0
          exact ⟨⟨_, rfl⟩, .inl ⟨pre ++ [x], HT2.out.symm, HJ3.out⟩⟩
      · have HJx := Lib.hid hJx3
        clear hJx3
        gi_wp2_with fail
        simp only [Exit.jump]
        go_end0
        exact ⟨⟨_, rfl⟩, .inr ⟨pre ++ [x], ⟨_, by rw [HT.out, List.append_assoc]; rfl⟩, HJx.out⟩⟩

set_option maxRecDepth 100000 in
/-- The iterator hands over what comes of taking, number by number. -/
theorem takes_stops (m Bm Bs n₀ : Nat) (A : Option Addr) (n c k : Nat) (bs : List Nat) (hn : n ≤ 140737488355328) (hc : n ≤ c) (hk : k ≤ 1000000) (hb : ∀ x ∈ bs, x < 256) (w : World) (hBm : Bm < w.heap.size) (hBs : Bs < w.heap.size) (hn₀ : n₀ ≤ w.heap.size)
    (hcm : w.cell? ⟨Bm, 0, none⟩ = some (.int .i64 (k : Int))) (hcs : w.cell? ⟨Bs, 0, none⟩ = some (.slice A n c)) (hr : Rd w n₀ A n (bv bs)) :
    SeqStopsK Fence.wide m Try.prog 89 #[.pointer (some ⟨Bm, 0, none⟩), .pointer (some ⟨Bs, 0, none⟩)] (fun x : Tk => #[takenV x.1]) (KpT n₀ Bs) (fun ys => ys = items k bs) (fun pre => pre <+: items k bs) (items k bs).length w := fun l J Jx W hW hJ _ hY h0 =>
  takes1_in m l Bm Bs n₀ A n c k bs hn hc hk hb J Jx W hJ hY ((hW.cell (p := ⟨Bm, 0, none⟩) hBm).trans hcm) ((hW.cell (p := ⟨Bs, 0, none⟩) hBs).trans hcs) (by have := hW.size; omega) (by have := hW.size; omega) (hr.below (hW.mono hn₀)) h0

end Go.Proofs.Ytbkfpghpfaemeaa

/-
  The walk of 'TakeRow' of package num. Conditions: those that each theorem names.
-/
namespace Go.Proofs.Ytbkfpghpfaemeaa
open Go.RowKit Go.Shelf
attribute [local go_sem] Oper.semAt_some

def ints (l : List Nat) : List Int := l.map fun x : Nat => (x : Int)

/-- What TakeRow answers: the numbers l, the bytes behind, an error's number. -/
def RowIs (l rest : List Nat) (E : Nat) (w : World) (e : Ending) (w' : World) : Prop :=
  ∃ A1 c1 A2 c2, e = .returned (.tuple #[.slice A1 l.length c1, .slice A2 rest.length c2, .int .i64 (E : Int)]) ∧
    w'.ownsRow w.heap.size 3 1 (.slice A1 l.length c1) l.length (iv (ints l)) ∧ w'.ownsRow w.heap.size 5 1 (.slice A2 rest.length c2) rest.length (bv rest) ∧ Below w.heap.size w w'

set_option maxRecDepth 100000 in
theorem rowIs_nil {E : Nat} {w w' : World} (hb : Below w.heap.size w w') : RowIs [] [] E w (.returned (.tuple #[.slice none 0 0, .slice none 0 0, .int .i64 (E : Int)])) w' :=
  ⟨none, 0, none, 0, rfl, World.ownsRow_nil _ _ _ _, World.ownsRow_nil _ _ _ _, hb⟩

/-- The bytes behind a row. -/
def behindRow (bs : List Nat) : List Nat := if (takeRow bs).2.2 = 0 then bs.drop (takeRow bs).1 else []
def TRPost (bs : List Nat) (w : World) (e : Ending) (w' : World) : Prop := RowIs (takeRow bs).2.1 (behindRow bs) (takeRow bs).2.2 w e w'

set_option maxRecDepth 100000 in
theorem boxed_under {W W' : World} {B : Nat} {t : TypeId} {v : Value} (h : Boxed W B t v) (hb : Below W.heap.size W W') : Boxed W' B t v := (hb.block B h.lt).trans h

/-- How many bytes, and which numbers, have been taken. -/
def sumK (l : List Tk) : Nat := (l.map fun x => x.1.2.1).sum
def vals (l : List Tk) : List Nat := l.map fun x => x.1.1
set_option maxRecDepth 100000 in
theorem sumK_snoc (l : List Tk) (x : Tk) : sumK (l ++ [x]) = sumK l + x.1.2.1 := by simp [sumK]
set_option maxRecDepth 100000 in
theorem vals_snoc (l : List Tk) (x : Tk) : iv (ints (vals (l ++ [x]))) = iv (ints (vals l)) ++ [.int .i64 (x.1.1 : Int)] := by simp [iv, ints, vals]
set_option maxRecDepth 100000 in
theorem sumK_le (l : List Tk) : sumK l ≤ 6 * l.length := by
  induction l with
  | nil => simp [sumK]
  | cons x l ih =>
    have := x.2.1
    simp only [sumK, List.map_cons, List.sum_cons, List.length_cons] at ih ⊢
    omega
/-- What holds between two rounds: r2 and the next two: the results' cells; uB: the box of how many bytes are used. -/
structure TRInv (w : World) (Z r2 uB K : Nat) (pre : List Tk) (W : World) : Prop where
  ok : ∀ x ∈ pre, x.1.2.2 = 0
  res2 : ∃ v, Boxed W r2 41 v ∧ W.ownsRow Z 3 1 v pre.length (iv (ints (vals pre)))
  res3 : Boxed W (r2 + 1) 22 (.slice none 0 0)
  res4 : Boxed W (r2 + 1 + 1) 30 (.int .i64 0)
  used : Boxed W uB 3 (.int .i64 ((K + sumK pre : Nat) : Int))
  below : Below w.heap.size w W
  size : Z ≤ W.heap.size

/-- What holds where a round has left: it had an error. -/
structure TROut (w : World) (r2 : Nat) (pre : List Tk) (W : World) : Prop where
  last : ∃ p x, pre = p ++ [x] ∧ (∀ y ∈ p, y.1.2.2 = 0) ∧ x.1.2.2 ≠ 0 ∧ Boxed W (r2 + 1 + 1) 30 (.int .i64 (x.1.2.2 : Int))
  res2 : Boxed W r2 41 (.slice none 0 0)
  res3 : Boxed W (r2 + 1) 22 (.slice none 0 0)
  below : Below w.heap.size w W

set_option maxRecDepth 100000 in
theorem trInv_own (w : World) (Z r2 uB K B : Nat) (hB : w.heap.size ≤ B) : OwnFrom B (TRInv w Z r2 uB K) := by
  intro pre W W' row h hg hr
  have hr' : ∀ r, row = some r → ∃ o : Obj, W.heap[r]? = some o ∧ o.isCells = false := fun r e => (hr r e).2
  obtain ⟨v, h1, h2⟩ := h.res2
  exact ⟨h.ok, ⟨v, boxed_turn h1 hg hr', own_turn h2 hg hr'⟩, boxed_turn h.res3 hg hr', boxed_turn h.res4 hg hr', boxed_turn h.used hg hr', h.below.grown hg (by have := h.below.size; omega) (fun k e => by have := (hr k e).1; omega), Nat.le_trans h.size hg.size⟩
set_option maxRecDepth 100000 in
theorem trOut_own (w : World) (r2 B : Nat) (hB : w.heap.size ≤ B) : OwnFrom B (fun (pre : List Tk) W => TROut w r2 pre W) := by
  intro pre W W' row h hg hr
  have hr' : ∀ r, row = some r → ∃ o : Obj, W.heap[r]? = some o ∧ o.isCells = false := fun r e => (hr r e).2
  obtain ⟨p, x, h1, h2, h3, h4⟩ := h.last
  exact ⟨⟨p, x, h1, h2, h3, boxed_turn h4 hg hr'⟩, boxed_turn h.res2 hg hr', boxed_turn h.res3 hg hr', h.below.grown hg (by have := h.below.size; omega) (fun k e => by have := (hr k e).1; omega)⟩

set_option maxRecDepth 100000 in
theorem kpT_alloc {n₀ Bs : Nat} {W : World} (hn : n₀ ≤ W.heap.size) (hB : Bs < W.heap.size) (o : Obj) : KpT n₀ Bs W (W.alloc o) :=
  ⟨(Below.refl _ W).alloc hn o, Below.heap_alloc W o Bs hB, fun g _ _ hg => Below.heap_alloc W o g (Array.getElem?_eq_some_iff.1 hg).1⟩
set_option maxRecDepth 100000 in
theorem kpT_set {n₀ Bs b : Nat} {t : TypeId} {u : Value} {W : World} (hb : Boxed W b t u) (hn : n₀ ≤ b) (hB : Bs ≠ b) (ht : t ≠ 108) (v : Value) : KpT n₀ Bs W (W.setCell ⟨b, 0, none⟩ v) :=
  ⟨(Below.refl _ W).setCell (p := ⟨b, 0, none⟩) hn v, Below.heap_setCell W ⟨b, 0, none⟩ v Bs hB, fun g cs fz hg => Below.heap_setCell W ⟨b, 0, none⟩ v g (by
    rintro rfl
    rw [show W.heap[g]? = _ from hb] at hg
    injection hg with hg
    injection hg with _ h2
    exact ht h2)⟩
set_option maxRecDepth 100000 in
theorem kpT_row {n₀ Bs Z k : Nat} {v : Value} {xs : List Value} {W W' : World} (hown : W.ownsRow Z 3 1 v k xs) (hg : W.grownBy W' v.ownBlock) (hn : n₀ ≤ Z) (hZ : Z ≤ W.heap.size) (hB : Bs < Z) : KpT n₀ Bs W W' :=
  ⟨(below_row hown hg hZ).mono hn, hg.block Bs (by omega) (fun e => by have := (hown.lt Bs e.symm).1; omega), fun g cs fz hh => hg.block g (Array.getElem?_eq_some_iff.1 hh).1 (fun e => by
    rcases hown.2 with ⟨rfl, _⟩ | ⟨g', cap, cur, rfl, _, hc, _⟩
    · simp [Value.ownBlock] at e
    · simp only [Value.ownBlock, Option.some.injEq] at e
      subst e
      rw [hc] at hh
      injection hh with hh
      injection hh with _ h2
      exact absurd h2 (by decide))⟩

set_option maxRecDepth 100000 in
/-- A round that has added a number. -/
theorem trInv_step {w : World} {Z r2 uB K Bs : Nat} {pre : List Tk} {W w3 : World} (h : TRInv w Z r2 uB K pre W) (h0 : w.heap.size ≤ r2) (h1 : r2 + 1 + 1 < uB) (h2 : uB < Bs) (h3 : Bs < Z) {x : Tk} (hx : x.1.2.2 = 0) {v v' : Value} (hv : Boxed W r2 41 v)
    (hown : W.ownsRow Z 3 1 v pre.length (iv (ints (vals pre)))) {o : Obj} (ho : (W.alloc o).ownsRow Z 3 1 v pre.length (iv (ints (vals pre)))) (hg : (W.alloc o).grownBy w3 v.ownBlock)
    (hown' : w3.ownsRow Z 3 1 v' (pre.length + 1) (iv (ints (vals pre)) ++ [.int .i64 (x.1.1 : Int)])) {u : Int} (hu : u = ((K + sumK pre : Nat) : Int) + (x.1.2.1 : Int)) :
    KeepsOthers W ((w3.setCell ⟨r2, 0, none⟩ v').setCell ⟨uB, 0, none⟩ (.int .i64 u)) ∧ KpT w.heap.size Bs W ((w3.setCell ⟨r2, 0, none⟩ v').setCell ⟨uB, 0, none⟩ (.int .i64 u)) ∧
      TRInv w Z r2 uB K (pre ++ [x]) ((w3.setCell ⟨r2, 0, none⟩ v').setCell ⟨uB, 0, none⟩ (.int .i64 u)) := by
  have hZ := h.size
  have hbs := h.below.size
  have far : ∀ b, b < Z → some b ≠ v.ownBlock := fun b hb e => by have := (hown.lt b e.symm).1; omega
  have far' : ∀ b, b < Z → v'.ownBlock ≠ some b := fun b hb e => by have := (hown'.lt b e).1; omega
  have b2 : Boxed w3 r2 41 v := (hv.alloc o).kept hg (far r2 (by omega))
  have b3 : Boxed w3 (r2 + 1) 22 (.slice none 0 0) := (h.res3.alloc o).kept hg (far _ (by omega))
  have b4 : Boxed w3 (r2 + 1 + 1) 30 (.int .i64 0) := (h.res4.alloc o).kept hg (far _ (by omega))
  have bu : Boxed w3 uB 3 (.int .i64 ((K + sumK pre : Nat) : Int)) := (h.used.alloc o).kept hg (far _ (by omega))
  have ho3 := ownsRow_setCell_other (a := ⟨r2, 0, none⟩) hown' (far' r2 (by omega)) v'
  have ho4 := ownsRow_setCell_other (a := ⟨uB, 0, none⟩) ho3 (far' uB (by omega)) (.int .i64 u)
  have k1 : KpT w.heap.size Bs W w3 := kpT_t (kpT_alloc hbs (by omega) o) (kpT_row ho hg (by omega) (by simp; omega) h3)
  have k2 := kpT_set (n₀ := w.heap.size) (Bs := Bs) b2 h0 (by omega) (by decide) v'
  have k3 := kpT_set (n₀ := w.heap.size) (Bs := Bs) (bu.other (B' := r2) (by omega) v') (by omega) (by omega) (by decide) (.int .i64 u)
  have kk := kpT_t (kpT_t k1 k2) k3
  have hs3 : Z ≤ w3.heap.size := by have := hg.size; simp at this; omega
  refine ⟨(((KeepsOthers.alloc W o).trans (keeps_row ho hg)).trans (KeepsOthers.setCell _ _ _)).trans (KeepsOthers.setCell _ _ _), kk, ?_⟩
  refine ⟨?_, ⟨v', (b2.set v').other (by omega) _, ?_⟩, (b3.other (by omega) _).other (by omega) _, (b4.other (by omega) _).other (by omega) _, ?_, h.below.trans kk.1, by simpa [World.setCell] using hs3⟩
  · intro y hy
    simp only [List.mem_append, List.mem_singleton] at hy
    rcases hy with hy | rfl
    · exact h.ok y hy
    · exact hx
  · rw [vals_snoc, List.length_append]; exact ho4
  · have e : ((K + sumK (pre ++ [x]) : Nat) : Int) = u := by rw [hu, sumK_snoc]; omega
    rw [e]
    exact (bu.other (by omega) _).set _

set_option maxRecDepth 100000 in
/-- A round that has left. -/
theorem trOut_step {w : World} {Z r2 uB K : Nat} {pre : List Tk} {W : World} (h : TRInv w Z r2 uB K pre W) (h0 : w.heap.size ≤ r2) {x : Tk} (hx : x.1.2.2 ≠ 0) (hv : ∃ v, Boxed W r2 41 v) :
    TROut w r2 (pre ++ [x]) (((W.setCell ⟨r2, 0, none⟩ (.slice none 0 0)).setCell ⟨r2 + 1, 0, none⟩ (.slice none 0 0)).setCell ⟨r2 + 1 + 1, 0, none⟩ (.int .i64 (x.1.2.2 : Int))).drew := by
  obtain ⟨v, hv⟩ := hv
  exact ⟨⟨pre, x, rfl, h.ok, hx, ((h.res4.other (by omega) _).other (by omega) _).set _⟩, ((hv.set _).other (by omega) _).other (by omega) _, ((h.res3.other (by omega) _).set _).other (by omega) _,
    (((h.below.setCell (p := ⟨r2, 0, none⟩) h0 _).setCell (p := ⟨r2 + 1, 0, none⟩) (by show w.heap.size ≤ r2 + 1; omega) _).setCell (p := ⟨r2 + 1 + 1, 0, none⟩) (by show w.heap.size ≤ r2 + 1 + 1; omega) _).drew⟩

set_option maxRecDepth 100000 in
theorem items_err : ∀ (k : Nat) (bs : List Nat) (p : List Tk) (x : Tk), (p ++ [x]) <+: items k bs → x.1.2.2 ≠ 0 → (takes k bs).2.2 = x.1.2.2 := by
  intro k
  induction k with
  | zero => intro bs p x h _; simp [items] at h
  | succ k ih =>
    intro bs p x h hx
    simp only [items] at h
    simp only [takes]
    cases p with
    | nil =>
      simp only [List.nil_append, List.cons_prefix_cons] at h
      have h1 : x.1 = first bs := by rw [h.1]; rfl
      rw [h1] at hx ⊢
      rw [if_neg hx]
    | cons y p =>
      simp only [List.cons_append, List.cons_prefix_cons] at h
      by_cases h0 : (first bs).2.2 = 0
      · rw [if_pos h0] at h ⊢
        exact ih _ p x h.2 hx
      · rw [if_neg h0] at h
        simp at h
set_option maxRecDepth 100000 in
theorem items_ok : ∀ (k : Nat) (bs : List Nat), (∀ x ∈ items k bs, x.1.2.2 = 0) → takes k bs = (sumK (items k bs), vals (items k bs), 0) := by
  intro k
  induction k with
  | zero => intro bs _; rfl
  | succ k ih =>
    intro bs h
    have h0 : (first bs).2.2 = 0 := h (firstT bs) (by simp [items])
    simp only [items, if_pos h0] at h ⊢
    simp only [takes]
    rw [if_pos h0, ih _ (fun x hx => h x (by simp [hx]))]
    simp [sumK, vals, firstT]
set_option maxRecDepth 100000 in
theorem takeRow_ok {bs : List Nat} {N K : Nat} (hF : first bs = (N, K, 0)) (hN : N ≤ 40) (h : ∀ x ∈ items N (bs.drop K), x.1.2.2 = 0) : takeRow bs = (K + sumK (items N (bs.drop K)), vals (items N (bs.drop K)), 0) := by
  have h1 := items_ok _ _ h
  unfold takeRow
  simp only [hF, h1]
  rw [if_neg (by simp), if_neg (by omega), if_neg (by simp)]
set_option maxRecDepth 100000 in
theorem takeRow_bad {bs : List Nat} {N K : Nat} (hF : first bs = (N, K, 0)) (hN : N ≤ 40) {p : List Tk} {x : Tk} (h : (p ++ [x]) <+: items N (bs.drop K)) (hx : x.1.2.2 ≠ 0) : takeRow bs = (0, [], x.1.2.2) := by
  have h1 := items_err _ _ p x h hx
  unfold takeRow
  simp only [hF, h1]
  rw [if_neg (by simp), if_neg (by omega), if_pos hx]

set_option maxRecDepth 100000 in
theorem items_len : ∀ (k : Nat) (bs : List Nat), (items k bs).length ≤ k := by
  intro k
  induction k with
  | zero => intro bs; simp [items]
  | succ k ih =>
    intro bs
    simp only [items, List.length_cons]
    split
    · have := ih (bs.drop (first bs).2.1); omega
    · simp

set_option maxRecDepth 100000 in
set_option maxHeartbeats 400000 in
theorem takeRow_err1 (A : Option Addr) (n c : Nat) (bs : List Nat) (B : Nat) (w : World) (hr : Rd w B A n (bv bs)) (hB : B ≤ w.heap.size) (hb : ∀ x ∈ bs, x < 256) (hn : n ≤ maxLen) {N K E : Nat} (hF : first bs = (N, K, E)) (hE : E ≠ 0) :
    Calls Try.prog 59 #[.slice A n c] w (RowIs [] [] E w) := by
  have H1 : Hid (∀ W : World, Below w.heap.size w W → Calls Try.prog 75 #[.slice A n c] W fun e w' => e = .returned (.agg #[.int .i64 (N : Int), .int .i64 (K : Int), .int .i64 (E : Int)]) ∧ Below W.heap.size W w' ∧ KeepsOthers W w') :=
    fun W hW => first_eq A n c bs B W (hr.below (hW.mono hB)) (by have := hW.size; omega) hb hn hF
  have hEb : ((E : Int) != 0) = true := by simp; exact hE
  clear hr hb hF hE
  go_enter Try.func59, Try.ntmps59
  go_wp2_with fail
  have b0 : Below w.heap.size w (((w.alloc (.cells #[.slice none 0 0] 41)).alloc (.cells #[.slice none 0 0] 22)).alloc (.cells #[.int .i64 0] 30)) := (((Below.refl _ w).alloc (Nat.le_refl _) _).alloc (by simp) _).alloc (by simp; omega) _
  refine (H1.out _ b0).mono ?_
  rintro e w1 ⟨rfl, hb1, _⟩
  have bb : Below w.heap.size w w1 := b0.trans (hb1.mono (by simp; omega))
  have q2 : Boxed w1 w.heap.size 41 (.slice none 0 0) := boxed_under (((Boxed.new w 41 (.slice none 0 0)).alloc _).alloc _) hb1
  have q3 : Boxed w1 (w.heap.size + 1) 22 (.slice none 0 0) := by
    have h := Boxed.new (w.alloc (.cells #[.slice none 0 0] 41)) 22 (.slice none 0 0)
    rw [World.size_alloc] at h
    exact boxed_under (h.alloc _) hb1
  have q4 : Boxed w1 (w.heap.size + 1 + 1) 30 (.int .i64 0) := by
    have h := Boxed.new ((w.alloc (.cells #[.slice none 0 0] 41)).alloc (.cells #[.slice none 0 0] 22)) 30 (.int .i64 0)
    rw [World.size_alloc, World.size_alloc] at h
    exact boxed_under h hb1
  obtain ⟨W2, hW2⟩ : ∃ W2, w1.alloc (.cells #[.int .i64 (N : Int), .int .i64 (K : Int), .int .i64 (E : Int)] 108) = W2 := ⟨_, rfl⟩
  have x2 : W2.cell? ⟨w1.heap.size, 2, none⟩ = some (.int .i64 (E : Int)) := by rw [← hW2]; exact cell_new w1 _ _ 2
  have p2 : Boxed W2 w.heap.size 41 (.slice none 0 0) := by rw [← hW2]; exact q2.alloc _
  have p3 : Boxed W2 (w.heap.size + 1) 22 (.slice none 0 0) := by rw [← hW2]; exact q3.alloc _
  have p4 : Boxed W2 (w.heap.size + 1 + 1) 30 (.int .i64 0) := by rw [← hW2]; exact q4.alloc _
  have b2 : Below w.heap.size w W2 := by rw [← hW2]; exact bb.alloc bb.size _
  have c2 := p2.cell
  have f2 := p2.frozen
  have c3 := p3.cell
  have f3 := p3.frozen
  have c4 := p4.cell
  have f4 := p4.frozen
  have B2 := Lib.hid b2
  have P2 := Lib.hid p2
  have P3 := Lib.hid p3
  have P4 := Lib.hid p4
  clear b0 hb1 bb q2 q3 q4 p2 p3 p4 b2 H1
  go_wp2_with fail
  go_region
  go_wp2_with fail
  obtain ⟨W3, hW3⟩ : ∃ W3, (((W2.setCell ⟨w.heap.size, 0, none⟩ (.slice none 0 0)).setCell ⟨w.heap.size + 1, 0, none⟩ (.slice none 0 0)).setCell ⟨w.heap.size + 1 + 1, 0, none⟩ (.int .i64 (E : Int))).drew = W3 := ⟨_, rfl⟩
  have z2 : Boxed W3 w.heap.size 41 (.slice none 0 0) := by rw [← hW3]; exact ((P2.out.set _).other (by omega) _).other (by omega) _
  have z3 : Boxed W3 (w.heap.size + 1) 22 (.slice none 0 0) := by rw [← hW3]; exact ((P3.out.other (by omega) _).set _).other (by omega) _
  have z4 : Boxed W3 (w.heap.size + 1 + 1) 30 (.int .i64 (E : Int)) := by rw [← hW3]; exact ((P4.out.other (by omega) _).other (by omega) _).set _
  have b3 : Below w.heap.size w W3 := by
    rw [← hW3]
    exact (((B2.out.setCell (p := ⟨w.heap.size, 0, none⟩) (Nat.le_refl _) _).setCell (p := ⟨w.heap.size + 1, 0, none⟩) (by simp) _).setCell (p := ⟨w.heap.size + 1 + 1, 0, none⟩) (by simp; omega) _).drew
  rw [hW3]
  exact bodyPost_ret (v := .tuple #[.slice none 0 0, .slice none 0 0, .int .i64 (E : Int)]) (by simp [results, Try.results59, go_sem, z2.cell, z3.cell, z4.cell]) rfl (rowIs_nil b3)

set_option maxRecDepth 100000 in
set_option maxHeartbeats 400000 in
theorem takeRow_big (A : Option Addr) (n c : Nat) (bs : List Nat) (B : Nat) (w : World) (hr : Rd w B A n (bv bs)) (hB : B ≤ w.heap.size) (hb : ∀ x ∈ bs, x < 256) (hn : n ≤ maxLen) {N K : Nat} (hF : first bs = (N, K, 0)) (hN : 40 < N) :
    Calls Try.prog 59 #[.slice A n c] w (RowIs [] [] 11 w) := by
  have H1 : Hid (∀ W : World, Below w.heap.size w W → Calls Try.prog 75 #[.slice A n c] W fun e w' => e = .returned (.agg #[.int .i64 (N : Int), .int .i64 (K : Int), .int .i64 ((0 : Nat) : Int)]) ∧ Below W.heap.size W w' ∧ KeepsOthers W w') :=
    fun W hW => first_eq A n c bs B W (hr.below (hW.mono hB)) (by have := hW.size; omega) hb hn hF
  have hNb : (40 : Int) < (N : Int) := by omega
  clear hr hb hF
  go_enter Try.func59, Try.ntmps59
  go_wp2_with fail
  have b0 : Below w.heap.size w (((w.alloc (.cells #[.slice none 0 0] 41)).alloc (.cells #[.slice none 0 0] 22)).alloc (.cells #[.int .i64 0] 30)) := (((Below.refl _ w).alloc (Nat.le_refl _) _).alloc (by simp) _).alloc (by simp; omega) _
  refine (H1.out _ b0).mono ?_
  rintro e w1 ⟨rfl, hb1, _⟩
  have bb : Below w.heap.size w w1 := b0.trans (hb1.mono (by simp; omega))
  have q2 : Boxed w1 w.heap.size 41 (.slice none 0 0) := boxed_under (((Boxed.new w 41 (.slice none 0 0)).alloc _).alloc _) hb1
  have q3 : Boxed w1 (w.heap.size + 1) 22 (.slice none 0 0) := by
    have h := Boxed.new (w.alloc (.cells #[.slice none 0 0] 41)) 22 (.slice none 0 0)
    rw [World.size_alloc] at h
    exact boxed_under (h.alloc _) hb1
  have q4 : Boxed w1 (w.heap.size + 1 + 1) 30 (.int .i64 0) := by
    have h := Boxed.new ((w.alloc (.cells #[.slice none 0 0] 41)).alloc (.cells #[.slice none 0 0] 22)) 30 (.int .i64 0)
    rw [World.size_alloc, World.size_alloc] at h
    exact boxed_under h hb1
  obtain ⟨W2, hW2⟩ : ∃ W2, w1.alloc (.cells #[.int .i64 (N : Int), .int .i64 (K : Int), .int .i64 0] 108) = W2 := ⟨_, rfl⟩
  have x2 : W2.cell? ⟨w1.heap.size, 2, none⟩ = some (.int .i64 0) := by rw [← hW2]; exact cell_new w1 _ _ 2
  have x0 : W2.cell? ⟨w1.heap.size, 0, none⟩ = some (.int .i64 (N : Int)) := by rw [← hW2]; exact cell_new w1 _ _ 0
  have p2 : Boxed W2 w.heap.size 41 (.slice none 0 0) := by rw [← hW2]; exact q2.alloc _
  have p3 : Boxed W2 (w.heap.size + 1) 22 (.slice none 0 0) := by rw [← hW2]; exact q3.alloc _
  have p4 : Boxed W2 (w.heap.size + 1 + 1) 30 (.int .i64 0) := by rw [← hW2]; exact q4.alloc _
  have b2 : Below w.heap.size w W2 := by rw [← hW2]; exact bb.alloc bb.size _
  have c2 := p2.cell
  have f2 := p2.frozen
  have c3 := p3.cell
  have f3 := p3.frozen
  have c4 := p4.cell
  have f4 := p4.frozen
  have B2 := Lib.hid b2
  have P2 := Lib.hid p2
  have P3 := Lib.hid p3
  have P4 := Lib.hid p4
  clear b0 hb1 bb q2 q3 q4 p2 p3 p4 b2 H1
  subst hW2
  go_wp2_with fail
  obtain ⟨W3, hW3⟩ : ∃ W3, ((((w1.alloc (.cells #[.int .i64 (N : Int), .int .i64 (K : Int), .int .i64 0] 108)).setCell ⟨w.heap.size, 0, none⟩ (.slice none 0 0)).setCell ⟨w.heap.size + 1, 0, none⟩ (.slice none 0 0)).setCell ⟨w.heap.size + 1 + 1, 0, none⟩ (.int .i64 11)) = W3 := ⟨_, rfl⟩
  have z2 : Boxed W3 w.heap.size 41 (.slice none 0 0) := by rw [← hW3]; exact ((P2.out.set _).other (by omega) _).other (by omega) _
  have z3 : Boxed W3 (w.heap.size + 1) 22 (.slice none 0 0) := by rw [← hW3]; exact ((P3.out.other (by omega) _).set _).other (by omega) _
  have z4 : Boxed W3 (w.heap.size + 1 + 1) 30 (.int .i64 11) := by rw [← hW3]; exact ((P4.out.other (by omega) _).other (by omega) _).set _
  have b3 : Below w.heap.size w W3 := by
    rw [← hW3]
    exact (((B2.out.setCell (p := ⟨w.heap.size, 0, none⟩) (Nat.le_refl _) _).setCell (p := ⟨w.heap.size + 1, 0, none⟩) (by simp) _).setCell (p := ⟨w.heap.size + 1 + 1, 0, none⟩) (by simp; omega) _)
  rw [hW3]
  exact bodyPost_ret (v := .tuple #[.slice none 0 0, .slice none 0 0, .int .i64 11]) (by simp [results, Try.results59, go_sem, z2.cell, z3.cell, z4.cell]) rfl (rowIs_nil (E := 11) b3)

set_option maxRecDepth 100000 in
set_option maxHeartbeats 1000000 in
theorem takeRow_go (A : Option Addr) (n c : Nat) (bs : List Nat) (B : Nat) (w : World) (hr : Rd w B A n (bv bs)) (hB : B ≤ w.heap.size) (hb : ∀ x ∈ bs, x < 256) (hn : n ≤ 140737488355328) (hc : n ≤ c) {N K : Nat} (hF : first bs = (N, K, 0)) (hN : N ≤ 40) :
    Calls Try.prog 59 #[.slice A n c] w (TRPost bs w) := by
  have H1 : Hid (∀ W : World, Below w.heap.size w W → Calls Try.prog 75 #[.slice A n c] W fun e w' => e = .returned (.agg #[.int .i64 (N : Int), .int .i64 (K : Int), .int .i64 ((0 : Nat) : Int)]) ∧ Below W.heap.size W w' ∧ KeepsOthers W w') :=
    fun W hW => first_eq A n c bs B W (hr.below (hW.mono hB)) (by have := hW.size; omega) hb (by unfold maxLen; omega) hF
  have hKl := (first_le hF).1
  have hl : bs.length = n := by have := hr.1; rwa [bv_length] at this
  obtain ⟨A', hA1, hA2⟩ := run_rest A n c K (by omega)
  have hd40 : decide ((40 : Int) < (N : Int)) = false := by simp; omega
  have HR := Lib.hid hr
  have HA1 := Lib.hid hA1
  have HA2 := Lib.hid hA2
  have HF := Lib.hid hF
  have Hb := Lib.hid hb
  have HL := Lib.hid hl
  have HKl := Lib.hid hKl
  clear hr hA2 hA1 hF hb hl hKl
  refine (callsIn_wide (n := 6)).1 ?_
  refine callsIn_of_wp_marks Try.func59 rfl trivial ?_ rfl
  simp only [Try.ntmps59, List.size_toArray, List.length_cons, List.length_nil, Nat.reduceAdd, Nat.reduceSub, Array.replicate_succ, Array.replicate_zero, List.push_toArray, List.append_toArray, List.nil_append, List.cons_append]
  gi_wp2_with fail
  refine ⟨trivial, ?_⟩
  have b0 : Below w.heap.size w (((w.alloc (.cells #[.slice none 0 0] 41)).alloc (.cells #[.slice none 0 0] 22)).alloc (.cells #[.int .i64 0] 30)) := (((Below.refl _ w).alloc (Nat.le_refl _) _).alloc (by simp) _).alloc (by simp; omega) _
  refine (callsIn_wide.2 (H1.out _ b0)).mono ?_
  rintro e w1 ⟨rfl, hb1, _⟩
  have bb : Below w.heap.size w w1 := b0.trans (hb1.mono (by simp; omega))
  have q2 : Boxed w1 w.heap.size 41 (.slice none 0 0) := boxed_under (((Boxed.new w 41 (.slice none 0 0)).alloc _).alloc _) hb1
  have q3 : Boxed w1 (w.heap.size + 1) 22 (.slice none 0 0) := by
    have h := Boxed.new (w.alloc (.cells #[.slice none 0 0] 41)) 22 (.slice none 0 0)
    rw [World.size_alloc] at h
    exact boxed_under (h.alloc _) hb1
  have q4 : Boxed w1 (w.heap.size + 1 + 1) 30 (.int .i64 0) := by
    have h := Boxed.new ((w.alloc (.cells #[.slice none 0 0] 41)).alloc (.cells #[.slice none 0 0] 22)) 30 (.int .i64 0)
    rw [World.size_alloc, World.size_alloc] at h
    exact boxed_under h hb1
  obtain ⟨W2, hW2⟩ : ∃ W2, (w1.alloc (.cells #[.int .i64 (N : Int), .int .i64 (K : Int), .int .i64 0] 108)).alloc (.cells #[.int .i64 (K : Int)] 3) = W2 := ⟨_, rfl⟩
  have hs2 : W2.heap.size = w1.heap.size + 2 := by rw [← hW2]; simp
  have p2 : Boxed W2 w.heap.size 41 (.slice none 0 0) := by rw [← hW2]; exact (q2.alloc _).alloc _
  have p3 : Boxed W2 (w.heap.size + 1) 22 (.slice none 0 0) := by rw [← hW2]; exact (q3.alloc _).alloc _
  have p4 : Boxed W2 (w.heap.size + 1 + 1) 30 (.int .i64 0) := by rw [← hW2]; exact (q4.alloc _).alloc _
  have p5 : W2.heap[w1.heap.size]? = some (.cells #[.int .i64 (N : Int), .int .i64 (K : Int), .int .i64 0] 108 (0, 0)) := by
    rw [← hW2]; exact (Below.heap_alloc _ _ _ (by simp)).trans (heap_alloc_new w1 _)
  have p6 : Boxed W2 (w1.heap.size + 1) 3 (.int .i64 (K : Int)) := by
    rw [← hW2]; have h := Boxed.new (w1.alloc (.cells #[.int .i64 (N : Int), .int .i64 (K : Int), .int .i64 0] 108)) 3 (.int .i64 (K : Int))
    rwa [World.size_alloc] at h
  have b2 : Below w.heap.size w W2 := by rw [← hW2]; exact (bb.alloc bb.size _).alloc (by have := bb.size; simp; omega) _
  have hbs : w.heap.size + 3 ≤ w1.heap.size := by have := hb1.size; simpa using this
  have x0 : W2.cell? ⟨w1.heap.size, 0, none⟩ = some (.int .i64 (N : Int)) := cell_of_row W2 _ 0 _ _ _ p5
  have x6 := p6.cell
  have P2 := Lib.hid p2
  have P3 := Lib.hid p3
  have P4 := Lib.hid p4
  have P6 := Lib.hid p6
  have B2 := Lib.hid b2
  have HS2 := Lib.hid hs2
  clear b0 hb1 bb q2 q3 q4 p2 p3 p4 p5 p6 b2 H1
  gi_wp2_with fail
  have hA1 := HA1.out
  refine wpIn_wide.2 ?_
  go_region_held3 (fun W => W.cell? ⟨w1.heap.size, 0, none⟩ = some (.int .i64 (N : Int)) ∧ W.cell? ⟨w1.heap.size + 1, 0, none⟩ = some (.int .i64 (K : Int))) (go_keep)
    (first | (go_at_call 76; refine (takes_any _ _ _ _ _).mono ?_; rintro e w3 ⟨rfl, rfl⟩))
  gi_wp2_with fail
  clear hA1 x0 x6
  obtain ⟨W0, hW0⟩ : ∃ W0, ((W2.alloc (.cells #[.slice A' (n - K) (c - K)] 22)).alloc (.cells #[.int .i64 (N : Int)] 3)).drew = W0 := ⟨_, rfl⟩
  have hs0 : W0.heap.size = w1.heap.size + 4 := by rw [← hW0]; show (_ : World).heap.size = _; simp [hs2]
  have bArg : Boxed W0 (w1.heap.size + 2) 22 (.slice A' (n - K) (c - K)) := by
    rw [← hW0]; have h := (Boxed.new W2 22 (.slice A' (n - K) (c - K))).alloc (.cells #[.int .i64 (N : Int)] 3)
    rw [hs2] at h; exact h
  have bMany : Boxed W0 (w1.heap.size + 2 + 1) 3 (.int .i64 (N : Int)) := by
    rw [← hW0]; have h := Boxed.new (W2.alloc (.cells #[.slice A' (n - K) (c - K)] 22)) 3 (.int .i64 (N : Int))
    rw [World.size_alloc, hs2] at h; exact h
  have hInv : TRInv w W0.heap.size w.heap.size (w1.heap.size + 1) K [] W0 := by
    refine ⟨by simp, ⟨.slice none 0 0, ?_, World.ownsRow_nil _ _ _ _⟩, ?_, ?_, ?_, ?_, Nat.le_refl _⟩
    · rw [← hW0]; exact (P2.out.alloc _).alloc _
    · rw [← hW0]; exact (P3.out.alloc _).alloc _
    · rw [← hW0]; exact (P4.out.alloc _).alloc _
    · rw [← hW0]; exact (P6.out.alloc _).alloc _
    · rw [← hW0]; exact ((B2.out.alloc B2.out.size _).alloc (by have := B2.out.size; simp; omega) _).drew
  have hRd : Rd W0 w.heap.size A' (n - K) (bv (bs.drop K)) := by
    have h1 : Rd W0 w.heap.size A n (bv bs) := (HR.out.more hB).below hInv.below
    have h2 := h1.cut (by have h3 := HKl.out; have h4 := HL.out; omega) A' (fun hk => HA2.out ⟨hk, hc⟩)
    rw [bv, List.map_drop]; exact h2
  rw [hW0]
  clear hW0 hW2 P2 P3 P4 P6 B2 HS2 hs2
  refine wpIn_rangeFunc_ownH rfl (by omega) (gf := 89) (lb := #[.pointer (some ⟨w1.heap.size + 2 + 1, 0, none⟩), .pointer (some ⟨w1.heap.size + 2, 0, none⟩)]) rfl trivial (enters_of Try.func89 (by kernel_rfl) rfl)
    (encs := fun x : Tk => #[.agg #[.int .i64 (x.1.1 : Int), .int .i64 (x.1.2.1 : Int), .int .i64 (x.1.2.2 : Int)]])
    (takes_stops 5 (w1.heap.size + 2 + 1) (w1.heap.size + 2) w.heap.size A' (n - K) (c - K) N (bs.drop K) (by omega) (by omega) (by omega) (fun x hx => Hb.out x (List.mem_of_mem_drop hx)) W0 (by omega) (by omega) (by omega) bMany.cell bArg.cell hRd)
    (fun h k => kpT_t h k) (kpT_b (by omega) (by omega)) (Below.refl _ _) (fun _ => rfl)
    (TRInv w W0.heap.size w.heap.size (w1.heap.size + 1) K) (fun k pre W => k = .ret ∧ TROut w w.heap.size pre W)
    (trInv_own _ _ _ _ _ _ (by omega)) (fun k pre W W' row h hg hr => ⟨h.1, trOut_own w w.heap.size W0.heap.size (by omega) pre W W' row h.2 hg hr⟩) hInv
    (fun x a' W => ∃ Bx, W0.heap.size ≤ Bx ∧ W.heap[Bx]? = some (.cells #[.int .i64 (x.1.1 : Int), .int .i64 (x.1.2.1 : Int), .int .i64 (x.1.2.2 : Int)] 108 (0, 0)) ∧
      a' = { tmps := #[.slice A n c, undef, .pointer (some ⟨w.heap.size, 0, none⟩), .pointer (some ⟨w.heap.size + 1, 0, none⟩), .pointer (some ⟨w.heap.size + 1 + 1, 0, none⟩), .pointer (some ⟨w1.heap.size, 0, none⟩), .pointer (some ⟨w1.heap.size + 1, 0, none⟩), .pointer (some ⟨Bx, 0, none⟩), .slice A n c,
        .agg #[.int .i64 (N : Int), .int .i64 (K : Int), .int .i64 0], .pointer (some ⟨w1.heap.size, 2, none⟩), .int .i64 0, .bool false, undef, undef, .pointer (some ⟨w1.heap.size, 0, none⟩), .int .i64 (N : Int), .bool false, .pointer (some ⟨w1.heap.size, 1, none⟩), .int .i64 (K : Int), .slice A n c, .int .i64 (K : Int), .slice A' (n - K) (c - K), .pointer (some ⟨w1.heap.size, 0, none⟩), .int .i64 (N : Int),
        .func (.func 89) #[] #[.pointer (some ⟨w1.heap.size + 2 + 1, 0, none⟩), .pointer (some ⟨w1.heap.size + 2, 0, none⟩)], .agg #[.int .i64 (x.1.1 : Int), .int .i64 (x.1.2.1 : Int), .int .i64 (x.1.2.2 : Int)], undef, undef, undef, undef, undef, undef, undef, undef, undef, undef, undef, undef, undef, undef, undef, undef, undef, undef, undef], defers := [] })
    (fun x a' _ X Y row hs hg hr => by
      obtain ⟨Bx, h1, h2, h3⟩ := hs
      refine ⟨Bx, h1, (hg.block Bx (Array.getElem?_eq_some_iff.1 h2).1 (fun e => ?_)).trans h2, h3⟩
      obtain ⟨o, ho, hc⟩ := (hr Bx e.symm).2
      rw [h2] at ho; cases ho; cases hc) ?assign ?body ?done ?stop
  case assign =>
    rintro l pre x W K' hI hK
    gi_wp2
    refine hK _ _ ((KeepsOthers.alloc _ _).from _) (kpT_alloc hI.below.size (by have := hI.size; omega) _) ?_ ⟨W.heap.size, hI.size, heap_alloc_new W _, rfl⟩
    obtain ⟨v, h1, h2⟩ := hI.res2
    exact ⟨hI.ok, ⟨v, h1.alloc _, h2.alloc _⟩, hI.res3.alloc _, hI.res4.alloc _, hI.used.alloc _, hI.below.alloc hI.below.size _, by have := hI.size; simp; omega⟩
  case body =>
    obtain ⟨i0, hi, hz0, hz1, hz2⟩ := info_parts info_int
    have hmix : Try.prog.follows .mixedOrders = true := by kernel_rfl
    rintro l pre x a' W hl _ hI ⟨Bx, hBx, hX, rfl⟩ hlt
    have hpl : pre.length < 40 := by
      have h1 := items_len N (bs.drop K)
      omega
    have x0 : W.cell? ⟨Bx, 0, none⟩ = some (.int .i64 (x.1.1 : Int)) := cell_of_row W _ 0 _ _ _ hX
    have x1 : W.cell? ⟨Bx, 1, none⟩ = some (.int .i64 (x.1.2.1 : Int)) := cell_of_row W _ 1 _ _ _ hX
    have x2 : W.cell? ⟨Bx, 2, none⟩ = some (.int .i64 (x.1.2.2 : Int)) := cell_of_row W _ 2 _ _ _ hX
    have hx6 := x.2.1
    have hS := sumK_le pre
    obtain ⟨v, hv, hown⟩ := hI.res2
    obtain ⟨Av, cv, rfl⟩ := own_form hown
    have c2 := hv.cell
    have f2 := hv.frozen
    have c3 := hI.res3.cell
    have f3 := hI.res3.frozen
    have c4 := hI.res4.cell
    have f4 := hI.res4.frozen
    have cu := hI.used.cell
    have fu := hI.used.frozen
    have hsz := hI.size
    have HI := Lib.hid hI
    have Hv := Lib.hid hv
    have Hown := Lib.hid hown
    have HX := Lib.hid hX
    have hKb : K ≤ 140737488355328 := by have h1 := HKl.out; have h2 := HL.out; omega
    clear hI hv hown hX
    obtain ⟨V, hV⟩ : ∃ V, x.1.1 = V := ⟨_, rfl⟩
    obtain ⟨L, hL⟩ : ∃ L, x.1.2.1 = L := ⟨_, rfl⟩
    obtain ⟨E, hE⟩ : ∃ E, x.1.2.2 = E := ⟨_, rfl⟩
    rw [hV] at x0 ⊢
    rw [hL] at x1 hx6 ⊢
    rw [hE] at x2 ⊢
    have HV := Lib.hid hV
    have HL2 := Lib.hid hL
    have HE := Lib.hid hE
    clear hV hL hE
    by_cases hE0 : E = 0
    · subst hE0
      gi_wp2_with (gi_at_builtin; refine wpListIn_append_own _ rfl _ _ 41 rfl W0.heap.size 3 i0 (.int .i64 0) 1 8 Try.underlying41 hi hz0 hz1 hz2 rfl (by decide) _ _ _ rfl (Hown.out.alloc _) ⟨W.heap.size, 0, none⟩ 1 1 [.int .i64 (V : Int)] rfl rfl (cell_one_new _ _ _) (by simp [Value.oneCell']) (by unfold maxLen; omega) (by omega) (by simp; omega) ?_; intro v' w3 hown' hgrow _; obtain ⟨g', cap', rfl⟩ := ownsRow_succ hown'; have Hown' := Lib.hid hown'; have Hgrow := Lib.hid hgrow; clear hown' hgrow; have e2 := (Hv.out.alloc _).kept Hgrow.out (fun e => by have := (Hown.out.lt _ e.symm).1; omega); have eu := (HI.out.used.alloc _).kept Hgrow.out (fun e => by have := (Hown.out.lt _ e.symm).1; omega); have ex := (((kpT_row (n₀ := 0) (Bs := w1.heap.size) (Hown.out.alloc _) Hgrow.out (by omega) (by simp; omega) (by omega)).2.2 Bx _ _ ((Below.heap_alloc W _ Bx (Array.getElem?_eq_some_iff.1 HX.out).1).trans HX.out)).trans (Below.heap_alloc W _ Bx (Array.getElem?_eq_some_iff.1 HX.out).1)).trans HX.out; have ec2 := e2.cell; have ef2 := e2.frozen; have ecu := eu.cell; have efu := eu.frozen; have ex1 := cell_of_row w3 _ 1 _ _ _ ex; clear e2 eu ex)
      obtain ⟨k1, k2, k3⟩ := trInv_step (u := (K : Int) + (sumK pre : Int) + (x.1.2.1 : Int)) HI.out (Nat.le_refl _) (by omega) (show w1.heap.size + 1 < w1.heap.size + 2 by omega) (by omega) HE.out Hv.out Hown.out (Hown.out.alloc _) Hgrow.out (by rw [HV.out]; exact Hown'.out) (by omega)
      exact ⟨k1.from _, k2, k3⟩
    · have hEb : ((E : Int) != 0) = true := by simp; exact hE0
      have HE0 : Hid (¬ E = 0) := hE0
      clear hE0
      gi_wp2_with fail
      gi_region_with_o (fail)
      all_goals gi_wp2
      all_goals
        have hO := trOut_step HI.out (Nat.le_refl _) (x := x) (by rw [HE.out]; exact HE0.out) ⟨_, Hv.out⟩
        rw [HE.out] at hO
        exact ⟨((((KeepsOthers.setCell _ _ _).trans (KeepsOthers.setCell _ _ _)).trans (KeepsOthers.setCell _ _ _)).trans (KeepsOthers.drew _)).from _, rfl, hO⟩
  case done =>
    rintro D ys W hD rfl hI hK
    have hT := takeRow_ok HF.out hN hI.ok
    have hle : K + sumK (items N (bs.drop K)) ≤ n := by
      have h1 := takeRow_only Hb.out (by rw [hT])
      have h2 := h1.2.2.2
      have h3 : bs.length = (row (takeRow bs).2.1).length + (bs.length - (takeRow bs).1) := by
        conv => lhs; rw [h1.1]
        rw [List.length_append, List.length_drop]
      rw [hT] at h2 h3
      have h4 := HL.out
      simp only at h2 h3
      omega
    obtain ⟨v, hv, hown⟩ := hI.res2
    obtain ⟨Av, cv, rfl⟩ := own_form hown
    obtain ⟨A2, hA1, hA2⟩ := run_rest A n c (K + sumK (items N (bs.drop K))) hle
    obtain ⟨U, hU⟩ : ∃ U, K + sumK (items N (bs.drop K)) = U := ⟨_, rfl⟩
    obtain ⟨M, hM⟩ : ∃ M, (items N (bs.drop K)).length = M := ⟨_, rfl⟩
    have cu := hI.used.cell
    rw [hU] at hA1 hA2 hle cu
    rw [hM] at hown hv
    have c2 := hv.cell
    have f2 := hv.frozen
    have c3 := hI.res3.cell
    have f3 := hI.res3.frozen
    have c4 := hI.res4.cell
    have f4 := hI.res4.frozen
    have HI := Lib.hid hI
    have Hv := Lib.hid hv
    have Hown := Lib.hid hown
    have HK := Lib.hid hK
    have HT := Lib.hid hT
    have HA2' := Lib.hid hA2
    have HU := Lib.hid hU
    have HM := Lib.hid hM
    have Hle := Lib.hid hle
    clear hI hv hown hK hT hA2 hU hM hle
    have HRd : Hid (Rd W.drew w.heap.size A2 (n - U) (bv (bs.drop U))) := by
      have h1 : Rd W.drew w.heap.size A n (bv bs) := (HR.out.more hB).below HI.out.below.drew
      have h2 := h1.cut Hle.out A2 (fun hk => HA2'.out ⟨hk, hc⟩)
      rw [bv, List.map_drop]; exact h2
    have Hn : Hid (n - U ≤ 140737488355328) := by show n - U ≤ 140737488355328; omega
    have hZ := HI.out.size
    have Hc : Hid (∀ w3 : World, Below W.drew.heap.size W.drew w3 → Boxed w3 w.heap.size 41 (.slice Av M cv) ∧ Boxed w3 (w.heap.size + 1) 22 (.slice none 0 0) ∧ Boxed w3 (w.heap.size + 1 + 1) 30 (.int .i64 0) ∧ Boxed w3 (w1.heap.size + 1) 3 (.int .i64 (U : Int))) := fun w3 h => by
      have h1 := HI.out.used
      rw [HU.out] at h1
      exact ⟨boxed_under (W := W.drew) Hv.out h, boxed_under (W := W.drew) HI.out.res3 h, boxed_under (W := W.drew) HI.out.res4 h, boxed_under (W := W.drew) h1 h⟩
    gi_wp2_with fail
    refine wpIn_wide.2 ?_
    go_region_held3 (fun X => X.cell? ⟨w.heap.size, 0, none⟩ = some (.slice Av M cv) ∧ X.cell? ⟨w1.heap.size + 1, 0, none⟩ = some (.int .i64 (U : Int))) (first | (with_reducible exact S7.out) | (with_reducible exact S6.out) | (with_reducible exact S5.out) | go_keep)
      (first | (go_at_call 58; refine (clone_any A2 (n - U) (c - U) (bs.drop U) w.heap.size _ HRd.out Hn.out).mono ?_; rintro e w3 ⟨A3, c3', rfl, hI3⟩; obtain ⟨g2, g3, g4, gu⟩ := Hc.out w3 hI3.2.1; have HI3 := Lib.hid hI3; have G2 := Lib.hid g2; have G3 := Lib.hid g3; have G4 := Lib.hid g4; have d2 := g2.cell; have e2 := g2.frozen; have d3 := g3.cell; have e3 := g3.frozen; have d4 := g4.cell; have e4 := g4.frozen; have du := gu.cell; have t5 := g2.set (.slice Av M cv); have u5 := gu.other (B' := w.heap.size) (by omega) (.slice Av M cv); have S5 := Lib.hid (And.intro t5.cell u5.cell); have t6 := t5.other (B' := w.heap.size + 1) (by omega) (.slice A3 (n - U) c3'); have u6 := u5.other (B' := w.heap.size + 1) (by omega) (.slice A3 (n - U) c3'); have S6 := Lib.hid (And.intro t6.cell u6.cell); have S7 := Lib.hid (And.intro (t6.other (B' := w.heap.size + 1 + 1) (by omega) (.int .i64 0)).cell (u6.other (B' := w.heap.size + 1 + 1) (by omega) (.int .i64 0)).cell); clear hI3 g2 g3 g4 gu t5 u5 t6 u6))
    gi_wp2_with fail
    obtain ⟨W1, hW1⟩ : ∃ W1, ((w3.setCell ⟨w.heap.size, 0, none⟩ (.slice Av M cv)).setCell ⟨w.heap.size + 1, 0, none⟩ (.slice A3 (n - U) c3')).setCell ⟨w.heap.size + 1 + 1, 0, none⟩ (.int .i64 0) = W1 := ⟨_, rfl⟩
    rw [hW1]
    have hb3 : Below W.heap.size W w3 := (Below.refl W.heap.size W).drew.trans HI3.out.2.1
    have hs3 := hb3.size
    have ho3 : w3.ownsRow W0.heap.size 3 1 (.slice Av M cv) M (iv (ints (vals (items N (bs.drop K))))) := Hown.out.kept (row := none) ⟨hb3.os, hb3.tape, hb3.output, hb3.size, fun i hi _ => hb3.block i hi⟩ (by
      rcases h : (Value.slice Av M cv).ownBlock with _ | b
      · exact .inl rfl
      · exact .inr (by simp))
    have hr3 : w3.ownsRow W.heap.size 5 1 (.slice A3 (n - U) c3') (n - U) (bv (bs.drop U)) := HI3.out.1
    have hK3 : w3.heap[D]? = some (.deferred (some [])) := HI3.out.2.2.1.same D _ HK.out rfl
    have far : ∀ b, b < W0.heap.size → (Value.slice Av M cv).ownBlock ≠ some b := fun b hb e => by have := (ho3.lt b e).1; omega
    have far2 : ∀ b, b < W0.heap.size → (Value.slice A3 (n - U) c3').ownBlock ≠ some b := fun b hb e => by have := (hr3.lt b e).1; omega
    have hK1 : W1.heap[D]? = some (.deferred (some [])) := by
      rw [← hW1]; exact (((KeepsOthers.setCell _ _ _).trans (KeepsOthers.setCell _ _ _)).trans (KeepsOthers.setCell _ _ _)).same D _ hK3 rfl
    have z2 : Boxed W1 w.heap.size 41 (.slice Av M cv) := by rw [← hW1]; exact ((G2.out.set _).other (by omega) _).other (by omega) _
    have z3 : Boxed W1 (w.heap.size + 1) 22 (.slice A3 (n - U) c3') := by rw [← hW1]; exact ((G3.out.other (by omega) _).set _).other (by omega) _
    have z4 : Boxed W1 (w.heap.size + 1 + 1) 30 (.int .i64 0) := by rw [← hW1]; exact ((G4.out.other (by omega) _).other (by omega) _).set _
    have zo : W1.ownsRow W0.heap.size 3 1 (.slice Av M cv) M (iv (ints (vals (items N (bs.drop K))))) := by
      rw [← hW1]; exact ownsRow_setCell_other (ownsRow_setCell_other (ownsRow_setCell_other ho3 (far _ (by show w.heap.size < _; omega)) _) (far _ (by show w.heap.size + 1 < _; omega)) _) (far _ (by show w.heap.size + 1 + 1 < _; omega)) _
    have zr : W1.ownsRow W.heap.size 5 1 (.slice A3 (n - U) c3') (n - U) (bv (bs.drop U)) := by
      rw [← hW1]; exact ownsRow_setCell_other (ownsRow_setCell_other (ownsRow_setCell_other hr3 (far2 _ (by show w.heap.size < _; omega)) _) (far2 _ (by show w.heap.size + 1 < _; omega)) _) (far2 _ (by show w.heap.size + 1 + 1 < _; omega)) _
    have zb : Below w.heap.size w W1 := by
      rw [← hW1]
      exact (((HI.out.below.trans (hb3.mono HI.out.below.size)).setCell (p := ⟨w.heap.size, 0, none⟩) (Nat.le_refl _) _).setCell (p := ⟨w.heap.size + 1, 0, none⟩) (by simp) _).setCell (p := ⟨w.heap.size + 1 + 1, 0, none⟩) (by simp; omega) _
    have hg' := grownBy_putObj' W1 D (.deferred none)
    have hr' : ∀ r, (some D) = some r → ∃ o : Obj, W1.heap[r]? = some o ∧ o.isCells = false := fun r e => by cases e; exact ⟨_, hK1, rfl⟩
    have q2 := (boxed_turn z2 hg' hr').cell
    have q3 := (boxed_turn z3 hg' hr').cell
    have q4 := (boxed_turn z4 hg' hr').cell
    have zb' : Below w.heap.size w (W1.putObj D (.deferred none)) := zb.trans ((Below.refl _ _).grown hg' zb.size (fun k e => by cases e; omega))
    refine ⟨by simp, .inl ⟨_, _, rfl, run_takeDeferred hK1, ?_⟩⟩
    refine ⟨.tuple #[.slice Av M cv, .slice A3 (n - U) c3', .int .i64 0], by simp [results, Try.results59, go_sem, q2, q3, q4], ?_⟩
    have hT := HT.out
    rw [HU.out] at hT
    have hbr : behindRow bs = bs.drop U := by unfold behindRow; rw [hT, if_pos rfl]
    have hM1 : (vals (items N (bs.drop K))).length = M := by rw [← HM.out]; simp [vals]
    have hL1 : (bs.drop U).length = n - U := by rw [List.length_drop, HL.out]
    unfold TRPost
    rw [hbr, hT]
    refine ⟨Av, cv, A3, c3', ?_, ?_, ?_, zb'⟩
    · rw [hM1, hL1]; rfl
    · simp only [hM1]; exact own_weaker (own_turn zo hg' hr') (by omega)
    · rw [hL1]; exact own_weaker (own_turn zr hg' hr') HI.out.below.size
  case stop =>
    rintro D k pre W hD hpre ⟨rfl, hO⟩ hK
    gi_wp2_with fail
    have hg' := grownBy_putObj' W D (.deferred none)
    have hr' : ∀ r, (some D) = some r → ∃ o : Obj, W.heap[r]? = some o ∧ o.isCells = false := fun r e => by cases e; exact ⟨_, hK, rfl⟩
    obtain ⟨p, x, h1, h2, h3, h4⟩ := hO.last
    have q2 := (boxed_turn hO.res2 hg' hr').cell
    have q3 := (boxed_turn hO.res3 hg' hr').cell
    have q4 := (boxed_turn h4 hg' hr').cell
    have hb' : Below w.heap.size w (W.putObj D (.deferred none)) := hO.below.trans ((Below.refl _ _).grown hg' hO.below.size (fun k e => by cases e; have := hInv.below.size; omega))
    refine ⟨by simp, .inl ⟨_, _, rfl, run_takeDeferred hK, ?_⟩⟩
    refine ⟨.tuple #[.slice none 0 0, .slice none 0 0, .int .i64 (x.1.2.2 : Int)], by simp [results, Try.results59, go_sem, q2, q3, q4], ?_⟩
    have hT := takeRow_bad HF.out hN (by rw [← h1]; exact hpre) h3
    have hbr : behindRow bs = [] := by unfold behindRow; rw [hT, if_neg h3]
    unfold TRPost
    rw [hbr, hT]
    exact rowIs_nil hb'

set_option maxRecDepth 100000 in
/-- TakeRow, whatever the bytes. -/
theorem takeRow_any (A : Option Addr) (n c : Nat) (bs : List Nat) (B : Nat) (w : World) (hr : Rd w B A n (bv bs)) (hB : B ≤ w.heap.size) (hb : ∀ x ∈ bs, x < 256) (hn : n ≤ 140737488355328) (hc : n ≤ c) :
    Calls Try.prog 59 #[.slice A n c] w (TRPost bs w) := by
  obtain ⟨N, K, E, hF⟩ : ∃ N K E, first bs = (N, K, E) := ⟨_, _, _, rfl⟩
  by_cases hE : E = 0
  · subst hE
    by_cases hN : N ≤ 40
    · exact takeRow_go A n c bs B w hr hB hb hn hc hF hN
    · have hT : takeRow bs = (0, [], 11) := by
        unfold takeRow; simp only [hF]
        rw [if_neg (by simp), if_pos (by omega)]
      have hbr : behindRow bs = [] := by unfold behindRow; rw [hT, if_neg (by simp)]
      unfold TRPost
      rw [hbr, hT]
      exact takeRow_big A n c bs B w hr hB hb (by unfold maxLen; omega) hF (by omega)
  · have hT : takeRow bs = (0, [], E) := by
      unfold takeRow; simp only [hF]
      rw [if_pos hE]
    have hbr : behindRow bs = [] := by unfold behindRow; rw [hT, if_neg hE]
    unfold TRPost
    rw [hbr, hT]
    exact takeRow_err1 A n c bs B w hr hB hb (by unfold maxLen; omega) hF hE

end Go.Proofs.Ytbkfpghpfaemeaa

/-
  Small words for what calls package num: literals, appends, slices cut, rows put and taken. Conditions: those that each theorem names.
-/
namespace Go.Proofs.Ytbkfpghpfaemeaa
open Go.RowKit Go.Shelf

set_option maxRecDepth 100000 in
theorem AddInv.rd {base j : Nat} {ys : List Value} {w w' : World} {A : Option Addr} {c : Nat} (h : AddInv base j ys w (.slice A j c) w') : Rd w' w'.heap.size A j ys := Rd.of_own h.1

set_option maxRecDepth 100000 in
theorem AddInv.cap {base j : Nat} {ys : List Value} {w w' : World} {A : Option Addr} {c : Nat} (h : AddInv base j ys w (.slice A j c) w') : j ≤ c := by
  rcases h.1.2 with ⟨h1, h2⟩ | ⟨g, cap, cur, h1, _, _, h2, _⟩
  · omega
  · injection h1 with _ _ h3
    omega

set_option maxRecDepth 100000 in
theorem put_take_iff {N M : Nat} : put N = (put M).take (put N).length ↔ N = M := by
  refine ⟨fun h => ?_, fun h => by subst h; rw [List.take_length]⟩
  have h1 : put N ++ (put M).drop (put N).length = put M ++ [] := by
    conv => lhs; lhs; rw [h]
    rw [List.take_append_drop, List.append_nil]
  exact (put_prefix N M _ _ h1).1

set_option maxRecDepth 100000 in
theorem row_ok {A : Option Addr} {n c : Nat} {zs : List Int} {B : Nat} {w : World} (hr : Rd w B A n (iv zs)) (hB : B ≤ w.heap.size) (hn : n ≤ 40) (h : zs.all isNum = true) :
    Calls Try.prog 82 #[.slice A n c] w (TwoPost w.heap.size (sofar n zs).length (bv (sofar n zs)) w) := by
  have hl : zs.length = n := by have := hr.1; rwa [iv_length] at this
  refine (row_short A n c zs w (hr.more hB) hn).mono ?_
  rintro e w' (⟨_, A', c', he, hI⟩ | ⟨h0, _⟩)
  · rw [← sofar_row, hl] at he hI
    exact ⟨A', c', he, hI⟩
  · simp only [isRow, h, Bool.and_true, decide_eq_false_iff_not] at h0; omega

set_option maxRecDepth 100000 in
theorem nats_ints (l : List Nat) : nats (ints l) = l := by
  induction l with
  | nil => rfl
  | cons x l ih => simp only [nats, ints, List.map_cons, Int.toNat_natCast] at ih ⊢; rw [ih]

set_option maxRecDepth 100000 in
theorem ints_all {l : List Nat} (h : ∀ n ∈ l, n ≤ 1099511627776) : (ints l).all isNum = true := by
  simp only [List.all_eq_true, ints, List.mem_map]
  rintro x ⟨y, hy, rfl⟩
  exact isNum_yes (by omega) (by have := h y hy; omega)

set_option maxRecDepth 100000 in
theorem row_is {A : Option Addr} {c : Nat} {l : List Nat} {B : Nat} {w : World} (hr : Rd w B A l.length (iv (ints l))) (hB : B ≤ w.heap.size) (hn : l.length ≤ 40) (h : ∀ n ∈ l, n ≤ 1099511627776) :
    Calls Try.prog 82 #[.slice A l.length c] w (TwoPost w.heap.size (row l).length (bv (row l)) w) := by
  refine (row_short A l.length c (ints l) w (hr.more hB) hn).mono ?_
  rintro e w' (⟨_, A', c', he, hI⟩ | ⟨h0, _⟩)
  · rw [nats_ints] at he hI
    exact ⟨A', c', he, hI⟩
  · have h1 : (ints l).length = l.length := by simp [ints]
    simp only [isRow, ints_all h, Bool.and_true, decide_eq_false_iff_not] at h0; omega

set_option maxRecDepth 100000 in
theorem row_pos (l : List Nat) : 0 < (row l).length := by have := put_pos l.length; rw [row, List.length_append]; omega

set_option maxRecDepth 100000 in
theorem puts_len (l : List Nat) (h : ∀ n ∈ l, n ≤ 1099511627776) : (puts l).length ≤ 6 * l.length := by
  have := puts_six (ints l) (ints_all h)
  rw [nats_ints] at this
  simpa [ints] using this

set_option maxRecDepth 100000 in
theorem takes_is (A : Option Addr) (n c : Nat) (bs : List Nat) (B : Nat) (w : World) (hr : Rd w B A n (bv bs)) (hB : B ≤ w.heap.size) (hb : ∀ x ∈ bs, x < 256) (hn : n ≤ 140737488355328) (hc : n ≤ c) {E : Nat} {l rest : List Nat}
    (h1 : (takeRow bs).2.1 = l) (h2 : (takeRow bs).2.2 = E) (h3 : behindRow bs = rest) : Calls Try.prog 59 #[.slice A n c] w (RowIs l rest E w) := by
  subst h1; subst h2; subst h3
  exact takeRow_any A n c bs B w hr hB hb hn hc

set_option maxRecDepth 100000 in
theorem put_all {N : Nat} {k : Nat} : ∀ x ∈ (put N).take k, x < 256 := fun x hx => put_bytes N x (List.mem_of_mem_take hx)

set_option maxRecDepth 100000 in
theorem row_bytes (l : List Nat) : ∀ x ∈ row l, x < 256 := by
  intro x hx
  simp only [row, puts, List.mem_append, List.mem_flatMap] at hx
  rcases hx with hx | ⟨y, _, hx⟩
  · exact put_bytes _ x hx
  · exact put_bytes _ x hx

set_option maxRecDepth 100000 in
theorem row_any (A : Option Addr) (n c : Nat) (zs : List Int) (w : World) (hr : Rd w w.heap.size A n (iv zs)) : Calls Try.prog 82 #[.slice A n c] w (RowPost zs w) := by
  have hl : zs.length = n := by have := hr.1; rwa [iv_length] at this
  by_cases h : n ≤ 40
  · exact row_short A n c zs w hr h
  · exact row_long A n c zs w hl (by omega)

end Go.Proofs.Ytbkfpghpfaemeaa

/-
  How many numbers a record of each kind has, and which records may be: plain words, and the walks of 'many'. Conditions: those that each theorem names.
-/
namespace Go.Proofs.Ytbkfpghpfaemeaa
open Go.RowKit Go.Shelf

/-- The fewest, and the most, numbers of a kind; of none: more than there may be. -/
def loL : List Nat := [1, 0, 14, 3, 3, 1, 3, 1, 5, 2, 1, 2, 0, 0, 1, 0, 0]
def hiL : List Nat := [0, 0, 18, 3, 3, 1, 3, 1, 5, 2, 1, 2, 0, 0, 1, 0, 0]
def lo (k : Nat) : Nat := loL.getD k 1
def hi (k : Nat) : Nat := hiL.getD k 0
set_option maxRecDepth 100000 in
theorem lo_out {k : Nat} (h : 17 ≤ k) : lo k = 1 := by simp [lo, loL, List.getD, h]
set_option maxRecDepth 100000 in
theorem hi_out {k : Nat} (h : 17 ≤ k) : hi k = 0 := by simp [hi, hiL, List.getD, h]
set_option maxRecDepth 100000 in
theorem kind_cases {k : Nat} (h : k < 17) : k = 0 ∨ k = 1 ∨ k = 2 ∨ k = 3 ∨ k = 4 ∨ k = 5 ∨ k = 6 ∨ k = 7 ∨ k = 8 ∨ k = 9 ∨ k = 10 ∨ k = 11 ∨ k = 12 ∨ k = 13 ∨ k = 14 ∨ k = 15 ∨ k = 16 := by omega
set_option maxRecDepth 100000 in
theorem hi_le (k : Nat) : hi k ≤ 18 ∧ lo k ≤ 14 := by
  rcases Nat.lt_or_ge k 17 with h | h
  · rcases kind_cases h with rfl | rfl | rfl | rfl | rfl | rfl | rfl | rfl | rfl | rfl | rfl | rfl | rfl | rfl | rfl | rfl | rfl <;> decide
  · rw [hi_out h, lo_out h]; omega

/-- Whether a record may be. -/
def mayB (k : Nat) (zs : List Int) : Bool := decide (lo k ≤ zs.length) && decide (zs.length ≤ hi k) && zs.all isNum

set_option maxRecDepth 100000 in
theorem mayB_yes {k : Nat} {zs : List Int} (h : mayB k zs = true) : lo k ≤ zs.length ∧ zs.length ≤ hi k ∧ zs.all isNum = true := by simpa [mayB, and_assoc] using h
set_option maxRecDepth 100000 in
theorem mayB_kind {k : Nat} {zs : List Int} (h : mayB k zs = true) : 0 < k ∧ k < 17 := by
  obtain ⟨h1, h2, _⟩ := mayB_yes h
  rcases Nat.lt_or_ge k 17 with h3 | h3
  · refine ⟨?_, h3⟩
    rcases Nat.eq_zero_or_pos k with rfl | h4
    · have e1 : lo 0 = 1 := rfl
      have e2 : hi 0 = 0 := rfl
      omega
    · exact h4
  · rw [lo_out h3] at h1; rw [hi_out h3] at h2; omega

set_option maxRecDepth 100000 in
theorem kind_ne {k : Int} (h : 17 ≤ k) (m : Int) (hm : m < 17) : (k == m) = false := by rw [beq_eq_false_iff_ne]; omega

set_option maxRecDepth 100000 in
set_option maxHeartbeats 4000000 in
theorem many_any (k : Nat) (w : World) :
    Calls Try.prog 77 #[.int .u8 (k : Int)] w fun e w' => e = .returned (.tuple #[.int .i64 (lo k : Int), .int .i64 (hi k : Int)]) ∧ w = w' := by
  rcases Nat.lt_or_ge k 17 with h | h
  · rcases kind_cases h with rfl | rfl | rfl | rfl | rfl | rfl | rfl | rfl | rfl | rfl | rfl | rfl | rfl | rfl | rfl | rfl | rfl
    all_goals
      clear h
      go_enter Try.func77, Try.ntmps77
      go_wp2
      go_ret2
      exact ⟨rfl, rfl⟩
  · rw [lo_out h, hi_out h]
    obtain ⟨z, hz⟩ : ∃ z : Int, (k : Int) = z := ⟨_, rfl⟩
    have h17 : 17 ≤ z := by omega
    rw [hz]
    clear hz h
    have e1 := kind_ne h17 1 (by omega)
    have e2 := kind_ne h17 2 (by omega)
    have e3 := kind_ne h17 3 (by omega)
    have e4 := kind_ne h17 4 (by omega)
    have e5 := kind_ne h17 5 (by omega)
    have e6 := kind_ne h17 6 (by omega)
    have e7 := kind_ne h17 7 (by omega)
    have e8 := kind_ne h17 8 (by omega)
    have e9 := kind_ne h17 9 (by omega)
    have e10 := kind_ne h17 10 (by omega)
    have e11 := kind_ne h17 11 (by omega)
    have e12 := kind_ne h17 12 (by omega)
    have e13 := kind_ne h17 13 (by omega)
    have e14 := kind_ne h17 14 (by omega)
    have e15 := kind_ne h17 15 (by omega)
    have e16 := kind_ne h17 16 (by omega)
    clear h17
    go_enter Try.func77, Try.ntmps77
    go_wp2
    go_ret2
    exact ⟨rfl, rfl⟩

end Go.Proofs.Ytbkfpghpfaemeaa

/-
  The walks of 'row' of package record and of the iterator that it hands back: a record's kind, then its numbers. Conditions: those that each theorem names.
-/
namespace Go.Proofs.Ytbkfpghpfaemeaa
open Go.RowKit Go.Shelf
attribute [local go_sem] Oper.semAt_some

set_option maxRecDepth 100000 in
set_option maxHeartbeats 400000 in
theorem rowOf_any (k : Nat) (A : Option Addr) (n c : Nat) (w : World) :
    Calls Try.prog 78 #[.agg #[.int .u8 (k : Int), .slice A n c]] w fun e w' => e = .returned (.func (.func 90) #[] #[.pointer (some ⟨w.heap.size, 0, none⟩)]) ∧ w' = w.alloc (.cells #[.int .u8 (k : Int), .slice A n c] 43) := by
  go_enter Try.func78, Try.ntmps78
  go_wp2
  go_ret
  exact ⟨rfl, rfl⟩

/-- Where the iterator stands: what has been handed over, what is next. -/
def IterAt (l Bn n₀ : Nat) (A : Option Addr) (n c : Nat) (zs xs : List Int) (J : List Int → World → Prop) (a' : Act) (w' : World) : Prop :=
  ∃ (pre rest : List Int) (x : Int) (u5 u6 u7 u8 u9 u10 u11 u12 u13 u14 u15 u16 u17 u18 u19 u20 u21 u22 u23 u24 u25 : Value), a' = { tmps := #[.func (.yield l) #[] #[], .pointer (some ⟨Bn, 0, none⟩), undef, .int .i64 x, .int .i64 (pre.length : Int), u5, u6, u7, u8, u9, u10, u11, u12, u13, u14, u15, u16, u17, u18, u19, u20, u21, u22, u23, u24, u25], defers := [] } ∧ xs = pre ++ x :: rest ∧ w'.cell? ⟨Bn, 1, none⟩ = some (.slice A n c) ∧ Rd w' n₀ A n (iv zs) ∧ J pre w'

set_option maxRecDepth 100000 in
set_option maxHeartbeats 1000000 in
theorem rowOf1_in (m l Bn n₀ : Nat) (k : Nat) (hk : k < 256) (A : Option Addr) (n c : Nat) (zs : List Int) (hn : n ≤ maxLen) (J Jx : List Int → World → Prop)
    (hY : ∀ pre x W, J pre W → pre.length < ((k : Int) :: zs).length → YieldAt Fence.wide (m - 1) Try.prog l #[.int .i64 x] W fun e W' =>
      (e = .returned (.bool true) ∧ J (pre ++ [x]) W' ∧ KpB n₀ Bn W W') ∨ (e = .returned (.bool false) ∧ Jx (pre ++ [x]) W'))
    (W : World) (hBn : W.cell? ⟨Bn, 0, none⟩ = some (.int .u8 (k : Int))) (hBn1 : W.cell? ⟨Bn, 1, none⟩ = some (.slice A n c)) (hr : Rd W n₀ A n (iv zs)) (h0 : J [] W) :
    CallsIn Fence.wide m Try.prog 90 #[.func (.yield l) #[] #[], .pointer (some ⟨Bn, 0, none⟩)] W fun e W' => (∃ v, e = .returned v) ∧
      ((∃ ys, ys = (k : Int) :: zs ∧ J ys W') ∨ (∃ pre, pre <+: ((k : Int) :: zs) ∧ Jx pre W')) := by
  unfold maxLen at hn
  have HY := Lib.hid hY
  clear hY
  have Hr := Lib.hid hr
  clear hr
  obtain ⟨xs, hxs⟩ : ∃ xs, (k : Int) :: zs = xs := ⟨_, rfl⟩
  have hlen : xs.length = n + 1 := by have := Hr.out.1; rw [iv_length] at this; rw [← hxs]; simp [this]
  rw [hxs] at HY ⊢
  have Hxs := Lib.hid hxs
  clear hxs
  have hk' : (k : Int) < 256 := by omega
  refine callsIn_of_wp Try.func90 rfl trivial ?_ rfl
  simp only [Try.ntmps90, List.size_toArray, List.length_cons, List.length_nil, Nat.reduceAdd, Nat.reduceSub, Array.replicate_succ, Array.replicate_zero, List.push_toArray, List.append_toArray, List.nil_append, List.cons_append]
  gi_wp2_with fail
  refine wpIn_wide.2 (wp_scope_back_behind 0 (IterAt l Bn n₀ A n c zs xs J)
    (fun a' _ => n + 1 - (intOf (a'.tmps.getD 4 undef)).toNat) rfl (wpIn_wide (n := m).1 ?ahead) (fun a' w' hJ' => wpIn_wide (n := m).1 ?pass))
  case ahead =>
    gi_wp2_with fail
    exact ⟨[], zs, k, _, _, _, _, _, _, _, _, _, _, _, _, _, _, _, _, _, _, _, _, _, rfl, Hxs.out.symm, hBn1, Hr.out, h0⟩
  case pass =>
    obtain ⟨pre, rest, x, u5, u6, u7, u8, u9, u10, u11, u12, u13, u14, u15, u16, u17, u18, u19, u20, u21, u22, u23, u24, u25, rfl, hx, hBn', hr', hJp⟩ := hJ'
    clear hBn hBn1
    have Hr' := Lib.hid hr'
    have Hx := Lib.hid hx
    have HJ := Lib.hid hJp
    have hl : pre.length + rest.length = n := by rw [hx, List.length_append] at hlen; simp at hlen; omega
    clear hr' hx hJp h0 Hr hlen
    have hpn : pre.length ≤ n := by omega
    obtain ⟨fn, tmps, assign, body, hy, hR⟩ := HY.out pre x w' HJ.out (by rw [Hx.out]; simp)
    have HR := Lib.hid hR
    have Hl := Lib.hid hl
    clear hR hl
    gi_wp2_with fail
    refine ⟨fun h => (by cases h), HR.out.mono ?_⟩
    rintro e W3 (⟨rfl, hJ3, hk3⟩ | ⟨rfl, hJx3⟩)
    · have hb3 : W3.cell? ⟨Bn, 1, none⟩ = some (.slice A n c) := (World.cell?_of_block (a := ⟨Bn, 1, none⟩) hk3.2).trans hBn'
      have HJ3 := Lib.hid hJ3
      have HK3 := Lib.hid hk3
      clear hJ3 hk3
      cases rest with
      | nil =>
        have he : pre.length = n := by have := Hl.out; simpa using this
        have heq : ((pre.length : Int) == (n : Int)) = true := by simp [he]
        clear he
        gi_wp2_with fail
        simp only [Exit.jump]
        refine bodyPost_ret (results_none rfl _ _ _) rfl ?_
        exact ⟨⟨_, rfl⟩, .inl ⟨pre ++ [x], Hx.out.symm, HJ3.out⟩⟩
      | cons y rest =>
        have hlt : (pre.length : Int) < (n : Int) := by have := Hl.out; simp at this; omega
        have hltn : pre.length < n := by omega
        have hne : ((pre.length : Int) == (n : Int)) = false := by rw [beq_eq_false_iff_ne]; omega
        have Hr3 := Lib.hid (Hr'.out.below HK3.out.1)
        obtain ⟨b, off, rfl, hb, hc⟩ := Hr3.out.2 (by omega)
        have hcell := hc pre.length hltn
        have e1 : (iv zs)[pre.length]? = some (.int .i64 y) := by
          have h1 : xs[pre.length + 1]? = some y := by rw [Hx.out]; simp
          rw [← Hxs.out, List.getElem?_cons_succ] at h1
          simp [iv, h1]
        rw [e1] at hcell
        clear e1 hc
        gi_wp2_with fail
        refine wpIn_goto ?_
        have el : ((pre.length : Int) + 1) = ((pre ++ [x]).length : Int) := by simp
        rw [el]
        refine ⟨rfl, ⟨pre ++ [x], rest, y, _, _, _, _, _, _, _, _, _, _, _, _, _, _, _, _, _, _, _, _, _, rfl, by rw [Hx.out]; simp, hb3, Hr3.out, HJ3.out⟩, ?_⟩
        simp [intOf]; omega
    · have HJx := Lib.hid hJx3
      clear hJx3
      gi_wp2_with fail
      simp only [Exit.jump]
      refine bodyPost_ret (results_none rfl _ _ _) rfl ?_
      exact ⟨⟨_, rfl⟩, .inr ⟨pre ++ [x], ⟨rest, by rw [Hx.out]; simp⟩, HJx.out⟩⟩

set_option maxRecDepth 100000 in
/-- The iterator hands over the record's kind, then its numbers. -/
theorem rowOf_stops (m Bn n₀ : Nat) (k : Nat) (hk : k < 256) (A : Option Addr) (n c : Nat) (zs : List Int) (hn : n ≤ maxLen) (w : World) (hBl : Bn < w.heap.size) (hn₀ : n₀ ≤ w.heap.size) (hBn : w.cell? ⟨Bn, 0, none⟩ = some (.int .u8 (k : Int))) (hBn1 : w.cell? ⟨Bn, 1, none⟩ = some (.slice A n c)) (hr : Rd w n₀ A n (iv zs)) :
    SeqStopsK Fence.wide m Try.prog 90 #[.pointer (some ⟨Bn, 0, none⟩)] (fun x : Int => #[Value.int .i64 x]) (KpB n₀ Bn) (fun ys => ys = (k : Int) :: zs) (fun pre => pre <+: ((k : Int) :: zs)) ((k : Int) :: zs).length w := fun l J Jx W hW _ _ hY h0 =>
  rowOf1_in m l Bn n₀ k hk A n c zs hn J Jx hY W ((hW.cell (p := ⟨Bn, 0, none⟩) hBl).trans hBn) ((hW.cell (p := ⟨Bn, 1, none⟩) hBl).trans hBn1) (hr.below (hW.mono hn₀)) h0

end Go.Proofs.Ytbkfpghpfaemeaa
