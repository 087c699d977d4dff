/-
  The walk of 'Row' of package num. Conditions: those that each theorem names.
-/
import Derived.Test.YtcgfakpolfopnaaNumEach
namespace Go.Proofs.Ytcgfakpolfopnaa
open Go.RowKit Go.Shelf
attribute [local go_sem] Oper.semAt_some

/-- The numbers as they are counted. -/
def nats (l : List Int) : List Nat := l.map Int.toNat
/-- A row that is one. -/
def isRow (l : List Int) : Bool := decide (l.length ≤ 40) && l.all isNum

/-- The bytes that have been put when so many numbers have been gone over. -/
def sofar (n : Nat) (pre : List Int) : List Nat := put n ++ puts (nats pre)
theorem sofar_pos (n : Nat) (pre : List Int) : 0 < (sofar n pre).length := by have := put_pos n; rw [sofar, List.length_append]; omega
theorem sofar_snoc (n : Nat) (pre : List Int) (m : Nat) : sofar n (pre ++ [(m : Int)]) = sofar n pre ++ put m := by
  have hn : nats (pre ++ [(m : Int)]) = nats pre ++ [m] := by simp [nats]
  rw [sofar, sofar, hn, puts_snoc, ← List.append_assoc]

theorem puts_six : ∀ (l : List Int), l.all isNum = true → (puts (nats l)).length ≤ 6 * l.length := by
  intro l
  induction l with
  | nil => intro _; simp [nats, puts]
  | cons x l ih =>
    intro h
    simp only [List.all_cons, Bool.and_eq_true] at h
    have h1 := isNum_iff.1 h.1
    have h2 := put_six (n := x.toNat) (by omega)
    have h3 := ih h.2
    have e : nats (x :: l) = x.toNat :: nats l := rfl
    rw [e, puts_cons, List.length_append, List.length_cons]
    omega
theorem sofar_six {n : Nat} {l : List Int} (hn : n ≤ 40) (h : l.all isNum = true) : (sofar n l).length ≤ 6 + 6 * l.length := by
  have h1 := put_six (n := n) (by omega)
  have h2 := puts_six l h
  rw [sofar, List.length_append]; omega
theorem sofar_row (l : List Int) : sofar l.length l = row (nats l) := by simp [sofar, row, nats]
theorem below_keeps {w w' : World} (h : Below w.heap.size w w') : KeepsOthers w w' :=
  ⟨h.size, fun k o hk _ => (h.block k (by rcases Nat.lt_or_ge k w.heap.size with h1 | h1; exact h1; rw [Array.getElem?_eq_none h1] at hk; cases hk)).trans hk⟩

def RowPost (zs : List Int) (w : World) (e : Ending) (w' : World) : Prop :=
  (isRow zs = true ∧ ∃ A c, e = .returned (.tuple #[.slice A (row (nats zs)).length c, .int .i64 0]) ∧ AddInv w.heap.size (row (nats zs)).length (bv (row (nats zs))) w (.slice A (row (nats zs)).length c) w') ∨
  (isRow zs = false ∧ e = .returned (.tuple #[.slice none 0 0, .int .i64 2]) ∧ Below w.heap.size w w')

/-- What holds between two rounds: r2, r2 + 1: the results' cells; bB: the box of the bytes; bB + 1: the box of the numbers. -/
structure RowInv (A : Option Addr) (n c : Nat) (w : World) (r2 bB : Nat) (pre : List Int) (W : World) : Prop where
  num : pre.all isNum = true
  res2 : Boxed W r2 26 (.slice none 0 0)
  res3 : Boxed W (r2 + 1) 29 (.int .i64 0)
  box : ∃ v, Boxed W bB 26 v ∧ W.ownsRow w.heap.size 5 1 v (sofar n pre).length (bv (sofar n pre))
  arg : Boxed W (bB + 1) 22 (.slice A n c)
  below : Below w.heap.size w W

/-- What holds where a round has left: it was no number. -/
structure RowOut (w : World) (r2 : Nat) (pre : List Int) (W : World) : Prop where
  num : pre.all isNum = false
  res2 : Boxed W r2 26 (.slice none 0 0)
  res3 : Boxed W (r2 + 1) 29 (.int .i64 2)
  below : Below w.heap.size w W

theorem boxed_turn {W W' : World} {B : Nat} {t : TypeId} {v : Value} {row : Option Nat} (h : Boxed W B t v) (hg : W.grownBy W' row) (hr : ∀ r, row = some r → ∃ o : Obj, W.heap[r]? = some o ∧ o.isCells = false) : Boxed W' B t v :=
  h.kept hg fun e => by
    obtain ⟨o, ho, hc⟩ := hr B e.symm
    rw [show W.heap[B]? = _ from h] at ho
    cases ho; cases hc
theorem own_turn {W W' : World} {base : Nat} {e : TypeId} {size k : Nat} {v : Value} {xs : List Value} {row : Option Nat} (h : W.ownsRow base e size v k xs) (hg : W.grownBy W' row) (hr : ∀ r, row = some r → ∃ o : Obj, W.heap[r]? = some o ∧ o.isCells = false) : W'.ownsRow base e size v k xs := by
  refine h.kept hg ?_
  rcases h.2 with ⟨rfl, _⟩ | ⟨g, cap, cur, rfl, _, hc, _⟩
  · exact .inl rfl
  · right
    intro e
    obtain ⟨o, ho, hcc⟩ := hr g e.symm
    rw [hc] at ho
    cases ho; cases hcc

theorem rowInv_own (A : Option Addr) (n c : Nat) (w : World) (r2 bB B : Nat) (hB : w.heap.size ≤ B) : OwnFrom B (RowInv A n c w r2 bB) := by
  intro pre W W' row h hg hr
  have hr' : ∀ r, row = some r → ∃ o : Obj, W.heap[r]? = some o ∧ o.isCells = false := fun r e => (hr r e).2
  obtain ⟨v, h1, h2⟩ := h.box
  exact ⟨h.num, boxed_turn h.res2 hg hr', boxed_turn h.res3 hg hr', ⟨v, boxed_turn h1 hg hr', own_turn h2 hg hr'⟩, boxed_turn h.arg hg hr', h.below.grown hg (by have := h.below.size; omega) (fun k e => by have := (hr k e).1; omega)⟩

/-- A round that has added a number's bytes. -/
theorem rowInv_step {A : Option Addr} {n c : Nat} {w : World} {r2 bB : Nat} {pre : List Int} {W W' : World} (h : RowInv A n c w r2 bB pre W) (h2 : r2 + 1 < bB) (hb : w.heap.size ≤ bB) {v v' : Value} (hv : Boxed W bB 26 v)
    (hown : W.ownsRow w.heap.size 5 1 v (sofar n pre).length (bv (sofar n pre))) {m : Nat} (hm : m ≤ 1099511627776)
    (hI : AddInv w.heap.size ((sofar n pre).length + (put m).length) (bv (sofar n pre) ++ bv (put m)) W v' W') (hF : AddFar v W v' W') :
    KeepsOthers W (W'.setCell ⟨bB, 0, none⟩ v') ∧ KpB w.heap.size (bB + 1) W (W'.setCell ⟨bB, 0, none⟩ v') ∧ RowInv A n c w r2 bB (pre ++ [(m : Int)]) (W'.setCell ⟨bB, 0, none⟩ v') := by
  have b2 : Boxed W' r2 26 (.slice none 0 0) := h.res2.kept hF.1 (h.res2.not_row (by decide) hown)
  have b3 : Boxed W' (r2 + 1) 29 (.int .i64 0) := h.res3.kept hF.1 (h.res3.not_row (by decide) hown)
  have bb : Boxed W' bB 26 v := hv.kept hF.1 (hv.not_row (by decide) hown)
  have ba : Boxed W' (bB + 1) 22 (.slice A n c) := h.arg.kept hF.1 (h.arg.not_row (by decide) hown)
  have hBelow : Below w.heap.size W (W'.setCell ⟨bB, 0, none⟩ v') := hI.2.1.setCell (p := ⟨bB, 0, none⟩) hb v'
  have ba' := ba.other (B' := bB) (by omega) v'
  refine ⟨hI.2.2.1.trans (KeepsOthers.setCell _ _ _), ⟨hBelow, ?_⟩, ?_⟩
  · exact (show (W'.setCell ⟨bB, 0, none⟩ v').heap[bB + 1]? = _ from ba').trans (show W.heap[bB + 1]? = _ from h.arg).symm
  · have hnum : isNum (m : Int) = true := isNum_yes (by omega) (by omega)
    refine ⟨by simp [h.num, hnum], b2.other (by omega) v', b3.other (by omega) v', ⟨v', bb.set v', ?_⟩, ba', h.below.trans hBelow⟩
    rw [sofar_snoc, List.length_append, bv_append]
    exact ownsRow_setCell_other hI.1 (fun e => bb.not_row (by decide) hI.1 e.symm) v'

/-- A round that has left. -/
theorem rowOut_step {A : Option Addr} {n c : Nat} {w : World} {r2 bB : Nat} {pre : List Int} {W : World} (h : RowInv A n c w r2 bB pre W) (hb : w.heap.size ≤ r2) {x : Int} (hx : isNum x = false) :
    RowOut w r2 (pre ++ [x]) ((W.setCell ⟨r2, 0, none⟩ (.slice none 0 0)).setCell ⟨r2 + 1, 0, none⟩ (.int .i64 2)) :=
  ⟨by simp [hx], (h.res2.set _).other (by omega) _, ((h.res3.other (by omega) _).set _), (h.below.setCell (p := ⟨r2, 0, none⟩) hb _).setCell (p := ⟨r2 + 1, 0, none⟩) (by show w.heap.size ≤ r2 + 1; omega) _⟩

theorem rowOut_own (w : World) (r2 B : Nat) (hB : w.heap.size ≤ B) : OwnFrom B (fun (pre : List Int) W => RowOut w r2 pre W) := by
  intro pre W W' row h hg hr
  have hr' : ∀ r, row = some r → ∃ o : Obj, W.heap[r]? = some o ∧ o.isCells = false := fun r e => (hr r e).2
  exact ⟨h.num, boxed_turn h.res2 hg hr', boxed_turn h.res3 hg hr', h.below.grown hg (by have := h.below.size; omega) (fun k e => by have := (hr k e).1; omega)⟩

set_option maxHeartbeats 400000 in
theorem row_long (A : Option Addr) (n c : Nat) (zs : List Int) (w : World) (hl : zs.length = n) (hn : 40 < n) :
    Calls Try.prog 25 #[.slice A n c] w (RowPost zs w) := by
  have hf : isRow zs = false := by simp [isRow]; omega
  have HL := Lib.hid hl
  have hn' : (40 : Int) < (n : Int) := by omega
  clear hl
  go_enter Try.func25, Try.ntmps25
  go_wp2_with fail
  refine bodyPost_ret (v := .tuple #[.slice none 0 0, .int .i64 2]) (by simp [results, Try.results25, go_sem]) rfl (.inr ⟨hf, rfl, ?_⟩)
  exact ((Below.refl _ w).alloc (Nat.le_refl _) _).alloc (by simp) _

set_option maxRecDepth 100000 in
set_option maxHeartbeats 400000 in
theorem row_short (A : Option Addr) (n c : Nat) (zs : List Int) (w : World) (hr : Rd w w.heap.size A n (iv zs)) (hn : n ≤ 40) :
    Calls Try.prog 25 #[.slice A n c] w (RowPost zs w) := by
  have Hr := Lib.hid hr
  clear hr
  have hd40 : decide ((40 : Int) < (n : Int)) = false := by simp; omega
  have HA := Lib.hid (fun (W : World) (hB : w.heap.size ≤ W.heap.size) => add_any n (by omega) (.slice none 0 0) 0 [] w.heap.size W (World.ownsRow_nil _ _ _ _) (by omega) hB)
  refine (callsIn_wide (n := 5)).1 ?_
  refine callsIn_of_wp_marks Try.func25 rfl trivial ?_ rfl
  simp only [Try.ntmps25, List.size_toArray, List.length_cons, List.length_nil, Nat.reduceAdd, Nat.reduceSub, Array.replicate_succ, Array.replicate_zero, List.push_toArray, List.append_toArray, List.nil_append, List.cons_append]
  gi_wp2_with (first | (refine ⟨trivial, ?_⟩; gi_at_call 35; refine (callsIn_wide.2 (HA.out _ (by simp; omega))).mono ?_; rintro e w1 ⟨v1, rfl, hI1, hF1⟩; obtain ⟨A1, c1, rfl⟩ := hI1.form; have HI1 := Lib.hid hI1; have HF1 := Lib.hid hF1; clear hI1 hF1; rw [Nat.zero_add, List.nil_append] at HI1) | (refine ⟨trivial, ?_⟩; gi_at_call 36; refine (callsIn_wide.2 (each_any _ _ _ _)).mono ?_; rintro e w2 ⟨rfl, rfl⟩))
  have hs1 : w.heap.size + 2 ≤ w1.heap.size := by have := HF1.out.1.size; simpa using this
  obtain ⟨W0, hW0⟩ : ∃ W0, (w1.alloc (.cells #[.slice A1 (put n).length c1] 26)).alloc (.cells #[.slice A n c] 22) = W0 := ⟨_, rfl⟩
  have hs0 : W0.heap.size = w1.heap.size + 2 := by rw [← hW0]; simp
  have bArg : Boxed W0 (w1.heap.size + 1) 22 (.slice A n c) := by
    rw [← hW0]; have := Boxed.new (w1.alloc (.cells #[.slice A1 (put n).length c1] 26)) 22 (.slice A n c); rwa [World.size_alloc] at this
  have hInv : RowInv A n c w w.heap.size w1.heap.size [] W0 := by
    have r2 : Boxed w1 w.heap.size 26 (.slice none 0 0) := ((Boxed.new w 26 (.slice none 0 0)).alloc _).kept HF1.out.1 (by simp [Value.ownBlock])
    have r3 : Boxed w1 (w.heap.size + 1) 29 (.int .i64 0) := by
      have := Boxed.new (w.alloc (.cells #[.slice none 0 0] 26)) 29 (.int .i64 0)
      rw [World.size_alloc] at this
      exact this.kept HF1.out.1 (by simp [Value.ownBlock])
    have hB0 : Below w.heap.size w w1 := (((Below.refl _ w).alloc (Nat.le_refl _) _).alloc (by simp) _).trans HI1.out.2.1
    refine ⟨rfl, ?_, ?_, ⟨.slice A1 (put n).length c1, ?_, ?_⟩, bArg, ?_⟩
    · rw [← hW0]; exact (r2.alloc _).alloc _
    · rw [← hW0]; exact (r3.alloc _).alloc _
    · rw [← hW0]; exact (Boxed.new w1 26 _).alloc _
    · rw [← hW0]
      have := (HI1.out.1.alloc (.cells #[.slice A1 (put n).length c1] 26)).alloc (.cells #[.slice A n c] 22)
      simpa [sofar, nats, puts] using this
    · rw [← hW0]; exact (hB0.alloc (by omega) _).alloc (by simp; omega) _
  rw [hW0]
  clear hW0
  refine wpIn_rangeFunc_ownF rfl (by omega) (gf := 45) (lb := #[.pointer (some ⟨w1.heap.size + 1, 0, none⟩)]) rfl trivial (enters_of Try.func45 (by kernel_rfl) rfl)
    (each_stops 4 (w1.heap.size + 1) w.heap.size A n c zs (by unfold maxLen; omega) W0 (by omega) (by omega) bArg.cell (Hr.out.below hInv.below)) (fun h k => kpB_t h k) (kpB_b (by omega) (by omega)) (Below.refl _ _) (fun _ => rfl)
    (RowInv A n c w w.heap.size w1.heap.size) (fun k pre W => k = .ret ∧ RowOut w w.heap.size pre W)
    (rowInv_own _ _ _ _ _ _ _ (by omega)) (fun k pre W W' row h hg hr => ⟨h.1, rowOut_own w w.heap.size W0.heap.size (by omega) pre W W' row h.2 hg hr⟩) hInv
    (fun x => { tmps := #[.slice A n c, undef, .pointer (some ⟨w.heap.size, 0, none⟩), .pointer (some ⟨w.heap.size + 1, 0, none⟩), .pointer (some ⟨w1.heap.size, 0, none⟩), .int .i64 x, .slice A n c, .int .i64 (n : Int), .bool false, .slice A n c, .int .i64 (n : Int), .slice A1 (put n).length c1, .slice A n c, .func (.func 45) #[] #[.pointer (some ⟨w1.heap.size + 1, 0, none⟩)], .int .i64 x, undef, undef, undef, undef, undef, undef, undef], defers := [] }) ?assign ?body ?done ?stop
  case assign =>
    intro l x W K hK
    gi_wp2
    exact hK
  case body =>
    rintro l pre x W hI hlen
    have c2 := hI.res2.cell
    have f2 := hI.res2.frozen
    have c3 := hI.res3.cell
    have f3 := hI.res3.frozen
    obtain ⟨v, hv, hown⟩ := hI.box
    have HI := Lib.hid hI
    clear hI
    by_cases hx : isNum x = true
    · obtain ⟨hx0, hx1⟩ := isNum_iff.1 hx
      obtain ⟨m, rfl⟩ := Int.eq_ofNat_of_zero_le hx0
      have hpos : 0 < (sofar n pre).length := sofar_pos n _
      obtain ⟨g, cap, rfl, _, _⟩ := hown.form hpos
      have hk : (sofar n pre).length ≤ 1000000 := by
        have h1 := sofar_six hn HI.out.num
        have h2 : zs.length = n := by have := Hr.out.1; rwa [iv_length] at this
        omega
      have HAd := Lib.hid (add_any m (by omega) _ _ _ w.heap.size W hown hk (by have := HI.out.below.size; omega))
      have cb := hv.cell
      have Hv := Lib.hid hv
      have Hown := Lib.hid hown
      clear hv hown hx0 hx1
      gi_wp2_with (first | (refine ⟨trivial, ?_⟩; gi_at_call 37; refine (CallsIn.inRound l (callsIn_wide.2 (right_any _ _))).mono ?_; rintro e w' ⟨rfl, rfl⟩) | (refine ⟨trivial, ?_⟩; gi_at_call 35; refine (CallsIn.inRound l (callsIn_wide.2 (HAd.out))).mono ?_; rintro e w3 ⟨v3, rfl, hI3, hF3⟩; obtain ⟨A3, c3', rfl⟩ := hI3.form; have HI3 := Lib.hid hI3; have HF3 := Lib.hid hF3; have hb3 := (Hv.out.kept hF3.1 (Hv.out.not_row (by decide) Hown.out)).cell; have hf3 := (Hv.out.kept hF3.1 (Hv.out.not_row (by decide) Hown.out)).frozen; clear hI3 hF3))
      exact rowInv_step HI.out (by omega) (by omega) Hv.out Hown.out (by have := (isNum_iff.1 hx).2; omega) HI3.out HF3.out
    · have hx' : isNum x = false := by simpa using hx
      clear hx
      gi_wp2_with (first | (refine ⟨trivial, ?_⟩; gi_at_call 37; refine (CallsIn.inRound l (callsIn_wide.2 (right_any _ _))).mono ?_; rintro e w' ⟨rfl, rfl⟩))
      exact ⟨(KeepsOthers.setCell _ _ _).trans (KeepsOthers.setCell _ _ _), rfl, rowOut_step HI.out (Nat.le_refl _) hx'⟩
  case done =>
    rintro D ys W hD rfl hI hK
    have c2 := hI.res2.cell
    have f2 := hI.res2.frozen
    have c3 := hI.res3.cell
    have f3 := hI.res3.frozen
    obtain ⟨v, hv, hown⟩ := hI.box
    have hpos : 0 < (sofar n ys).length := sofar_pos n _
    obtain ⟨g, cap, rfl, _, _⟩ := hown.form hpos
    have cb := hv.cell
    have HK := Lib.hid hK
    have HI := Lib.hid hI
    have Hown := Lib.hid hown
    have Hv := Lib.hid hv
    clear hK hI hown hv
    gi_wp2_with fail
    have hlen : ys.length = n := by have := Hr.out.1; rwa [iv_length] at this
    obtain ⟨W1, hW1⟩ : ∃ W1, (W.setCell ⟨w.heap.size, 0, none⟩ (.slice (some ⟨g, 0, none⟩) (sofar n ys).length cap)).setCell ⟨w.heap.size + 1, 0, none⟩ (.int .i64 0) = W1 := ⟨_, rfl⟩
    have hK1 : W1.heap[D]? = some (.deferred (some [])) := by
      rw [← hW1]; exact ((KeepsOthers.setCell _ _ _).trans (KeepsOthers.setCell _ _ _)).same D _ HK.out rfl
    have r2 : Boxed W1 w.heap.size 26 (.slice (some ⟨g, 0, none⟩) (sofar n ys).length cap) := by
      rw [← hW1]; exact (HI.out.res2.set _).other (by omega) _
    have r3 : Boxed W1 (w.heap.size + 1) 29 (.int .i64 0) := by
      rw [← hW1]; exact (HI.out.res3.other (by omega) _).set _
    have ho : W1.ownsRow w.heap.size 5 1 (.slice (some ⟨g, 0, none⟩) (sofar n ys).length cap) (sofar n ys).length (bv (sofar n ys)) := by
      have n2 := HI.out.res2.not_row (by decide) Hown.out
      have n3 := HI.out.res3.not_row (by decide) Hown.out
      rw [← hW1]; exact ownsRow_setCell_other (ownsRow_setCell_other Hown.out (fun e => n2 e.symm) _) (fun e => n3 e.symm) _
    have hb : Below w.heap.size w W1 := by
      rw [← hW1]; exact (HI.out.below.setCell (p := ⟨w.heap.size, 0, none⟩) (Nat.le_refl _) _).setCell (p := ⟨w.heap.size + 1, 0, none⟩) (by simp) _
    rw [hW1]
    have hg' := grownBy_putObj' W1 D (.deferred none)
    have hr' : ∀ r, (some D) = some r → ∃ o : Obj, W1.heap[r]? = some o ∧ o.isCells = false := fun r e => by cases e; exact ⟨_, hK1, rfl⟩
    have q2 := (boxed_turn r2 hg' hr').cell
    have q3 := (boxed_turn r3 hg' hr').cell
    have hb' : Below w.heap.size w (W1.putObj D (.deferred none)) := hb.trans ((Below.refl _ _).grown hg' hb.size (fun k e => by cases e; omega))
    refine ⟨by simp, .inl ⟨_, _, rfl, run_takeDeferred hK1, ?_⟩⟩
    refine ⟨.tuple #[.slice (some ⟨g, 0, none⟩) (sofar n ys).length cap, .int .i64 0], by simp [results, Try.results25, go_sem, q2, q3], .inl ⟨?_, some ⟨g, 0, none⟩, cap, ?_, ?_⟩⟩
    · simp only [isRow, Bool.and_eq_true, decide_eq_true_eq]; exact ⟨by omega, HI.out.num⟩
    · rw [← sofar_row, hlen]
    · rw [← sofar_row, hlen]
      exact ⟨ownsRow_putObj ho _ hK1 rfl, hb', below_keeps hb', hb'.size⟩
  case stop =>
    rintro D k pre W hD hpre ⟨rfl, hO⟩ hK
    gi_wp2_with fail
    have hg' := grownBy_putObj' W D (.deferred none)
    have hr' : ∀ r, (some D) = some r → ∃ o : Obj, W.heap[r]? = some o ∧ o.isCells = false := fun r e => by cases e; exact ⟨_, hK, rfl⟩
    have q2 := (boxed_turn hO.res2 hg' hr').cell
    have q3 := (boxed_turn hO.res3 hg' hr').cell
    have hb' : Below w.heap.size w (W.putObj D (.deferred none)) := hO.below.trans ((Below.refl _ _).grown hg' hO.below.size (fun k e => by cases e; have := hInv.below.size; omega))
    refine ⟨by simp, .inl ⟨_, _, rfl, run_takeDeferred hK, ?_⟩⟩
    refine ⟨.tuple #[.slice none 0 0, .int .i64 2], by simp [results, Try.results25, go_sem, q2, q3], .inr ⟨?_, rfl, hb'⟩⟩
    obtain ⟨t, rfl⟩ := hpre
    have := hO.num
    simp [isRow, List.all_append, this]

end Go.Proofs.Ytcgfakpolfopnaa
