/-
  The walk of 'TakeRow' of package num. Conditions: those that each theorem names.
-/
import Derived.Test.YtcgfakpolfopnaaNumRow
import Derived.Test.YtcgfakpolfopnaaNumTakes
import Derived.Deep.RegionHeld3
namespace Go.Proofs.Ytcgfakpolfopnaa
open Go.RowKit Go.Shelf
attribute [local go_sem] Oper.semAt_some

def ints (l : List Nat) : List Int := l.map fun x : Nat => (x : Int)

/-- What TakeRow answers: the numbers l, the bytes behind, an error's number. -/
def RowIs (l rest : List Nat) (E : Nat) (w : World) (e : Ending) (w' : World) : Prop :=
  ∃ A1 c1 A2 c2, e = .returned (.tuple #[.slice A1 l.length c1, .slice A2 rest.length c2, .int .i64 (E : Int)]) ∧
    w'.ownsRow w.heap.size 3 1 (.slice A1 l.length c1) l.length (iv (ints l)) ∧ w'.ownsRow w.heap.size 5 1 (.slice A2 rest.length c2) rest.length (bv rest) ∧ Below w.heap.size w w'

theorem rowIs_nil {E : Nat} {w w' : World} (hb : Below w.heap.size w w') : RowIs [] [] E w (.returned (.tuple #[.slice none 0 0, .slice none 0 0, .int .i64 (E : Int)])) w' :=
  ⟨none, 0, none, 0, rfl, World.ownsRow_nil _ _ _ _, World.ownsRow_nil _ _ _ _, hb⟩

/-- The bytes behind a row. -/
def behindRow (bs : List Nat) : List Nat := if (takeRow bs).2.2 = 0 then bs.drop (takeRow bs).1 else []
def TRPost (bs : List Nat) (w : World) (e : Ending) (w' : World) : Prop := RowIs (takeRow bs).2.1 (behindRow bs) (takeRow bs).2.2 w e w'

theorem boxed_under {W W' : World} {B : Nat} {t : TypeId} {v : Value} (h : Boxed W B t v) (hb : Below W.heap.size W W') : Boxed W' B t v := (hb.block B h.lt).trans h

/-- How many bytes, and which numbers, have been taken. -/
def sumK (l : List Tk) : Nat := (l.map fun x => x.1.2.1).sum
def vals (l : List Tk) : List Nat := l.map fun x => x.1.1
theorem sumK_snoc (l : List Tk) (x : Tk) : sumK (l ++ [x]) = sumK l + x.1.2.1 := by simp [sumK]
theorem vals_snoc (l : List Tk) (x : Tk) : iv (ints (vals (l ++ [x]))) = iv (ints (vals l)) ++ [.int .i64 (x.1.1 : Int)] := by simp [iv, ints, vals]
theorem sumK_le (l : List Tk) : sumK l ≤ 6 * l.length := by
  induction l with
  | nil => simp [sumK]
  | cons x l ih =>
    have := x.2.1
    simp only [sumK, List.map_cons, List.sum_cons, List.length_cons] at ih ⊢
    omega
theorem own_form {w : World} {base : Nat} {e : TypeId} {n : Nat} {v : Value} {xs : List Value} (h : w.ownsRow base e 1 v n xs) : ∃ A c, v = .slice A n c := by
  rcases h.2 with ⟨rfl, rfl⟩ | ⟨g, cap, cur, rfl, _⟩
  · exact ⟨_, _, rfl⟩
  · exact ⟨_, _, rfl⟩

/-- What holds between two rounds: r2 and the next two: the results' cells; uB: the box of how many bytes are used. -/
structure TRInv (w : World) (Z r2 uB K : Nat) (pre : List Tk) (W : World) : Prop where
  ok : ∀ x ∈ pre, x.1.2.2 = 0
  res2 : ∃ v, Boxed W r2 22 v ∧ W.ownsRow Z 3 1 v pre.length (iv (ints (vals pre)))
  res3 : Boxed W (r2 + 1) 26 (.slice none 0 0)
  res4 : Boxed W (r2 + 1 + 1) 29 (.int .i64 0)
  used : Boxed W uB 3 (.int .i64 ((K + sumK pre : Nat) : Int))
  below : Below w.heap.size w W
  size : Z ≤ W.heap.size

/-- What holds where a round has left: it had an error. -/
structure TROut (w : World) (r2 : Nat) (pre : List Tk) (W : World) : Prop where
  last : ∃ p x, pre = p ++ [x] ∧ (∀ y ∈ p, y.1.2.2 = 0) ∧ x.1.2.2 ≠ 0 ∧ Boxed W (r2 + 1 + 1) 29 (.int .i64 (x.1.2.2 : Int))
  res2 : Boxed W r2 22 (.slice none 0 0)
  res3 : Boxed W (r2 + 1) 26 (.slice none 0 0)
  below : Below w.heap.size w W

theorem trInv_own (w : World) (Z r2 uB K B : Nat) (hB : w.heap.size ≤ B) : OwnFrom B (TRInv w Z r2 uB K) := by
  intro pre W W' row h hg hr
  have hr' : ∀ r, row = some r → ∃ o : Obj, W.heap[r]? = some o ∧ o.isCells = false := fun r e => (hr r e).2
  obtain ⟨v, h1, h2⟩ := h.res2
  exact ⟨h.ok, ⟨v, boxed_turn h1 hg hr', own_turn h2 hg hr'⟩, boxed_turn h.res3 hg hr', boxed_turn h.res4 hg hr', boxed_turn h.used hg hr', h.below.grown hg (by have := h.below.size; omega) (fun k e => by have := (hr k e).1; omega), Nat.le_trans h.size hg.size⟩
theorem trOut_own (w : World) (r2 B : Nat) (hB : w.heap.size ≤ B) : OwnFrom B (fun (pre : List Tk) W => TROut w r2 pre W) := by
  intro pre W W' row h hg hr
  have hr' : ∀ r, row = some r → ∃ o : Obj, W.heap[r]? = some o ∧ o.isCells = false := fun r e => (hr r e).2
  obtain ⟨p, x, h1, h2, h3, h4⟩ := h.last
  exact ⟨⟨p, x, h1, h2, h3, boxed_turn h4 hg hr'⟩, boxed_turn h.res2 hg hr', boxed_turn h.res3 hg hr', h.below.grown hg (by have := h.below.size; omega) (fun k e => by have := (hr k e).1; omega)⟩

theorem kpT_alloc {n₀ Bs : Nat} {W : World} (hn : n₀ ≤ W.heap.size) (hB : Bs < W.heap.size) (o : Obj) : KpT n₀ Bs W (W.alloc o) :=
  ⟨(Below.refl _ W).alloc hn o, Below.heap_alloc W o Bs hB, fun g _ _ hg => Below.heap_alloc W o g (Array.getElem?_eq_some_iff.1 hg).1⟩
theorem kpT_set {n₀ Bs b : Nat} {t : TypeId} {u : Value} {W : World} (hb : Boxed W b t u) (hn : n₀ ≤ b) (hB : Bs ≠ b) (ht : t ≠ 64) (v : Value) : KpT n₀ Bs W (W.setCell ⟨b, 0, none⟩ v) :=
  ⟨(Below.refl _ W).setCell (p := ⟨b, 0, none⟩) hn v, Below.heap_setCell W ⟨b, 0, none⟩ v Bs hB, fun g cs fz hg => Below.heap_setCell W ⟨b, 0, none⟩ v g (by
    rintro rfl
    rw [show W.heap[g]? = _ from hb] at hg
    injection hg with hg
    injection hg with _ h2
    exact ht h2)⟩
theorem kpT_row {n₀ Bs Z k : Nat} {v : Value} {xs : List Value} {W W' : World} (hown : W.ownsRow Z 3 1 v k xs) (hg : W.grownBy W' v.ownBlock) (hn : n₀ ≤ Z) (hZ : Z ≤ W.heap.size) (hB : Bs < Z) : KpT n₀ Bs W W' :=
  ⟨(below_row hown hg hZ).mono hn, hg.block Bs (by omega) (fun e => by have := (hown.lt Bs e.symm).1; omega), fun g cs fz hh => hg.block g (Array.getElem?_eq_some_iff.1 hh).1 (fun e => by
    rcases hown.2 with ⟨rfl, _⟩ | ⟨g', cap, cur, rfl, _, hc, _⟩
    · simp [Value.ownBlock] at e
    · simp only [Value.ownBlock, Option.some.injEq] at e
      subst e
      rw [hc] at hh
      injection hh with hh
      injection hh with _ h2
      exact absurd h2 (by decide))⟩

/-- A round that has added a number. -/
theorem trInv_step {w : World} {Z r2 uB K Bs : Nat} {pre : List Tk} {W w3 : World} (h : TRInv w Z r2 uB K pre W) (h0 : w.heap.size ≤ r2) (h1 : r2 + 1 + 1 < uB) (h2 : uB < Bs) (h3 : Bs < Z) {x : Tk} (hx : x.1.2.2 = 0) {v v' : Value} (hv : Boxed W r2 22 v)
    (hown : W.ownsRow Z 3 1 v pre.length (iv (ints (vals pre)))) {o : Obj} (ho : (W.alloc o).ownsRow Z 3 1 v pre.length (iv (ints (vals pre)))) (hg : (W.alloc o).grownBy w3 v.ownBlock)
    (hown' : w3.ownsRow Z 3 1 v' (pre.length + 1) (iv (ints (vals pre)) ++ [.int .i64 (x.1.1 : Int)])) {u : Int} (hu : u = ((K + sumK pre : Nat) : Int) + (x.1.2.1 : Int)) :
    KeepsOthers W ((w3.setCell ⟨r2, 0, none⟩ v').setCell ⟨uB, 0, none⟩ (.int .i64 u)) ∧ KpT w.heap.size Bs W ((w3.setCell ⟨r2, 0, none⟩ v').setCell ⟨uB, 0, none⟩ (.int .i64 u)) ∧
      TRInv w Z r2 uB K (pre ++ [x]) ((w3.setCell ⟨r2, 0, none⟩ v').setCell ⟨uB, 0, none⟩ (.int .i64 u)) := by
  have hZ := h.size
  have hbs := h.below.size
  have far : ∀ b, b < Z → some b ≠ v.ownBlock := fun b hb e => by have := (hown.lt b e.symm).1; omega
  have far' : ∀ b, b < Z → v'.ownBlock ≠ some b := fun b hb e => by have := (hown'.lt b e).1; omega
  have b2 : Boxed w3 r2 22 v := (hv.alloc o).kept hg (far r2 (by omega))
  have b3 : Boxed w3 (r2 + 1) 26 (.slice none 0 0) := (h.res3.alloc o).kept hg (far _ (by omega))
  have b4 : Boxed w3 (r2 + 1 + 1) 29 (.int .i64 0) := (h.res4.alloc o).kept hg (far _ (by omega))
  have bu : Boxed w3 uB 3 (.int .i64 ((K + sumK pre : Nat) : Int)) := (h.used.alloc o).kept hg (far _ (by omega))
  have ho3 := ownsRow_setCell_other (a := ⟨r2, 0, none⟩) hown' (far' r2 (by omega)) v'
  have ho4 := ownsRow_setCell_other (a := ⟨uB, 0, none⟩) ho3 (far' uB (by omega)) (.int .i64 u)
  have k1 : KpT w.heap.size Bs W w3 := kpT_t (kpT_alloc hbs (by omega) o) (kpT_row ho hg (by omega) (by simp; omega) h3)
  have k2 := kpT_set (n₀ := w.heap.size) (Bs := Bs) b2 h0 (by omega) (by decide) v'
  have k3 := kpT_set (n₀ := w.heap.size) (Bs := Bs) (bu.other (B' := r2) (by omega) v') (by omega) (by omega) (by decide) (.int .i64 u)
  have kk := kpT_t (kpT_t k1 k2) k3
  have hs3 : Z ≤ w3.heap.size := by have := hg.size; simp at this; omega
  refine ⟨(((KeepsOthers.alloc W o).trans (keeps_row ho hg)).trans (KeepsOthers.setCell _ _ _)).trans (KeepsOthers.setCell _ _ _), kk, ?_⟩
  refine ⟨?_, ⟨v', (b2.set v').other (by omega) _, ?_⟩, (b3.other (by omega) _).other (by omega) _, (b4.other (by omega) _).other (by omega) _, ?_, h.below.trans kk.1, by simpa [World.setCell] using hs3⟩
  · intro y hy
    simp only [List.mem_append, List.mem_singleton] at hy
    rcases hy with hy | rfl
    · exact h.ok y hy
    · exact hx
  · rw [vals_snoc, List.length_append]; exact ho4
  · have e : ((K + sumK (pre ++ [x]) : Nat) : Int) = u := by rw [hu, sumK_snoc]; omega
    rw [e]
    exact (bu.other (by omega) _).set _

/-- A round that has left. -/
theorem trOut_step {w : World} {Z r2 uB K : Nat} {pre : List Tk} {W : World} (h : TRInv w Z r2 uB K pre W) (h0 : w.heap.size ≤ r2) {x : Tk} (hx : x.1.2.2 ≠ 0) (hv : ∃ v, Boxed W r2 22 v) :
    TROut w r2 (pre ++ [x]) (((W.setCell ⟨r2, 0, none⟩ (.slice none 0 0)).setCell ⟨r2 + 1, 0, none⟩ (.slice none 0 0)).setCell ⟨r2 + 1 + 1, 0, none⟩ (.int .i64 (x.1.2.2 : Int))).drew := by
  obtain ⟨v, hv⟩ := hv
  exact ⟨⟨pre, x, rfl, h.ok, hx, ((h.res4.other (by omega) _).other (by omega) _).set _⟩, ((hv.set _).other (by omega) _).other (by omega) _, ((h.res3.other (by omega) _).set _).other (by omega) _,
    (((h.below.setCell (p := ⟨r2, 0, none⟩) h0 _).setCell (p := ⟨r2 + 1, 0, none⟩) (by show w.heap.size ≤ r2 + 1; omega) _).setCell (p := ⟨r2 + 1 + 1, 0, none⟩) (by show w.heap.size ≤ r2 + 1 + 1; omega) _).drew⟩

theorem items_err : ∀ (k : Nat) (bs : List Nat) (p : List Tk) (x : Tk), (p ++ [x]) <+: items k bs → x.1.2.2 ≠ 0 → (takes k bs).2.2 = x.1.2.2 := by
  intro k
  induction k with
  | zero => intro bs p x h _; simp [items] at h
  | succ k ih =>
    intro bs p x h hx
    simp only [items] at h
    simp only [takes]
    cases p with
    | nil =>
      simp only [List.nil_append, List.cons_prefix_cons] at h
      have h1 : x.1 = first bs := by rw [h.1]; rfl
      rw [h1] at hx ⊢
      rw [if_neg hx]
    | cons y p =>
      simp only [List.cons_append, List.cons_prefix_cons] at h
      by_cases h0 : (first bs).2.2 = 0
      · rw [if_pos h0] at h ⊢
        exact ih _ p x h.2 hx
      · rw [if_neg h0] at h
        simp at h
theorem items_ok : ∀ (k : Nat) (bs : List Nat), (∀ x ∈ items k bs, x.1.2.2 = 0) → takes k bs = (sumK (items k bs), vals (items k bs), 0) := by
  intro k
  induction k with
  | zero => intro bs _; rfl
  | succ k ih =>
    intro bs h
    have h0 : (first bs).2.2 = 0 := h (firstT bs) (by simp [items])
    simp only [items, if_pos h0] at h ⊢
    simp only [takes]
    rw [if_pos h0, ih _ (fun x hx => h x (by simp [hx]))]
    simp [sumK, vals, firstT]
theorem takeRow_ok {bs : List Nat} {N K : Nat} (hF : first bs = (N, K, 0)) (hN : N ≤ 40) (h : ∀ x ∈ items N (bs.drop K), x.1.2.2 = 0) : takeRow bs = (K + sumK (items N (bs.drop K)), vals (items N (bs.drop K)), 0) := by
  have h1 := items_ok _ _ h
  unfold takeRow
  simp only [hF, h1]
  rw [if_neg (by simp), if_neg (by omega), if_neg (by simp)]
theorem takeRow_bad {bs : List Nat} {N K : Nat} (hF : first bs = (N, K, 0)) (hN : N ≤ 40) {p : List Tk} {x : Tk} (h : (p ++ [x]) <+: items N (bs.drop K)) (hx : x.1.2.2 ≠ 0) : takeRow bs = (0, [], x.1.2.2) := by
  have h1 := items_err _ _ p x h hx
  unfold takeRow
  simp only [hF, h1]
  rw [if_neg (by simp), if_neg (by omega), if_pos hx]

theorem items_len : ∀ (k : Nat) (bs : List Nat), (items k bs).length ≤ k := by
  intro k
  induction k with
  | zero => intro bs; simp [items]
  | succ k ih =>
    intro bs
    simp only [items, List.length_cons]
    split
    · have := ih (bs.drop (first bs).2.1); omega
    · simp

theorem info_int : (Try.prog.info? 3).map (fun i => (i.zero, i.size, i.bytes)) = some (some (.int .i64 0), 1, 8) := by kernel_rfl

set_option maxRecDepth 100000 in
set_option maxHeartbeats 400000 in
theorem takeRow_err1 (A : Option Addr) (n c : Nat) (bs : List Nat) (B : Nat) (w : World) (hr : Rd w B A n (bv bs)) (hB : B ≤ w.heap.size) (hb : ∀ x ∈ bs, x < 256) (hn : n ≤ maxLen) {N K E : Nat} (hF : first bs = (N, K, E)) (hE : E ≠ 0) :
    Calls Try.prog 29 #[.slice A n c] w (RowIs [] [] E w) := by
  have H1 : Hid (∀ W : World, Below w.heap.size w W → Calls Try.prog 41 #[.slice A n c] W fun e w' => e = .returned (.agg #[.int .i64 (N : Int), .int .i64 (K : Int), .int .i64 (E : Int)]) ∧ Below W.heap.size W w' ∧ KeepsOthers W w') :=
    fun W hW => first_eq A n c bs B W (hr.below (hW.mono hB)) (by have := hW.size; omega) hb hn hF
  have hEb : ((E : Int) != 0) = true := by simp; exact hE
  clear hr hb hF hE
  go_enter Try.func29, Try.ntmps29
  go_wp2_with fail
  have b0 : Below w.heap.size w (((w.alloc (.cells #[.slice none 0 0] 22)).alloc (.cells #[.slice none 0 0] 26)).alloc (.cells #[.int .i64 0] 29)) := (((Below.refl _ w).alloc (Nat.le_refl _) _).alloc (by simp) _).alloc (by simp; omega) _
  refine (H1.out _ b0).mono ?_
  rintro e w1 ⟨rfl, hb1, _⟩
  have bb : Below w.heap.size w w1 := b0.trans (hb1.mono (by simp; omega))
  have q2 : Boxed w1 w.heap.size 22 (.slice none 0 0) := boxed_under (((Boxed.new w 22 (.slice none 0 0)).alloc _).alloc _) hb1
  have q3 : Boxed w1 (w.heap.size + 1) 26 (.slice none 0 0) := by
    have h := Boxed.new (w.alloc (.cells #[.slice none 0 0] 22)) 26 (.slice none 0 0)
    rw [World.size_alloc] at h
    exact boxed_under (h.alloc _) hb1
  have q4 : Boxed w1 (w.heap.size + 1 + 1) 29 (.int .i64 0) := by
    have h := Boxed.new ((w.alloc (.cells #[.slice none 0 0] 22)).alloc (.cells #[.slice none 0 0] 26)) 29 (.int .i64 0)
    rw [World.size_alloc, World.size_alloc] at h
    exact boxed_under h hb1
  obtain ⟨W2, hW2⟩ : ∃ W2, w1.alloc (.cells #[.int .i64 (N : Int), .int .i64 (K : Int), .int .i64 (E : Int)] 64) = W2 := ⟨_, rfl⟩
  have x2 : W2.cell? ⟨w1.heap.size, 2, none⟩ = some (.int .i64 (E : Int)) := by rw [← hW2]; exact cell_new w1 _ _ 2
  have p2 : Boxed W2 w.heap.size 22 (.slice none 0 0) := by rw [← hW2]; exact q2.alloc _
  have p3 : Boxed W2 (w.heap.size + 1) 26 (.slice none 0 0) := by rw [← hW2]; exact q3.alloc _
  have p4 : Boxed W2 (w.heap.size + 1 + 1) 29 (.int .i64 0) := by rw [← hW2]; exact q4.alloc _
  have b2 : Below w.heap.size w W2 := by rw [← hW2]; exact bb.alloc bb.size _
  have c2 := p2.cell
  have f2 := p2.frozen
  have c3 := p3.cell
  have f3 := p3.frozen
  have c4 := p4.cell
  have f4 := p4.frozen
  have B2 := Lib.hid b2
  have P2 := Lib.hid p2
  have P3 := Lib.hid p3
  have P4 := Lib.hid p4
  clear b0 hb1 bb q2 q3 q4 p2 p3 p4 b2 H1
  go_wp2_with fail
  go_region
  go_wp2_with fail
  obtain ⟨W3, hW3⟩ : ∃ W3, (((W2.setCell ⟨w.heap.size, 0, none⟩ (.slice none 0 0)).setCell ⟨w.heap.size + 1, 0, none⟩ (.slice none 0 0)).setCell ⟨w.heap.size + 1 + 1, 0, none⟩ (.int .i64 (E : Int))).drew = W3 := ⟨_, rfl⟩
  have z2 : Boxed W3 w.heap.size 22 (.slice none 0 0) := by rw [← hW3]; exact ((P2.out.set _).other (by omega) _).other (by omega) _
  have z3 : Boxed W3 (w.heap.size + 1) 26 (.slice none 0 0) := by rw [← hW3]; exact ((P3.out.other (by omega) _).set _).other (by omega) _
  have z4 : Boxed W3 (w.heap.size + 1 + 1) 29 (.int .i64 (E : Int)) := by rw [← hW3]; exact ((P4.out.other (by omega) _).other (by omega) _).set _
  have b3 : Below w.heap.size w W3 := by
    rw [← hW3]
    exact (((B2.out.setCell (p := ⟨w.heap.size, 0, none⟩) (Nat.le_refl _) _).setCell (p := ⟨w.heap.size + 1, 0, none⟩) (by simp) _).setCell (p := ⟨w.heap.size + 1 + 1, 0, none⟩) (by simp; omega) _).drew
  rw [hW3]
  exact bodyPost_ret (v := .tuple #[.slice none 0 0, .slice none 0 0, .int .i64 (E : Int)]) (by simp [results, Try.results29, go_sem, z2.cell, z3.cell, z4.cell]) rfl (rowIs_nil b3)

set_option maxRecDepth 100000 in
set_option maxHeartbeats 400000 in
theorem takeRow_big (A : Option Addr) (n c : Nat) (bs : List Nat) (B : Nat) (w : World) (hr : Rd w B A n (bv bs)) (hB : B ≤ w.heap.size) (hb : ∀ x ∈ bs, x < 256) (hn : n ≤ maxLen) {N K : Nat} (hF : first bs = (N, K, 0)) (hN : 40 < N) :
    Calls Try.prog 29 #[.slice A n c] w (RowIs [] [] 11 w) := by
  have H1 : Hid (∀ W : World, Below w.heap.size w W → Calls Try.prog 41 #[.slice A n c] W fun e w' => e = .returned (.agg #[.int .i64 (N : Int), .int .i64 (K : Int), .int .i64 ((0 : Nat) : Int)]) ∧ Below W.heap.size W w' ∧ KeepsOthers W w') :=
    fun W hW => first_eq A n c bs B W (hr.below (hW.mono hB)) (by have := hW.size; omega) hb hn hF
  have hNb : (40 : Int) < (N : Int) := by omega
  clear hr hb hF
  go_enter Try.func29, Try.ntmps29
  go_wp2_with fail
  have b0 : Below w.heap.size w (((w.alloc (.cells #[.slice none 0 0] 22)).alloc (.cells #[.slice none 0 0] 26)).alloc (.cells #[.int .i64 0] 29)) := (((Below.refl _ w).alloc (Nat.le_refl _) _).alloc (by simp) _).alloc (by simp; omega) _
  refine (H1.out _ b0).mono ?_
  rintro e w1 ⟨rfl, hb1, _⟩
  have bb : Below w.heap.size w w1 := b0.trans (hb1.mono (by simp; omega))
  have q2 : Boxed w1 w.heap.size 22 (.slice none 0 0) := boxed_under (((Boxed.new w 22 (.slice none 0 0)).alloc _).alloc _) hb1
  have q3 : Boxed w1 (w.heap.size + 1) 26 (.slice none 0 0) := by
    have h := Boxed.new (w.alloc (.cells #[.slice none 0 0] 22)) 26 (.slice none 0 0)
    rw [World.size_alloc] at h
    exact boxed_under (h.alloc _) hb1
  have q4 : Boxed w1 (w.heap.size + 1 + 1) 29 (.int .i64 0) := by
    have h := Boxed.new ((w.alloc (.cells #[.slice none 0 0] 22)).alloc (.cells #[.slice none 0 0] 26)) 29 (.int .i64 0)
    rw [World.size_alloc, World.size_alloc] at h
    exact boxed_under h hb1
  obtain ⟨W2, hW2⟩ : ∃ W2, w1.alloc (.cells #[.int .i64 (N : Int), .int .i64 (K : Int), .int .i64 0] 64) = W2 := ⟨_, rfl⟩
  have x2 : W2.cell? ⟨w1.heap.size, 2, none⟩ = some (.int .i64 0) := by rw [← hW2]; exact cell_new w1 _ _ 2
  have x0 : W2.cell? ⟨w1.heap.size, 0, none⟩ = some (.int .i64 (N : Int)) := by rw [← hW2]; exact cell_new w1 _ _ 0
  have p2 : Boxed W2 w.heap.size 22 (.slice none 0 0) := by rw [← hW2]; exact q2.alloc _
  have p3 : Boxed W2 (w.heap.size + 1) 26 (.slice none 0 0) := by rw [← hW2]; exact q3.alloc _
  have p4 : Boxed W2 (w.heap.size + 1 + 1) 29 (.int .i64 0) := by rw [← hW2]; exact q4.alloc _
  have b2 : Below w.heap.size w W2 := by rw [← hW2]; exact bb.alloc bb.size _
  have c2 := p2.cell
  have f2 := p2.frozen
  have c3 := p3.cell
  have f3 := p3.frozen
  have c4 := p4.cell
  have f4 := p4.frozen
  have B2 := Lib.hid b2
  have P2 := Lib.hid p2
  have P3 := Lib.hid p3
  have P4 := Lib.hid p4
  clear b0 hb1 bb q2 q3 q4 p2 p3 p4 b2 H1
  subst hW2
  go_wp2_with fail
  obtain ⟨W3, hW3⟩ : ∃ W3, ((((w1.alloc (.cells #[.int .i64 (N : Int), .int .i64 (K : Int), .int .i64 0] 64)).setCell ⟨w.heap.size, 0, none⟩ (.slice none 0 0)).setCell ⟨w.heap.size + 1, 0, none⟩ (.slice none 0 0)).setCell ⟨w.heap.size + 1 + 1, 0, none⟩ (.int .i64 11)) = W3 := ⟨_, rfl⟩
  have z2 : Boxed W3 w.heap.size 22 (.slice none 0 0) := by rw [← hW3]; exact ((P2.out.set _).other (by omega) _).other (by omega) _
  have z3 : Boxed W3 (w.heap.size + 1) 26 (.slice none 0 0) := by rw [← hW3]; exact ((P3.out.other (by omega) _).set _).other (by omega) _
  have z4 : Boxed W3 (w.heap.size + 1 + 1) 29 (.int .i64 11) := by rw [← hW3]; exact ((P4.out.other (by omega) _).other (by omega) _).set _
  have b3 : Below w.heap.size w W3 := by
    rw [← hW3]
    exact (((B2.out.setCell (p := ⟨w.heap.size, 0, none⟩) (Nat.le_refl _) _).setCell (p := ⟨w.heap.size + 1, 0, none⟩) (by simp) _).setCell (p := ⟨w.heap.size + 1 + 1, 0, none⟩) (by simp; omega) _)
  rw [hW3]
  exact bodyPost_ret (v := .tuple #[.slice none 0 0, .slice none 0 0, .int .i64 11]) (by simp [results, Try.results29, go_sem, z2.cell, z3.cell, z4.cell]) rfl (rowIs_nil (E := 11) b3)

set_option maxRecDepth 100000 in
set_option maxHeartbeats 1000000 in
theorem takeRow_go (A : Option Addr) (n c : Nat) (bs : List Nat) (B : Nat) (w : World) (hr : Rd w B A n (bv bs)) (hB : B ≤ w.heap.size) (hb : ∀ x ∈ bs, x < 256) (hn : n ≤ 140737488355328) (hc : n ≤ c) {N K : Nat} (hF : first bs = (N, K, 0)) (hN : N ≤ 40) :
    Calls Try.prog 29 #[.slice A n c] w (TRPost bs w) := by
  have H1 : Hid (∀ W : World, Below w.heap.size w W → Calls Try.prog 41 #[.slice A n c] W fun e w' => e = .returned (.agg #[.int .i64 (N : Int), .int .i64 (K : Int), .int .i64 ((0 : Nat) : Int)]) ∧ Below W.heap.size W w' ∧ KeepsOthers W w') :=
    fun W hW => first_eq A n c bs B W (hr.below (hW.mono hB)) (by have := hW.size; omega) hb (by unfold maxLen; omega) hF
  have hKl := (first_le hF).1
  have hl : bs.length = n := by have := hr.1; rwa [bv_length] at this
  obtain ⟨A', hA1, hA2⟩ := run_rest A n c K (by omega)
  have hd40 : decide ((40 : Int) < (N : Int)) = false := by simp; omega
  have HR := Lib.hid hr
  have HA1 := Lib.hid hA1
  have HA2 := Lib.hid hA2
  have HF := Lib.hid hF
  have Hb := Lib.hid hb
  have HL := Lib.hid hl
  have HKl := Lib.hid hKl
  clear hr hA2 hA1 hF hb hl hKl
  refine (callsIn_wide (n := 6)).1 ?_
  refine callsIn_of_wp_marks Try.func29 rfl trivial ?_ rfl
  simp only [Try.ntmps29, List.size_toArray, List.length_cons, List.length_nil, Nat.reduceAdd, Nat.reduceSub, Array.replicate_succ, Array.replicate_zero, List.push_toArray, List.append_toArray, List.nil_append, List.cons_append]
  gi_wp2_with fail
  refine ⟨trivial, ?_⟩
  have b0 : Below w.heap.size w (((w.alloc (.cells #[.slice none 0 0] 22)).alloc (.cells #[.slice none 0 0] 26)).alloc (.cells #[.int .i64 0] 29)) := (((Below.refl _ w).alloc (Nat.le_refl _) _).alloc (by simp) _).alloc (by simp; omega) _
  refine (callsIn_wide.2 (H1.out _ b0)).mono ?_
  rintro e w1 ⟨rfl, hb1, _⟩
  have bb : Below w.heap.size w w1 := b0.trans (hb1.mono (by simp; omega))
  have q2 : Boxed w1 w.heap.size 22 (.slice none 0 0) := boxed_under (((Boxed.new w 22 (.slice none 0 0)).alloc _).alloc _) hb1
  have q3 : Boxed w1 (w.heap.size + 1) 26 (.slice none 0 0) := by
    have h := Boxed.new (w.alloc (.cells #[.slice none 0 0] 22)) 26 (.slice none 0 0)
    rw [World.size_alloc] at h
    exact boxed_under (h.alloc _) hb1
  have q4 : Boxed w1 (w.heap.size + 1 + 1) 29 (.int .i64 0) := by
    have h := Boxed.new ((w.alloc (.cells #[.slice none 0 0] 22)).alloc (.cells #[.slice none 0 0] 26)) 29 (.int .i64 0)
    rw [World.size_alloc, World.size_alloc] at h
    exact boxed_under h hb1
  obtain ⟨W2, hW2⟩ : ∃ W2, (w1.alloc (.cells #[.int .i64 (N : Int), .int .i64 (K : Int), .int .i64 0] 64)).alloc (.cells #[.int .i64 (K : Int)] 3) = W2 := ⟨_, rfl⟩
  have hs2 : W2.heap.size = w1.heap.size + 2 := by rw [← hW2]; simp
  have p2 : Boxed W2 w.heap.size 22 (.slice none 0 0) := by rw [← hW2]; exact (q2.alloc _).alloc _
  have p3 : Boxed W2 (w.heap.size + 1) 26 (.slice none 0 0) := by rw [← hW2]; exact (q3.alloc _).alloc _
  have p4 : Boxed W2 (w.heap.size + 1 + 1) 29 (.int .i64 0) := by rw [← hW2]; exact (q4.alloc _).alloc _
  have p5 : W2.heap[w1.heap.size]? = some (.cells #[.int .i64 (N : Int), .int .i64 (K : Int), .int .i64 0] 64 (0, 0)) := by
    rw [← hW2]; exact (Below.heap_alloc _ _ _ (by simp)).trans (heap_alloc_new w1 _)
  have p6 : Boxed W2 (w1.heap.size + 1) 3 (.int .i64 (K : Int)) := by
    rw [← hW2]; have h := Boxed.new (w1.alloc (.cells #[.int .i64 (N : Int), .int .i64 (K : Int), .int .i64 0] 64)) 3 (.int .i64 (K : Int))
    rwa [World.size_alloc] at h
  have b2 : Below w.heap.size w W2 := by rw [← hW2]; exact (bb.alloc bb.size _).alloc (by have := bb.size; simp; omega) _
  have hbs : w.heap.size + 3 ≤ w1.heap.size := by have := hb1.size; simpa using this
  have x0 : W2.cell? ⟨w1.heap.size, 0, none⟩ = some (.int .i64 (N : Int)) := cell_of_row W2 _ 0 _ _ _ p5
  have x6 := p6.cell
  have P2 := Lib.hid p2
  have P3 := Lib.hid p3
  have P4 := Lib.hid p4
  have P6 := Lib.hid p6
  have B2 := Lib.hid b2
  have HS2 := Lib.hid hs2
  clear b0 hb1 bb q2 q3 q4 p2 p3 p4 p5 p6 b2 H1
  gi_wp2_with fail
  have hA1 := HA1.out
  refine wpIn_wide.2 ?_
  go_region_held3 (fun W => W.cell? ⟨w1.heap.size, 0, none⟩ = some (.int .i64 (N : Int)) ∧ W.cell? ⟨w1.heap.size + 1, 0, none⟩ = some (.int .i64 (K : Int))) (go_keep)
    (first | (go_at_call 42; refine (takes_any _ _ _ _ _).mono ?_; rintro e w3 ⟨rfl, rfl⟩))
  gi_wp2_with fail
  clear hA1 x0 x6
  obtain ⟨W0, hW0⟩ : ∃ W0, ((W2.alloc (.cells #[.slice A' (n - K) (c - K)] 26)).alloc (.cells #[.int .i64 (N : Int)] 3)).drew = W0 := ⟨_, rfl⟩
  have hs0 : W0.heap.size = w1.heap.size + 4 := by rw [← hW0]; show (_ : World).heap.size = _; simp [hs2]
  have bArg : Boxed W0 (w1.heap.size + 2) 26 (.slice A' (n - K) (c - K)) := by
    rw [← hW0]; have h := (Boxed.new W2 26 (.slice A' (n - K) (c - K))).alloc (.cells #[.int .i64 (N : Int)] 3)
    rw [hs2] at h; exact h
  have bMany : Boxed W0 (w1.heap.size + 2 + 1) 3 (.int .i64 (N : Int)) := by
    rw [← hW0]; have h := Boxed.new (W2.alloc (.cells #[.slice A' (n - K) (c - K)] 26)) 3 (.int .i64 (N : Int))
    rw [World.size_alloc, hs2] at h; exact h
  have hInv : TRInv w W0.heap.size w.heap.size (w1.heap.size + 1) K [] W0 := by
    refine ⟨by simp, ⟨.slice none 0 0, ?_, World.ownsRow_nil _ _ _ _⟩, ?_, ?_, ?_, ?_, Nat.le_refl _⟩
    · rw [← hW0]; exact (P2.out.alloc _).alloc _
    · rw [← hW0]; exact (P3.out.alloc _).alloc _
    · rw [← hW0]; exact (P4.out.alloc _).alloc _
    · rw [← hW0]; exact (P6.out.alloc _).alloc _
    · rw [← hW0]; exact ((B2.out.alloc B2.out.size _).alloc (by have := B2.out.size; simp; omega) _).drew
  have hRd : Rd W0 w.heap.size A' (n - K) (bv (bs.drop K)) := by
    have h1 : Rd W0 w.heap.size A n (bv bs) := (HR.out.more hB).below hInv.below
    have h2 := h1.cut (by have h3 := HKl.out; have h4 := HL.out; omega) A' (fun hk => HA2.out ⟨hk, hc⟩)
    rw [bv, List.map_drop]; exact h2
  rw [hW0]
  clear hW0 hW2 P2 P3 P4 P6 B2 HS2 hs2
  refine wpIn_rangeFunc_ownH rfl (by omega) (gf := 47) (lb := #[.pointer (some ⟨w1.heap.size + 2 + 1, 0, none⟩), .pointer (some ⟨w1.heap.size + 2, 0, none⟩)]) rfl trivial (enters_of Try.func47 (by kernel_rfl) rfl)
    (encs := fun x : Tk => #[.agg #[.int .i64 (x.1.1 : Int), .int .i64 (x.1.2.1 : Int), .int .i64 (x.1.2.2 : Int)]])
    (takes_stops 5 (w1.heap.size + 2 + 1) (w1.heap.size + 2) w.heap.size A' (n - K) (c - K) N (bs.drop K) (by omega) (by omega) (by omega) (fun x hx => Hb.out x (List.mem_of_mem_drop hx)) W0 (by omega) (by omega) (by omega) bMany.cell bArg.cell hRd)
    (fun h k => kpT_t h k) (kpT_b (by omega) (by omega)) (Below.refl _ _) (fun _ => rfl)
    (TRInv w W0.heap.size w.heap.size (w1.heap.size + 1) K) (fun k pre W => k = .ret ∧ TROut w w.heap.size pre W)
    (trInv_own _ _ _ _ _ _ (by omega)) (fun k pre W W' row h hg hr => ⟨h.1, trOut_own w w.heap.size W0.heap.size (by omega) pre W W' row h.2 hg hr⟩) hInv
    (fun x a' W => ∃ Bx, W0.heap.size ≤ Bx ∧ W.heap[Bx]? = some (.cells #[.int .i64 (x.1.1 : Int), .int .i64 (x.1.2.1 : Int), .int .i64 (x.1.2.2 : Int)] 64 (0, 0)) ∧
      a' = { tmps := #[.slice A n c, undef, .pointer (some ⟨w.heap.size, 0, none⟩), .pointer (some ⟨w.heap.size + 1, 0, none⟩), .pointer (some ⟨w.heap.size + 1 + 1, 0, none⟩), .pointer (some ⟨w1.heap.size, 0, none⟩), .pointer (some ⟨w1.heap.size + 1, 0, none⟩), .pointer (some ⟨Bx, 0, none⟩), .slice A n c,
        .agg #[.int .i64 (N : Int), .int .i64 (K : Int), .int .i64 0], .pointer (some ⟨w1.heap.size, 2, none⟩), .int .i64 0, .bool false, undef, undef, .pointer (some ⟨w1.heap.size, 0, none⟩), .int .i64 (N : Int), .bool false, .pointer (some ⟨w1.heap.size, 1, none⟩), .int .i64 (K : Int), .slice A n c, .int .i64 (K : Int), .slice A' (n - K) (c - K), .pointer (some ⟨w1.heap.size, 0, none⟩), .int .i64 (N : Int),
        .func (.func 47) #[] #[.pointer (some ⟨w1.heap.size + 2 + 1, 0, none⟩), .pointer (some ⟨w1.heap.size + 2, 0, none⟩)], .agg #[.int .i64 (x.1.1 : Int), .int .i64 (x.1.2.1 : Int), .int .i64 (x.1.2.2 : Int)], undef, undef, undef, undef, undef, undef, undef, undef, undef, undef, undef, undef, undef, undef, undef, undef, undef, undef, undef], defers := [] })
    (fun x a' _ X Y row hs hg hr => by
      obtain ⟨Bx, h1, h2, h3⟩ := hs
      refine ⟨Bx, h1, (hg.block Bx (Array.getElem?_eq_some_iff.1 h2).1 (fun e => ?_)).trans h2, h3⟩
      obtain ⟨o, ho, hc⟩ := (hr Bx e.symm).2
      rw [h2] at ho; cases ho; cases hc) ?assign ?body ?done ?stop
  case assign =>
    rintro l pre x W K' hI hK
    gi_wp2
    refine hK _ _ ((KeepsOthers.alloc _ _).from _) (kpT_alloc hI.below.size (by have := hI.size; omega) _) ?_ ⟨W.heap.size, hI.size, heap_alloc_new W _, rfl⟩
    obtain ⟨v, h1, h2⟩ := hI.res2
    exact ⟨hI.ok, ⟨v, h1.alloc _, h2.alloc _⟩, hI.res3.alloc _, hI.res4.alloc _, hI.used.alloc _, hI.below.alloc hI.below.size _, by have := hI.size; simp; omega⟩
  case body =>
    obtain ⟨i0, hi, hz0, hz1, hz2⟩ := info_parts info_int
    have hmix : Try.prog.follows .mixedOrders = true := by kernel_rfl
    rintro l pre x a' W hl _ hI ⟨Bx, hBx, hX, rfl⟩ hlt
    have hpl : pre.length < 40 := by
      have h1 := items_len N (bs.drop K)
      omega
    have x0 : W.cell? ⟨Bx, 0, none⟩ = some (.int .i64 (x.1.1 : Int)) := cell_of_row W _ 0 _ _ _ hX
    have x1 : W.cell? ⟨Bx, 1, none⟩ = some (.int .i64 (x.1.2.1 : Int)) := cell_of_row W _ 1 _ _ _ hX
    have x2 : W.cell? ⟨Bx, 2, none⟩ = some (.int .i64 (x.1.2.2 : Int)) := cell_of_row W _ 2 _ _ _ hX
    have hx6 := x.2.1
    have hS := sumK_le pre
    obtain ⟨v, hv, hown⟩ := hI.res2
    obtain ⟨Av, cv, rfl⟩ := own_form hown
    have c2 := hv.cell
    have f2 := hv.frozen
    have c3 := hI.res3.cell
    have f3 := hI.res3.frozen
    have c4 := hI.res4.cell
    have f4 := hI.res4.frozen
    have cu := hI.used.cell
    have fu := hI.used.frozen
    have hsz := hI.size
    have HI := Lib.hid hI
    have Hv := Lib.hid hv
    have Hown := Lib.hid hown
    have HX := Lib.hid hX
    have hKb : K ≤ 140737488355328 := by have h1 := HKl.out; have h2 := HL.out; omega
    clear hI hv hown hX
    obtain ⟨V, hV⟩ : ∃ V, x.1.1 = V := ⟨_, rfl⟩
    obtain ⟨L, hL⟩ : ∃ L, x.1.2.1 = L := ⟨_, rfl⟩
    obtain ⟨E, hE⟩ : ∃ E, x.1.2.2 = E := ⟨_, rfl⟩
    rw [hV] at x0 ⊢
    rw [hL] at x1 hx6 ⊢
    rw [hE] at x2 ⊢
    have HV := Lib.hid hV
    have HL2 := Lib.hid hL
    have HE := Lib.hid hE
    clear hV hL hE
    by_cases hE0 : E = 0
    · subst hE0
      gi_wp2_with (gi_at_builtin; refine wpListIn_append_own _ rfl _ _ 22 rfl W0.heap.size 3 i0 (.int .i64 0) 1 8 Try.underlying22 hi hz0 hz1 hz2 rfl (by decide) _ _ _ rfl (Hown.out.alloc _) ⟨W.heap.size, 0, none⟩ 1 1 [.int .i64 (V : Int)] rfl rfl (cell_one_new _ _ _) (by simp [Value.oneCell']) (by unfold maxLen; omega) (by omega) (by simp; omega) ?_; intro v' w3 hown' hgrow _; obtain ⟨g', cap', rfl⟩ := ownsRow_succ hown'; have Hown' := Lib.hid hown'; have Hgrow := Lib.hid hgrow; clear hown' hgrow; have e2 := (Hv.out.alloc _).kept Hgrow.out (fun e => by have := (Hown.out.lt _ e.symm).1; omega); have eu := (HI.out.used.alloc _).kept Hgrow.out (fun e => by have := (Hown.out.lt _ e.symm).1; omega); have ex := (((kpT_row (n₀ := 0) (Bs := w1.heap.size) (Hown.out.alloc _) Hgrow.out (by omega) (by simp; omega) (by omega)).2.2 Bx _ _ ((Below.heap_alloc W _ Bx (Array.getElem?_eq_some_iff.1 HX.out).1).trans HX.out)).trans (Below.heap_alloc W _ Bx (Array.getElem?_eq_some_iff.1 HX.out).1)).trans HX.out; have ec2 := e2.cell; have ef2 := e2.frozen; have ecu := eu.cell; have efu := eu.frozen; have ex1 := cell_of_row w3 _ 1 _ _ _ ex; clear e2 eu ex)
      obtain ⟨k1, k2, k3⟩ := trInv_step (u := (K : Int) + (sumK pre : Int) + (x.1.2.1 : Int)) HI.out (Nat.le_refl _) (by omega) (show w1.heap.size + 1 < w1.heap.size + 2 by omega) (by omega) HE.out Hv.out Hown.out (Hown.out.alloc _) Hgrow.out (by rw [HV.out]; exact Hown'.out) (by omega)
      exact ⟨k1.from _, k2, k3⟩
    · have hEb : ((E : Int) != 0) = true := by simp; exact hE0
      have HE0 : Hid (¬ E = 0) := hE0
      clear hE0
      gi_wp2_with fail
      gi_region_with_o (fail)
      all_goals gi_wp2
      all_goals
        have hO := trOut_step HI.out (Nat.le_refl _) (x := x) (by rw [HE.out]; exact HE0.out) ⟨_, Hv.out⟩
        rw [HE.out] at hO
        exact ⟨((((KeepsOthers.setCell _ _ _).trans (KeepsOthers.setCell _ _ _)).trans (KeepsOthers.setCell _ _ _)).trans (KeepsOthers.drew _)).from _, rfl, hO⟩
  case done =>
    rintro D ys W hD rfl hI hK
    have hT := takeRow_ok HF.out hN hI.ok
    have hle : K + sumK (items N (bs.drop K)) ≤ n := by
      have h1 := takeRow_only Hb.out (by rw [hT])
      have h2 := h1.2.2.2
      have h3 : bs.length = (row (takeRow bs).2.1).length + (bs.length - (takeRow bs).1) := by
        conv => lhs; rw [h1.1]
        rw [List.length_append, List.length_drop]
      rw [hT] at h2 h3
      have h4 := HL.out
      simp only at h2 h3
      omega
    obtain ⟨v, hv, hown⟩ := hI.res2
    obtain ⟨Av, cv, rfl⟩ := own_form hown
    obtain ⟨A2, hA1, hA2⟩ := run_rest A n c (K + sumK (items N (bs.drop K))) hle
    obtain ⟨U, hU⟩ : ∃ U, K + sumK (items N (bs.drop K)) = U := ⟨_, rfl⟩
    obtain ⟨M, hM⟩ : ∃ M, (items N (bs.drop K)).length = M := ⟨_, rfl⟩
    have cu := hI.used.cell
    rw [hU] at hA1 hA2 hle cu
    rw [hM] at hown hv
    have c2 := hv.cell
    have f2 := hv.frozen
    have c3 := hI.res3.cell
    have f3 := hI.res3.frozen
    have c4 := hI.res4.cell
    have f4 := hI.res4.frozen
    have HI := Lib.hid hI
    have Hv := Lib.hid hv
    have Hown := Lib.hid hown
    have HK := Lib.hid hK
    have HT := Lib.hid hT
    have HA2' := Lib.hid hA2
    have HU := Lib.hid hU
    have HM := Lib.hid hM
    have Hle := Lib.hid hle
    clear hI hv hown hK hT hA2 hU hM hle
    have HRd : Hid (Rd W.drew w.heap.size A2 (n - U) (bv (bs.drop U))) := by
      have h1 : Rd W.drew w.heap.size A n (bv bs) := (HR.out.more hB).below HI.out.below.drew
      have h2 := h1.cut Hle.out A2 (fun hk => HA2'.out ⟨hk, hc⟩)
      rw [bv, List.map_drop]; exact h2
    have Hn : Hid (n - U ≤ 140737488355328) := by show n - U ≤ 140737488355328; omega
    have hZ := HI.out.size
    have Hc : Hid (∀ w3 : World, Below W.drew.heap.size W.drew w3 → Boxed w3 w.heap.size 22 (.slice Av M cv) ∧ Boxed w3 (w.heap.size + 1) 26 (.slice none 0 0) ∧ Boxed w3 (w.heap.size + 1 + 1) 29 (.int .i64 0) ∧ Boxed w3 (w1.heap.size + 1) 3 (.int .i64 (U : Int))) := fun w3 h => by
      have h1 := HI.out.used
      rw [HU.out] at h1
      exact ⟨boxed_under (W := W.drew) Hv.out h, boxed_under (W := W.drew) HI.out.res3 h, boxed_under (W := W.drew) HI.out.res4 h, boxed_under (W := W.drew) h1 h⟩
    gi_wp2_with fail
    refine wpIn_wide.2 ?_
    go_region_held3 (fun X => X.cell? ⟨w.heap.size, 0, none⟩ = some (.slice Av M cv) ∧ X.cell? ⟨w1.heap.size + 1, 0, none⟩ = some (.int .i64 (U : Int))) (first | (with_reducible exact S7.out) | (with_reducible exact S6.out) | (with_reducible exact S5.out) | go_keep)
      (first | (go_at_call 43; refine (clone_any A2 (n - U) (c - U) (bs.drop U) w.heap.size _ HRd.out Hn.out).mono ?_; rintro e w3 ⟨A3, c3', rfl, hI3⟩; obtain ⟨g2, g3, g4, gu⟩ := Hc.out w3 hI3.2.1; have HI3 := Lib.hid hI3; have G2 := Lib.hid g2; have G3 := Lib.hid g3; have G4 := Lib.hid g4; have d2 := g2.cell; have e2 := g2.frozen; have d3 := g3.cell; have e3 := g3.frozen; have d4 := g4.cell; have e4 := g4.frozen; have du := gu.cell; have t5 := g2.set (.slice Av M cv); have u5 := gu.other (B' := w.heap.size) (by omega) (.slice Av M cv); have S5 := Lib.hid (And.intro t5.cell u5.cell); have t6 := t5.other (B' := w.heap.size + 1) (by omega) (.slice A3 (n - U) c3'); have u6 := u5.other (B' := w.heap.size + 1) (by omega) (.slice A3 (n - U) c3'); have S6 := Lib.hid (And.intro t6.cell u6.cell); have S7 := Lib.hid (And.intro (t6.other (B' := w.heap.size + 1 + 1) (by omega) (.int .i64 0)).cell (u6.other (B' := w.heap.size + 1 + 1) (by omega) (.int .i64 0)).cell); clear hI3 g2 g3 g4 gu t5 u5 t6 u6))
    gi_wp2_with fail
    obtain ⟨W1, hW1⟩ : ∃ W1, ((w3.setCell ⟨w.heap.size, 0, none⟩ (.slice Av M cv)).setCell ⟨w.heap.size + 1, 0, none⟩ (.slice A3 (n - U) c3')).setCell ⟨w.heap.size + 1 + 1, 0, none⟩ (.int .i64 0) = W1 := ⟨_, rfl⟩
    rw [hW1]
    have hb3 : Below W.heap.size W w3 := (Below.refl W.heap.size W).drew.trans HI3.out.2.1
    have hs3 := hb3.size
    have ho3 : w3.ownsRow W0.heap.size 3 1 (.slice Av M cv) M (iv (ints (vals (items N (bs.drop K))))) := Hown.out.kept (row := none) ⟨hb3.os, hb3.tape, hb3.output, hb3.size, fun i hi _ => hb3.block i hi⟩ (by
      rcases h : (Value.slice Av M cv).ownBlock with _ | b
      · exact .inl rfl
      · exact .inr (by simp))
    have hr3 : w3.ownsRow W.heap.size 5 1 (.slice A3 (n - U) c3') (n - U) (bv (bs.drop U)) := HI3.out.1
    have hK3 : w3.heap[D]? = some (.deferred (some [])) := HI3.out.2.2.1.same D _ HK.out rfl
    have far : ∀ b, b < W0.heap.size → (Value.slice Av M cv).ownBlock ≠ some b := fun b hb e => by have := (ho3.lt b e).1; omega
    have far2 : ∀ b, b < W0.heap.size → (Value.slice A3 (n - U) c3').ownBlock ≠ some b := fun b hb e => by have := (hr3.lt b e).1; omega
    have hK1 : W1.heap[D]? = some (.deferred (some [])) := by
      rw [← hW1]; exact (((KeepsOthers.setCell _ _ _).trans (KeepsOthers.setCell _ _ _)).trans (KeepsOthers.setCell _ _ _)).same D _ hK3 rfl
    have z2 : Boxed W1 w.heap.size 22 (.slice Av M cv) := by rw [← hW1]; exact ((G2.out.set _).other (by omega) _).other (by omega) _
    have z3 : Boxed W1 (w.heap.size + 1) 26 (.slice A3 (n - U) c3') := by rw [← hW1]; exact ((G3.out.other (by omega) _).set _).other (by omega) _
    have z4 : Boxed W1 (w.heap.size + 1 + 1) 29 (.int .i64 0) := by rw [← hW1]; exact ((G4.out.other (by omega) _).other (by omega) _).set _
    have zo : W1.ownsRow W0.heap.size 3 1 (.slice Av M cv) M (iv (ints (vals (items N (bs.drop K))))) := by
      rw [← hW1]; exact ownsRow_setCell_other (ownsRow_setCell_other (ownsRow_setCell_other ho3 (far _ (by show w.heap.size < _; omega)) _) (far _ (by show w.heap.size + 1 < _; omega)) _) (far _ (by show w.heap.size + 1 + 1 < _; omega)) _
    have zr : W1.ownsRow W.heap.size 5 1 (.slice A3 (n - U) c3') (n - U) (bv (bs.drop U)) := by
      rw [← hW1]; exact ownsRow_setCell_other (ownsRow_setCell_other (ownsRow_setCell_other hr3 (far2 _ (by show w.heap.size < _; omega)) _) (far2 _ (by show w.heap.size + 1 < _; omega)) _) (far2 _ (by show w.heap.size + 1 + 1 < _; omega)) _
    have zb : Below w.heap.size w W1 := by
      rw [← hW1]
      exact (((HI.out.below.trans (hb3.mono HI.out.below.size)).setCell (p := ⟨w.heap.size, 0, none⟩) (Nat.le_refl _) _).setCell (p := ⟨w.heap.size + 1, 0, none⟩) (by simp) _).setCell (p := ⟨w.heap.size + 1 + 1, 0, none⟩) (by simp; omega) _
    have hg' := grownBy_putObj' W1 D (.deferred none)
    have hr' : ∀ r, (some D) = some r → ∃ o : Obj, W1.heap[r]? = some o ∧ o.isCells = false := fun r e => by cases e; exact ⟨_, hK1, rfl⟩
    have q2 := (boxed_turn z2 hg' hr').cell
    have q3 := (boxed_turn z3 hg' hr').cell
    have q4 := (boxed_turn z4 hg' hr').cell
    have zb' : Below w.heap.size w (W1.putObj D (.deferred none)) := zb.trans ((Below.refl _ _).grown hg' zb.size (fun k e => by cases e; omega))
    refine ⟨by simp, .inl ⟨_, _, rfl, run_takeDeferred hK1, ?_⟩⟩
    refine ⟨.tuple #[.slice Av M cv, .slice A3 (n - U) c3', .int .i64 0], by simp [results, Try.results29, go_sem, q2, q3, q4], ?_⟩
    have hT := HT.out
    rw [HU.out] at hT
    have hbr : behindRow bs = bs.drop U := by unfold behindRow; rw [hT, if_pos rfl]
    have hM1 : (vals (items N (bs.drop K))).length = M := by rw [← HM.out]; simp [vals]
    have hL1 : (bs.drop U).length = n - U := by rw [List.length_drop, HL.out]
    unfold TRPost
    rw [hbr, hT]
    refine ⟨Av, cv, A3, c3', ?_, ?_, ?_, zb'⟩
    · rw [hM1, hL1]; rfl
    · simp only [hM1]; exact own_weaker (own_turn zo hg' hr') (by omega)
    · rw [hL1]; exact own_weaker (own_turn zr hg' hr') HI.out.below.size
  case stop =>
    rintro D k pre W hD hpre ⟨rfl, hO⟩ hK
    gi_wp2_with fail
    have hg' := grownBy_putObj' W D (.deferred none)
    have hr' : ∀ r, (some D) = some r → ∃ o : Obj, W.heap[r]? = some o ∧ o.isCells = false := fun r e => by cases e; exact ⟨_, hK, rfl⟩
    obtain ⟨p, x, h1, h2, h3, h4⟩ := hO.last
    have q2 := (boxed_turn hO.res2 hg' hr').cell
    have q3 := (boxed_turn hO.res3 hg' hr').cell
    have q4 := (boxed_turn h4 hg' hr').cell
    have hb' : Below w.heap.size w (W.putObj D (.deferred none)) := hO.below.trans ((Below.refl _ _).grown hg' hO.below.size (fun k e => by cases e; have := hInv.below.size; omega))
    refine ⟨by simp, .inl ⟨_, _, rfl, run_takeDeferred hK, ?_⟩⟩
    refine ⟨.tuple #[.slice none 0 0, .slice none 0 0, .int .i64 (x.1.2.2 : Int)], by simp [results, Try.results29, go_sem, q2, q3, q4], ?_⟩
    have hT := takeRow_bad HF.out hN (by rw [← h1]; exact hpre) h3
    have hbr : behindRow bs = [] := by unfold behindRow; rw [hT, if_neg h3]
    unfold TRPost
    rw [hbr, hT]
    exact rowIs_nil hb'

/-- TakeRow, whatever the bytes. -/
theorem takeRow_any (A : Option Addr) (n c : Nat) (bs : List Nat) (B : Nat) (w : World) (hr : Rd w B A n (bv bs)) (hB : B ≤ w.heap.size) (hb : ∀ x ∈ bs, x < 256) (hn : n ≤ 140737488355328) (hc : n ≤ c) :
    Calls Try.prog 29 #[.slice A n c] w (TRPost bs w) := by
  obtain ⟨N, K, E, hF⟩ : ∃ N K E, first bs = (N, K, E) := ⟨_, _, _, rfl⟩
  by_cases hE : E = 0
  · subst hE
    by_cases hN : N ≤ 40
    · exact takeRow_go A n c bs B w hr hB hb hn hc hF hN
    · have hT : takeRow bs = (0, [], 11) := by
        unfold takeRow; simp only [hF]
        rw [if_neg (by simp), if_pos (by omega)]
      have hbr : behindRow bs = [] := by unfold behindRow; rw [hT, if_neg (by simp)]
      unfold TRPost
      rw [hbr, hT]
      exact takeRow_big A n c bs B w hr hB hb (by unfold maxLen; omega) hF (by omega)
  · have hT : takeRow bs = (0, [], E) := by
      unfold takeRow; simp only [hF]
      rw [if_pos hE]
    have hbr : behindRow bs = [] := by unfold behindRow; rw [hT, if_neg hE]
    unfold TRPost
    rw [hbr, hT]
    exact takeRow_err1 A n c bs B w hr hB hb (by unfold maxLen; omega) hF hE

end Go.Proofs.Ytcgfakpolfopnaa
