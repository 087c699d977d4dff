/-
  Groups as they count: their thirteen numbers, whether one skips, their marks; which may be, floors, bounds, rows. Plain: no walk. Conditions: those that each theorem names.
-/
import Derived.Test.YtgjipbhhdiacmaaDoorMem
namespace Go.Proofs.YtgjipbhhdiacmaaDoor
open Go.RowKit Go.Shelf

/-- A group, as it lies: its numbers, Skip, and the slice of its marks with what is read there. -/
structure Cf where
  f0 : Int
  f1 : Int
  f2 : Int
  f3 : Int
  f4 : Int
  f5 : Int
  f6 : Int
  f7 : Int
  f8 : Int
  f9 : Int
  f10 : Int
  f11 : Int
  f12 : Int
  sk : Bool
  A : Option Addr
  n : Nat
  c : Nat
  ms : List Int

abbrev Cf.cells (x : Cf) : Array Value := #[.int .i64 x.f0, .int .i64 x.f1, .int .i64 x.f2, .int .i64 x.f3, .int .i64 x.f4, .int .i64 x.f5, .int .i64 x.f6, .int .i64 x.f7, .int .i64 x.f8, .int .i64 x.f9, .int .i64 x.f10, .int .i64 x.f11, .int .i64 x.f12, .bool x.sk, .slice x.A x.n x.c]
abbrev Cf.v (x : Cf) : Value := .agg #[.int .i64 x.f0, .int .i64 x.f1, .int .i64 x.f2, .int .i64 x.f3, .int .i64 x.f4, .int .i64 x.f5, .int .i64 x.f6, .int .i64 x.f7, .int .i64 x.f8, .int .i64 x.f9, .int .i64 x.f10, .int .i64 x.f11, .int .i64 x.f12, .bool x.sk, .slice x.A x.n x.c]
/-- Its numbers, in the row's order. -/
def Cf.fs (x : Cf) : List Int := [x.f0, x.f1, x.f2, x.f3, x.f4, x.f5, x.f6, x.f7, x.f8, x.f9, x.f10, x.f11, x.f12]
def Cf.at (x : Cf) (k : Nat) : Int := x.fs.getD k 0
/-- From where to where. -/
def loB (k : Nat) : Int := [0, 0, 0, 0, 0, 0, 0, 0, 1, 1, 1, 0, 1].getD k 0
def hiB (k : Nat) : Int := [6, 100, 3, 3, 20, 20, 20, 20, 20, 20, 20, 20, 1099511627776].getD k 0
def fitK (x : Cf) (k : Nat) : Bool := decide (loB k ≤ x.at k) && decide (x.at k ≤ hiB k)
def inB (x : Cf) : Bool := (List.range 13).all (fitK x)
def upB : Int → List Int → Bool
  | _, [] => true
  | last, m :: r => decide (last < m) && decide (m ≤ 100) && upB m r
def fl (x : Cf) : Int := (x.f0 * x.f1 + 99) / 100
def roomB (x : Cf) : Bool := decide (x.f0 = 0) || decide (1 ≤ x.f2 + x.f0 - fl x)
def marksB (l : List Int) : Bool := decide (l.length ≤ 4) && upB 0 l
/-- A group may be. -/
def may (x : Cf) : Bool := inB x && (marksB x.ms && roomB x)
def er (b : Bool) : Int := if b = true then 0 else 70
def floorOf (x : Cf) : Int := if may x = true then fl x else 0
def boundOf (x : Cf) : Int := if may x = true then x.f0 + x.f2 + x.f3 else 0
def skI (b : Bool) : Int := if b = true then 1 else 0
def rowOf (x : Cf) : List Int := x.fs ++ skI x.sk :: x.ms
def sameC (x y : Cf) : Bool := decide (x.fs = y.fs) && (decide (x.sk = y.sk) && decide (x.ms = y.ms))

set_option maxRecDepth 100000 in
theorem Cf.fs_len (x : Cf) : x.fs.length = 13 := rfl
set_option maxRecDepth 100000 in
theorem rowOf_len (x : Cf) : (rowOf x).length = 14 + x.ms.length := by simp [rowOf, Cf.fs]; omega

set_option maxRecDepth 100000 in
theorem inB_iff {x : Cf} : inB x = true ↔ ((0 ≤ x.f0 ∧ x.f0 ≤ 6) ∧ (0 ≤ x.f1 ∧ x.f1 ≤ 100) ∧ (0 ≤ x.f2 ∧ x.f2 ≤ 3) ∧ (0 ≤ x.f3 ∧ x.f3 ≤ 3)) ∧ ((0 ≤ x.f4 ∧ x.f4 ≤ 20) ∧ (0 ≤ x.f5 ∧ x.f5 ≤ 20) ∧ (0 ≤ x.f6 ∧ x.f6 ≤ 20) ∧ (0 ≤ x.f7 ∧ x.f7 ≤ 20)) ∧ ((1 ≤ x.f8 ∧ x.f8 ≤ 20) ∧ (1 ≤ x.f9 ∧ x.f9 ≤ 20) ∧ (1 ≤ x.f10 ∧ x.f10 ≤ 20) ∧ (0 ≤ x.f11 ∧ x.f11 ≤ 20) ∧ (1 ≤ x.f12 ∧ x.f12 ≤ 1099511627776)) := by
  have e : List.range 13 = [0, 1, 2, 3, 4, 5, 6, 7, 8, 9, 10, 11, 12] := rfl
  simp only [inB, e, List.all_cons, List.all_nil, Bool.and_true, Bool.and_eq_true, fitK, decide_eq_true_eq, Cf.at, Cf.fs, loB, hiB, List.getD_cons_zero, List.getD_cons_succ]
  constructor
  · rintro ⟨h0, h1, h2, h3, h4, h5, h6, h7, h8, h9, h10, h11, h12⟩
    exact ⟨⟨h0, h1, h2, h3⟩, ⟨h4, h5, h6, h7⟩, h8, h9, h10, h11, h12⟩
  · rintro ⟨⟨h0, h1, h2, h3⟩, ⟨h4, h5, h6, h7⟩, h8, h9, h10, h11, h12⟩
    exact ⟨h0, h1, h2, h3, h4, h5, h6, h7, h8, h9, h10, h11, h12⟩

set_option maxRecDepth 100000 in
theorem not_inB {x : Cf} {k : Nat} (hk : k < 13) (h : x.at k < loB k ∨ hiB k < x.at k) : may x = false := by
  have h1 : fitK x k = false := by
    rcases h with h | h
    · simp [fitK, show ¬ loB k ≤ x.at k by omega]
    · simp [fitK, show ¬ x.at k ≤ hiB k by omega]
  have h2 : inB x = false := by
    cases hv : inB x with
    | false => rfl
    | true =>
      have := List.all_eq_true.1 hv k (List.mem_range.2 hk)
      rw [h1] at this; cases this
  simp [may, h2]

set_option maxRecDepth 100000 in
/-- What all rounds have found. -/
theorem inB_all {x : Cf} (h : ∀ k, k < 13 → fitK x k = true) : inB x = true := List.all_eq_true.2 fun k hk => h k (List.mem_range.1 hk)

set_option maxRecDepth 100000 in
theorem fl_bd {x : Cf} (h : inB x = true) : 0 ≤ x.f0 * x.f1 ∧ x.f0 * x.f1 ≤ 600 ∧ 0 ≤ fl x ∧ fl x ≤ x.f0 := by
  obtain ⟨⟨⟨a0, a1⟩, ⟨b0, b1⟩, _⟩, _⟩ := inB_iff.1 h
  have h1 : 0 ≤ x.f0 * x.f1 := Int.mul_nonneg a0 b0
  have h2 : x.f0 * x.f1 ≤ x.f0 * 100 := Int.mul_le_mul_of_nonneg_left b1 a0
  unfold fl
  exact ⟨h1, by omega, by omega, by omega⟩

/-- A group told by a row. -/
def ofRow (l : List Int) (A : Option Addr) (n c : Nat) : Cf := ⟨l.getD 0 0, l.getD 1 0, l.getD 2 0, l.getD 3 0, l.getD 4 0, l.getD 5 0, l.getD 6 0, l.getD 7 0, l.getD 8 0, l.getD 9 0, l.getD 10 0, l.getD 11 0, l.getD 12 0, decide (l.getD 13 0 = 1), A, n, c, l.drop 14⟩
def cf0 : Cf := ⟨0, 0, 0, 0, 0, 0, 0, 0, 0, 0, 0, 0, 0, false, none, 0, 0, []⟩
set_option maxRecDepth 100000 in
theorem may_cf0 : may cf0 = false := rfl
/-- A row that may be a group's, by its shape. -/
def shapeB (l : List Int) : Bool := decide (14 ≤ l.length) && (decide (l.getD 13 0 = 0) || decide (l.getD 13 0 = 1))
/-- Of this row a group is told. -/
def isRow (l : List Int) : Bool := shapeB l && may (ofRow l none 0 0)

set_option maxRecDepth 100000 in
theorem may_row (l : List Int) (A A' : Option Addr) (n n' c c' : Nat) : may (ofRow l A n c) = may (ofRow l A' n' c') := rfl

set_option maxRecDepth 100000 in
theorem row_of {l : List Int} {A : Option Addr} {n c : Nat} (h : shapeB l = true) : rowOf (ofRow l A n c) = l := by
  simp only [shapeB, Bool.and_eq_true, decide_eq_true_eq, Bool.or_eq_true] at h
  obtain ⟨h1, h2⟩ := h
  match l, h1 with
  | a0 :: a1 :: a2 :: a3 :: a4 :: a5 :: a6 :: a7 :: a8 :: a9 :: a10 :: a11 :: a12 :: a13 :: r, _ =>
    simp only [List.getD_cons_zero, List.getD_cons_succ] at h2
    have e : skI (decide (a13 = 1)) = a13 := by rcases h2 with rfl | rfl <;> rfl
    simp [rowOf, ofRow, Cf.fs, e]

set_option maxRecDepth 100000 in
theorem of_row (x : Cf) (A : Option Addr) (n c : Nat) : ofRow (rowOf x) A n c = { x with A := A, n := n, c := c } ∧ shapeB (rowOf x) = true := by
  have e : decide (skI x.sk = 1) = x.sk := by cases x.sk <;> rfl
  constructor
  · simp [rowOf, ofRow, Cf.fs, e]
  · simp only [shapeB, Bool.and_eq_true, decide_eq_true_eq, rowOf_len, Bool.or_eq_true]
    refine ⟨by omega, ?_⟩
    simp only [rowOf, Cf.fs, List.cons_append, List.nil_append, List.getD_cons_zero, List.getD_cons_succ]
    cases x.sk <;> simp [skI]

set_option maxRecDepth 100000 in
theorem sameC_iff {x y : Cf} : sameC x y = true ↔ x.fs = y.fs ∧ x.sk = y.sk ∧ x.ms = y.ms := by simp [sameC]
set_option maxRecDepth 100000 in
theorem sameC_row {x y : Cf} : sameC x y = decide (rowOf x = rowOf y) := by
  have h : sameC x y = true ↔ rowOf x = rowOf y := by
    rw [sameC_iff]
    constructor
    · rintro ⟨h1, h2, h3⟩; rw [rowOf, rowOf, h1, h2, h3]
    · intro h
      have h1 := List.append_inj h (by rw [Cf.fs_len, Cf.fs_len])
      injection h1.2 with h2 h3
      refine ⟨h1.1, ?_, h3⟩
      cases hx : x.sk <;> cases hy : y.sk <;> simp [hx, hy, skI] at h2 ⊢
  cases hv : sameC x y with
  | true => simp [h.1 hv]
  | false =>
    have : ¬ rowOf x = rowOf y := fun e => by rw [h.2 e] at hv; cases hv
    simp [this]
set_option maxRecDepth 100000 in
theorem may_same {x y : Cf} (h : sameC x y = true) : may x = may y := by
  obtain ⟨h1, h2, h3⟩ := sameC_iff.1 h
  have ha : ∀ k, x.at k = y.at k := fun k => by unfold Cf.at; rw [h1]
  have e0 : x.f0 = y.f0 := ha 0
  have e1 : x.f1 = y.f1 := ha 1
  have e2 : x.f2 = y.f2 := ha 2
  have hf : fitK x = fitK y := by funext k; unfold fitK; rw [ha k]
  unfold may inB marksB roomB fl
  rw [hf, h3, e0, e1, e2]
set_option maxRecDepth 100000 in
theorem sameC_refl (x : Cf) : sameC x x = true := sameC_iff.2 ⟨rfl, rfl, rfl⟩

/-- Groups as they lie: the slice of marks reads as they are. -/
structure Lies (x : Cf) (w : World) (B : Nat) : Prop where
  rd : Rd w B x.A x.n (iv x.ms)
  cap : x.n ≤ x.c
  max : x.c ≤ maxLen
set_option maxRecDepth 100000 in
theorem Lies.below {x : Cf} {w w' : World} {B : Nat} (h : Lies x w B) (hb : Below B w w') : Lies x w' B := ⟨h.rd.below hb, h.cap, h.max⟩
set_option maxRecDepth 100000 in
theorem Lies.more {x : Cf} {w : World} {B B' : Nat} (h : Lies x w B) (hB : B ≤ B') : Lies x w B' := ⟨h.rd.more hB, h.cap, h.max⟩
set_option maxRecDepth 100000 in
theorem Lies.len {x : Cf} {w : World} {B : Nat} (h : Lies x w B) : x.ms.length = x.n := by have := h.rd.1; rwa [iv_length] at this
set_option maxRecDepth 100000 in
theorem Lies.on {x : Cf} {w w' : World} {B : Nat} (h : Lies x w B) (hB : B ≤ w.heap.size) (hb : Below w.heap.size w w') : Lies x w' B := h.below (hb.mono hB)
set_option maxRecDepth 100000 in
theorem lies_cf0 (w : World) (B : Nat) : Lies cf0 w B := ⟨Rd.nil_ _ _ _, Nat.le_refl _, Nat.zero_le _⟩

end Go.Proofs.YtgjipbhhdiacmaaDoor
