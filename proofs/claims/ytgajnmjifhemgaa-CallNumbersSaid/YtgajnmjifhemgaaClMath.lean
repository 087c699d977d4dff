/-
  Calls that are open, as plain data: what is opened, found, closed, late. Conditions: those that each theorem names.
-/
import Derived.ProofKit
namespace Go.Proofs.Ytgajnmjifhemgaa

/-- A call. -/
structure Cl where
  id : Int
  kind : Int
  key : Int
  sent : Int
  deriving DecidableEq
/-- Calls. -/
structure Cs where
  ep : Int
  nx : Int
  l : List Cl
  deriving DecidableEq

def numC (n : Int) : Prop := 0 ≤ n ∧ n ≤ 1099511627776
instance (n : Int) : Decidable (numC n) := by unfold numC; infer_instance
/-- A call that may be among calls of an epoch, below the next number; kinds: one more than the greatest kind. -/
structure OkC (kinds ep nx : Int) (x : Cl) : Prop where
  lo : 1 ≤ x.id - ep * 1048576
  hi : x.id - ep * 1048576 < nx
  kl : 1 ≤ x.kind
  kh : x.kind < kinds
  key : numC x.key
  sent : numC x.sent
/-- The former is opened ahead of the latter, for another. -/
def AheadC (x y : Cl) : Prop := x.id < y.id ∧ ¬ (x.kind = y.kind ∧ x.key = y.key)
/-- Calls that may be. -/
structure RightC (kinds : Int) (c : Cs) : Prop where
  el : 0 ≤ c.ep
  eh : c.ep ≤ 524288
  nl : 1 ≤ c.nx
  nh : c.nx ≤ 1048576
  ok : ∀ x ∈ c.l, OkC kinds c.ep c.nx x
  pw : c.l.Pairwise AheadC

def hasC (c : Cs) (kind key : Int) : Bool := c.l.any fun x => decide (x.kind = kind ∧ x.key = key)
def findC (c : Cs) (id : Int) : Option Cl := c.l.find? fun x => decide (x.id = id)
def closeC (c : Cs) (id : Int) : Cs := { c with l := c.l.filter fun x => decide (x.id ≠ id) }
def lateC (c : Cs) (now timeout : Int) : Cs := { c with l := c.l.filter fun x => decide (now < x.sent + timeout) }
/-- With a call of the next number. -/
def moreC (c : Cs) (kind key now : Int) : Cs := ⟨c.ep, c.nx + 1, c.l ++ [⟨c.ep * 1048576 + c.nx, kind, key, now⟩]⟩

section
variable {kinds : Int} {c : Cs}
set_option maxRecDepth 100000 in
theorem RightC.filter (h : RightC kinds c) (p : Cl → Bool) : RightC kinds { c with l := c.l.filter p } :=
  ⟨h.el, h.eh, h.nl, h.nh, fun x hx => h.ok x (List.mem_filter.1 hx).1, h.pw.filter p⟩
set_option maxRecDepth 100000 in
theorem RightC.close (h : RightC kinds c) (id : Int) : RightC kinds (closeC c id) := h.filter _
set_option maxRecDepth 100000 in
theorem RightC.late (h : RightC kinds c) (now timeout : Int) : RightC kinds (lateC c now timeout) := h.filter _
set_option maxRecDepth 100000 in
theorem RightC.more (h : RightC kinds c) {kind key now : Int} (h1 : c.nx < 1048576) (h2 : 1 ≤ kind) (h3 : kind < kinds) (h4 : numC key) (h5 : numC now) (h6 : hasC c kind key = false) : RightC kinds (moreC c kind key now) := by
  refine ⟨h.el, h.eh, by have := h.nl; simp only [moreC]; omega, by simp only [moreC]; omega, fun x hx => ?_, ?_⟩
  · simp only [moreC, List.mem_append, List.mem_singleton] at hx
    rcases hx with hx | rfl
    · have := h.ok x hx
      exact ⟨this.lo, by have := this.hi; simp only [moreC]; omega, this.kl, this.kh, this.key, this.sent⟩
    · exact ⟨by have := h.nl; simp only [moreC]; omega, by simp only [moreC]; omega, h2, h3, h4, h5⟩
  · simp only [moreC]
    rw [List.pairwise_append]
    refine ⟨h.pw, List.pairwise_singleton _ _, fun x hx y hy => ?_⟩
    simp only [List.mem_singleton] at hy
    subst hy
    refine ⟨by have := (h.ok x hx).hi; simp only; omega, fun e => ?_⟩
    simp only [hasC, List.any_eq_false, decide_eq_true_eq] at h6
    exact h6 x hx e
set_option maxRecDepth 100000 in
/-- Numbers are told once. -/
theorem RightC.id_inj (h : RightC kinds c) {x y : Cl} (hx : x ∈ c.l) (hy : y ∈ c.l) (e : x.id = y.id) : x = y := by
  have hp := h.pw
  generalize c.l = l at hx hy hp
  induction l with
  | nil => simp at hx
  | cons a l ih =>
    rw [List.pairwise_cons] at hp
    rcases List.mem_cons.1 hx with rfl | hx1
    · rcases List.mem_cons.1 hy with rfl | hy1
      · rfl
      · have := (hp.1 y hy1).1; omega
    · rcases List.mem_cons.1 hy with rfl | hy1
      · have := (hp.1 x hx1).1; omega
      · exact ih hx1 hy1 hp.2
set_option maxRecDepth 100000 in
theorem find_some {id : Int} {x : Cl} (h : findC c id = some x) : x ∈ c.l ∧ x.id = id := by
  refine ⟨List.mem_of_find?_eq_some h, ?_⟩
  have := List.find?_some h
  simpa using this
set_option maxRecDepth 100000 in
theorem find_close (c : Cs) (id : Int) : findC (closeC c id) id = none := by
  simp only [findC, closeC, List.find?_eq_none, List.mem_filter, decide_eq_true_eq]
  rintro x ⟨_, h⟩ e
  exact h e
set_option maxRecDepth 100000 in
/-- What is opened is found. -/
theorem find_more (h : RightC kinds c) (kind key now : Int) : findC (moreC c kind key now) (c.ep * 1048576 + c.nx) = some ⟨c.ep * 1048576 + c.nx, kind, key, now⟩ := by
  have hn : c.l.find? (fun x => decide (x.id = c.ep * 1048576 + c.nx)) = none := by
    simp only [List.find?_eq_none, decide_eq_true_eq]
    intro x hx e
    have := (h.ok x hx).hi
    omega
  simp only [findC, moreC, List.find?_append, hn]
  simp
set_option maxRecDepth 100000 in
/-- Late twice is late once. -/
theorem late_twice (c : Cs) (now timeout : Int) : lateC (lateC c now timeout) now timeout = lateC c now timeout := by
  simp only [lateC, List.filter_filter, Bool.and_self]
set_option maxRecDepth 100000 in
/-- What is closed is that call alone: the others stay, in order. -/
theorem close_at (h : RightC kinds c) {k : Nat} {x : Cl} (hx : c.l[k]? = some x) : (closeC c x.id).l = c.l.eraseIdx k := by
  have hp := h.pw
  simp only [closeC]
  generalize c.l = l at hx hp
  induction l generalizing k with
  | nil => simp at hx
  | cons a l ih =>
    rw [List.pairwise_cons] at hp
    cases k with
    | zero =>
      simp only [List.getElem?_cons_zero, Option.some.injEq] at hx
      subst hx
      rw [List.filter_cons_of_neg (by simp), List.eraseIdx_cons_zero, List.filter_eq_self]
      intro y hy
      have := (hp.1 y hy).1
      simp only [decide_eq_true_eq, ne_eq]
      omega
    | succ k =>
      rw [List.getElem?_cons_succ] at hx
      have := (hp.1 x (List.mem_of_getElem? hx)).1
      rw [List.filter_cons_of_pos (by simp only [decide_eq_true_eq, ne_eq]; omega), List.eraseIdx_cons_succ, ih hx hp.2]
set_option maxRecDepth 100000 in
/-- What is closed may be opened again. -/
theorem has_close (h : RightC kinds c) {x : Cl} (hx : x ∈ c.l) : hasC (closeC c x.id) x.kind x.key = false ∧ hasC c x.kind x.key = true := by
  refine ⟨?_, List.any_eq_true.2 ⟨x, hx, by simp⟩⟩
  simp only [hasC, closeC, List.any_eq_false, List.mem_filter, decide_eq_true_eq]
  rintro y ⟨hy, hne⟩ ⟨e1, e2⟩
  have hp := h.pw
  generalize c.l = l at hx hy hp
  induction l with
  | nil => simp at hx
  | cons a l ih =>
    rw [List.pairwise_cons] at hp
    rcases List.mem_cons.1 hx with rfl | hx1
    · rcases List.mem_cons.1 hy with rfl | hy1
      · exact hne rfl
      · exact (hp.1 y hy1).2 ⟨e1.symm, e2.symm⟩
    · rcases List.mem_cons.1 hy with rfl | hy1
      · exact (hp.1 x hx1).2 ⟨e1, e2⟩
      · exact ih hx1 hy1 hp.2
end

end Go.Proofs.Ytgajnmjifhemgaa
