/-
  What each deed of package cloud does, as plain data says. Conditions: those that each theorem names.
-/
import Derived.Test.YtdoaakohgmohkaaCdDeeds
namespace Go.Proofs.Ytdoaakohgmohkaa
open Go.RowKit Go.Shelf

/-- What is told of a box that is found, not late. -/
def tcode (x : Cw) (k : Int) (y : Bx) : Int :=
  if (k = 3 ∨ k = 5 ∨ k = 6) ∧ (cnt y = true ∧ (hN x.l : Int) - 1 < x.fl) then 3 else if k = 4 ∧ y.on = false then 2 else 1
set_option maxRecDepth 100000 in
theorem codeOf_eq (x : Cw) (q : Ak) (y : Bx) : codeOf x q y = if q.call < y.fen then 5 else tcode x q.kind y := rfl

set_option maxRecDepth 100000 in
theorem oneP_found {x : Cw} {q : Ak} {tc : Bx → Int} {ty : Bx → Bx} (h1 : ∀ y, tc y = tcode x q.kind y) (h2 : ∀ y, tcode x q.kind y = 1 → ty y = touched x.nw x.dr q.kind y) (h3 : ∀ y, tcode x q.kind y ≠ 1 → ty y = y) : foundP x q tc ty = oneP x q := by
  unfold foundP oneP
  cases hf : find x.l q.a with
  | none => rfl
  | some j =>
    simp only
    cases hx : x.l[j]? with
    | none => rfl
    | some y =>
      simp only [codeOf_eq, h1 y]
      by_cases hs : q.call < y.fen
      · simp [hs]
      · simp only [if_neg hs]
        by_cases ht : tcode x q.kind y = 1
        · simp only [if_pos ht, h2 y ht]
        · simp only [if_neg ht, h3 y ht, set_same hx]

set_option maxRecDepth 100000 in
theorem tcode_bar {x : Cw} {k : Int} {y : Bx} (hk : k = 3 ∨ k = 5 ∨ k = 6) : tcode x k y = if barred x y = true then 3 else 1 := by
  have h4 : ¬ (k = 4 ∧ y.on = false) := by rintro ⟨h, _⟩; omega
  unfold tcode
  rw [if_neg h4]
  by_cases hb : barred x y = true
  · rw [if_pos hb]
    simp only [barred, Bool.and_eq_true, decide_eq_true_eq] at hb
    rw [if_pos ⟨hk, hb⟩]
  · rw [if_neg hb]
    simp only [barred, Bool.and_eq_true, decide_eq_true_eq] at hb
    rw [if_neg (fun h => hb h.2)]

section
variable {W : World} {base Cb n c lo b1 b2 b3 b4 b5 b6 b7 b8 : Nat} {A : Option Addr} {x : Cw} {q : Ak}

set_option maxRecDepth 100000 in
theorem right_nums (hr : right x = true) : isNum x.dr = true ∧ isNum x.nw = true := by
  simp only [right, Bool.and_eq_true] at hr
  exact ⟨hr.1.2.1.2, hr.1.2.2⟩

end

end Go.Proofs.Ytdoaakohgmohkaa
