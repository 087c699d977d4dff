/-
  What is behind a number: pieces of what 'Take', 'TakeRow' and the iterators need. Conditions: those that each theorem names.
-/
import Derived.Test.YtocleikdabclkaaNumFirst
import Derived.Test.YtocleikdabclkaaNumClone
import Derived.Deep.RegionHeld3
namespace Go.Proofs.Ytocleikdabclkaa
open Go.RowKit Go.Shelf

theorem first_eq (A : Option Addr) (n c : Nat) (bs : List Nat) (B : Nat) (w : World) (hr : Rd w B A n (bv bs)) (hB : B ≤ w.heap.size) (hb : ∀ x ∈ bs, x < 256) (hn : n ≤ maxLen) {N K E : Nat} (h : first bs = (N, K, E)) :
    Calls Try.prog 38 #[.slice A n c] w fun e w' => e = .returned (.agg #[.int .i64 (N : Int), .int .i64 (K : Int), .int .i64 (E : Int)]) ∧ Below w.heap.size w w' ∧ KeepsOthers w w' :=
  (first_any A n c bs w (hr.more hB) hb hn).mono fun _ _ ⟨he, h1, h2⟩ => ⟨by rw [he, takenV, h], h1, h2⟩

/-- What is behind the number. -/
def behind (bs : List Nat) : List Nat := if (first bs).2.2 = 0 then bs.drop (first bs).2.1 else []

/-- What a callee has made, said of the caller's start. -/
theorem AddInv.after {base base' j : Nat} {ys : List Value} {w w1 w2 : World} {v : Value} (h : AddInv base' j ys w1 v w2) (hb : Below base w w1) (hk : KeepsOthers w w1) (hbb : base ≤ base') : AddInv base j ys w v w2 :=
  ⟨own_weaker h.1 hbb, hb.trans (h.2.1.mono hbb), hk.trans h.2.2.1, by have := h.2.2.2; omega⟩

theorem nil_inv {w w' : World} (hb : Below w.heap.size w w') (hk : KeepsOthers w w') : AddInv w.heap.size 0 [] w (.slice none 0 0) w' :=
  ⟨World.ownsRow_nil _ _ _ _, hb, hk, hb.size⟩

end Go.Proofs.Ytocleikdabclkaa
