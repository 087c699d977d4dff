/-
  What walks over clouds share, but for what is asked of them: the document's own Own and Right, boxes in memory. Conditions: those that each theorem names.
-/
import Derived.Test.YtoiegffnmjlkdaaCdRefOwn
import Derived.Test.YtoiegffnmjlkdaaCdRRight
namespace Go.Proofs.Ytoiegffnmjlkdaa
open Go.RowKit Go.Shelf

section
variable {l l' L : List Bx} {fl dr nw : Int} {tg : Bool} {q : Ak} {n N : Nat}
set_option maxRecDepth 100000 in
theorem ownL (hn : n ≤ 1000) (W : World) (A : Option Addr) (c : Nat) (hr : RdX W W.heap.size A n l) :
    Calls Try.prog 18 #[.agg #[.slice A n c, .int .i64 fl, .int .i64 dr, .int .i64 nw, .bool tg]] W fun e w' =>
      ∃ A' c', e = .returned (.agg #[.slice A' n c', .int .i64 fl, .int .i64 dr, .int .i64 nw, .bool tg]) ∧ RdX w' w'.heap.size A' n l ∧ Below W.heap.size W w' := by
  refine (refOwn_any A n c ⟨l, fl, dr, nw, tg⟩ W.heap.size W hr (Nat.le_refl _) hn).mono ?_
  rintro e w' ⟨A', c', rfl, h2, h3⟩
  exact ⟨A', c', rfl, RdX.of_own h2, h3⟩
set_option maxRecDepth 100000 in
theorem rightL {b : Bool} (h : right ⟨l, fl, dr, nw, tg⟩ = b) (W : World) (A : Option Addr) (c : Nat) (hr : RdX W W.heap.size A n l) :
    Calls Try.prog 16 #[.agg #[.slice A n c, .int .i64 fl, .int .i64 dr, .int .i64 nw, .bool tg]] W (BoolPost b W) := h ▸ rright_any A n c ⟨l, fl, dr, nw, tg⟩ W.heap.size W hr (Nat.le_refl _)
set_option maxRecDepth 100000 in
theorem RdX.up {W W' : World} {A : Option Addr} (h : RdX W W.heap.size A n l) (hb : Below W.heap.size W W') : RdX W' W'.heap.size A n l := (h.below hb).more hb.size
set_option maxRecDepth 100000 in
theorem whole_one {W : World} {t : TypeId} {x : Array Value} : Whole (W.alloc (.cells x t)) W.heap.size t x ∧ Below W.heap.size W (W.alloc (.cells x t)) := ⟨Whole.new W _ _, (Below.refl _ W).alloc (Nat.le_refl _) _⟩
set_option maxRecDepth 100000 in
theorem whole_three {W : World} {t u v : TypeId} {x y z : Array Value} : Whole (((W.alloc (.cells x t)).alloc (.cells y u)).alloc (.cells z v)) W.heap.size t x ∧ Whole (((W.alloc (.cells x t)).alloc (.cells y u)).alloc (.cells z v)) (W.heap.size + 1) u y ∧ Whole (((W.alloc (.cells x t)).alloc (.cells y u)).alloc (.cells z v)) (W.heap.size + 1 + 1) v z ∧ Below W.heap.size W (((W.alloc (.cells x t)).alloc (.cells y u)).alloc (.cells z v)) := by
  refine ⟨((Whole.new W _ _).alloc _).alloc _, ?_, ?_, (((Below.refl _ W).alloc (Nat.le_refl _) _).alloc (by simp) _).alloc (by simp; omega) _⟩
  · have := (Whole.new (W.alloc (.cells x t)) u y).alloc (.cells z v); rwa [World.size_alloc] at this
  · have := Whole.new ((W.alloc (.cells x t)).alloc (.cells y u)) v z; rwa [World.size_alloc, World.size_alloc] at this
set_option maxRecDepth 100000 in
theorem Whole.ne_size {W : World} {a b : Nat} {t u : TypeId} {x y : Array Value} (h1 : Whole W a t x) (h2 : Whole W b u y) (h : x.size ≠ y.size) : a ≠ b := by
  rintro rfl
  unfold Whole at h1 h2
  have h3 := h1.symm.trans h2
  injection h3 with h3
  injection h3 with h3
  exact h (congrArg Array.size h3)
end

end Go.Proofs.Ytoiegffnmjlkdaa
