/-
  What the walks of the statements over clouds share: the callees' contracts, the clouds' values written out. Conditions: those that each theorem names.
-/
import Derived.Test.YtdoaakohgmohkaaCdRefOwn
import Derived.Test.YtdoaakohgmohkaaCdRRight
import Derived.Test.YtdoaakohgmohkaaCdWakes
namespace Go.Proofs.Ytdoaakohgmohkaa
open Go.RowKit Go.Shelf

section
variable {l l' L : List Bx} {fl dr nw : Int} {tg : Bool} {q : Ak} {n N : Nat}
set_option maxRecDepth 100000 in
theorem ownL (hn : n ≤ 1000) (W : World) (A : Option Addr) (c : Nat) (hr : RdX W W.heap.size A n l) :
    Calls Try.prog 15 #[.agg #[.slice A n c, .int .i64 fl, .int .i64 dr, .int .i64 nw, .bool tg]] W fun e w' =>
      ∃ A' c', e = .returned (.agg #[.slice A' n c', .int .i64 fl, .int .i64 dr, .int .i64 nw, .bool tg]) ∧ RdX w' w'.heap.size A' n l ∧ Below W.heap.size W w' := by
  refine (refOwn_any A n c ⟨l, fl, dr, nw, tg⟩ W.heap.size W hr (Nat.le_refl _) hn).mono ?_
  rintro e w' ⟨A', c', rfl, h2, h3⟩
  exact ⟨A', c', rfl, RdX.of_own h2, h3⟩
set_option maxRecDepth 100000 in
theorem rightL {b : Bool} (h : right ⟨l, fl, dr, nw, tg⟩ = b) (W : World) (A : Option Addr) (c : Nat) (hr : RdX W W.heap.size A n l) :
    Calls Try.prog 8 #[.agg #[.slice A n c, .int .i64 fl, .int .i64 dr, .int .i64 nw, .bool tg]] W (BoolPost b W) := h ▸ rright_any A n c ⟨l, fl, dr, nw, tg⟩ W.heap.size W hr (Nat.le_refl _)
set_option maxRecDepth 100000 in
theorem sameCw_eq (h : l = l') : sameCw ⟨l, fl, dr, nw, tg⟩ ⟨l', fl, dr, nw, tg⟩ = true := by subst h; simp [sameCw]
set_option maxRecDepth 100000 in
theorem sameCw_ne (h : l ≠ l') : sameCw ⟨l, fl, dr, nw, tg⟩ ⟨l', fl, dr, nw, tg⟩ = false := by simp [sameCw, h]
set_option maxRecDepth 100000 in
theorem RdX.up {W W' : World} {A : Option Addr} (h : RdX W W.heap.size A n l) (hb : Below W.heap.size W W') : RdX W' W'.heap.size A n l := (h.below hb).more hb.size
set_option maxRecDepth 100000 in
theorem whole_one {W : World} {t : TypeId} {x : Array Value} : Whole (W.alloc (.cells x t)) W.heap.size t x ∧ Below W.heap.size W (W.alloc (.cells x t)) := ⟨Whole.new W _ _, (Below.refl _ W).alloc (Nat.le_refl _) _⟩
set_option maxRecDepth 100000 in
theorem whole_three {W : World} {t u v : TypeId} {x y z : Array Value} : Whole (((W.alloc (.cells x t)).alloc (.cells y u)).alloc (.cells z v)) W.heap.size t x ∧ Whole (((W.alloc (.cells x t)).alloc (.cells y u)).alloc (.cells z v)) (W.heap.size + 1) u y ∧ Whole (((W.alloc (.cells x t)).alloc (.cells y u)).alloc (.cells z v)) (W.heap.size + 1 + 1) v z ∧ Below W.heap.size W (((W.alloc (.cells x t)).alloc (.cells y u)).alloc (.cells z v)) := by
  refine ⟨((Whole.new W _ _).alloc _).alloc _, ?_, ?_, (((Below.refl _ W).alloc (Nat.le_refl _) _).alloc (by simp) _).alloc (by simp; omega) _⟩
  · have := (Whole.new (W.alloc (.cells x t)) u y).alloc (.cells z v); rwa [World.size_alloc] at this
  · have := Whole.new ((W.alloc (.cells x t)).alloc (.cells y u)) v z; rwa [World.size_alloc, World.size_alloc] at this
set_option maxRecDepth 100000 in
theorem Whole.ne_size {W : World} {a b : Nat} {t u : TypeId} {x y : Array Value} (h1 : Whole W a t x) (h2 : Whole W b u y) (h : x.size ≠ y.size) : a ≠ b := by
  rintro rfl
  unfold Whole at h1 h2
  have h3 := h1.symm.trans h2
  injection h3 with h3
  injection h3 with h3
  exact h (congrArg Array.size h3)
set_option maxRecDepth 100000 in
/-- What is written over a thing asked changes no row of boxes. -/
theorem RdX.ask {W : World} {B g : Nat} {A : Option Addr} (h : RdX W B A n l) (hA : Whole W g 46 #[.int .u8 q.kind, .int .i64 q.call, .int .i64 q.a, .int .i64 q.b, .int .i64 q.c, .int .i64 q.d]) (i : Nat) (v : Value) : RdX (W.setCell ⟨g, i, none⟩ v) B A n l := by
  refine ⟨h.1, fun hn => ?_⟩
  obtain ⟨b, off, e, hlt, hc⟩ := h.2 hn
  have hne : b ≠ g := by
    rintro rfl
    obtain ⟨y, hy⟩ : ∃ y, l[0]? = some y := ⟨_, List.getElem?_eq_getElem (by have := h.1; omega)⟩
    have c4 := (hc 0 y hy).c4
    rw [hA.cell] at c4
    generalize off + 0 * 11 + 4 = k at c4
    rcases (by omega : k = 0 ∨ k = 1 ∨ k = 2 ∨ k = 3 ∨ k = 4 ∨ k = 5 ∨ 6 ≤ k) with rfl | rfl | rfl | rfl | rfl | rfl | h6
    all_goals first | (rw [Array.getElem?_eq_none (by simpa using h6)] at c4; cases c4) | (simp at c4; done)
  exact ⟨b, off, e, hlt, fun j y hy => bxAt_of fun k hk => (World.cell?_of_block (Below.heap_setCell W ⟨g, i, none⟩ v b hne)).trans ((hc j y hy).all k hk)⟩
end

end Go.Proofs.Ytdoaakohgmohkaa
