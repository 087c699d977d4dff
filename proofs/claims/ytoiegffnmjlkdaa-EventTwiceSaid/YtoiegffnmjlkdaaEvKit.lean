/-
  What the walks of the statements over events share: Do, All and Falls as the walks meet them. Conditions: those that each theorem names.
-/
import Derived.Test.YtoiegffnmjlkdaaEvAll
namespace Go.Proofs.Ytoiegffnmjlkdaa
open Go.RowKit Go.Shelf

section
variable {l L : List Bx} {fl dr nw fl' dr' nw' k a b : Int} {tg tg' : Bool} {n N m : Nat} {es : List Ev}
theorem evDoL (h : evC ⟨l, fl, dr, nw, tg⟩ ⟨k, a, b⟩ = ⟨L, fl', dr', nw', tg'⟩) (hN : L.length = N) (hk : (Lit.int .u8 k).wf = true) (hn : n ≤ 1000) (W : World) (A : Option Addr) (c : Nat) (hr : RdX W W.heap.size A n l) :
    Calls Try.prog 10 #[.agg #[.slice A n c, .int .i64 fl, .int .i64 dr, .int .i64 nw, .bool tg], .agg #[.int .u8 k, .int .i64 a, .int .i64 b]] W fun e w' =>
      ∃ A' c', e = .returned (.agg #[.slice A' N c', .int .i64 fl', .int .i64 dr', .int .i64 nw', .bool tg']) ∧ RdX w' w'.heap.size A' N L ∧ Below W.heap.size W w' := by
  have hd := do_any (x := ⟨l, fl, dr, nw, tg⟩) (e := ⟨k, a, b⟩) (w := W) (A := A) (n := n) (c := c) hr hn hk
  rw [h] at hd
  refine hd.mono ?_
  rintro e w' ⟨A', m, c', rfl, h2, h3⟩
  have h4 := RdX.of_own h2
  obtain rfl : m = N := by rw [← hN]; exact h4.len.symm
  exact ⟨A', c', rfl, h4, h3⟩
theorem evAllL (h : evsC ⟨l, fl, dr, nw, tg⟩ es = ⟨L, fl', dr', nw', tg'⟩) (hN : L.length = N) (hk : ∀ e ∈ es, (Lit.int .u8 e.kind).wf = true) (hn : n ≤ 1000) (hm : m ≤ 1000) (W : World) (A : Option Addr) (c : Nat) (B : Option Addr) (cl : Nat) (hr : RdX W W.heap.size A n l) (hl : RdE W W.heap.size B m es) :
    Calls Try.prog 12 #[.agg #[.slice A n c, .int .i64 fl, .int .i64 dr, .int .i64 nw, .bool tg], .slice B m cl] W fun e w' =>
      ∃ A' c', e = .returned (.agg #[.slice A' N c', .int .i64 fl', .int .i64 dr', .int .i64 nw', .bool tg']) ∧ RdX w' w'.heap.size A' N L ∧ Below W.heap.size W w' := by
  have hd := all_any (x := ⟨l, fl, dr, nw, tg⟩) (w := W) (A := A) (n := n) (c := c) (cl := cl) hr hn hl hm hk
  rw [h] at hd
  refine hd.mono ?_
  rintro e w' ⟨A', m, c', rfl, h2, h3⟩
  have h4 := RdX.of_own h2
  obtain rfl : m = N := by rw [← hN]; exact h4.len.symm
  exact ⟨A', c', rfl, h4, h3⟩
theorem fallsL {f : Bool} (h : fallsB ⟨k, a, b⟩ = f) (W : World) : Calls Try.prog 14 #[.agg #[.int .u8 k, .int .i64 a, .int .i64 b]] W (BoolPost f W) := h ▸ falls_any ⟨k, a, b⟩ W
end

end Go.Proofs.Ytoiegffnmjlkdaa
