/-
  What walks over clouds share: the document's own Same, Find and H, as the walks meet them. Conditions: those that each theorem names.
-/
import Derived.Test.YtoiegffnmjlkdaaCdSame
import Derived.Test.YtoiegffnmjlkdaaCdRef
namespace Go.Proofs.Ytoiegffnmjlkdaa
open Go.RowKit Go.Shelf

section
variable {l l' L : List Bx} {fl dr nw : Int} {tg : Bool} {n N : Nat}
theorem sameCw_eq (h : l = l') : sameCw ⟨l, fl, dr, nw, tg⟩ ⟨l', fl, dr, nw, tg⟩ = true := by subst h; simp [sameCw]
theorem sameCw_ne (h : l ≠ l') : sameCw ⟨l, fl, dr, nw, tg⟩ ⟨l', fl, dr, nw, tg⟩ = false := by simp [sameCw, h]
theorem sameL {b : Bool} (h : sameCw ⟨l, fl, dr, nw, tg⟩ ⟨l', fl, dr, nw, tg⟩ = b) (hn : n ≤ 1000) (W : World) (A : Option Addr) (c : Nat) (A' : Option Addr) (c' : Nat) (hr : RdX W W.heap.size A n l) (hr' : RdX W W.heap.size A' N l') :
    Calls Try.prog 9 #[.agg #[.slice A n c, .int .i64 fl, .int .i64 dr, .int .i64 nw, .bool tg], .agg #[.slice A' N c', .int .i64 fl, .int .i64 dr, .int .i64 nw, .bool tg]] W (BoolPost b W) :=
  h ▸ refSame_any A A' n c N c' ⟨l, fl, dr, nw, tg⟩ ⟨l', fl, dr, nw, tg⟩ W.heap.size W.heap.size W hr hr' (Nat.le_refl _) (Nat.le_refl _) hn
theorem findL {r : Int} {id : Int} (h : placeI (find l id) = r) (hn : n ≤ 1000) (W : World) (A : Option Addr) (c : Nat) (hr : RdX W W.heap.size A n l) :
    Calls Try.prog 19 #[.agg #[.slice A n c, .int .i64 fl, .int .i64 dr, .int .i64 nw, .bool tg], .int .i64 id] W fun e w' => e = .returned (.int .i64 r) ∧ Below W.heap.size W w' :=
  h ▸ rfind_any A n c ⟨l, fl, dr, nw, tg⟩ id W.heap.size W hr (Nat.le_refl _) hn
theorem rhL {r : Int} (h : (hN l : Int) = r) (hn : n ≤ 1000) (W : World) (A : Option Addr) (c : Nat) (hr : RdX W W.heap.size A n l) :
    Calls Try.prog 17 #[.agg #[.slice A n c, .int .i64 fl, .int .i64 dr, .int .i64 nw, .bool tg]] W fun e w' => e = .returned (.int .i64 r) ∧ Below W.heap.size W w' :=
  h ▸ rh_any A n c ⟨l, fl, dr, nw, tg⟩ W.heap.size W hr (Nat.le_refl _) hn
/-- Any two clouds. -/
theorem sameL2 {fl' dr' nw' : Int} {tg' : Bool} {b : Bool} (h : sameCw ⟨l, fl, dr, nw, tg⟩ ⟨l', fl', dr', nw', tg'⟩ = b) (hn : n ≤ 1000) (W : World) (A : Option Addr) (c : Nat) (A' : Option Addr) (c' : Nat) (hr : RdX W W.heap.size A n l) (hr' : RdX W W.heap.size A' N l') :
    Calls Try.prog 9 #[.agg #[.slice A n c, .int .i64 fl, .int .i64 dr, .int .i64 nw, .bool tg], .agg #[.slice A' N c', .int .i64 fl', .int .i64 dr', .int .i64 nw', .bool tg']] W (BoolPost b W) :=
  h ▸ refSame_any A A' n c N c' ⟨l, fl, dr, nw, tg⟩ ⟨l', fl', dr', nw', tg'⟩ W.heap.size W.heap.size W hr hr' (Nat.le_refl _) (Nat.le_refl _) hn
theorem sameCw_refl {x : Cw} : sameCw x x = true := by simp [sameCw]
end

end Go.Proofs.Ytoiegffnmjlkdaa
