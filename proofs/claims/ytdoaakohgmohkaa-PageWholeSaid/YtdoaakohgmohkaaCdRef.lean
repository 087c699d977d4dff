/-
  The walks of the document's own number, box, Counted, H, Find and Own (layer 8). Conditions: those that each theorem names.
-/
import Derived.Test.YtdoaakohgmohkaaCdTouch
namespace Go.Proofs.Ytdoaakohgmohkaa
open Go.RowKit Go.Shelf

set_option maxRecDepth 100000 in
set_option maxHeartbeats 1000000 in
theorem rnumber_any (z : Int) (w : World) : Calls Try.prog 17 #[.int .i64 z] w fun e w' => e = .returned (.bool (isNum z)) ∧ w = w' := by
  by_cases h0 : 0 ≤ z
  · by_cases h1 : z ≤ 1099511627776
    · have HN := Lib.hid (isNum_yes h0 h1)
      rw [HN.out]
      go_enter Try.func17, Try.ntmps17
      go_wp2_with fail
      go_ret
      exact ⟨rfl, rfl⟩
    · have HN := Lib.hid (show isNum z = false by simp [isNum, h1])
      rw [HN.out]
      go_enter Try.func17, Try.ntmps17
      go_wp2_with fail
      go_ret
      exact ⟨rfl, rfl⟩
  · have HN := Lib.hid (show isNum z = false by simp [isNum, h0])
    rw [HN.out]
    go_enter Try.func17, Try.ntmps17
    go_wp2_with fail
    go_ret
    exact ⟨rfl, rfl⟩

/-- A cloud in its box, and nothing else turned. -/
structure In1 (w : World) (A : Option Addr) (n c : Nat) (x : Cw) (W : World) : Prop where
  box : Whole W w.heap.size 24 #[.slice A n c, .int .i64 x.fl, .int .i64 x.dr, .int .i64 x.nw, .bool x.tg]
  below : Below w.heap.size w W
set_option maxRecDepth 100000 in
theorem In1.new (w : World) (A : Option Addr) (n c : Nat) (x : Cw) : In1 w A n c x (w.alloc (.cells #[.slice A n c, .int .i64 x.fl, .int .i64 x.dr, .int .i64 x.nw, .bool x.tg] 24)) := ⟨Whole.new w _ _, (Below.refl _ w).alloc (Nat.le_refl _) _⟩
set_option maxRecDepth 100000 in
theorem In1.under {w W W' : World} {A : Option Addr} {n c : Nat} {x : Cw} (h : In1 w A n c x W) (hb : Below W.heap.size W W') : In1 w A n c x W' := ⟨h.box.under hb, h.below.trans (hb.mono h.below.size)⟩

set_option maxRecDepth 100000 in
theorem hN_takeR {l : List Bx} {k : Nat} {x : Bx} (hx : l[k]? = some x) : hN (l.take (k + 1)) = hN (l.take k) + if cnt x then 1 else 0 := by
  have hk : k < l.length := (List.getElem?_eq_some_iff.1 hx).1
  rw [List.take_succ_eq_append_getElem hk, hN_snoc]
  rw [List.getElem?_eq_getElem hk] at hx
  rw [Option.some.inj hx]

end Go.Proofs.Ytdoaakohgmohkaa
