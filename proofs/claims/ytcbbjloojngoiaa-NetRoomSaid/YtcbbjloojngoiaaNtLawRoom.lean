/-
  The walk of the statement NetRoom: there is room for so many and no more. Conditions: those that each theorem names.
-/
import Derived.Test.YtcbbjloojngoiaaNtLawRoom1
import Derived.Test.YtcbbjloojngoiaaNtLawRoom2
import Derived.Test.YtcbbjloojngoiaaNtLawRoom3
import Derived.Test.YtcbbjloojngoiaaNtLawRoom4
import Derived.Deep.DeepCutAuto
import Derived.BigQuiet
namespace Go.Proofs.Ytcbbjloojngoiaa
open Go.RowKit Go.Shelf

set_option maxRecDepth 100000 in
set_option maxHeartbeats 8000000 in
theorem netRoom_any (A : Option Addr) (n c : Nat) (A' : Option Addr) (n' c' : Nat) (s : Nt) (q : Ak) (z : Int) (tells : Bool) (w : World) (hr : NtIn w A n A' n' s) :
    Calls Try.prog 5 #[.agg #[.slice A n c, .slice A' n' c'], .agg #[.int .u8 q.kind, .int .i64 q.call, .int .i64 q.a, .int .i64 q.b, .int .i64 q.c, .int .i64 q.d], .int .i64 z, .bool tells] w (TruePost w) := by
  cases hg : greatN s with
  | true => exact room_great A n c A' n' c' s q z w hr tells hg
  | false =>
    cases tells with
    | false =>
      rcases Nat.eq_zero_or_pos n with h0 | h0
      · exact room_more_k_empty A n c A' n' c' s q z w hr hg (by omega) h0
      · rcases Nat.lt_or_ge n 60 with h1 | h1
        · exact room_more_k_mid A n c A' n' c' s q z w hr hg h1 h0 h1
        · exact room_full_k_full A n c A' n' c' s q z w hr hg h1 h1
    | true =>
      rcases Nat.lt_or_ge n 60 with h1 | h1
      · rcases Nat.eq_zero_or_pos n' with h2 | h2
        · exact room_more_t_empty A n c A' n' c' s q z w hr hg h1 h2
        · rcases Nat.lt_or_ge n' 60 with h3 | h3
          · exact room_more_t_mid A n c A' n' c' s q z w hr hg h1 h2 h3
          · exact room_more_t_full A n c A' n' c' s q z w hr hg h1 h3
      · rcases Nat.eq_zero_or_pos n' with h2 | h2
        · exact room_full_t_empty A n c A' n' c' s q z w hr hg h1 h2
        · rcases Nat.lt_or_ge n' 60 with h3 | h3
          · exact room_full_t_mid A n c A' n' c' s q z w hr hg h1 h2 h3
          · exact room_full_t_full A n c A' n' c' s q z w hr hg h1 h3

end Go.Proofs.Ytcbbjloojngoiaa
