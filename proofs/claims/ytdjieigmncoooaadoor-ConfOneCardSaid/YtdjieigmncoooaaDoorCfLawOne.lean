/-
  The walk of the statement ConfOne: a group with one number that it may not have, marks that do not rise. Conditions: those that the theorem names.
-/
import Derived.Test.YtdjieigmncoooaaDoorCfLawOne1
import Derived.Test.YtdjieigmncoooaaDoorCfLawOne2
namespace Go.Proofs.YtdjieigmncoooaaDoor
open Go.RowKit Go.Shelf

theorem confOne_any (x : Cf) (n m : Int) (w : World) (h : Has x w) : Calls Tryd.prog 6 #[x.v, .int .i64 n, .int .i64 m] w (TruePost w) := by
  by_cases hx : x.n ≤ 60
  · cases hm : may x with
    | false => exact confOne_no x n m w h hx hm
    | true =>
      by_cases hn1 : 1 ≤ n
      · by_cases hn2 : n ≤ 1073741824
        · exact confOne_may x n m w h (by have := (may_marks hm).2; rw [h.lies.len] at this; exact this) hm hn1 hn2
        · exact confOne_high x n m w h hx hm hn1 hn2
      · exact confOne_low x n m w h hx hm hn1
  · exact confOne_more x n m w h hx

end Go.Proofs.YtdjieigmncoooaaDoor
