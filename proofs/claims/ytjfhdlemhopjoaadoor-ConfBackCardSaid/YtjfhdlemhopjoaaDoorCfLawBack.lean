/-
  The walk of the statement ConfBack: a row is told back as the group; a group is told of its own row only. Conditions: those that the theorem names.
-/
import Derived.Test.YtjfhdlemhopjoaaDoorCfLawBack1
import Derived.Test.YtjfhdlemhopjoaaDoorCfLawBack2
import Derived.Test.YtjfhdlemhopjoaaDoorCfLawBack3
import Derived.Test.YtjfhdlemhopjoaaDoorCfLawBack4
import Derived.Test.YtjfhdlemhopjoaaDoorCfLawBack5
import Derived.Test.YtjfhdlemhopjoaaDoorCfLawBack6
namespace Go.Proofs.YtjfhdlemhopjoaaDoor
open Go.RowKit Go.Shelf

theorem confBack_any (x : Cf) (A : Option Addr) (n c : Nat) (l : List Int) (w : World) (h : Has x w) (hr : Rd w w.heap.size A n (iv l)) (hc : n ≤ c) (hcm : c ≤ maxLen) : Calls Tryd.prog 4 #[x.v, .slice A n c] w (TruePost w) := by
  by_cases hx : x.n ≤ 60
  · by_cases hn : n ≤ 60
    · cases hm : may x with
      | true => cases hi : isRow l with
        | true => exact confBack_may_row x A n c l w h hr hc hcm hx hn hm hi
        | false => exact confBack_may_none x A n c l w h hr hc hcm hx hn hm hi
      | false => cases hi : isRow l with
        | true => exact confBack_no_row x A n c l w h hr hc hcm hx hn hm hi
        | false => exact confBack_no_none x A n c l w h hr hc hcm hx hn hm hi
    · exact confBack_more2 x A n c w h hx hn
  · exact confBack_more1 x A n c w h hx

end Go.Proofs.YtjfhdlemhopjoaaDoor
