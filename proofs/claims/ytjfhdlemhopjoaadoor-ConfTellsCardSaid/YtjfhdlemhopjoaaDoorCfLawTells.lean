/-
  The walk of the statement ConfTells: the answers of package conf are those of the document's own. Conditions: those that the theorem names.
-/
import Derived.Test.YtjfhdlemhopjoaaDoorCfLawTells1
import Derived.Test.YtjfhdlemhopjoaaDoorCfLawTells2
namespace Go.Proofs.YtjfhdlemhopjoaaDoor
open Go.RowKit Go.Shelf

theorem confTells_any (x y : Cf) (A : Option Addr) (n c : Nat) (l : List Int) (w : World) (h : Has x w) (h2 : Lies y w w.heap.size) (hr : Rd w w.heap.size A n (iv l)) (hc : n ≤ c) (hcm : c ≤ maxLen) : Calls Tryd.prog 3 #[x.v, y.v, .slice A n c] w (TruePost w) := by
  by_cases hx : x.n ≤ 60
  · by_cases hy : y.n ≤ 60
    · by_cases hn : n ≤ 60
      · exact confTells_less x y A n c l w h h2 hr hc hcm hx hy hn
      · exact confTells_more3 x y A n c w h h2 hx hy hn
    · exact confTells_more2 x y A n c w h h2 hx hy
  · exact confTells_more1 x y A n c w h h2 hx

end Go.Proofs.YtjfhdlemhopjoaaDoor
