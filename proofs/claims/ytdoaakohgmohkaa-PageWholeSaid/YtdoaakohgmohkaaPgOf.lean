/-
  The walk of 'Of' of package page. Conditions: those that each theorem names.
-/
import Derived.Test.YtdoaakohgmohkaaPgFirst
namespace Go.Proofs.Ytdoaakohgmohkaa
open Go.RowKit Go.Shelf

set_option maxRecDepth 100000 in
set_option maxHeartbeats 1000000 in
theorem of_any (A : Option Addr) (n c : Nat) (x : Cw) (b : Int) (w : World) (hr : RdX w w.heap.size A n x.l) (hn : n ≤ 1000) (h : right x = true) :
    Calls Try.prog 10 #[.agg #[.slice A n c, .int .i64 x.fl, .int .i64 x.dr, .int .i64 x.nw, .bool x.tg], .int .i64 b] w (PagePost (shown x.l) b w) := by
  have hB : Below w.heap.size w (w.alloc (.cells #[.slice A n c, .int .i64 x.fl, .int .i64 x.dr, .int .i64 x.nw, .bool x.tg] 24)) := (Below.refl _ w).alloc (Nat.le_refl _) _
  have hr1 := (hr.below hB).more hB.size
  have HB := Lib.hid hB
  have HR := Lib.hid hr1
  have HS := Lib.hid (shown_yes A n c x _ hr1 h)
  clear hr hB hr1 h
  go_enter Try.func10, Try.ntmps10
  go_wp2_with fail
  refine HS.out.mono ?_
  rintro e w2 ⟨g, rfl, hg, hC, hb2⟩
  have HF := Lib.hid (first_any g A n c x b w2 ((HR.out.below hb2).more hb2.size) hn hC)
  have HB2 := Lib.hid (HB.out.trans (hb2.mono HB.out.size))
  clear hC hb2 hg
  go_wp2_with fail
  refine HF.out.mono ?_
  rintro e w3 ⟨A3, c3, rfl, ho3, hb3⟩
  have HO := Lib.hid (own_weaker ho3 HB2.out.size)
  have HB3 := Lib.hid (HB2.out.trans (hb3.mono HB2.out.size))
  clear ho3 hb3 HF
  go_wp2_with fail
  exact bodyPost_ret (v := .tuple #[.slice A3 (pageOf (shown x.l) b).length c3, .bool (moreOf (shown x.l) b)]) (by simp [results, Try.results10, go_sem]) rfl ⟨A3, c3, rfl, HO.out, HB3.out⟩

end Go.Proofs.Ytdoaakohgmohkaa
