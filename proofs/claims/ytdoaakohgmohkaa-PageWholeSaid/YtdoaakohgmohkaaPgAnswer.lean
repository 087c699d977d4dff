/-
  The walk of 'Answer' of package page, where a page is asked for. Conditions: those that each theorem names.
-/
import Derived.Test.YtdoaakohgmohkaaPgOf
namespace Go.Proofs.Ytdoaakohgmohkaa
open Go.RowKit Go.Shelf

/-- What is told: the page, of one's own, and whether there is more. -/
def AnswerPost (S : List Sn) (call a : Int) (w : World) (e : Ending) (w' : World) : Prop :=
  ∃ A c, e = .returned (.agg #[.int .i64 call, .int .u8 7, .int .u8 1, .int .i64 a, .slice A (pageOf S a).length c, .bool (moreOf S a)]) ∧ w'.ownsRow w.heap.size 35 7 (.slice A (pageOf S a).length c) (pageOf S a).length (flatN (pageOf S a)) ∧ Below w.heap.size w w'

set_option maxRecDepth 100000 in
set_option maxHeartbeats 2000000 in
theorem answer_any (A : Option Addr) (n c : Nat) (x : Cw) (call a q1 q2 q3 : Int) (w : World) (hr : RdX w w.heap.size A n x.l) (hn : n ≤ 1000) (h : right x = true) :
    Calls Try.prog 16 #[.agg #[.slice A n c, .int .i64 x.fl, .int .i64 x.dr, .int .i64 x.nw, .bool x.tg], .agg #[.int .u8 7, .int .i64 call, .int .i64 a, .int .i64 q1, .int .i64 q2, .int .i64 q3]] w (AnswerPost (shown x.l) call a w) := by
  have HH := Lib.hid (fun (W : World) (hb : Below w.heap.size w W) => of_any A n c x a W ((hr.below hb).more hb.size) hn h)
  clear hr h
  go_enter Try.func16, Try.ntmps16
  go_wp2_with fail
  obtain ⟨W4, hW4⟩ : ∃ W4, (((w.alloc (.cells #[.slice A n c, .int .i64 x.fl, .int .i64 x.dr, .int .i64 x.nw, .bool x.tg] 24)).alloc (.cells #[.int .u8 7, .int .i64 call, .int .i64 a, .int .i64 q1, .int .i64 q2, .int .i64 q3] 46)).alloc (.cells #[.int .i64 0, .int .u8 0, .int .u8 0, .int .i64 0, .slice none 0 0, .bool false] 43)).alloc (.cells #[.int .i64 call, .int .u8 7, .int .u8 1, .int .i64 a, .slice none 0 0, .bool false] 43) = W4 := ⟨_, rfl⟩
  have hb4 : Below w.heap.size w W4 := by rw [← hW4]; exact ((((Below.refl _ w).alloc (Nat.le_refl _) _).alloc (by simp) _).alloc (by simp; omega) _).alloc (by simp; omega) _
  have hs4 : W4.heap.size = w.heap.size + 1 + 1 + 1 + 1 := by rw [← hW4]; simp
  have hT : Whole W4 (w.heap.size + 1 + 1 + 1) 43 #[.int .i64 call, .int .u8 7, .int .u8 1, .int .i64 a, .slice none 0 0, .bool false] := by
    rw [← hW4]
    have := Whole.new (((w.alloc (.cells #[.slice A n c, .int .i64 x.fl, .int .i64 x.dr, .int .i64 x.nw, .bool x.tg] 24)).alloc (.cells #[.int .u8 7, .int .i64 call, .int .i64 a, .int .i64 q1, .int .i64 q2, .int .i64 q3] 46)).alloc (.cells #[.int .i64 0, .int .u8 0, .int .u8 0, .int .i64 0, .slice none 0 0, .bool false] 43)) 43 #[.int .i64 call, .int .u8 7, .int .u8 1, .int .i64 a, .slice none 0 0, .bool false]
    rw [World.size_alloc, World.size_alloc, World.size_alloc] at this; exact this
  have hZ : Whole W4 (w.heap.size + 1 + 1) 43 #[.int .i64 0, .int .u8 0, .int .u8 0, .int .i64 0, .slice none 0 0, .bool false] := by
    rw [← hW4]
    have := (Whole.new ((w.alloc (.cells #[.slice A n c, .int .i64 x.fl, .int .i64 x.dr, .int .i64 x.nw, .bool x.tg] 24)).alloc (.cells #[.int .u8 7, .int .i64 call, .int .i64 a, .int .i64 q1, .int .i64 q2, .int .i64 q3] 46)) 43 #[.int .i64 0, .int .u8 0, .int .u8 0, .int .i64 0, .slice none 0 0, .bool false]).alloc (.cells #[.int .i64 call, .int .u8 7, .int .u8 1, .int .i64 a, .slice none 0 0, .bool false] 43)
    rw [World.size_alloc, World.size_alloc] at this; exact this
  rw [hW4]
  have HT := Lib.hid hT
  have HZ := Lib.hid hZ
  have HB := Lib.hid hb4
  have HS := Lib.hid hs4
  clear hT hZ hs4 hW4
  refine (HH.out W4 hb4).mono ?_
  rintro e w5 ⟨A5, c5, rfl, ho5, hb5⟩
  clear hb4 HH
  obtain ⟨k, hk⟩ : ∃ k, (pageOf (shown x.l) a).length = k := ⟨_, rfl⟩
  obtain ⟨M, hM⟩ : ∃ M, moreOf (shown x.l) a = M := ⟨_, rfl⟩
  rw [hk] at ho5
  rw [hk, hM]
  have HKk := Lib.hid hk
  have HM := Lib.hid hM
  have HT5 := Lib.hid (HT.out.under hb5)
  have HZ5 := Lib.hid (HZ.out.under hb5)
  have HO := Lib.hid ho5
  have HB5 := Lib.hid (HB.out.trans (hb5.mono HB.out.size))
  have t0 := HT5.out.cell 0
  have t1 := HT5.out.cell 1
  have t2 := HT5.out.cell 2
  have t3 := HT5.out.cell 3
  have t4 := HT5.out.cell 4
  have t5 := HT5.out.cell 5
  have f4 := HT5.out.frozen 4
  have f5 := HT5.out.frozen 5
  have z0 := HZ5.out.cell 0
  have z1 := HZ5.out.cell 1
  have z2 := HZ5.out.cell 2
  have z3 := HZ5.out.cell 3
  have z4 := HZ5.out.cell 4
  have z5 := HZ5.out.cell 5
  have y0 := HZ5.out.frozen 0
  have y1 := HZ5.out.frozen 1
  have y2 := HZ5.out.frozen 2
  have y3 := HZ5.out.frozen 3
  have y4 := HZ5.out.frozen 4
  have y5 := HZ5.out.frozen 5
  simp only [List.getElem?_toArray, List.getElem?_cons_zero, List.getElem?_cons_succ] at t0 t1 t2 t3 t4 t5 z0 z1 z2 z3 z4 z5
  clear ho5 hb5 hk hM HT HZ HB
  go_wp2_with fail
  have u := ((((((((HZ5.out.far (p := ⟨w.heap.size + 1 + 1 + 1, 4, none⟩) (by simp) (.slice A5 k c5)).far (p := ⟨w.heap.size + 1 + 1 + 1, 5, none⟩) (by simp) (.bool M)).set 0 (.int .i64 call)).set 1 (.int .u8 7)).set 2 (.int .u8 1)).set 3 (.int .i64 a)).set 4 (.slice A5 k c5)).set 5 (.bool M))
  have v := (own_set (own_set (own_set (own_set (own_set (own_set (own_set (own_set HO.out (b := w.heap.size + 1 + 1 + 1) (off := 4) (by have := HS.out; omega) (.slice A5 k c5)) (b := w.heap.size + 1 + 1 + 1) (off := 5) (by have := HS.out; omega) (.bool M)) (b := w.heap.size + 1 + 1) (off := 0) (by have := HS.out; omega) (.int .i64 call)) (b := w.heap.size + 1 + 1) (off := 1) (by have := HS.out; omega) (.int .u8 7)) (b := w.heap.size + 1 + 1) (off := 2) (by have := HS.out; omega) (.int .u8 1)) (b := w.heap.size + 1 + 1) (off := 3) (by have := HS.out; omega) (.int .i64 a)) (b := w.heap.size + 1 + 1) (off := 4) (by have := HS.out; omega) (.slice A5 k c5)) (b := w.heap.size + 1 + 1) (off := 5) (by have := HS.out; omega) (.bool M))
  have z := ((((((((HB5.out.setCell (p := ⟨w.heap.size + 1 + 1 + 1, 4, none⟩) (by simp; omega) (.slice A5 k c5)).setCell (p := ⟨w.heap.size + 1 + 1 + 1, 5, none⟩) (by simp; omega) (.bool M)).setCell (p := ⟨w.heap.size + 1 + 1, 0, none⟩) (by simp; omega) (.int .i64 call)).setCell (p := ⟨w.heap.size + 1 + 1, 1, none⟩) (by simp; omega) (.int .u8 7)).setCell (p := ⟨w.heap.size + 1 + 1, 2, none⟩) (by simp; omega) (.int .u8 1)).setCell (p := ⟨w.heap.size + 1 + 1, 3, none⟩) (by simp; omega) (.int .i64 a)).setCell (p := ⟨w.heap.size + 1 + 1, 4, none⟩) (by simp; omega) (.slice A5 k c5)).setCell (p := ⟨w.heap.size + 1 + 1, 5, none⟩) (by simp; omega) (.bool M))
  clear z0 z1 z2 z3 z4 z5 t0 t1 t2 t3 t4 t5 f4 f5 y0 y1 y2 y3 y4 y5
  generalize ((((((((w5.setCell ⟨w.heap.size + 1 + 1 + 1, 4, none⟩ (.slice A5 k c5)).setCell ⟨w.heap.size + 1 + 1 + 1, 5, none⟩ (.bool M)).setCell ⟨w.heap.size + 1 + 1, 0, none⟩ (.int .i64 call)).setCell ⟨w.heap.size + 1 + 1, 1, none⟩ (.int .u8 7)).setCell ⟨w.heap.size + 1 + 1, 2, none⟩ (.int .u8 1)).setCell ⟨w.heap.size + 1 + 1, 3, none⟩ (.int .i64 a)).setCell ⟨w.heap.size + 1 + 1, 4, none⟩ (.slice A5 k c5)).setCell ⟨w.heap.size + 1 + 1, 5, none⟩ (.bool M)) = W6 at *
  have q0 := u.cell 0
  have q1 := u.cell 1
  have q2 := u.cell 2
  have q3 := u.cell 3
  have q4 := u.cell 4
  have q5 := u.cell 5
  simp at q0 q1 q2 q3 q4 q5
  exact bodyPost_ret (v := .agg #[.int .i64 call, .int .u8 7, .int .u8 1, .int .i64 a, .slice A5 k c5, .bool M]) (by simp [results, Try.results16, go_sem, q0, q1, q2, q3, q4, q5]) rfl ⟨A5, c5, by rw [HKk.out, HM.out], by rw [HKk.out]; exact own_weaker (base' := W4.heap.size) v (by have := HS.out; omega), z⟩

end Go.Proofs.Ytdoaakohgmohkaa
