/-
  The walk of the statements' 'wakes' of records: it answers true, and nothing that was there turns. Conditions: none.
-/
import Derived.Test.YtcgfakpolfopnaaRecTake
import Derived.Test.YtcgfakpolfopnaaRecName
import Derived.Test.YtcgfakpolfopnaaRecSame
import Derived.Test.YtcgfakpolfopnaaRecAll
namespace Go.Proofs.Ytcgfakpolfopnaa
open Go.RowKit Go.Shelf

theorem recB_boot : recB 1 [] = [1, 1] := by
  have e1 : put 1 = [1] := put_small (by omega)
  simp [recB, row, nats, puts, e1]
theorem put_boot (w : World) : Calls Try.prog 11 #[.agg #[.int .u8 1, .slice none 0 0]] w (TwoPost w.heap.size 2 (bv [1, 1]) w) := by
  have h := putRec_yes 1 none 0 0 [] 0 w (Rd.nil_ _ _ _) (Nat.zero_le _) (by decide)
  rw [recB_boot] at h
  exact h
theorem put_gone (w : World) : Calls Try.prog 11 #[.agg #[.int .u8 7, .slice none 0 0]] w fun e w' => e = .returned (.tuple #[.slice none 0 0, .int .i64 2]) ∧ Below w.heap.size w w' :=
  putRec_no 7 (by omega) none 0 0 [] 0 w (Rd.nil_ _ _ _) (Nat.zero_le _) (by decide)
theorem taken_made : takenRec [4, 4, 9, 2, 0] = some (4, [9, 2, 0]) := by decide
theorem taken_none : takenRec [1, 0] = none := by decide
theorem take_made (c : Nat) (hc : 5 ≤ c) (A : Option Addr) (B : Nat) (w : World) (hr : Rd w B A 5 (bv [4, 4, 9, 2, 0])) (hB : B ≤ w.heap.size) : Calls Try.prog 13 #[.slice A 5 c] w (YesRec 4 [9, 2, 0] w) :=
  takeRec_is A 5 c [4, 4, 9, 2, 0] B w hr hB (by decide) (by omega) hc taken_made
theorem take_none (c : Nat) (hc : 2 ≤ c) (A : Option Addr) (B : Nat) (w : World) (hr : Rd w B A 2 (bv [1, 0])) (hB : B ≤ w.heap.size) : Calls Try.prog 13 #[.slice A 2 c] w (NoRec w) :=
  takeRec_is A 2 c [1, 0] B w hr hB (by decide) (by omega) hc taken_none
theorem name_go (w : World) : Calls Try.prog 18 #[.int .u8 15] w fun e w' => e = .returned (.string ⟨#[103, 111]⟩) ∧ Below w.heap.size w w' := name_any 15 (by omega) w
theorem name_none (w : World) : Calls Try.prog 18 #[.int .u8 0] w fun e w' => e = .returned (.string ⟨#[]⟩) ∧ Below w.heap.size w w' := name_any 0 (by omega) w
theorem of_gone (A : Option Addr) (c : Nat) (B : Nat) (w : World) (hr : Rd w B A 1 (iv [5])) (hB : B ≤ w.heap.size) : Calls Try.prog 23 #[.int .u8 7, .slice A 1 c] w (RecIs 7 [5] w) := of_any 7 A 1 c [5] B w hr hB (by omega)
theorem same_gone (A A' : Option Addr) (c c' : Nat) (B B' : Nat) (w : World) (hr : Rd w B A 1 (iv [5])) (hr' : Rd w B' A' 1 (iv [5])) (hB : B ≤ w.heap.size) (hB' : B' ≤ w.heap.size) :
    Calls Try.prog 20 #[.agg #[.int .u8 7, .slice A 1 c], .agg #[.int .u8 7, .slice A' 1 c']] w (BoolPost true w) := sameRec_any 7 7 A A' 1 c 1 c' [5] [5] B B' w hr hr' hB hB' (by omega)
theorem all_none (w : World) : Calls Try.prog 21 #[.slice none 0 0] w (BoolPost true w) := all_any none 0 0 [] 0 w ⟨rfl, fun h => absurd h (by omega), by simp⟩ (Nat.zero_le _) (by omega)
theorem all_zero (w : World) (b : Nat) (hb : w.heap.size = b) : Calls Try.prog 21 #[.slice (some ⟨b, 0, none⟩) 1 1] (w.alloc (.cells #[.int .u8 0, .slice none 0 0] 24)) (BoolPost false (w.alloc (.cells #[.int .u8 0, .slice none 0 0] 24))) :=
  all_any (some ⟨b, 0, none⟩) 1 1 [⟨0, none, 0, 0, []⟩] (b + 1) _ (rdR_one w ⟨0, none, 0, 0, []⟩ 0 (Nat.zero_le _) (by decide) (Rd.nil_ _ _ _) b hb) (by simp [hb]) (by omega)

set_option maxRecDepth 100000 in
set_option maxHeartbeats 2000000 in
theorem wakes_any (w : World) : Calls Try.prog 10 #[] w (WakePost w) := by
  go_enter Try.func10, Try.ntmps10
  go_wp2_with fail
  refine (put_boot _).mono ?_
  rintro e w1 ⟨A1, c1, rfl, hI1⟩
  have R1 := hI1.rd
  have b1 : Below w.heap.size w w1 := hI1.2.1
  clear hI1
  go_wp2_with fail
  refine (take_made _ (by omega) _ (w1.heap.size + 1) _ (rd_lit w1 (bv [4, 4, 9, 2, 0]) 5 5 rfl) (by simp)).mono ?_
  rintro e w2 ⟨A2, c2, rfl, o2, d2⟩
  have R2 := Rd.of_own o2
  have d2' : Below w1.heap.size w1 w2 := ((Below.refl _ w1).alloc (Nat.le_refl _) _).trans (d2.mono (by simp))
  have b2 : Below w.heap.size w w2 := b1.trans (d2'.mono b1.size)
  have R1 := (R1.below d2').more d2'.size
  clear o2 b1 d2 d2'
  go_wp2_with fail
  refine (take_none _ (by omega) _ (w2.heap.size + 1 + 1) _ (rd_lit_at (w2.alloc (.cells #[.int .u8 4, .slice A2 3 c2] 24)) (bv [1, 0]) 5 2 (w2.heap.size + 1) rfl (by simp)) (by simp)).mono ?_
  rintro e w3 ⟨rfl, d3⟩
  have hbox := ((Whole.new w2 24 #[.int .u8 4, .slice A2 3 c2]).alloc (.cells (bv [1, 0]).toArray 5)).under d3
  have d3' : Below w2.heap.size w2 w3 := (((Below.refl _ w2).alloc (Nat.le_refl _) _).alloc (by simp) _).trans (d3.mono (by simp; omega))
  have b3 : Below w.heap.size w w3 := b2.trans (d3'.mono b2.size)
  have R1 := (R1.below d3').more d3'.size
  have R2 := (R2.below d3').more d3'.size
  clear b2 d3 d3'
  go_wp2_with fail
  refine (put_gone _).mono ?_
  rintro e w4 ⟨rfl, d4⟩
  have hbox := (hbox.alloc (.cells #[.int .u8 0, .slice none 0 0] 24)).under d4
  have d4' : Below w3.heap.size w3 w4 := ((Below.refl _ w3).alloc (Nat.le_refl _) _).trans (d4.mono (by simp))
  have b4 : Below w.heap.size w w4 := b3.trans (d4'.mono b3.size)
  have R1 := (R1.below d4').more d4'.size
  have R2 := (R2.below d4').more d4'.size
  have hstr := run_string w4 A1 2 c1 [1, 1] _ R1
  rw [show strB [1, 1] = ⟨#[1, 1]⟩ from rfl] at hstr
  obtain ⟨g, off, hA2, _, hc2⟩ := R2.2 (by simp)
  subst hA2
  have q2 := hc2 0 (by simp)
  simp only [Nat.add_zero, iv, List.map_cons, List.getElem?_cons_zero] at q2
  have q0 := hbox.cell 0
  have q1 := hbox.cell 1
  simp only [List.getElem?_toArray, List.getElem?_cons_zero, List.getElem?_cons_succ] at q0 q1
  have hb4 := b4.size
  have B4 := Lib.hid b4
  clear b3 d4 d4' hbox hc2 b4 R1 R2
  go_wp2_with fail
  refine (name_go _).mono ?_
  rintro e w5 ⟨rfl, d5⟩
  have b5 := B4.out.trans (d5.mono B4.out.size)
  clear d5 q0 q1 q2 hstr
  go_wp2_with fail
  refine (name_none _).mono ?_
  rintro e w6 ⟨rfl, d6⟩
  have b6 := b5.trans (d6.mono b5.size)
  clear d6 b5
  go_wp2_with fail
  refine (of_gone _ _ (w6.heap.size + 1) _ (rd_lit w6 (iv [5]) 3 1 rfl) (by simp)).mono ?_
  rintro e w7 ⟨A7, c7, rfl, o7, d7⟩
  have R7 := Rd.of_own o7
  have d7' : Below w6.heap.size w6 w7 := ((Below.refl _ w6).alloc (Nat.le_refl _) _).trans (d7.mono (by simp))
  have b7 := b6.trans (d7'.mono b6.size)
  clear d7 d7' b6 o7
  go_wp2_with fail
  refine (same_gone _ _ _ _ w7.heap.size (w7.heap.size + 1) _ (R7.alloc (Nat.le_refl _) _) (rd_lit w7 (iv [5]) 3 1 rfl) (by simp) (by simp)).mono ?_
  rintro e w8 ⟨rfl, d8⟩
  have d8' : Below w7.heap.size w7 w8 := ((Below.refl _ w7).alloc (Nat.le_refl _) _).trans (d8.mono (by simp))
  have b8 := b7.trans (d8'.mono b7.size)
  clear d8 d8' b7 R7
  go_wp2_with fail
  refine (all_none _).mono ?_
  rintro e w9 ⟨rfl, d9⟩
  have b9 := b8.trans (d9.mono b8.size)
  clear d9 b8
  go_wp2_with fail
  refine (all_zero w9 _ rfl).mono ?_
  rintro e w10 ⟨rfl, d10⟩
  have b10 := (b9.alloc b9.size _).trans (d10.mono (by have := b9.size; simp; omega))
  have B10 := Lib.hid b10
  clear d10 b9 b10
  go_wp2_with fail
  go_ret
  exact ⟨rfl, B10.out⟩

end Go.Proofs.Ytcgfakpolfopnaa
