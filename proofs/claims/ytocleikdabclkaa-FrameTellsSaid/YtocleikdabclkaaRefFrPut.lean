/-
  The walks of the document's own 'Put' and 'Long' of frames. Conditions: those that each theorem names.
-/
import Derived.Test.YtocleikdabclkaaFrPut
import Derived.Test.YtocleikdabclkaaRefTake
import Derived.Laws.OwnMore
namespace Go.Proofs.Ytocleikdabclkaa
open Go.RowKit Go.Shelf

set_option maxRecDepth 100000 in
set_option maxHeartbeats 1000000 in
theorem refFrPut_any (A : Option Addr) (n c : Nat) (bs : List Nat) (B : Nat) (w : World) (hr : Rd w B A n (bv bs)) (hB : B ≤ w.heap.size) (hb : ∀ x ∈ bs, x < 256) (hn : n ≤ 4000) :
    Calls Try.prog 10 #[.slice A n c] w (FrOk bs w) := by
  have hl : bs.length = n := by have := hr.1; rwa [bv_length] at this
  have HP := Lib.hid (refPut_yes n (by omega) w)
  have HS := Lib.hid (fun (W : World) (hW : Below w.heap.size w W) => refSum_any A n c bs w.heap.size W ((hr.more hB).below hW) hb (by omega))
  have HR := Lib.hid (hr.more hB)
  have HL := Lib.hid hl
  have hlt := sumOf_lt bs
  have i0 : ¬ (4000 : Int) < (n : Int) := by omega
  have hP2 := put_two hn
  clear hr hB hb hl
  go_enter Try.func10, Try.ntmps10
  go_wp2_with fail
  refine (HP.out).mono ?_
  rintro e w1 ⟨A1, c1, rfl, hI⟩
  have B1 := Lib.hid hI.2.1
  obtain ⟨v2, w2, hrun, o2, g2⟩ := run_app w1 w.heap.size _ (put n).length _ hI.1 w.heap.size A n c bs (HR.out.below B1.out) (by omega) B1.out.size
  obtain ⟨A2, c2, rfl⟩ := own_form o2
  have B2 := Lib.hid (B1.out.trans (below_row hI.1 g2 B1.out.size))
  have O2 := Lib.hid o2
  have HRun := Lib.hid hrun
  clear hrun o2 g2 hI HP
  go_wp2_with (first | (at_builtin; refine wpList_app (by rfl) _ _ _ rfl _ _ _ _ rfl rfl HRun.out ?_; clear HRun))
  refine (HS.out _ B2.out).mono ?_
  rintro e w3 ⟨rfl, rfl⟩
  have hsq : bv (le4 (sumOf bs)) = [.int .u8 ((sumOf bs : Int) % 256), .int .u8 ((sumOf bs : Int) / 256 % 256), .int .u8 ((sumOf bs : Int) / 65536 % 256), .int .u8 ((sumOf bs : Int) / 16777216)] := by
    have e4 : (sumOf bs : Int) / 16777216 % 256 = (sumOf bs : Int) / 16777216 := by omega
    simp [bv, le4, e4]
  have hLit := rd_lit w2 (bv (le4 (sumOf bs))) 5 4 rfl
  obtain ⟨v4, w4, hrun4, o4, g4⟩ := run_app (w2.alloc (.cells (bv (le4 (sumOf bs))).toArray 5)) w.heap.size _ ((put n).length + n) _ (O2.out.alloc _) (w2.heap.size + 1) (some ⟨w2.heap.size, 0, none⟩) 4 4 (le4 (sumOf bs)) hLit (by omega) (by have := B2.out.size; simp; omega)
  obtain ⟨A4, c4, rfl⟩ := own_form o4
  have B4 := Lib.hid ((B2.out.alloc B2.out.size (.cells (bv (le4 (sumOf bs))).toArray 5)).trans (below_row (O2.out.alloc _) g4 (by have := B2.out.size; simp; omega)))
  rw [← bv_append, ← bv_append] at o4
  have O4 := Lib.hid o4
  rw [hsq] at hrun4
  have HRun4 := Lib.hid hrun4
  clear hrun4 o4 g4 hsq hLit
  go_wp2_with (first | (at_builtin; refine wpList_app (by rfl) _ _ _ rfl _ _ _ _ rfl rfl HRun4.out ?_; clear HRun4))
  go_ret2
  have hF : (put n).length + n + 4 = frLen bs.length := by rw [HL.out]; rfl
  have hfr : put n ++ bs ++ le4 (sumOf bs) = fr bs := by rw [fr, HL.out]
  refine ⟨A4, c4, by rw [← hF]; rfl, ?_, B4.out⟩
  rw [← hF, ← hfr]
  exact O4.out

set_option maxRecDepth 100000 in
set_option maxHeartbeats 1000000 in
theorem refLong_yes (N : Nat) (hN : N ≤ 4000) (w : World) : Calls Try.prog 20 #[.int .i64 (N : Int)] w fun e w' => e = .returned (.int .i64 (frLen N : Int)) ∧ Below w.heap.size w w' := by
  obtain ⟨i0, hi, hz0, hz1, hz2⟩ := info_parts info_u8
  have i1 : ¬ (4000 : Int) < (N : Int) := by omega
  go_enter Try.func20, Try.ntmps20
  go_wp2_with (at_make; refine wpList_make_full _ rfl _ _ 22 rfl w.heap.size 5 i0 (.int .u8 0) 1 Try.underlying22 hi hz0 hz1 .i64 .i64 (N : Int) (N : Int) N rfl rfl rfl rfl (by rw [hz2]; omega) (by unfold maxLen; omega) (Nat.le_refl _) ?_; intro w1 o1 g1)
  rw [show (Value.int .u8 0).cells = #[.int .u8 0] from rfl, Nat.mul_one, toList_madeCells_one] at o1
  have hrep : List.replicate N (Value.int .u8 0) = bv (List.replicate N 0) := by simp [bv]
  rw [hrep] at o1
  have B1 := Lib.hid ((Below.refl w.heap.size w).grown g1 (Nat.le_refl _) (fun k e => by cases e))
  have hlen : (List.replicate N 0).length = N := List.length_replicate
  have hP := refFrPut_any (some ⟨w.heap.size, 0, none⟩) N N (List.replicate N 0) w1.heap.size w1 (Rd.of_own o1) (Nat.le_refl _) (fun x hx => by rw [(List.mem_replicate.1 hx).2]; omega) hN
  unfold FrOk at hP
  rw [hlen] at hP
  have HP := Lib.hid hP
  clear o1 g1 hP hrep hlen
  refine (HP.out).mono ?_
  rintro e w2 ⟨A2, c2, rfl, _, d2⟩
  go_wp2_with fail
  go_ret
  exact ⟨rfl, B1.out.trans (d2.mono B1.out.size)⟩

set_option maxHeartbeats 400000 in
theorem refLong_no (n : Int) (hn : ¬ (0 ≤ n ∧ n ≤ 4000)) (w : World) : Calls Try.prog 20 #[.int .i64 n] w fun e w' => e = .returned (.int .i64 (-1)) ∧ Below w.heap.size w w' := by
  by_cases h0 : n < 0
  · go_enter Try.func20, Try.ntmps20
    go_wp2_with fail
    go_ret
    exact ⟨rfl, Below.refl _ _⟩
  · have h1 : 4000 < n := by omega
    go_enter Try.func20, Try.ntmps20
    go_wp2_with fail
    go_ret
    exact ⟨rfl, Below.refl _ _⟩

theorem refLong_any (n : Int) (w : World) : Calls Try.prog 20 #[.int .i64 n] w fun e w' => e = .returned (.int .i64 (longOf n)) ∧ Below w.heap.size w w' := by
  by_cases h : 0 ≤ n ∧ n ≤ 4000
  · obtain ⟨N, rfl⟩ := Int.eq_ofNat_of_zero_le h.1
    have := refLong_yes N (by omega) w
    rw [longOf, if_pos h]
    exact this
  · rw [longOf, if_neg h]
    exact refLong_no n h w

end Go.Proofs.Ytocleikdabclkaa
