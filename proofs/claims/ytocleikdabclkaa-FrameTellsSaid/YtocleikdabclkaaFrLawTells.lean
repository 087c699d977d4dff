/-
  The walk of the statement 'FrameTells': it answers true, and nothing that was there turns. Conditions: none.
-/
import Derived.Test.YtocleikdabclkaaRefFrAll
import Derived.Test.YtocleikdabclkaaFrWakes
namespace Go.Proofs.Ytocleikdabclkaa
open Go.RowKit Go.Shelf

set_option maxHeartbeats 400000 in
theorem frameTells_out (A : Option Addr) (n c : Nat) (z : Int) (w : World) (h : ¬ n ≤ 600) :
    Calls Try.prog 3 #[.slice A n c, .int .i64 z] w fun e w' => e = .returned (.bool true) ∧ Below w.heap.size w w' := by
  have h0 : (600 : Int) < (n : Int) := by omega
  go_enter Try.func3, Try.ntmps3
  go_wp2_with fail
  refine (wakes_any _).mono ?_
  rintro e w1 ⟨rfl, hb⟩
  go_wp2_with fail
  go_ret
  exact ⟨rfl, hb⟩

/-- A row of bytes and an error's number; two rows and one. -/
def RowE (n : Nat) (bs : List Nat) (w : World) (e : Ending) (w' : World) : Prop :=
  ∃ A c, e = .returned (.tuple #[.slice A n c, .int .i64 0]) ∧ Rd w' w'.heap.size A n (bv bs) ∧ Below w.heap.size w w'
def TwoE (P R : Nat) (E : Int) (p r : List Nat) (w : World) (e : Ending) (w' : World) : Prop :=
  ∃ A c A' c', e = .returned (.tuple #[.slice A P c, .slice A' R c', .int .i64 E]) ∧ Rd w' w'.heap.size A P (bv p) ∧ Rd w' w'.heap.size A' R (bv r) ∧ Below w.heap.size w w'
theorem rowE_of {F : Nat} {bs : List Nat} {w : World} {e : Ending} {w' : World} (hF : frLen bs.length = F) (h : FrOk bs w e w') : RowE F (fr bs) w e w' := by
  subst hF
  obtain ⟨A, c, h1, h2, h3⟩ := h
  exact ⟨A, c, h1, Rd.of_own h2, h3⟩
theorem twoE_no {w : World} {e : Ending} {w' : World} (h : TakeNo w e w') : TwoE 0 0 40 [] [] w e w' := ⟨none, 0, none, 0, h.1, Rd.nil_ _ _ _, Rd.nil_ _ _ _, h.2⟩
theorem twoE_yes {p r : List Nat} {w : World} {e : Ending} {w' : World} (h : TakeYes p r w e w') : TwoE p.length r.length 0 p r w e w' := by
  obtain ⟨A, c, A', c', h1, h2, h3, h4⟩ := h
  exact ⟨A, c, A', c', h1, Rd.of_own h2, Rd.of_own h3, h4⟩

section
variable (A : Option Addr) (n c : Nat) (z : Int) (w : World) (F P R E K U : Nat) (fb p r : List Nat) (L : List (List Nat)) (V : Int) (S : Nat)

set_option maxRecDepth 100000 in
set_option maxHeartbeats 1000000 in
theorem frameTells_in (h0 : n ≤ 600) (hK : K ≤ 1000000) (hL : L.length = K) (hfb : ∀ x ∈ fb, x < 256) (hp : ∀ x ∈ p, x < 256) (hr : ∀ x ∈ r, x < 256) (hLb : ∀ q ∈ L, ∀ x ∈ q, x < 256)
    (H1 : Hid (∀ W, Below w.heap.size w W → Calls Try.prog 9 #[.slice A n c] W (RowE F fb W)))
    (H2 : Hid (∀ W, Below w.heap.size w W → Calls Try.prog 10 #[.slice A n c] W (RowE F fb W)))
    (H3 : Hid (∀ W, Below w.heap.size w W → Calls Try.prog 11 #[.slice A n c] W (TwoE P R E p r W)))
    (H4 : Hid (∀ W, Below w.heap.size w W → Calls Try.prog 12 #[.slice A n c] W (TwoE P R E p r W)))
    (H5 : Hid (∀ W, Below w.heap.size w W → Calls Try.prog 13 #[.slice A n c] W (AllPost L U W)))
    (H6 : Hid (∀ W, Below w.heap.size w W → Calls Try.prog 14 #[.slice A n c] W (AllPost L U W)))
    (H7 : Hid (∀ W, Below w.heap.size w W → Calls Try.prog 17 #[.slice A n c] W fun e w' => e = .returned (.int .u32 (S : Int)) ∧ Below W.heap.size W w'))
    (H8 : Hid (∀ W, Below w.heap.size w W → Calls Try.prog 18 #[.slice A n c] W fun e w' => e = .returned (.int .u32 (S : Int)) ∧ W = w'))
    (H9 : Hid (∀ W, Calls Try.prog 19 #[.int .i64 z] W fun e w' => e = .returned (.int .i64 V) ∧ Below W.heap.size W w'))
    (H10 : Hid (∀ W, Calls Try.prog 20 #[.int .i64 z] W fun e w' => e = .returned (.int .i64 V) ∧ Below W.heap.size W w')) :
    Calls Try.prog 3 #[.slice A n c, .int .i64 z] w fun e w' => e = .returned (.bool true) ∧ Below w.heap.size w w' := by
  have i0 : ¬ (600 : Int) < (n : Int) := by omega
  have HFb := Lib.hid hfb
  have HPb := Lib.hid hp
  have HRb := Lib.hid hr
  have HLb := Lib.hid hLb
  have HLK := Lib.hid hL
  unfold AllPost at H5 H6
  rw [hL] at H5 H6
  have e1 : ((E : Int) == (E : Int)) = true := by simp
  have e2 : ((U : Int) == (U : Int)) = true := by simp
  have e3 : ((S : Int) == (S : Int)) = true := by simp
  have e4 : (V == V) = true := by simp
  clear hfb hp hr hLb hL
  go_enter Try.func3, Try.ntmps3
  go_wp2_with fail
  refine (H1.out _ (Below.refl _ _)).mono ?_
  rintro e w1 ⟨A1, c1, rfl, R1, b1⟩
  have B1 := Lib.hid b1
  have R1 := Lib.hid R1
  clear b1
  go_wp2_with fail
  refine (H2.out _ B1.out).mono ?_
  rintro e w2 ⟨A2, c2, rfl, R2, d2⟩
  have B2 := Lib.hid (B1.out.trans (d2.mono B1.out.size))
  have R1 := Lib.hid ((R1.out.below d2).more d2.size)
  have R2 := Lib.hid R2
  clear d2 B1
  go_wp2_with fail
  refine (H3.out _ B2.out).mono ?_
  rintro e w3 ⟨A3, c3, A4, c4, rfl, R3, R4, d3⟩
  have B3 := Lib.hid (B2.out.trans (d3.mono B2.out.size))
  have R1 := Lib.hid ((R1.out.below d3).more d3.size)
  have R2 := Lib.hid ((R2.out.below d3).more d3.size)
  have R3 := Lib.hid R3
  have R4 := Lib.hid R4
  clear d3 B2
  go_wp2_with fail
  refine (H4.out _ B3.out).mono ?_
  rintro e w4 ⟨A5, c5, A6, c6, rfl, R5, R6, d4⟩
  have B4 := Lib.hid (B3.out.trans (d4.mono B3.out.size))
  have R1 := Lib.hid ((R1.out.below d4).more d4.size)
  have R2 := Lib.hid ((R2.out.below d4).more d4.size)
  have R3 := Lib.hid ((R3.out.below d4).more d4.size)
  have R4 := Lib.hid ((R4.out.below d4).more d4.size)
  have R5 := Lib.hid R5
  have R6 := Lib.hid R6
  clear d4 B3
  go_wp2_with fail
  refine (H5.out _ B4.out).mono ?_
  rintro e w5 ⟨A7, c7, rfl, Q7, d5⟩
  have B5 := Lib.hid (B4.out.trans (d5.mono B4.out.size))
  have R1 := Lib.hid ((R1.out.below d5).more d5.size)
  have R2 := Lib.hid ((R2.out.below d5).more d5.size)
  have R3 := Lib.hid ((R3.out.below d5).more d5.size)
  have R4 := Lib.hid ((R4.out.below d5).more d5.size)
  have R5 := Lib.hid ((R5.out.below d5).more d5.size)
  have R6 := Lib.hid ((R6.out.below d5).more d5.size)
  have Q7 := Lib.hid Q7
  clear d5 B4
  go_wp2_with fail
  refine (H6.out _ B5.out).mono ?_
  rintro e w6 ⟨A8, c8, rfl, Q8, d6⟩
  have B6 := Lib.hid (B5.out.trans (d6.mono B5.out.size))
  have S1 := Lib.hid (same_yes A1 A2 F c1 F c2 fb w6.heap.size w6.heap.size w6 ((R1.out.below d6).more d6.size) ((R2.out.below d6).more d6.size) HFb.out)
  have S2 := Lib.hid (same_yes A3 A5 P c3 P c5 p w6.heap.size w6.heap.size w6 ((R3.out.below d6).more d6.size) ((R5.out.below d6).more d6.size) HPb.out)
  have S3 := Lib.hid (same_yes A4 A6 R c4 R c6 r w6.heap.size w6.heap.size w6 ((R4.out.below d6).more d6.size) ((R6.out.below d6).more d6.size) HRb.out)
  have S4 : Hid (Calls Try.prog 16 #[.slice A7 K c7, .slice A8 K c8] w6 fun e w' => e = .returned (.bool true) ∧ Below w6.heap.size w6 w') := by
    have q7 : RowsAt w4.heap.size w6 (.slice A7 L.length c7) L := by rw [HLK.out]; exact Q7.out.under d6
    have q8 : RowsAt w5.heap.size w6 (.slice A8 L.length c8) L := by rw [HLK.out]; exact Q8
    obtain ⟨es, he, hes⟩ := q7.read HLb.out
    obtain ⟨fs, hf, hfs⟩ := q8.read HLb.out
    rw [HLK.out] at hes hfs
    exact Lib.hid (rows_any A7 A8 K c7 K c8 es fs w6.heap.size w6 hes hfs (Nat.le_refl _) hK (r := true) (decide_eq_true (he.trans hf.symm)))
  clear R1 R2 R3 R4 R5 R6 Q7 Q8 d6 B5
  go_wp2_with fail
  refine (S1.out).mono ?_
  rintro e w' ⟨rfl, rfl⟩
  go_wp2_with fail
  refine (S2.out).mono ?_
  rintro e w' ⟨rfl, rfl⟩
  go_wp2_with fail
  refine (S3.out).mono ?_
  rintro e w' ⟨rfl, rfl⟩
  go_wp2_with fail
  refine (S4.out).mono ?_
  rintro e w7 ⟨rfl, d7⟩
  have B7 := Lib.hid (B6.out.trans (d7.mono B6.out.size))
  clear d7 B6 S1 S2 S3 S4
  go_wp2_with fail
  refine (H7.out _ B7.out).mono ?_
  rintro e w8 ⟨rfl, d8⟩
  have B8 := Lib.hid (B7.out.trans (d8.mono B7.out.size))
  clear d8 B7
  go_wp2_with fail
  refine (H8.out _ B8.out).mono ?_
  rintro e w' ⟨rfl, rfl⟩
  go_wp2_with fail
  refine (H9.out _).mono ?_
  rintro e w9 ⟨rfl, d9⟩
  have B9 := Lib.hid (B8.out.trans (d9.mono B8.out.size))
  clear d9 B8
  go_wp2_with fail
  refine (H10.out _).mono ?_
  rintro e w10 ⟨rfl, d10⟩
  have B10 := Lib.hid (B9.out.trans (d10.mono B9.out.size))
  clear d10 B9
  go_wp2_with fail
  refine (wakes_any _).mono ?_
  rintro e w11 ⟨rfl, d11⟩
  go_wp2_with fail
  go_ret
  exact ⟨rfl, B10.out.trans (d11.mono B10.out.size)⟩
end

theorem frameTells_walk (A : Option Addr) (n c : Nat) (bs : List Nat) (z : Int) (w : World) (hr : Rd w w.heap.size A n (bv bs)) (hb : ∀ x ∈ bs, x < 256) (hc : n ≤ c) (hm : c ≤ maxLen) :
    Calls Try.prog 3 #[.slice A n c, .int .i64 z] w fun e w' => e = .returned (.bool true) ∧ Below w.heap.size w w' := by
  by_cases h0 : n ≤ 600
  · have hl : bs.length = n := by have := hr.1; rwa [bv_length] at this
    obtain ⟨L, U, hall⟩ := all_ex bs.length bs (Nat.le_refl _)
    have hLK : L.length ≤ 1000000 := by
      have h1 := usedOf_ge L
      have h4 := congrArg List.length hall.1
      rw [List.length_append] at h4
      unfold usedOf at h1
      omega
    have hLb : ∀ q ∈ L, ∀ x ∈ q, x < 256 := fun q hq x hx => by
      refine hb x ?_
      rw [hall.1]
      refine List.mem_append.2 (.inl (List.mem_flatMap.2 ⟨q, hq, ?_⟩))
      simp only [fr, List.mem_append]
      exact .inl (.inr hx)
    have rd : ∀ W, Below w.heap.size w W → Rd W w.heap.size A n (bv bs) := fun W hW => hr.below hW
    have P1 := fun (W : World) (hW : Below w.heap.size w W) => (frPut_any A n c bs w.heap.size W (rd W hW) hW.size hb (by omega) hc hm).mono fun e w' h => rowE_of (F := frLen bs.length) rfl h
    have P2 := fun (W : World) (hW : Below w.heap.size w W) => (refFrPut_any A n c bs w.heap.size W (rd W hW) hW.size hb (by omega)).mono fun e w' h => rowE_of (F := frLen bs.length) rfl h
    have P5 := fun (W : World) (hW : Below w.heap.size w W) => frAll_any A n c bs L U w.heap.size W hall (rd W hW) hW.size hb (by omega) hc
    have P6 := fun (W : World) (hW : Below w.heap.size w W) => refFrAll_any A n c bs L U w.heap.size W hall (rd W hW) hW.size hb (by omega) hc
    have P7 := fun (W : World) (hW : Below w.heap.size w W) => sum_any A n c bs w.heap.size W (rd W hW) hW.size hb (by omega)
    have P8 := fun (W : World) (hW : Below w.heap.size w W) => refSum_any A n c bs w.heap.size W (rd W hW) hb (by omega)
    by_cases hp : ∃ p, IsFr bs p
    · obtain ⟨p, hp⟩ := hp
      have P3 := fun (W : World) (hW : Below w.heap.size w W) => (frTake_yes A n c bs p _ w.heap.size W hp rfl (rd W hW) hW.size hb (by omega) hc).mono fun e w' h => twoE_yes h
      have P4 := fun (W : World) (hW : Below w.heap.size w W) => (refFrTake_yes hp rfl (rd W hW) hW.size hb (by omega) hc).mono fun e w' h => twoE_yes h
      exact frameTells_in A n c z w _ _ _ 0 _ U (fr bs) p _ L _ _ h0 hLK rfl (fr_bytes hb) (hp.bytes hb) (fun x hx => hb x (List.mem_of_mem_drop hx)) hLb P1 P2 P3 P4 P5 P6 P7 P8 (frLong_any z) (refLong_any z)
    · have hno : ∀ p, ¬ IsFr bs p := fun p h => hp ⟨p, h⟩
      have P3 := fun (W : World) (hW : Below w.heap.size w W) => (frTake_no A n c bs w.heap.size W hno (rd W hW) hW.size hb (by omega) hc).mono fun e w' h => twoE_no h
      have P4 := fun (W : World) (hW : Below w.heap.size w W) => (refFrTake_no hno (rd W hW) hW.size hb (by omega) hc).mono fun e w' h => twoE_no h
      exact frameTells_in A n c z w _ _ _ 40 _ U (fr bs) [] [] L _ _ h0 hLK rfl (fr_bytes hb) (by simp) (by simp) hLb P1 P2 P3 P4 P5 P6 P7 P8 (frLong_any z) (refLong_any z)
  · exact frameTells_out A n c z w h0

end Go.Proofs.Ytocleikdabclkaa
