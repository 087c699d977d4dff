/-
  The walk of the statement 'FrameSums': it answers true, and nothing that was there turns. Conditions: none.
-/
import Derived.Test.YtocleikdabclkaaFrWakes
namespace Go.Proofs.Ytocleikdabclkaa
open Go.RowKit Go.Shelf

/-- 'append(append([]byte{}, a...), x)': both run, and what comes reads as both. -/
theorem run_more (w : World) (B : Nat) (A1 : Option Addr) (m1 c1 : Nat) (a : List Nat) (x : Nat) (h1 : Rd w B A1 m1 (bv a)) (hB : B ≤ w.heap.size) (hm : m1 + 1 ≤ 1000000) :
    ∃ v1 W1 A3 c3 W2, (Builtin.append_ #[22, 22] 22 #[.slice (some ⟨w.heap.size, 0, none⟩) 0 0, .slice A1 m1 c1]).run Try.prog (w.alloc (.cells #[] 5)) = .ok v1 W1 ∧
      (Builtin.append_ #[22, 22] 22 #[v1, .slice (some ⟨W1.heap.size, 0, none⟩) 1 1]).run Try.prog (W1.alloc (.cells #[.int .u8 (x : Int)] 5)) = .ok (.slice A3 (m1 + 1) c3) W2 ∧ Rd W2 W2.heap.size A3 (m1 + 1) (bv (a ++ [x])) ∧ Below w.heap.size w W2 := by
  have ho := World.ownsRow_made (base := w.heap.size) (e := 5) (size := 1) w #[] 0 (Nat.le_refl _) (Nat.zero_le _) rfl
  obtain ⟨v1, W1, r1, o1, g1⟩ := run_app (w.alloc (.cells #[] 5)) w.heap.size _ 0 [] ho B A1 m1 c1 a (h1.alloc hB _) (by omega) (by simp)
  have b1 : Below w.heap.size w W1 := ((Below.refl _ w).alloc (Nat.le_refl _) _).trans (below_row ho g1 (by simp))
  have bl := b1.alloc b1.size (.cells #[.int .u8 (x : Int)] 5)
  obtain ⟨v2, W2, r2, o2, g2⟩ := run_app (W1.alloc (.cells #[.int .u8 (x : Int)] 5)) w.heap.size v1 (0 + m1) _ (o1.alloc _) (W1.heap.size + 1) (some ⟨W1.heap.size, 0, none⟩) 1 1 [x] (rd_lit W1 (bv [x]) 5 1 rfl) (by omega) bl.size
  have b2 : Below w.heap.size w W2 := bl.trans (below_row (o1.alloc _) g2 bl.size)
  rw [Nat.zero_add, List.nil_append, ← bv_append] at o2
  obtain ⟨A3, c3, rfl⟩ := own_form o2
  exact ⟨v1, W1, A3, c3, W2, r1, r2, Rd.of_own o2, b2⟩

set_option maxHeartbeats 400000 in
theorem frameSums_out (A0 : Option Addr) (n0 c0 : Nat) (A1 : Option Addr) (n1 c1 : Nat) (A2 : Option Addr) (n2 c2 : Nat) (x y : Nat) (w : World) (h : ¬ (n0 ≤ 200 ∧ n1 ≤ 200 ∧ n2 ≤ 200)) :
    Calls Try.prog 7 #[.slice A0 n0 c0, .slice A1 n1 c1, .slice A2 n2 c2, .int .u8 (x : Int), .int .u8 (y : Int)] w fun e w' => e = .returned (.bool true) ∧ Below w.heap.size w w' := by
  by_cases h0 : (200 : Int) < (n0 : Int)
  · go_enter Try.func7, Try.ntmps7
    go_wp2_with fail
    refine (wakes_any _).mono ?_
    rintro e w1 ⟨rfl, hb⟩
    go_wp2_with fail
    go_ret
    exact ⟨rfl, hb⟩
  · by_cases h1 : (200 : Int) < (n1 : Int)
    · go_enter Try.func7, Try.ntmps7
      go_wp2_with fail
      refine (wakes_any _).mono ?_
      rintro e w1 ⟨rfl, hb⟩
      go_wp2_with fail
      go_ret
      exact ⟨rfl, hb⟩
    · have h2 : (200 : Int) < (n2 : Int) := by omega
      go_enter Try.func7, Try.ntmps7
      go_wp2_with fail
      refine (wakes_any _).mono ?_
      rintro e w1 ⟨rfl, hb⟩
      go_wp2_with fail
      go_ret
      exact ⟨rfl, hb⟩

section
variable (A0 : Option Addr) (n0 c0 : Nat) (a : List Nat) (A1 : Option Addr) (n1 c1 : Nat) (b : List Nat) (A2 : Option Addr) (n2 c2 : Nat) (c : List Nat) (x y : Nat) (w : World)
  (r0 : Rd w w.heap.size A0 n0 (bv a)) (ha : ∀ z ∈ a, z < 256) (r1 : Rd w w.heap.size A1 n1 (bv b)) (hb : ∀ z ∈ b, z < 256) (r2 : Rd w w.heap.size A2 n2 (bv c)) (hc : ∀ z ∈ c, z < 256) (hx : x < 256) (hy : y < 256)
include r0 ha r1 hb r2 hc hx hy

set_option maxRecDepth 100000 in
set_option maxHeartbeats 1000000 in
theorem frameSums_in (h : n0 ≤ 200 ∧ n1 ≤ 200 ∧ n2 ≤ 200) :
    Calls Try.prog 7 #[.slice A0 n0 c0, .slice A1 n1 c1, .slice A2 n2 c2, .int .u8 (x : Int), .int .u8 (y : Int)] w fun e w' => e = .returned (.bool true) ∧ Below w.heap.size w w' := by
  obtain ⟨h0, h1, h2⟩ := h
  have i0 : ¬ (200 : Int) < (n0 : Int) := by omega
  have i1 : ¬ (200 : Int) < (n1 : Int) := by omega
  have i2 : ¬ (200 : Int) < (n2 : Int) := by omega
  have hla : a.length = n0 := by have := r0.1; rwa [bv_length] at this
  have HBa := Lib.hid ha
  have HBb := Lib.hid hb
  have HBc := Lib.hid hc
  have HRa := Lib.hid r0
  have HRb := Lib.hid r1
  have HRc := Lib.hid r2
  have HSa := Lib.hid (fun (W : World) (hW : Below w.heap.size w W) => sum_any A0 n0 c0 a w.heap.size W (r0.below hW) hW.size ha (by omega))
  have HSb := Lib.hid (fun (W : World) (hW : Below w.heap.size w W) => sum_any A1 n1 c1 b w.heap.size W (r1.below hW) hW.size hb (by omega))
  have hsub : ((sumOf (a ++ [x]) : Nat) : Int) = ((step (sumOf a) x : Nat) : Int) := by simp [sumOf]
  have hsub2 : ((sumOf (a ++ [y]) : Nat) : Int) = ((step (sumOf a) y : Nat) : Int) := by simp [sumOf]
  have hmod : (((sumOf (a ++ [x]) : Nat) : Int) - ((sumOf (a ++ [y]) : Nat) : Int)) % 4294967296 = ((x : Int) - (y : Int)) % 4294967296 := by
    rw [hsub, hsub2]; unfold step; omega
  have HMod := Lib.hid hmod
  have HBx : Hid (∀ z ∈ a ++ [x], z < 256) := fun z hz => by
    rcases List.mem_append.1 hz with h | h
    · exact ha z h
    · simp only [List.mem_singleton] at h; omega
  have HBy : Hid (∀ z ∈ a ++ [y], z < 256) := fun z hz => by
    rcases List.mem_append.1 hz with h | h
    · exact ha z h
    · simp only [List.mem_singleton] at h; omega
  clear hsub hsub2 hmod r0 r1 r2 ha hb hc
  go_enter Try.func7, Try.ntmps7
  go_wp2_with fail
  refine (HSa.out _ (Below.refl _ _)).mono ?_
  rintro e w1 ⟨rfl, b1⟩
  go_wp2_with fail
  refine (HSb.out _ b1).mono ?_
  rintro e w2 ⟨rfl, d2⟩
  have b2 := b1.trans (d2.mono b1.size)
  have HB2 := Lib.hid b2
  clear b1 d2 b2
  by_cases heq : sumOf a = sumOf b
  · have hbq : (((sumOf a : Nat) : Int) == ((sumOf b : Nat) : Int)) = true := by rw [beq_iff_eq]; omega
    have hcc := sum_app (c := c) heq
    obtain ⟨v1, W1, A3, c3, W2, e1, e2, R3, b3, _⟩ := run_two w2 w.heap.size A0 A2 n0 c0 n2 c2 a c (HRa.out.below HB2.out) (HRc.out.below HB2.out) HB2.out.size (by omega)
    have E1 := Lib.hid e1
    have E2 := Lib.hid e2
    have HR3 := Lib.hid R3
    have HB3 := Lib.hid (HB2.out.trans (b3.mono HB2.out.size))
    have HCC := Lib.hid hcc
    have HAC : Hid (∀ z ∈ a ++ c, z < 256) := fun z hz => (List.mem_append.1 hz).elim (HBa.out z) (HBc.out z)
    have HBC : Hid (∀ z ∈ b ++ c, z < 256) := fun z hz => (List.mem_append.1 hz).elim (HBb.out z) (HBc.out z)
    clear e1 e2 R3 b3 heq hcc
    go_wp2_with (first | (at_builtin; refine wpList_app (by rfl) _ _ _ rfl _ _ _ _ rfl rfl E1.out ?_; clear E1) | (at_builtin; refine wpList_app (by rfl) _ _ _ rfl _ _ _ _ rfl rfl E2.out ?_; clear E2))
    refine (sum_any A3 (n0 + n2) c3 (a ++ c) W2.heap.size W2 HR3.out (Nat.le_refl _) HAC.out (by omega)).mono ?_
    rintro e w3 ⟨rfl, d3⟩
    have HB4 := Lib.hid (HB3.out.trans (d3.mono HB3.out.size))
    clear d3 HR3 HB3
    obtain ⟨v3, W3, A4, c4, W4, e3, e4, R4, b4, _⟩ := run_two w3 w.heap.size A1 A2 n1 c1 n2 c2 b c (HRb.out.below HB4.out) (HRc.out.below HB4.out) HB4.out.size (by omega)
    have E3 := Lib.hid e3
    have E4 := Lib.hid e4
    have HR4 := Lib.hid R4
    have HB5 := Lib.hid (HB4.out.trans (b4.mono HB4.out.size))
    clear e3 e4 R4 b4 HB4
    go_wp2_with (first | (at_builtin; refine wpList_app (by rfl) _ _ _ rfl _ _ _ _ rfl rfl E3.out ?_; clear E3) | (at_builtin; refine wpList_app (by rfl) _ _ _ rfl _ _ _ _ rfl rfl E4.out ?_; clear E4))
    refine (sum_any A4 (n1 + n2) c4 (b ++ c) W4.heap.size W4 HR4.out (Nat.le_refl _) HBC.out (by omega)).mono ?_
    rintro e w4 ⟨rfl, d4⟩
    have HB4 := Lib.hid (HB5.out.trans (d4.mono HB5.out.size))
    clear d4 HR4 HB5
    have hnq : (((sumOf (a ++ c) : Nat) : Int) != ((sumOf (b ++ c) : Nat) : Int)) = false := by rw [HCC.out]; simp
    clear hbq HCC
    obtain ⟨v5, W5, A5, c5, W6, e5, e6, R6, b6⟩ := run_more w4 w.heap.size A0 n0 c0 a x (HRa.out.below HB4.out) HB4.out.size (by omega)
    have E5 := Lib.hid e5
    have E6 := Lib.hid e6
    have HR6 := Lib.hid R6
    have HB6 := Lib.hid (HB4.out.trans (b6.mono HB4.out.size))
    clear e5 e6 R6 b6
    go_wp2_with (first | (at_builtin; refine wpList_app (by rfl) _ _ _ rfl _ _ _ _ rfl rfl E5.out ?_; clear E5) | (at_builtin; refine wpList_app (by rfl) _ _ _ rfl _ _ _ _ rfl rfl E6.out ?_; clear E6))
    refine (sum_any A5 (n0 + 1) c5 (a ++ [x]) W6.heap.size W6 HR6.out (Nat.le_refl _) HBx.out (by omega)).mono ?_
    rintro e w7 ⟨rfl, d7⟩
    have HB7 := Lib.hid (HB6.out.trans (d7.mono HB6.out.size))
    clear d7 HR6 HB6
    obtain ⟨v8, W8, A8, c8, W9, e8, e9, R9, b9⟩ := run_more w7 w.heap.size A0 n0 c0 a y (HRa.out.below HB7.out) HB7.out.size (by omega)
    have E8 := Lib.hid e8
    have E9 := Lib.hid e9
    have HR9 := Lib.hid R9
    have HB9 := Lib.hid (HB7.out.trans (b9.mono HB7.out.size))
    clear e8 e9 R9 b9 HB7
    go_wp2_with (first | (at_builtin; refine wpList_app (by rfl) _ _ _ rfl _ _ _ _ rfl rfl E8.out ?_; clear E8) | (at_builtin; refine wpList_app (by rfl) _ _ _ rfl _ _ _ _ rfl rfl E9.out ?_; clear E9))
    refine (sum_any A8 (n0 + 1) c8 (a ++ [y]) W9.heap.size W9 HR9.out (Nat.le_refl _) HBy.out (by omega)).mono ?_
    rintro e w10 ⟨rfl, d10⟩
    have HB10 := Lib.hid (HB9.out.trans (d10.mono HB9.out.size))
    clear d10 HR9 HB9
    have hmod := HMod.out
    go_wp2_with fail
    refine (wakes_any _).mono ?_
    rintro e w11 ⟨rfl, d11⟩
    go_wp2_with fail
    go_ret
    exact ⟨rfl, HB10.out.trans (d11.mono HB10.out.size)⟩
  · have hbq : (((sumOf a : Nat) : Int) == ((sumOf b : Nat) : Int)) = false := by rw [beq_eq_false_iff_ne]; omega
    clear heq
    obtain ⟨v5, W5, A5, c5, W6, e5, e6, R6, b6⟩ := run_more w2 w.heap.size A0 n0 c0 a x (HRa.out.below HB2.out) HB2.out.size (by omega)
    have E5 := Lib.hid e5
    have E6 := Lib.hid e6
    have HR6 := Lib.hid R6
    have HB6 := Lib.hid (HB2.out.trans (b6.mono HB2.out.size))
    clear e5 e6 R6 b6
    go_wp2_with (first | (at_builtin; refine wpList_app (by rfl) _ _ _ rfl _ _ _ _ rfl rfl E5.out ?_; clear E5) | (at_builtin; refine wpList_app (by rfl) _ _ _ rfl _ _ _ _ rfl rfl E6.out ?_; clear E6))
    refine (sum_any A5 (n0 + 1) c5 (a ++ [x]) W6.heap.size W6 HR6.out (Nat.le_refl _) HBx.out (by omega)).mono ?_
    rintro e w7 ⟨rfl, d7⟩
    have HB7 := Lib.hid (HB6.out.trans (d7.mono HB6.out.size))
    clear d7 HR6 HB6
    obtain ⟨v8, W8, A8, c8, W9, e8, e9, R9, b9⟩ := run_more w7 w.heap.size A0 n0 c0 a y (HRa.out.below HB7.out) HB7.out.size (by omega)
    have E8 := Lib.hid e8
    have E9 := Lib.hid e9
    have HR9 := Lib.hid R9
    have HB9 := Lib.hid (HB7.out.trans (b9.mono HB7.out.size))
    clear e8 e9 R9 b9 HB7
    go_wp2_with (first | (at_builtin; refine wpList_app (by rfl) _ _ _ rfl _ _ _ _ rfl rfl E8.out ?_; clear E8) | (at_builtin; refine wpList_app (by rfl) _ _ _ rfl _ _ _ _ rfl rfl E9.out ?_; clear E9))
    refine (sum_any A8 (n0 + 1) c8 (a ++ [y]) W9.heap.size W9 HR9.out (Nat.le_refl _) HBy.out (by omega)).mono ?_
    rintro e w10 ⟨rfl, d10⟩
    have HB10 := Lib.hid (HB9.out.trans (d10.mono HB9.out.size))
    clear d10 HR9 HB9
    have hmod := HMod.out
    go_wp2_with fail
    refine (wakes_any _).mono ?_
    rintro e w11 ⟨rfl, d11⟩
    go_wp2_with fail
    go_ret
    exact ⟨rfl, HB10.out.trans (d11.mono HB10.out.size)⟩

theorem frameSums_walk :
    Calls Try.prog 7 #[.slice A0 n0 c0, .slice A1 n1 c1, .slice A2 n2 c2, .int .u8 (x : Int), .int .u8 (y : Int)] w fun e w' => e = .returned (.bool true) ∧ Below w.heap.size w w' := by
  by_cases h : n0 ≤ 200 ∧ n1 ≤ 200 ∧ n2 ≤ 200
  · exact frameSums_in A0 n0 c0 a A1 n1 c1 b A2 n2 c2 c x y w r0 ha r1 hb r2 hc hx hy h
  · exact frameSums_out A0 n0 c0 A1 n1 c1 A2 n2 c2 x y w h
end

end Go.Proofs.Ytocleikdabclkaa
