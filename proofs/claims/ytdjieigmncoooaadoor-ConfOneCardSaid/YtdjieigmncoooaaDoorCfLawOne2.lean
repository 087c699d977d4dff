/-
  A case of the walk of the statement ConfOne. Conditions: those that the theorem names.
-/
import Derived.Test.YtdjieigmncoooaaDoorCfOneKit
import Derived.Deep.DeepCutAuto
namespace Go.Proofs.YtdjieigmncoooaaDoor
open Go.RowKit Go.Shelf

set_option maxRecDepth 100000 in
set_option maxHeartbeats 16000000 in
theorem confOne_may (x : Cf) (n m : Int) (w : World) (h : Has x w) (hx : x.n ≤ 4) (hm : may x = true) (hn1 : 1 ≤ n) (hn2 : n ≤ 1073741824) : Calls Tryd.prog 6 #[x.v, .int .i64 n, .int .i64 m] w (TruePost w) := by
  have H0 := Lib.hid h
  have HI := Lib.hid (In1.new h)
  have HX := Lib.hid hx
  have HM := Lib.hid hm
  have HN := Lib.hid (And.intro hn1 hn2)
  have d1 : decide ((60 : Int) < (x.n : Int)) = false := by simp; omega
  have d2 : decide (n < 1) = false := by simp; omega
  have d3 : decide ((1073741824 : Int) < n) = false := by simp; omega
  clear h hx hm hn1 hn2
  go_enter Tryd.func6, Tryd.ntmps6
  obtain ⟨c0, c1, c2, c3, c4, c5, c6, c7, c8, c9, c10, c11, c12, c13, c14⟩ := HI.out.box.1.conf
  go_wp2_with fail
  refine (refCk_yes HI.out.has (by have := HX.out; omega) (v := 0) (by rw [HM.out]; rfl)).mono ?_
  ·
    rintro e w1 ⟨rfl, b⟩
    clear c0 c1 c2 c3 c4 c5 c6 c7 c8 c9 c10 c11 c12 c13 c14
    have HI_1 := Lib.hid (HI.out.under b)
    clear HI
    clear b
    go_wp2_with fail
    clear d1 d2 d3
    go_loopw [7] (fun i wr => ∃ j : Nat, i = .int .i64 (j : Int) ∧ j ≤ 26 ∧ In1 x w wr) (fun i _ => 26 - (intOf i).toNat)
    case atStart => exact ⟨0, rfl, by omega, HI_1.out⟩
    case round =>
      obtain ⟨j, rfl, hj, hI⟩ := hrel
      clear HI_1
      have HI := Lib.hid hI
      clear hI
      by_cases hlt : j < 26
      ·
          ·
            have hji : (j : Int) < 26 := by omega
            obtain ⟨V1, g1⟩ : ∃ V, wr.alloc (.cells x.cells 24) = V := ⟨_, rfl⟩
            obtain ⟨Z2, g2⟩ : ∃ V, V1.alloc (.cells nils 39) = V := ⟨_, rfl⟩
            obtain ⟨V2, h3⟩ : ∃ V, Z2.setRow V1.heap.size (ptrs wr.heap.size) = V := ⟨_, rfl⟩
            obtain ⟨Z3, g4⟩ : ∃ V, V2.alloc (.cells noughts 40) = V := ⟨_, rfl⟩
            obtain ⟨V3, h5⟩ : ∃ V, Z3.setRow V2.heap.size tops = V := ⟨_, rfl⟩
            obtain ⟨hRn, hRi, hz2, hz3, hl1, hl2⟩ := Rnd.lay HI.out g1 g2 h3 g4 h5
            have HRr := Lib.hid (And.intro hRn hRi)
            have HZ2 := Lib.hid hz2
            have HZ3 := Lib.hid hz3
            have HA2 : Hid ((ptrs wr.heap.size).all (·.oneCell') = true) := Lib.hid (by simp [ptrs, Value.oneCell'])
            have HA3 : Hid (tops.all (·.oneCell') = true) := Lib.hid (by simp [tops, Value.oneCell'])
            have h1 : wr.alloc (.cells #[.int .i64 x.f0, .int .i64 x.f1, .int .i64 x.f2, .int .i64 x.f3, .int .i64 x.f4, .int .i64 x.f5, .int .i64 x.f6, .int .i64 x.f7, .int .i64 x.f8, .int .i64 x.f9, .int .i64 x.f10, .int .i64 x.f11, .int .i64 x.f12, .bool x.sk, .slice x.A x.n x.c] 24) = V1 := g1
            have h2 : V1.alloc (.cells #[.pointer none, .pointer none, .pointer none, .pointer none, .pointer none, .pointer none, .pointer none, .pointer none, .pointer none, .pointer none, .pointer none, .pointer none, .pointer none] 39) = Z2 := g2
            have h4 : V2.alloc (.cells #[.int .i64 0, .int .i64 0, .int .i64 0, .int .i64 0, .int .i64 0, .int .i64 0, .int .i64 0, .int .i64 0, .int .i64 0, .int .i64 0, .int .i64 0, .int .i64 0, .int .i64 0] 40) = Z3 := g4
            clear g1 g2 g4 hRn hRi hz2 hz3
            obtain ⟨c0, c1, c2, c3, c4, c5, c6, c7, c8, c9, c10, c11, c12, c13, c14⟩ := HI.out.box.1.conf
            go_upto_region 7 with fail
            go_cut [9] from 38 to 52 (fun s9 wx => s9 = .pointer (some ⟨V1.heap.size, 0, none⟩) ∧ wx = V2)
            case first =>
              ·
                clear h4 h5 h1 hl1 hl2 HZ3 HA3 c0 c1 c2 c3 c4 c5 c6 c7 c8 c9 c10 c11 c12 c13 c14
                go_wp2_with (first | (refine wpList_ptrs rfl _ rfl wr.heap.size (by rfl) ?_) | (refine wpList_buildFlatArr rfl 40 3 13 _ rfl .i64 [6, 100, 3, 3, 20, 20, 20, 20, 20, 20, 20, 20, 1099511627776] (by kernel_rfl) (by kernel_rfl) (by kernel_rfl) (by rfl) ?_) | (refine wpList_store_row rfl 39 _ _ rfl V1.heap.size (ptrs wr.heap.size) (by rfl) (by rfl) 39 _ HZ2.out (by kernel_rfl) rfl HA2.out ?_) | (refine wpList_store_row rfl 40 _ _ rfl V2.heap.size tops (by rfl) (by rfl) 40 _ HZ3.out (by kernel_rfl) rfl HA3.out ?_))
                go_meet
                first | exact ⟨rfl, h3⟩ | exact ⟨rfl, rfl⟩
            case rest =>
              obtain ⟨rfl, hwx⟩ := hcut
              have hwy := hwx.symm
              subst hwy
              clear hwx
              go_upto_region 9 with (first | (refine wpList_ptrs rfl _ rfl wr.heap.size (by rfl) ?_) | (refine wpList_buildFlatArr rfl 40 3 13 _ rfl .i64 [6, 100, 3, 3, 20, 20, 20, 20, 20, 20, 20, 20, 1099511627776] (by kernel_rfl) (by kernel_rfl) (by kernel_rfl) (by rfl) ?_) | (refine wpList_store_row rfl 39 _ _ rfl V1.heap.size (ptrs wr.heap.size) (by rfl) (by rfl) 39 _ HZ2.out (by kernel_rfl) rfl HA2.out ?_) | (refine wpList_store_row rfl 40 _ _ rfl V2.heap.size tops (by rfl) (by rfl) 40 _ HZ3.out (by kernel_rfl) rfl HA3.out ?_))
              ·
                go_upto_if 54 with fail
                go_cut [8] (fun s8 wx => s8 = .pointer (some ⟨wr.heap.size, 0, none⟩) ∧ ∃ d : Cf, d.n ≤ 1000 ∧ er (may d) = 70 ∧ sameC d x = false ∧ In1 x w wx ∧ Own1 d wx wr.heap.size)
                case first =>
                  by_cases h13 : j < 13
                  ·
                    ·
                      have hR := HRr.out
                      clear HRr
                      have hj13 : (j : Int) < 13 := by omega
                      have hjn : j < 13 := by omega
                      have d13 : decide ((j : Int) < 13) = true := decide_eq_true hj13
                      have k0 : (0 : Int) ≤ (j : Int) := by omega
                      obtain ⟨t, ht⟩ : ∃ t, hiB j = t := ⟨_, rfl⟩
                      have htb := (lo_pos j).2 hjn
                      rw [ht] at htb
                      have ew1 : IntKind.i64.wrap (t + n) = t + n := IntWalk.i64_in _ ⟨by have := HN.out; omega, by have := HN.out; omega⟩
                      have hR' : Rnd x w V3.drew wr.heap.size (V1.heap.size) (V2.heap.size) := ⟨hR.1.box, hR.1.ptr, hR.1.top, hR.1.lt⟩
                      have hp := (hR'.ptr.cell j).trans (ptrs_at wr.heap.size j hjn)
                      have hg := (hR'.top.cell j).trans (tops_at hjn)
                      rw [ht] at hg
                      have hq := hR'.box.confK hjn
                      have hf := hR'.box.frozen j
                      have hs := rnd_set H0.out hR.2.drew hR' hjn (t + n)
                      have hpo := put_out HM.out hjn (v := t + n) (.inr (by have := HN.out; omega))
                      obtain ⟨d, hd⟩ : ∃ d, x.put j (t + n) = d := ⟨_, rfl⟩
                      obtain ⟨V4, hV4⟩ : ∃ V, V3.drew.setCell ⟨wr.heap.size, j, none⟩ (.int .i64 (t + n)) = V := ⟨_, rfl⟩
                      have hp4 : V4.cell? ⟨V1.heap.size, j, none⟩ = some (.pointer (some ⟨wr.heap.size, j, none⟩)) := by
                        rw [← hV4]; exact ((hR'.ptr.far (p := ⟨wr.heap.size, j, none⟩) (by show V1.heap.size ≠ wr.heap.size; omega) _).cell j).trans (ptrs_at wr.heap.size j hjn)
                      have hg4 : V4.cell? ⟨V2.heap.size, j, none⟩ = some (.int .i64 t) := by
                        rw [← hV4, ← ht]; exact ((hR'.top.far (p := ⟨wr.heap.size, j, none⟩) (by show V2.heap.size ≠ wr.heap.size; omega) _).cell j).trans (tops_at hjn)
                      rw [hV4, hd] at hs
                      rw [hd] at hpo
                      have HDn : Hid (d.n ≤ 1000) := Lib.hid (by rw [← hd]; show x.n ≤ 1000; have := HX.out; omega)
                      obtain ⟨hs1, hs2⟩ := hs
                      have HP := Lib.hid hpo
                      have HJ := Lib.hid hs1
                      have HD := Lib.hid hs2
                      clear c0 c1 c2 c3 c4 c5 c6 c7 c8 c9 c10 c11 c12 c13 c14
                      obtain ⟨c0, c1, c2, c3, c4, c5, c6, c7, c8, c9, c10, c11, c12, c13, c14⟩ := HI.out.box.1.conf
                      obtain ⟨e0, e1, e2, e3, e4, e5, e6, e7, e8, e9, e10, e11, e12, e13, e14⟩ := HD.out.box.conf
                      clear hR hpo hs1 hs2 hd hR' ht htb
                      clear HI
                      go_wp2_with fail
                      have HL := Lib.hid (fun W (hW : W = V3.drew ∨ W = V4) => show W.cell? ⟨V1.heap.size, j, none⟩ = some (.pointer (some ⟨wr.heap.size, j, none⟩)) ∧ W.cell? ⟨V2.heap.size, j, none⟩ = some (.int .i64 t) by rcases hW with h | h <;> rw [h] <;> first | exact ⟨hp, hg⟩ | exact ⟨hp4, hg4⟩)
                      clear hp hg hp4 hg4
                      have HC := Lib.hid (show V3.drew = V3.drew ∨ V3.drew = V4 from .inl rfl)
                      refine wp_region_held_drew (S := fun W => W = V3.drew ∨ W = V4) (by kernel_rfl) HC.out (fun _ => ?_)
                      refine takeH (i := 0) (v := ?_) rfl (by kernel_rfl) (by kernel_rfl) (by kernel_rfl) (fun _ _ _ h => h) (by rfl) ?_ HC.out ?_
                      rotate_left
                      · intro W hW; obtain ⟨l0, l1⟩ := HL.out W hW; go_simp <;> with_reducible rfl
                      simp only [Act.put, List.setIfInBounds_toArray, List.set_cons_zero, List.set_cons_succ]
                      refine takeH (i := 1) (v := ?_) rfl (by kernel_rfl) (by kernel_rfl) (by kernel_rfl) (fun _ _ _ h => h) (by rfl) ?_ HC.out ?_
                      rotate_left
                      · intro W hW; obtain ⟨l0, l1⟩ := HL.out W hW; go_simp <;> with_reducible rfl
                      simp only [Act.put, List.setIfInBounds_toArray, List.set_cons_zero, List.set_cons_succ]
                      refine takeH (i := 2) (v := ?_) rfl (by kernel_rfl) (by kernel_rfl) (by kernel_rfl) (fun _ _ _ h => h) (by rfl) ?_ HC.out ?_
                      rotate_left
                      · intro W hW; obtain ⟨l0, l1⟩ := HL.out W hW; go_simp <;> with_reducible rfl
                      simp only [Act.put, List.setIfInBounds_toArray, List.set_cons_zero, List.set_cons_succ]
                      refine takeH (i := 3) (v := ?_) rfl (by kernel_rfl) (by kernel_rfl) (by kernel_rfl) (fun _ _ _ h => h) (by rfl) ?_ HC.out ?_
                      rotate_left
                      · intro W hW; obtain ⟨l0, l1⟩ := HL.out W hW; go_simp <;> with_reducible rfl
                      simp only [Act.put, List.setIfInBounds_toArray, List.set_cons_zero, List.set_cons_succ]
                      refine takeH (i := 4) (v := ?_) rfl (by kernel_rfl) (by kernel_rfl) (by kernel_rfl) (fun _ _ _ h => h) (by rfl) ?_ HC.out ?_
                      rotate_left
                      · intro W hW; obtain ⟨l0, l1⟩ := HL.out W hW; go_simp <;> with_reducible rfl
                      simp only [Act.put, List.setIfInBounds_toArray, List.set_cons_zero, List.set_cons_succ]
                      refine takeH (i := 5) (v := ?_) rfl (by kernel_rfl) (by kernel_rfl) (by kernel_rfl) (fun _ _ _ h => h) (by rfl) ?_ HC.out ?_
                      rotate_left
                      · intro W hW; obtain ⟨l0, l1⟩ := HL.out W hW; go_simp <;> with_reducible rfl
                      simp only [Act.put, List.setIfInBounds_toArray, List.set_cons_zero, List.set_cons_succ]
                      refine takeH (i := 6) (v := ?_) rfl (by kernel_rfl) (by kernel_rfl) (by kernel_rfl) (fun _ _ _ h => h) (by rfl) ?_ HC.out ?_
                      rotate_left
                      · intro W hW; obtain ⟨l0, l1⟩ := HL.out W hW; go_simp <;> with_reducible rfl
                      simp only [Act.put, List.setIfInBounds_toArray, List.set_cons_zero, List.set_cons_succ]
                      refine takeH (i := 7) (v := ?_) rfl (by kernel_rfl) (by kernel_rfl) (by kernel_rfl) (fun _ _ _ h => h) (by rfl) ?_ HC.out ?_
                      rotate_left
                      · intro W hW; obtain ⟨l0, l1⟩ := HL.out W hW; go_simp <;> with_reducible rfl
                      simp only [Act.put, List.setIfInBounds_toArray, List.set_cons_zero, List.set_cons_succ]
                      refine takeH (i := 8) (v := ?_) rfl (by kernel_rfl) (by kernel_rfl) (by kernel_rfl) (fun _ _ _ h => h) (by rfl) ?_ HC.out ?_
                      rotate_left
                      · intro W hW; obtain ⟨l0, l1⟩ := HL.out W hW; go_simp <;> with_reducible rfl
                      simp only [Act.put, List.setIfInBounds_toArray, List.set_cons_zero, List.set_cons_succ]
                      refine oneH (i := 9) rfl (by kernel_rfl) (by rfl) (fun K hK => ?_)
                      go_simp
                      refine hK.out _ _ (.inr rfl) (fun _ => ?_)
                      clear hK K
                      refine wpAnyH_done (by kernel_rfl) ?_ _
                      clear HL HC
                      go_wp2_with fail
                      go_meet
                      exact ⟨rfl, d, HDn.out, HP.out.1, HP.out.2, HJ.out, HD.out⟩
                  ·
                    ·
                      have hR := HRr.out
                      clear HRr
                      obtain ⟨k, hk⟩ : ∃ k, j = 13 + k := ⟨j - 13, by omega⟩
                      have hk13 : k < 13 := by omega
                      have hj13 : ¬ ((j : Int) < 13) := by omega
                      have d13 : decide ((j : Int) < 13) = false := decide_eq_false hj13
                      have ew1 : IntKind.i64.wrap ((j : Int) - 13) = (k : Int) := by rw [IntWalk.i64_in _ ⟨by omega, by omega⟩]; omega
                      have ew2 : IntKind.i64.wrap (-n) = -n := IntWalk.i64_in _ ⟨by have := HN.out; omega, by have := HN.out; omega⟩
                      have k0 : (0 : Int) ≤ (k : Int) := by omega
                      have k1 : (k : Int) < 13 := by omega
                      have hp := (hR.1.ptr.cell k).trans (ptrs_at wr.heap.size k hk13)
                      have hq := hR.1.box.confK hk13
                      have hf := hR.1.box.frozen k
                      have hs := rnd_set H0.out hR.2 hR.1 hk13 (-n)
                      have hpo := put_out HM.out hk13 (v := -n) (.inl (by have := HN.out; omega))
                      obtain ⟨d, hd⟩ : ∃ d, x.put k (-n) = d := ⟨_, rfl⟩
                      obtain ⟨V4, hV4⟩ : ∃ V, V3.setCell ⟨wr.heap.size, k, none⟩ (.int .i64 (-n)) = V := ⟨_, rfl⟩
                      rw [hV4, hd] at hs
                      rw [hd] at hpo
                      have HDn : Hid (d.n ≤ 1000) := Lib.hid (by rw [← hd]; show x.n ≤ 1000; have := HX.out; omega)
                      obtain ⟨hs1, hs2⟩ := hs
                      have HP := Lib.hid hpo
                      have HJ := Lib.hid hs1
                      have HD := Lib.hid hs2
                      clear c0 c1 c2 c3 c4 c5 c6 c7 c8 c9 c10 c11 c12 c13 c14
                      obtain ⟨c0, c1, c2, c3, c4, c5, c6, c7, c8, c9, c10, c11, c12, c13, c14⟩ := HI.out.box.1.conf
                      obtain ⟨e0, e1, e2, e3, e4, e5, e6, e7, e8, e9, e10, e11, e12, e13, e14⟩ := HD.out.box.conf
                      clear hR hpo hs1 hs2 hd hk
                      clear HI
                      go_wp2_with fail
                      go_meet
                      exact ⟨rfl, d, HDn.out, HP.out.1, HP.out.2, HJ.out, HD.out⟩
                case rest =>
                  obtain ⟨rfl, d, hdn, hp1, hp2, hs1, hs2⟩ := hcut
                  have HDn := Lib.hid hdn
                  have HP := Lib.hid (And.intro hp1 hp2)
                  have HJ := Lib.hid hs1
                  have HD := Lib.hid hs2
                  clear hdn hp1 hp2 hs1 hs2 h1 h2 h3 h4 h5 hl1 hl2 HZ2 HZ3 HA2 HA3 HRr HI c0 c1 c2 c3 c4 c5 c6 c7 c8 c9 c10 c11 c12 c13 c14
                  obtain ⟨c0, c1, c2, c3, c4, c5, c6, c7, c8, c9, c10, c11, c12, c13, c14⟩ := HJ.out.box.1.conf
                  obtain ⟨e0, e1, e2, e3, e4, e5, e6, e7, e8, e9, e10, e11, e12, e13, e14⟩ := HD.out.box.conf
                  go_wp2_with fail
                  refine (ck_yes (HD.out.has HJ.out) HP.out.1).mono ?_
                  ·
                    rintro e w3 ⟨rfl, b⟩
                    clear c0 c1 c2 c3 c4 c5 c6 c7 c8 c9 c10 c11 c12 c13 c14
                    clear e0 e1 e2 e3 e4 e5 e6 e7 e8 e9 e10 e11 e12 e13 e14
                    have HI_3 := Lib.hid (HJ.out.under b)
                    have HD_3 := Lib.hid (HD.out.under b)
                    clear HJ HD
                    clear b
                    obtain ⟨c0, c1, c2, c3, c4, c5, c6, c7, c8, c9, c10, c11, c12, c13, c14⟩ := HI_3.out.box.1.conf
                    obtain ⟨e0, e1, e2, e3, e4, e5, e6, e7, e8, e9, e10, e11, e12, e13, e14⟩ := HD_3.out.box.conf
                    go_wp2_with fail
                    refine (same_yes HD_3.out.lies HI_3.out.has.lies HDn.out HP.out.2).mono ?_
                    ·
                      rintro e w4 ⟨rfl, b⟩
                      clear c0 c1 c2 c3 c4 c5 c6 c7 c8 c9 c10 c11 c12 c13 c14
                      clear e0 e1 e2 e3 e4 e5 e6 e7 e8 e9 e10 e11 e12 e13 e14
                      have HI_4 := Lib.hid (HI_3.out.under b)
                      have HD_4 := Lib.hid (HD_3.out.under b)
                      clear HI_3 HD_3
                      clear b
                      go_wp2_with fail
                      go_roundw
                      case rel => exact ⟨j + 1, by go_num, by omega, HI_4.out⟩
                      case measure => simp [intOf]; omega
      ·
        as_aux_lemma =>
          obtain rfl : j = 26 := by omega
          clear hlt hj
          obtain ⟨A1, u1, W1, A2, u2, W2, r1, r2, p1, f1, hI1, hD1⟩ := one_back H0.out HI.out (by have := HX.out; omega) (100 + n)
          obtain ⟨V1, hV1⟩ : ∃ V, W2.setCell ⟨wr.heap.size, 14, none⟩ (.slice A2 (x.n + 1) u2) = V := ⟨_, rfl⟩
          rw [hV1] at hI1 hD1
          obtain ⟨A3, u3, W3, r3, p3, f3, b3, hI2, hD2⟩ := one_front H0.out hI1 (by have := HX.out; omega) m
          obtain ⟨V2, hV2⟩ : ∃ V, W3.setCell ⟨V1.heap.size, 14, none⟩ (.slice A3 (1 + x.n) u3) = V := ⟨_, rfl⟩
          rw [hV2] at b3 hI2 hD2
          obtain ⟨p5, f5, b5, hI3, hD3⟩ := one_flip H0.out hI2
          obtain ⟨V3, hV3⟩ : ∃ V, (V2.alloc (.cells #[.int .i64 x.f0, .int .i64 x.f1, .int .i64 x.f2, .int .i64 x.f3, .int .i64 x.f4, .int .i64 x.f5, .int .i64 x.f6, .int .i64 x.f7, .int .i64 x.f8, .int .i64 x.f9, .int .i64 x.f10, .int .i64 x.f11, .int .i64 x.f12, .bool x.sk, .slice x.A x.n x.c] 24)).setCell ⟨V2.heap.size, 13, none⟩ (.bool (!x.sk)) = V := ⟨_, rfl⟩
          have hV3' : (V2.alloc (.cells x.cells 24)).setCell ⟨V2.heap.size, 13, none⟩ (.bool (!x.sk)) = V3 := hV3
          rw [hV3'] at b5 hI3 hD3
          clear hV3'
          have hE1 := (hD1.under b3).under b5
          have hE2 := hD2.under b5
          have ew1 : IntKind.i64.wrap (100 + n) = 100 + n := IntWalk.i64_in _ ⟨by have := HN.out; omega, by have := HN.out; omega⟩
          have hk1 := marks_bad x A2 (x.n + 1) u2 (z := 100 + n) (by have := HN.out; omega)
          have hk2 := marks_rise HM.out A3 (1 + x.n) u3 m
          have hk3 : er (may x.flip) = 0 := by rw [may_flip, HM.out]; rfl
          have hk4 := flip_not x
          have hk5 : x.flip.n ≤ 1000 := by show x.n ≤ 1000; have := HX.out; omega
          obtain ⟨Rb, hRb⟩ : ∃ R, may (x.marks A3 (1 + x.n) u3 (m :: x.ms)) = R := ⟨_, rfl⟩
          obtain ⟨v2, hv2⟩ : ∃ v, er Rb = v := ⟨_, rfl⟩
          have hq2 : (v2 == 0) = Rb := by rw [← hv2]; cases Rb <;> rfl
          have hm2 : er (may (x.marks A3 (1 + x.n) u3 (m :: x.ms))) = v2 := by rw [hRb, hv2]
          rw [hRb, HI.out.has.lies.len] at hk2
          obtain ⟨g1, hg1⟩ : ∃ d, x.marks A2 (x.n + 1) u2 (x.ms ++ [100 + n]) = d := ⟨_, rfl⟩
          obtain ⟨g2, hg2⟩ : ∃ d, x.marks A3 (1 + x.n) u3 (m :: x.ms) = d := ⟨_, rfl⟩
          obtain ⟨g3, hg3⟩ : ∃ d, x.flip = d := ⟨_, rfl⟩
          rw [hg1] at hE1 hk1
          rw [hg2] at hE2 hm2
          rw [hg3] at hD3 hk3 hk4 hk5
          have HRd := Lib.hid hI2.has.lies.rd
          obtain ⟨c0, c1, c2, c3, c4, c5, c6, c7, c8, c9, c10, c11, c12, c13, c14⟩ := HI.out.box.1.conf
          obtain ⟨e0, e1, e2, e3, e4, e5, e6, e7, e8, e9, e10, e11, e12, e13, e14⟩ := hI1.box.1.conf
          have l1 : ((wr.alloc (.cells #[.int .i64 x.f0, .int .i64 x.f1, .int .i64 x.f2, .int .i64 x.f3, .int .i64 x.f4, .int .i64 x.f5, .int .i64 x.f6, .int .i64 x.f7, .int .i64 x.f8, .int .i64 x.f9, .int .i64 x.f10, .int .i64 x.f11, .int .i64 x.f12, .bool x.sk, .slice x.A x.n x.c] 24)).alloc (.cells #[] 3)).cell? ⟨w.heap.size, 14, none⟩ = some (.slice x.A x.n x.c) := ((HI.out.box.1.alloc _).alloc _).cell 14
          have l2 : ((V1.alloc (.cells #[.int .i64 x.f0, .int .i64 x.f1, .int .i64 x.f2, .int .i64 x.f3, .int .i64 x.f4, .int .i64 x.f5, .int .i64 x.f6, .int .i64 x.f7, .int .i64 x.f8, .int .i64 x.f9, .int .i64 x.f10, .int .i64 x.f11, .int .i64 x.f12, .bool x.sk, .slice x.A x.n x.c] 24)).alloc (.cells #[.int .i64 m] 3)).cell? ⟨w.heap.size, 14, none⟩ = some (.slice x.A x.n x.c) := ((hI1.box.1.alloc _).alloc _).cell 14
          have l3 : (V2.alloc (.cells #[.int .i64 x.f0, .int .i64 x.f1, .int .i64 x.f2, .int .i64 x.f3, .int .i64 x.f4, .int .i64 x.f5, .int .i64 x.f6, .int .i64 x.f7, .int .i64 x.f8, .int .i64 x.f9, .int .i64 x.f10, .int .i64 x.f11, .int .i64 x.f12, .bool x.sk, .slice x.A x.n x.c] 24)).cell? ⟨w.heap.size, 13, none⟩ = some (.bool x.sk) := (hI2.box.1.alloc _).cell 13
          have HJ := Lib.hid hI3
          have HJ2 := Lib.hid hI2
          have HD1 := Lib.hid hE1
          have HD2 := Lib.hid hE2
          have HD3 := Lib.hid hD3
          have HR1 := Lib.hid r1
          have HR2 := Lib.hid r2
          have HR3 := Lib.hid r3
          have HK1 := Lib.hid hk1
          have HK2 := Lib.hid hk2
          have HK3 := Lib.hid hk3
          have HK4 := Lib.hid hk4
          have HK5 := Lib.hid hk5
          have HM2 := Lib.hid hm2
          have HL3 := Lib.hid (And.intro l3 (And.intro p5 (And.intro f5 hV3)))
          clear r1 r2 r3 hI1 hI2 hI3 hD1 hD2 hD3 hE1 hE2 b3 b5 hk1 hk2 hk3 hk4 hk5 hm2 hv2 hRb hg1 hg2 hg3 l3 p5 f5 hV3 HI
          go_upto_region 18 with (first | (at_builtin; refine wpList_app (by rfl) _ _ _ rfl _ _ _ _ rfl rfl HR1.out ?_; clear HR1) | (at_builtin; refine wpList_app (by rfl) _ _ _ rfl _ _ _ _ rfl rfl HR2.out ?_; clear HR2) | (at_builtin; refine wpList_app (by rfl) _ _ _ rfl _ _ _ _ rfl rfl HR3.out ?_; clear HR3))
          clear ew1 p1 f1 p3 f3 hV1 hV2 l1 l2 c0 c1 c2 c3 c4 c5 c6 c7 c8 c9 c10 c11 c12 c13 c14 e0 e1 e2 e3 e4 e5 e6 e7 e8 e9 e10 e11 e12 e13 e14
          go_cut [13] (fun s wx => s = .bool Rb ∧ wx = V2)
          case first =>
            as_aux_lemma =>
              obtain ⟨c0, c1, c2, c3, c4, c5, c6, c7, c8, c9, c10, c11, c12, c13, c14⟩ := HJ2.out.box.1.conf
              have HRb := HK2
              clear HJ HD1 HD2 HD3 HK1 HK2 HK3 HK4 HK5 HM2 HL3
              by_cases q1 : 1 ≤ m
              rotate_left
              · have q1' : decide (1 ≤ m) = false := decide_eq_false q1
                have hb : Rb = false := by rw [HRb.out, q1']; rfl
                clear q1
                go_wp2_with fail
                go_meet
                exact ⟨by rw [hb], rfl⟩
              have q1' : decide (1 ≤ m) = true := decide_eq_true q1
              by_cases q2 : m ≤ 100
              rotate_left
              · have q2' : decide (m ≤ 100) = false := decide_eq_false q2
                have hb : Rb = false := by rw [HRb.out, q1', q2']; rfl
                clear q1 q2
                go_wp2_with fail
                go_meet
                exact ⟨by rw [hb], rfl⟩
              have q2' : decide (m ≤ 100) = true := decide_eq_true q2
              by_cases q3 : x.n = 0
              · have q3' : ((x.n : Int) == 0) = true := by rw [beq_iff_eq]; omega
                have q4' : decide ((x.n : Int) < 4) = true := decide_eq_true (by omega)
                have hb : Rb = true := by rw [HRb.out, q1', q2', q3]; rfl
                clear q1 q2 q3
                go_wp2_with fail
                go_meet
                exact ⟨by rw [hb], rfl⟩
              have q3' : ((x.n : Int) == 0) = false := by rw [beq_eq_false_iff_ne]; omega
              have q3n : decide (x.n = 0) = false := decide_eq_false q3
              obtain ⟨b, off, hA, _, hcell⟩ := at_of (k := 0) HRd.out (by omega)
              rw [Nat.add_zero] at hcell
              rw [hA] at c14
              have hp : (0 : Int) < (x.n : Int) := by omega
              obtain ⟨z, hz⟩ : ∃ z, x.ms.getD 0 0 = z := ⟨_, rfl⟩
              rw [hz] at hcell
              have HRb2 := HRb.out
              rw [hz, q1', q2', q3n] at HRb2
              have HRc := Lib.hid HRb2
              clear hA HRb2 HRb q3n HRd hz q3
              by_cases q5 : m < z
              rotate_left
              · have q5' : decide (m < z) = false := decide_eq_false q5
                have hb : Rb = false := by rw [HRc.out, q5']; rfl
                clear q1 q2 q5
                go_wp2_with fail
                go_meet
                exact ⟨by rw [hb], rfl⟩
              have q5' : decide (m < z) = true := decide_eq_true q5
              by_cases q4 : x.n < 4
              · have q4' : decide ((x.n : Int) < 4) = true := decide_eq_true (by omega)
                have hb : Rb = true := by rw [HRc.out, q5', decide_eq_true q4]; rfl
                clear q1 q2 q5 q4
                go_wp2_with fail
                go_meet
                exact ⟨by rw [hb], rfl⟩
              · have q4' : decide ((x.n : Int) < 4) = false := decide_eq_false (by omega)
                have hb : Rb = false := by rw [HRc.out, q5', decide_eq_false q4]; rfl
                clear q1 q2 q5 q4
                go_wp2_with fail
                go_meet
                exact ⟨by rw [hb], rfl⟩
          case rest =>
            obtain ⟨rfl, rfl⟩ := hcut
            obtain ⟨c0, c1, c2, c3, c4, c5, c6, c7, c8, c9, c10, c11, c12, c13, c14⟩ := HJ2.out.box.1.conf
            obtain ⟨l3, p5, f5, hV3⟩ := HL3.out
            obtain ⟨e0, e1, e2, e3, e4, e5, e6, e7, e8, e9, e10, e11, e12, e13, e14⟩ := HD1.out.box.conf
            clear HJ2 HL3 HRd HK2
            go_wp2_with fail
            refine (ck_yes (HD1.out.has HJ.out) HK1.out).mono ?_
            as_aux_lemma =>
              rintro e w3 ⟨rfl, b⟩
              clear c0 c1 c2 c3 c4 c5 c6 c7 c8 c9 c10 c11 c12 c13 c14
              clear e0 e1 e2 e3 e4 e5 e6 e7 e8 e9 e10 e11 e12 e13 e14
              clear l3 p5 f5 hV3
              clear HD1
              have HI_3 := Lib.hid (HJ.out.under b)
              have HD2_3 := Lib.hid (HD2.out.under b)
              have HD3_3 := Lib.hid (HD3.out.under b)
              clear HJ HD2 HD3
              clear b
              obtain ⟨e0, e1, e2, e3, e4, e5, e6, e7, e8, e9, e10, e11, e12, e13, e14⟩ := HD2_3.out.box.conf
              go_wp2_with fail
              refine (ck_yes (HD2_3.out.has HI_3.out) HM2.out).mono ?_
              as_aux_lemma =>
                rintro e w4 ⟨rfl, b⟩
                clear e0 e1 e2 e3 e4 e5 e6 e7 e8 e9 e10 e11 e12 e13 e14
                clear HD2_3
                have HI_4 := Lib.hid (HI_3.out.under b)
                have HD3_4 := Lib.hid (HD3_3.out.under b)
                clear HI_3 HD3_3
                clear b
                obtain ⟨e0, e1, e2, e3, e4, e5, e6, e7, e8, e9, e10, e11, e12, e13, e14⟩ := HD3_4.out.box.conf
                go_wp2_with fail
                refine (ck_yes (HD3_4.out.has HI_4.out) HK3.out).mono ?_
                as_aux_lemma =>
                  rintro e w5 ⟨rfl, b⟩
                  clear e0 e1 e2 e3 e4 e5 e6 e7 e8 e9 e10 e11 e12 e13 e14
                  have HI_5 := Lib.hid (HI_4.out.under b)
                  have HD3_5 := Lib.hid (HD3_4.out.under b)
                  clear HI_4 HD3_4
                  clear b
                  obtain ⟨e0, e1, e2, e3, e4, e5, e6, e7, e8, e9, e10, e11, e12, e13, e14⟩ := HD3_5.out.box.conf
                  obtain ⟨c0, c1, c2, c3, c4, c5, c6, c7, c8, c9, c10, c11, c12, c13, c14⟩ := HI_5.out.box.1.conf
                  go_wp2_with fail
                  refine (same_yes HD3_5.out.lies HI_5.out.has.lies HK5.out HK4.out).mono ?_
                  as_aux_lemma =>
                    rintro e w6 ⟨rfl, b⟩
                    clear e0 e1 e2 e3 e4 e5 e6 e7 e8 e9 e10 e11 e12 e13 e14
                    clear c0 c1 c2 c3 c4 c5 c6 c7 c8 c9 c10 c11 c12 c13 c14
                    clear HD3_5
                    have HI_6 := Lib.hid (HI_5.out.under b)
                    clear HI_5
                    clear b
                    obtain ⟨c0, c1, c2, c3, c4, c5, c6, c7, c8, c9, c10, c11, c12, c13, c14⟩ := HI_6.out.box.1.conf
                    go_wp2_with fail
                    refine (same_yes HI_6.out.has.lies HI_6.out.has.lies (by have := HX.out; omega) (sameC_refl x)).mono ?_
                    as_aux_lemma =>
                      rintro e w7 ⟨rfl, b⟩
                      clear c0 c1 c2 c3 c4 c5 c6 c7 c8 c9 c10 c11 c12 c13 c14
                      have HI_7 := Lib.hid (HI_6.out.under b)
                      clear HI_6
                      clear b
                      go_wp2_with fail
                      refine (wakes_any _ HI_7.out.tab).mono ?_
                      as_aux_lemma =>
                        rintro e w8 ⟨rfl, b⟩
                        have HI_8 := Lib.hid (HI_7.out.under b)
                        clear HI_7
                        clear b
                        go_wp2_with fail
                        go_ret
                        exact ⟨rfl, HI_8.out.box.2⟩


end Go.Proofs.YtdjieigmncoooaaDoor
