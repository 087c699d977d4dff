/-
  The walk of 'first' of package frame: the frame that bytes begin with. Conditions: those that each theorem names.
-/
import Derived.Test.YtocleikdabclkaaFrPut
import Derived.Test.YtocleikdabclkaaBytesEqual
namespace Go.Proofs.Ytocleikdabclkaa
open Go.RowKit Go.Shelf

theorem take_any (A : Option Addr) (n c : Nat) (bs : List Nat) (B : Nat) (w : World) (hr : Rd w B A n (bv bs)) (hB : B ≤ w.heap.size) (hb : ∀ x ∈ bs, x < 256) (hn : n ≤ 140737488355328) (hc : n ≤ c) :
    Calls Try.prog 35 #[.slice A n c] w (TakePost bs w) := by
  by_cases h : (first bs).2.2 = 0
  · exact take_ok A n c bs B w hr hB hb hn hc h
  · exact take_err A n c bs B w hr hB hb (by unfold maxLen; omega) h

theorem Rd.mid {w : World} {B n : Nat} {A A' : Option Addr} {bs : List Nat} {i q : Nat} (h : Rd w B A n (bv bs)) (hj : i + q ≤ n) (hA : i < i + q → ∀ b off, A = some ⟨b, off, none⟩ → A' = some ⟨b, off + i, none⟩) : Rd w B A' q (bv ((bs.drop i).take q)) := by
  have hl : bs.length = n := by have := h.1; rwa [bv_length] at this
  refine ⟨by rw [bv_length, List.length_take, List.length_drop]; omega, fun hq => ?_⟩
  obtain ⟨b, off, e, hb, hc⟩ := h.2 (by omega)
  refine ⟨b, off + i, hA (by omega) b off e, hb, fun j hj' => ?_⟩
  rw [Nat.add_assoc, hc (i + j) (by omega)]
  simp only [bv, List.getElem?_map, List.getElem?_take, List.getElem?_drop]
  rw [if_pos hj']

/-- What 'first' answers if there is no frame; and if there is one. -/
def FirstNo (w : World) (e : Ending) (w' : World) : Prop := e = .returned (.agg #[.slice none 0 0, .int .i64 0]) ∧ Below w.heap.size w w'
def FirstYes (p : List Nat) (B : Nat) (w : World) (e : Ending) (w' : World) : Prop :=
  ∃ A c, e = .returned (.agg #[.slice A p.length c, .int .i64 (frLen p.length : Int)]) ∧ Rd w B A p.length (bv p) ∧ Below w.heap.size w w'

/-- Where the run stands at the label. -/
def NoneAt (w : World) (bs : List Nat) (A : Option Addr) (n c : Nat) (a' : Act) (w' : World) : Prop :=
  ∃ u3 u4 u5 u6 u7 u8 u9 u10 u11 u12 u13 u14 u15 u16 u17 u18 u19 u20 u21 u22 u23 u24 u25 u26 u27 u28 u29 u30 u31 u32 u33 u34 u35 u36 u37 u38 u39 u40 u41 u42 u43 u44 u45 u46 u47 u48 u49 u50 u51 u52 u53 u54 : Value, a' = { tmps := #[.slice A n c, undef, .pointer (some ⟨w.heap.size, 0, none⟩), u3, u4, u5, u6, u7, u8, u9, u10, u11, u12, u13, u14, u15, u16, u17, u18, u19, u20, u21, u22, u23, u24, u25, u26, u27, u28, u29, u30, u31, u32, u33, u34, u35, u36, u37, u38, u39, u40, u41, u42, u43, u44, u45, u46, u47, u48, u49, u50, u51, u52, u53, u54], defers := [] } ∧
    (∀ p, ¬ IsFr bs p) ∧ Whole w' w.heap.size 48 #[.slice none 0 0, .int .i64 0] ∧ Below w.heap.size w w'

def FirstIs (bs : List Nat) (B : Nat) (w : World) (e : Ending) (w' : World) : Prop :=
  ((∀ p, ¬ IsFr bs p) ∧ FirstNo w e w') ∨ ∃ p, IsFr bs p ∧ FirstYes p B w e w'

set_option maxRecDepth 100000 in
set_option maxHeartbeats 1000000 in
theorem frFirst_any (A : Option Addr) (n c : Nat) (bs : List Nat) (B : Nat) (w : World) (hr : Rd w B A n (bv bs)) (hB : B ≤ w.heap.size) (hb : ∀ x ∈ bs, x < 256) (hn : n ≤ 1000000) (hc : n ≤ c) :
    Calls Try.prog 25 #[.slice A n c] w (FirstIs bs B w) := by
  have hl : bs.length = n := by have := hr.1; rwa [bv_length] at this
  obtain ⟨N, K, E, hF⟩ : ∃ N K E, first (bs.take 2) = (N, K, E) := ⟨_, _, _, rfl⟩
  obtain ⟨m, hm2⟩ : ∃ m, min 2 n = m := ⟨_, rfl⟩
  have hR2 : Rd w w.heap.size A m (bv (bs.take 2)) := by
    have h := (hr.more hB).take (k := m) (by omega)
    have e : bs.take m = bs.take 2 := by
      rw [← hm2]
      rcases Nat.le_total 2 n with h2 | h2
      · rw [Nat.min_eq_left h2]
      · rw [Nat.min_eq_right h2, List.take_of_length_le (by omega), List.take_of_length_le (by omega)]
    rw [bv, ← List.map_take, e] at h
    exact h
  have HT := Lib.hid (fun (W : World) (hW : Below w.heap.size w W) => take_any A m c (bs.take 2) w.heap.size W (hR2.below hW) hW.size (fun x hx => hb x (List.mem_of_mem_take hx)) (by omega) (by omega))
  unfold TakePost at HT
  rw [hF] at HT
  have hH1 := run_head A n c m (by omega)
  have HF := Lib.hid hF
  have HR := Lib.hid (hr.more hB)
  have HR0 := Lib.hid hr
  have HB1 := Lib.hid hB
  have HBy := Lib.hid hb
  have HL := Lib.hid hl
  have HX := Lib.hid ((Whole.new w 48 #[.slice none 0 0, .int .i64 0]).alloc (.cells #[.slice none 0 0, .int .i64 0] 48))
  have HY : Hid (Whole ((w.alloc (.cells #[.slice none 0 0, .int .i64 0] 48)).alloc (.cells #[.slice none 0 0, .int .i64 0] 48)) (w.heap.size + 1) 48 #[.slice none 0 0, .int .i64 0]) := by
    have h := Whole.new (w.alloc (.cells #[.slice none 0 0, .int .i64 0] 48)) 48 #[.slice none 0 0, .int .i64 0]
    rw [World.size_alloc] at h
    exact Lib.hid h
  have HB0 := Lib.hid (((Below.refl _ w).alloc (Nat.le_refl _) (.cells #[.slice none 0 0, .int .i64 0] 48)).alloc (by simp) (.cells #[.slice none 0 0, .int .i64 0] 48))
  have hmin : (if (n : Int) < 2 then (n : Int) else 2) = (m : Int) := by split <;> omega
  clear hr hB hb hl hF hm2 hR2
  go_enter Try.func25, Try.ntmps25
  go_wp2_with fail
  refine wp_scope_fwd 0 (NoneAt w bs A n c) rfl ?first ?tail
  case tail =>
    rintro a' w' ⟨u3, u4, u5, u6, u7, u8, u9, u10, u11, u12, u13, u14, u15, u16, u17, u18, u19, u20, u21, u22, u23, u24, u25, u26, u27, u28, u29, u30, u31, u32, u33, u34, u35, u36, u37, u38, u39, u40, u41, u42, u43, u44, u45, u46, u47, u48, u49, u50, u51, u52, u53, u54, rfl, hno, hx, hb⟩
    have x0 := hx.cell 0
    have x1 := hx.cell 1
    simp only [List.getElem?_toArray, List.getElem?_cons_zero, List.getElem?_cons_succ] at x0 x1
    have f0 := hx.frozen 0
    have f1 := hx.frozen 1
    have HNo := Lib.hid hno
    have HB := Lib.hid hb
    have HX2 := Lib.hid ((hx.set 0 (.slice none 0 0)).set 1 (.int .i64 0))
    clear hno hb hx
    go_wp2_with fail
    simp only [Exit.jump]
    have p0 := HX2.out.cell 0
    have p1 := HX2.out.cell 1
    simp at p0 p1
    refine bodyPost_ret (v := .agg #[.slice none 0 0, .int .i64 0]) (by simp [results, Try.results25, go_sem, p0, p1]) rfl (.inl ⟨HNo.out, rfl, ?_⟩)
    exact (HB.out.setCell (p := ⟨w.heap.size, 0, none⟩) (Nat.le_refl _) _).setCell (p := ⟨w.heap.size, 1, none⟩) (Nat.le_refl _) _
  case first =>
    go_wp2_with fail
    refine (HT.out _ HB0.out).mono ?_
    rintro e w1 ⟨A1, c1, rfl, hI⟩
    have X1 := Lib.hid (HX.out.under hI.2.1)
    have Y1 := Lib.hid (HY.out.under hI.2.1)
    have B1 := Lib.hid (HB0.out.trans (hI.2.1.mono HB0.out.size))
    clear hI HT HX HY
    by_cases hE : E = 0
    · subst hE
      by_cases hN : N ≤ 4000
      · by_cases hlen : frLen N ≤ n
        · have hK := first_ok (bs := bs.take 2) (fun x hx => HBy.out x (List.mem_of_mem_take hx)) (by rw [HF.out])
          rw [HF.out] at hK
          simp only at hK
          obtain ⟨hK1, hK2, _⟩ := hK
          have hP2 := put_two hN
          have hput : put N = bs.take (put N).length := by
            have h1 : (bs.take 2).take (put N).length = put N := by conv => lhs; rw [hK1]; rw [List.take_left]
            rw [List.take_take, Nat.min_eq_left hP2] at h1
            exact h1.symm
          have hnot : ∀ p, IsFr bs p → N = p.length := fun p hp => by
            have h1 := isFr_first hp 2 (Nat.le_refl _)
            rw [HF.out] at h1
            simp only [Prod.mk.injEq] at h1
            exact h1.1
          obtain ⟨P, hP⟩ : ∃ P, (put N).length = P := ⟨_, rfl⟩
          obtain ⟨F, hFr⟩ : ∃ F, frLen N = F := ⟨_, rfl⟩
          have hF0 : F = P + N + 4 := by rw [← hFr, ← hP]; rfl
          rw [hFr] at hlen
          obtain ⟨p, hp⟩ : ∃ p, (bs.drop P).take N = p := ⟨_, rfl⟩
          obtain ⟨s, hs⟩ : ∃ s, (bs.drop (P + N)).take 4 = s := ⟨_, rfl⟩
          have hpl : p.length = N := by rw [← hp, List.length_take, List.length_drop, HL.out]; omega
          obtain ⟨A2, hA1, hA2⟩ := run_mid A n c P (P + N) (by omega) (by omega) hc
          obtain ⟨A3, hA3, hA4⟩ := run_mid A n c (P + N) F (by omega) (by omega) hc
          rw [show P + N - P = N by omega] at hA1
          rw [show F - (P + N) = 4 by omega] at hA3
          rw [show ((P + N : Nat) : Int) = (F : Int) - 4 by omega] at hA1 hA3
          have HRp : Hid (Rd w B A2 N (bv p)) := by rw [← hp]; exact HR0.out.mid (by omega) hA2
          have HRs : Hid (Rd w w.heap.size A3 4 (bv s)) := by rw [← hs]; exact HR.out.mid (by omega) (fun h => hA4 (by omega))
          have HPb : Hid (∀ x ∈ p, x < 256) := fun x hx => HBy.out x (List.mem_of_mem_drop (List.mem_of_mem_take (hp ▸ hx)))
          have HSb : Hid (∀ x ∈ s, x < 256) := fun x hx => HBy.out x (List.mem_of_mem_drop (List.mem_of_mem_take (hs ▸ hx)))
          have HYes : Hid (le4 (sumOf p) = s → IsFr bs p) := fun e => isFr_of hN hput (by rw [hFr, HL.out]; exact hlen) (by rw [hP]; exact hp) (by rw [hP, hs, e])
          have HNot : Hid (le4 (sumOf p) ≠ s → ∀ q, ¬ IsFr bs q) := fun e q hq => by
            obtain ⟨h1, h2, _⟩ := hq.lies
            rw [← hnot q hq, hP] at h1 h2
            rw [hp] at h1
            rw [hs, ← h1] at h2
            exact e h2.symm
          have HLong := Lib.hid (frLong_yes N hN)
          have HLn := Lib.hid (long_yes N (by omega))
          rw [hFr] at HLong
          rw [hP] at HLn
          have hle : ¬ (n : Int) < (F : Int) := by omega
          have hle2 : decide ((n : Int) < (F : Int)) = false := decide_eq_false hle
          have HPL := Lib.hid hpl
          have HFr := Lib.hid hFr
          have hFb : (F : Int) ≤ 4006 := by omega
          have hFb2 : (4 : Int) ≤ (F : Int) := by omega
          have hwr : IntKind.i64.wrap ((F : Int) - 4) = (F : Int) - 4 := by rw [IntKind.wrap_i64]; omega
          have HA2 := Lib.hid hA1
          have HA3 := Lib.hid hA3
          clear hK1 hK2 hput hnot hp hs hpl hFr hF0 hlen hA1 hA2 hA3 hA4 hP HF
          have hNi : ¬ (4000 : Int) < (N : Int) := by omega
          go_wp2_with fail
          refine (HLong.out _).mono ?_
          rintro e w2 ⟨rfl, b2⟩
          have X2 := Lib.hid (X1.out.under b2)
          have Y2 := Lib.hid (Y1.out.under b2)
          have B2 := Lib.hid (B1.out.trans (b2.mono B1.out.size))
          clear b2 X1 Y1 B1
          go_wp2_with fail
          refine (HLong.out _).mono ?_
          rintro e w3 ⟨rfl, b3⟩
          have X3 := Lib.hid (X2.out.under b3)
          have Y3 := Lib.hid (Y2.out.under b3)
          have B3 := Lib.hid (B2.out.trans (b3.mono B2.out.size))
          have f1 := Y3.out.frozen 1
          have y1 := Y3.out.cell 1
          simp only [List.getElem?_toArray, List.getElem?_cons_zero, List.getElem?_cons_succ] at y1
          clear b3 X2 Y2 B2
          go_wp2_with fail
          have X4 := Lib.hid (X3.out.far (p := ⟨w.heap.size + 1, 1, none⟩) (by simp) (.int .i64 (F : Int)))
          have hy4 := Y3.out.set 1 (.int .i64 (F : Int))
          simp only [List.setIfInBounds_toArray, List.set_cons_zero, List.set_cons_succ] at hy4
          have Y4 := Lib.hid hy4
          have B4 := Lib.hid (B3.out.setCell (p := ⟨w.heap.size + 1, 1, none⟩) (Nat.le_succ _) (.int .i64 (F : Int)))
          clear hy4 f1 y1 X3 Y3 B3
          generalize w3.setCell ⟨w.heap.size + 1, 1, none⟩ (.int .i64 (F : Int)) = W4 at X4 Y4 B4 ⊢
          have y0 := Y4.out.cell 0
          have y1 := Y4.out.cell 1
          have f0 := Y4.out.frozen 0
          simp only [List.getElem?_toArray, List.getElem?_cons_zero, List.getElem?_cons_succ] at y0 y1
          have hA1 := HA2.out
          have hne : (⟨w.heap.size + 1, 0, none⟩ : Addr) ≠ ⟨w.heap.size + 1, 1, none⟩ := by simp
          clear HLong
          go_region_held3 (fun W => W.cell? ⟨w.heap.size + 1, 1, none⟩ = some (.int .i64 (F : Int))) (first | (with_reducible exact S6.out) | (with_reducible exact S5.out) | go_keep)
            (first | (go_at_call 30; refine (HLn.out _).mono ?_; rintro e w5 ⟨rfl, b5, _⟩; have B5 := Lib.hid b5; have X5 := Lib.hid (Whole.under (w := W4.drew) X4.out b5); have Y5 := Lib.hid (Whole.under (w := W4.drew) Y4.out b5); have S5 := Lib.hid (Y5.out.cell 1); have q0 := Y5.out.cell 0; have f5 := Y5.out.frozen 0; simp only [List.getElem?_toArray, List.getElem?_cons_zero, List.getElem?_cons_succ] at q0 S5; have S6 := Lib.hid ((World.cell?_setCell_other w5 ⟨w.heap.size + 1, 0, none⟩ ⟨w.heap.size + 1, 1, none⟩ (.slice A2 N (c - P)) hne).trans S5.out); clear b5))
          have X6 := Lib.hid (X5.out.far (p := ⟨w.heap.size + 1, 0, none⟩) (by simp) (.slice A2 N (c - P)))
          have hy6 := Y5.out.set 0 (.slice A2 N (c - P))
          simp only [List.setIfInBounds_toArray, List.set_cons_zero] at hy6
          have Y6 := Lib.hid hy6
          have B6 := Lib.hid ((B4.out.drew.trans (B5.out.mono B4.out.size)).setCell (p := ⟨w.heap.size + 1, 0, none⟩) (Nat.le_succ _) (.slice A2 N (c - P)))
          clear hy6 f5 q0 S5 S6 X5 Y5 B5 f0 y0 y1 X4 Y4 B4 hA1 HA2 HLn hne
          rename_i hHeld
          clear hHeld
          generalize w5.setCell ⟨w.heap.size + 1, 0, none⟩ (.slice A2 N (c - P)) = W6 at X6 Y6 B6 ⊢
          have z0 := Y6.out.cell 0
          have z1 := Y6.out.cell 1
          simp only [List.getElem?_toArray, List.getElem?_cons_zero, List.getElem?_cons_succ] at z0 z1
          have hA3 := HA3.out
          have HSum := Lib.hid (fun (W : World) (hW : Below W6.drew.heap.size W6.drew W) => sumBytes_any A2 N (c - P) p w.heap.size W (((HRp.out.more HB1.out).below B6.out.drew).below (hW.mono B6.out.size)) (Nat.le_trans B6.out.size hW.size) HPb.out (by omega))
          by_cases heq : le4 (sumOf p) = s
          · have HDec := Lib.hid (decide_eq_true heq)
            have HY := Lib.hid (HYes.out heq)
            clear heq
            go_wp2_with fail
            go_region_held3 (fun W => W.cell? ⟨w.heap.size + 1, 0, none⟩ = some (.slice A2 N (c - P)) ∧ W.cell? ⟨w.heap.size + 1, 1, none⟩ = some (.int .i64 (F : Int))) (first | (with_reducible exact S7.out) | go_keep)
              (first | (go_at_call 23; refine (HSum.out _ (Below.refl _ _)).mono ?_; rintro e w7 ⟨A7, c7, rfl, o7, b7⟩; have B7 := Lib.hid b7; have X7 := Lib.hid (Whole.under (w := W6.drew) X6.out b7); have Y7 := Lib.hid (Whole.under (w := W6.drew) Y6.out b7); have S7 := Lib.hid (And.intro (Y7.out.cell 0) (Y7.out.cell 1)); simp only [List.getElem?_toArray, List.getElem?_cons_zero, List.getElem?_cons_succ] at S7; have HEq := Lib.hid (equalB_any A7 A3 4 c7 4 (c - (P + N)) (le4 (sumOf p)) s w7.heap.size w7 (Rd.of_own o7) ((HRs.out.below (B6.out.drew.trans (b7.mono B6.out.size))).more (Nat.le_trans B6.out.size b7.size)) (le4_bytes _) HSb.out); rw [HDec.out] at HEq; clear b7 o7) | (go_at_call 36; refine (HEq.out).mono ?_; rintro e w8 ⟨rfl, rfl⟩))
            obtain ⟨s0, s1⟩ := S7.out
            have r0 := X7.out.cell 0
            have r1 := X7.out.cell 1
            have g0 := X7.out.frozen 0
            have g1 := X7.out.frozen 1
            simp only [List.getElem?_toArray, List.getElem?_cons_zero, List.getElem?_cons_succ] at r0 r1
            have HX8 := Lib.hid ((X7.out.set 0 (.slice A2 N (c - P))).set 1 (.int .i64 (F : Int)))
            have HB8 := Lib.hid (((B6.out.drew.trans (B7.out.mono B6.out.size)).setCell (p := ⟨w.heap.size, 0, none⟩) (Nat.le_refl _) (.slice A2 N (c - P))).setCell (p := ⟨w.heap.size, 1, none⟩) (Nat.le_refl _) (.int .i64 (F : Int)))
            go_wp2_with fail
            simp only [Exit.jump]
            have p0 := HX8.out.cell 0
            have p1 := HX8.out.cell 1
            simp at p0 p1
            refine bodyPost_ret (v := .agg #[.slice A2 N (c - P), .int .i64 (F : Int)]) (by simp [results, Try.results25, go_sem, p0, p1]) rfl (.inr ⟨p, HY.out, A2, c - P, by rw [HPL.out, HFr.out], ?_, HB8.out⟩)
            rw [HPL.out]; exact HRp.out
          · have HDec := Lib.hid (decide_eq_false heq)
            have HN := Lib.hid (HNot.out heq)
            clear heq
            go_wp2_with fail
            go_region_held3 (fun W => W.cell? ⟨w.heap.size + 1, 0, none⟩ = some (.slice A2 N (c - P)) ∧ W.cell? ⟨w.heap.size + 1, 1, none⟩ = some (.int .i64 (F : Int))) (first | (with_reducible exact S7.out) | go_keep)
              (first | (go_at_call 23; refine (HSum.out _ (Below.refl _ _)).mono ?_; rintro e w7 ⟨A7, c7, rfl, o7, b7⟩; have B7 := Lib.hid b7; have X7 := Lib.hid (Whole.under (w := W6.drew) X6.out b7); have Y7 := Lib.hid (Whole.under (w := W6.drew) Y6.out b7); have S7 := Lib.hid (And.intro (Y7.out.cell 0) (Y7.out.cell 1)); simp only [List.getElem?_toArray, List.getElem?_cons_zero, List.getElem?_cons_succ] at S7; have HEq := Lib.hid (equalB_any A7 A3 4 c7 4 (c - (P + N)) (le4 (sumOf p)) s w7.heap.size w7 (Rd.of_own o7) ((HRs.out.below (B6.out.drew.trans (b7.mono B6.out.size))).more (Nat.le_trans B6.out.size b7.size)) (le4_bytes _) HSb.out); rw [HDec.out] at HEq; clear b7 o7) | (go_at_call 36; refine (HEq.out).mono ?_; rintro e w8 ⟨rfl, rfl⟩))
            go_wp2_with fail
            go_step3
            exact ⟨rfl, _, _, _, _, _, _, _, _, _, _, _, _, _, _, _, _, _, _, _, _, _, _, _, _, _, _, _, _, _, _, _, _, _, _, _, _, _, _, _, _, _, _, _, _, _, _, _, _, _, _, _, _, rfl, HN.out, X7.out, B6.out.drew.trans (B7.out.mono B6.out.size)⟩
        · have HLong := Lib.hid (frLong_yes N hN)
          have hgt : (n : Int) < (frLen N : Int) := by omega
          have hno : ∀ p, ¬ IsFr bs p := fun p hp => by
            have h1 := isFr_first hp 2 (Nat.le_refl _)
            rw [HF.out] at h1
            simp only [Prod.mk.injEq] at h1
            have h2 := hp.le
            rw [HL.out, ← h1.1] at h2
            omega
          have HNo := Lib.hid hno
          clear hno hlen
          go_wp2_with fail
          refine (HLong.out _).mono ?_
          rintro e w2 ⟨rfl, b2⟩
          have X2 := Lib.hid (X1.out.under b2)
          have B2 := Lib.hid (B1.out.trans (b2.mono B1.out.size))
          clear b2
          go_wp2_with fail
          go_step3
          exact ⟨rfl, _, _, _, _, _, _, _, _, _, _, _, _, _, _, _, _, _, _, _, _, _, _, _, _, _, _, _, _, _, _, _, _, _, _, _, _, _, _, _, _, _, _, _, _, _, _, _, _, _, _, _, _, rfl, HNo.out, X2.out, B2.out⟩
      · have hgt : (4000 : Int) < (N : Int) := by omega
        have hno : ∀ p, ¬ IsFr bs p := fun p hp => by
          have h1 := isFr_first hp 2 (Nat.le_refl _)
          rw [HF.out] at h1
          simp only [Prod.mk.injEq] at h1
          have h2 := hp.1
          omega
        have HNo := Lib.hid hno
        clear hno hN
        go_wp2_with fail
        go_step3
        exact ⟨rfl, _, _, _, _, _, _, _, _, _, _, _, _, _, _, _, _, _, _, _, _, _, _, _, _, _, _, _, _, _, _, _, _, _, _, _, _, _, _, _, _, _, _, _, _, _, _, _, _, _, _, _, _, rfl, HNo.out, X1.out, B1.out⟩
    · have hEb : ((E : Int) != 0) = true := by simp; exact hE
      have hno : ∀ p, ¬ IsFr bs p := fun p hp => by
        have h1 := isFr_first hp 2 (Nat.le_refl _)
        rw [HF.out] at h1
        simp only [Prod.mk.injEq] at h1
        exact hE h1.2.2
      have HNo := Lib.hid hno
      clear hno hE
      go_wp2_with fail
      go_step3
      exact ⟨rfl, _, _, _, _, _, _, _, _, _, _, _, _, _, _, _, _, _, _, _, _, _, _, _, _, _, _, _, _, _, _, _, _, _, _, _, _, _, _, _, _, _, _, _, _, _, _, _, _, _, _, _, _, rfl, HNo.out, X1.out, B1.out⟩

end Go.Proofs.Ytocleikdabclkaa
