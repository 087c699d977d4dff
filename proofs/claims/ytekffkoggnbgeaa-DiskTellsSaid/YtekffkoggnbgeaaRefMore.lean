/-
  The document's own answers for package disk (herdref03): 'Append', 'Swap'. Conditions: those that each theorem names.
-/
import Derived.Test.YtekffkoggnbgeaaRefRest
namespace Go.Proofs.Ytekffkoggnbgeaa
open Go.RowKit Go.Shelf

section
variable (A : Option Addr) (n c : Nat) (s r : Int) (bs : List Nat) (Ab : Option Addr) (nb cb : Nat) (b : List Nat) (w : World) (hr : Rd w w.heap.size A n (bv bs)) (hc : n ≤ c) (hnm : n ≤ 500000) (hby : ∀ x ∈ bs, x < 256) {ob : List Nat} {K S R : Nat} (hD : cnt bs s r = ⟨ob, S, R⟩) (hK : ob.length = K) (hrb : Rd w w.heap.size Ab nb (bv b)) (hnb : nb ≤ 100000)
include hr hc hnm hby hD hK hrb hnb

set_option maxRecDepth 100000 in
set_option maxHeartbeats 1000000 in
theorem refAppend_full (hf : ¬ K + nb ≤ R) : Calls Try.prog 11 #[diskV A n c s r, .slice Ab nb cb] w (DiskNE K ob S R 30 w) := by
  have hok : (⟨ob, S, R⟩ : Dk).Ok := by have h := cnt_ok s r hby; rwa [hD] at h
  have hlen : S ≤ K ∧ K ≤ R ∧ R ≤ 65536 := by have h1 := hok.syn; have h2 := hok.len; have h3 := hok.room; simp only at h1 h2 h3; omega
  obtain ⟨hl1, hl2, hl3⟩ := hlen
  have HOK := Lib.hid hok
  have HK := Lib.hid hK
  have HRB := Lib.hid hrb
  have HO := refOwn_hid A n c s r bs w hr hc hnm hD hK
  have X1 := Lib.hid ((Whole.new w 24 #[.slice A n c, .int .i64 s, .int .i64 r]).alloc zeroB)
  have Y1 := Lib.hid (by have := Whole.new (w.alloc (diskB A n c s r)) 24 #[.slice none 0 0, .int .i64 0, .int .i64 0]; simpa using this : Whole ((w.alloc (diskB A n c s r)).alloc zeroB) (w.heap.size + 1) 24 #[.slice none 0 0, .int .i64 0, .int .i64 0])
  have B1 := Lib.hid (((Below.refl w.heap.size w).alloc (Nat.le_refl _) (diskB A n c s r)).alloc (by simp) zeroB)
  clear hr hc hnm hD hK hby hok hrb
  go_enter Try.func11, Try.ntmps11
  go_wp2_with fail
  refine (HO.out _ B1.out).mono ?_
  rintro e w1 ⟨A5, c5, rfl, o5, b5⟩
  have X5 := X1.out.under b5
  have Y5 := Y1.out.under b5
  obtain ⟨x0, x1, x2⟩ := X5.cells3
  have e0 := X5.frozen 0
  have e1 := X5.frozen 1
  have e2 := X5.frozen 2
  obtain ⟨W6, hW6⟩ : ∃ W, setDisk w1 w.heap.size (.slice A5 K c5) (.int .i64 S) (.int .i64 R) = W := ⟨_, rfl⟩
  have X6 := Lib.hid (show Whole W6 w.heap.size 24 #[.slice A5 K c5, .int .i64 S, .int .i64 R] by rw [← hW6]; exact X5.disk _ _ _)
  have Y6 := Lib.hid (show Whole W6 (w.heap.size + 1) 24 #[.slice none 0 0, .int .i64 0, .int .i64 0] by rw [← hW6]; exact Y5.farDisk (by omega) _ _ _)
  have O6 := Lib.hid (show W6.ownsRow (w.heap.size + 2) 5 1 (.slice A5 K c5) K (bv ob) by rw [← hW6]; exact own_setDisk (own_weaker o5 (by simp)) (by omega) _ _ _)
  have B6 := Lib.hid (show Below w.heap.size w W6 by rw [← hW6]; exact below_setDisk (B1.out.trans (b5.mono B1.out.size)) (Nat.le_refl _) _ _ _)
  have HW6 := Lib.hid (show ((w1.setCell ⟨w.heap.size, 0, none⟩ (.slice A5 K c5)).setCell ⟨w.heap.size, 1, none⟩ (.int .i64 S)).setCell ⟨w.heap.size, 2, none⟩ (.int .i64 R) = W6 from hW6)
  have lw6 : w.heap.size < W6.heap.size := X6.out.lt
  have C5 := own_cap O6.out
  clear o5 b5 X5 Y5 hW6
  have HF := Lib.hid (refFree_any A5 K c5 S R ob W6 (Rd.of_own O6.out) C5 (by omega) (cnt_self HOK.out) HK.out)
  go_wp2_with (rw [HW6.out]; clear x0 x1 x2 e0 e1 e2; obtain ⟨x0, x1, x2⟩ := X6.out.cells3; have e0 := X6.out.frozen 0; have e1 := X6.out.frozen 1; have e2 := X6.out.frozen 2; obtain ⟨y0, y1, y2⟩ := Y6.out.cells3; have f0 := Y6.out.frozen 0; have f1 := Y6.out.frozen 1; have f2 := Y6.out.frozen 2)
  refine (HF.out).mono ?_
  rintro e w7 ⟨rfl, b7⟩
  have X7 := Lib.hid (X6.out.under b7)
  have Y7 := Lib.hid (Y6.out.under b7)
  have O7 := Lib.hid (own_under O6.out b7)
  have B7 := Lib.hid (B6.out.trans (b7.mono B6.out.size))
  have lw7 : w.heap.size + 1 < w7.heap.size := Y7.out.lt
  clear x0 x1 x2 e0 e1 e2 y0 y1 y2 f0 f1 f2 b7
  obtain ⟨x0, x1, x2⟩ := X7.out.cells3
  have e0 := X7.out.frozen 0
  have e1 := X7.out.frozen 1
  have e2 := X7.out.frozen 2
  obtain ⟨y0, y1, y2⟩ := Y7.out.cells3
  have f0 := Y7.out.frozen 0
  have f1 := Y7.out.frozen 1
  have f2 := Y7.out.frozen 2
  have d1 : decide ((R : Int) - (K : Int) < (nb : Int)) = true := by simp; omega
  have d2 : (R : Int) - (K : Int) < (nb : Int) := by omega
  go_wp2_with fail
  obtain ⟨p0, p1, p2⟩ := (Y7.out.disk (.slice A5 K c5) (.int .i64 S) (.int .i64 R)).cells3
  refine bodyPost_ret (v := .tuple #[diskV A5 K c5 S R, .int .i64 30]) (by simp [results, Try.results11, go_sem, p0, p1, p2]) rfl ⟨A5, c5, rfl, own_weaker (own_setDisk O7.out (b := w.heap.size + 1) (by simp) _ _ _) (by omega), below_setDisk B7.out (b := w.heap.size + 1) (Nat.le_succ _) _ _ _⟩

omit hnb in
set_option maxRecDepth 100000 in
set_option maxHeartbeats 1000000 in
theorem refAppend_fit (hf : K + nb ≤ R) : Calls Try.prog 11 #[diskV A n c s r, .slice Ab nb cb] w (DiskNE (K + nb) (ob ++ b) S R 0 w) := by
  have hok : (⟨ob, S, R⟩ : Dk).Ok := by have h := cnt_ok s r hby; rwa [hD] at h
  have hlen : S ≤ K ∧ K ≤ R ∧ R ≤ 65536 := by have h1 := hok.syn; have h2 := hok.len; have h3 := hok.room; simp only at h1 h2 h3; omega
  obtain ⟨hl1, hl2, hl3⟩ := hlen
  have HOK := Lib.hid hok
  have HK := Lib.hid hK
  have HRB := Lib.hid hrb
  have HO := refOwn_hid A n c s r bs w hr hc hnm hD hK
  have X1 := Lib.hid ((Whole.new w 24 #[.slice A n c, .int .i64 s, .int .i64 r]).alloc zeroB)
  have Y1 := Lib.hid (by have := Whole.new (w.alloc (diskB A n c s r)) 24 #[.slice none 0 0, .int .i64 0, .int .i64 0]; simpa using this : Whole ((w.alloc (diskB A n c s r)).alloc zeroB) (w.heap.size + 1) 24 #[.slice none 0 0, .int .i64 0, .int .i64 0])
  have B1 := Lib.hid (((Below.refl w.heap.size w).alloc (Nat.le_refl _) (diskB A n c s r)).alloc (by simp) zeroB)
  clear hr hc hnm hD hK hby hok hrb
  go_enter Try.func11, Try.ntmps11
  go_wp2_with fail
  refine (HO.out _ B1.out).mono ?_
  rintro e w1 ⟨A5, c5, rfl, o5, b5⟩
  have X5 := X1.out.under b5
  have Y5 := Y1.out.under b5
  obtain ⟨x0, x1, x2⟩ := X5.cells3
  have e0 := X5.frozen 0
  have e1 := X5.frozen 1
  have e2 := X5.frozen 2
  obtain ⟨W6, hW6⟩ : ∃ W, setDisk w1 w.heap.size (.slice A5 K c5) (.int .i64 S) (.int .i64 R) = W := ⟨_, rfl⟩
  have X6 := Lib.hid (show Whole W6 w.heap.size 24 #[.slice A5 K c5, .int .i64 S, .int .i64 R] by rw [← hW6]; exact X5.disk _ _ _)
  have Y6 := Lib.hid (show Whole W6 (w.heap.size + 1) 24 #[.slice none 0 0, .int .i64 0, .int .i64 0] by rw [← hW6]; exact Y5.farDisk (by omega) _ _ _)
  have O6 := Lib.hid (show W6.ownsRow (w.heap.size + 2) 5 1 (.slice A5 K c5) K (bv ob) by rw [← hW6]; exact own_setDisk (own_weaker o5 (by simp)) (by omega) _ _ _)
  have B6 := Lib.hid (show Below w.heap.size w W6 by rw [← hW6]; exact below_setDisk (B1.out.trans (b5.mono B1.out.size)) (Nat.le_refl _) _ _ _)
  have HW6 := Lib.hid (show ((w1.setCell ⟨w.heap.size, 0, none⟩ (.slice A5 K c5)).setCell ⟨w.heap.size, 1, none⟩ (.int .i64 S)).setCell ⟨w.heap.size, 2, none⟩ (.int .i64 R) = W6 from hW6)
  have lw6 : w.heap.size < W6.heap.size := X6.out.lt
  have C5 := own_cap O6.out
  clear o5 b5 X5 Y5 hW6
  have HF := Lib.hid (refFree_any A5 K c5 S R ob W6 (Rd.of_own O6.out) C5 (by omega) (cnt_self HOK.out) HK.out)
  go_wp2_with (rw [HW6.out]; clear x0 x1 x2 e0 e1 e2; obtain ⟨x0, x1, x2⟩ := X6.out.cells3; have e0 := X6.out.frozen 0; have e1 := X6.out.frozen 1; have e2 := X6.out.frozen 2; obtain ⟨y0, y1, y2⟩ := Y6.out.cells3; have f0 := Y6.out.frozen 0; have f1 := Y6.out.frozen 1; have f2 := Y6.out.frozen 2)
  refine (HF.out).mono ?_
  rintro e w7 ⟨rfl, b7⟩
  have X7 := Lib.hid (X6.out.under b7)
  have Y7 := Lib.hid (Y6.out.under b7)
  have O7 := Lib.hid (own_under O6.out b7)
  have B7 := Lib.hid (B6.out.trans (b7.mono B6.out.size))
  have lw7 : w.heap.size + 1 < w7.heap.size := Y7.out.lt
  clear x0 x1 x2 e0 e1 e2 y0 y1 y2 f0 f1 f2 b7
  obtain ⟨v8, w8, h8, o8, g8⟩ := run_app w7 (w.heap.size + 2) (.slice A5 K c5) K (bv ob) O7.out w.heap.size Ab nb cb b (HRB.out.below B7.out) (by omega) (by omega)
  rw [← bv_append] at o8
  obtain ⟨A9, c9, rfl⟩ := own_form o8
  have X8 := Lib.hid (X7.out.grown g8 (Ne.symm (own_apart_of (by decide) O7.out X7.out)))
  have Y8 := Lib.hid (Y7.out.grown g8 (Ne.symm (own_apart_of (by decide) O7.out Y7.out)))
  have B8 := Lib.hid (B7.out.trans ((below_row O7.out g8 (by omega)).mono (by omega)))
  have O8 := Lib.hid o8
  have H8 := Lib.hid h8
  clear g8 o8 h8
  obtain ⟨x0, x1, x2⟩ := X7.out.cells3
  have e0 := X7.out.frozen 0
  have e1 := X7.out.frozen 1
  have e2 := X7.out.frozen 2
  obtain ⟨y0, y1, y2⟩ := Y7.out.cells3
  have f0 := Y7.out.frozen 0
  have f1 := Y7.out.frozen 1
  have f2 := Y7.out.frozen 2
  obtain ⟨x0q, x1q, x2q⟩ := X8.out.cells3
  have e0q := X8.out.frozen 0
  have e1q := X8.out.frozen 1
  have e2q := X8.out.frozen 2
  obtain ⟨y0q, y1q, y2q⟩ := Y8.out.cells3
  have f0q := Y8.out.frozen 0
  have f1q := Y8.out.frozen 1
  have f2q := Y8.out.frozen 2
  have d1 : decide ((R : Int) - (K : Int) < (nb : Int)) = false := by simp; omega
  have d2 : ¬ (R : Int) - (K : Int) < (nb : Int) := by omega
  go_wp2_with (at_builtin; refine wpList_app (by rfl) _ _ _ rfl _ _ _ _ rfl rfl H8.out ?_)
  obtain ⟨p0, p1, p2⟩ := ((Y8.out.far (p := ⟨w.heap.size, 0, none⟩) (by simp) (.slice A9 (K + nb) c9)).disk (.slice A9 (K + nb) c9) (.int .i64 S) (.int .i64 R)).cells3
  refine bodyPost_ret (v := .tuple #[diskV A9 (K + nb) c9 S R, .int .i64 0]) (by simp [results, Try.results11, go_sem, p0, p1, p2]) rfl ⟨A9, c9, rfl, own_weaker (own_setDisk (own_set O8.out (by omega) _) (b := w.heap.size + 1) (by simp) _ _ _) (by omega), below_setDisk (B8.out.setCell (p := ⟨w.heap.size, 0, none⟩) (Nat.le_refl _) _) (b := w.heap.size + 1) (Nat.le_succ _) _ _ _⟩

omit hnb in
set_option maxRecDepth 100000 in
set_option maxHeartbeats 1000000 in
theorem refSwap_full (hf : ¬ nb ≤ R) : Calls Try.prog 13 #[diskV A n c s r, .slice Ab nb cb] w (DiskNE K ob S R 30 w) := by
  have hok : (⟨ob, S, R⟩ : Dk).Ok := by have h := cnt_ok s r hby; rwa [hD] at h
  have hlen : S ≤ K ∧ K ≤ R ∧ R ≤ 65536 := by have h1 := hok.syn; have h2 := hok.len; have h3 := hok.room; simp only at h1 h2 h3; omega
  obtain ⟨hl1, hl2, hl3⟩ := hlen
  have HOK := Lib.hid hok
  have HK := Lib.hid hK
  have HRB := Lib.hid hrb
  have HO := refOwn_hid A n c s r bs w hr hc hnm hD hK
  have X1 := Lib.hid ((Whole.new w 24 #[.slice A n c, .int .i64 s, .int .i64 r]).alloc zeroB)
  have Y1 := Lib.hid (by have := Whole.new (w.alloc (diskB A n c s r)) 24 #[.slice none 0 0, .int .i64 0, .int .i64 0]; simpa using this : Whole ((w.alloc (diskB A n c s r)).alloc zeroB) (w.heap.size + 1) 24 #[.slice none 0 0, .int .i64 0, .int .i64 0])
  have B1 := Lib.hid (((Below.refl w.heap.size w).alloc (Nat.le_refl _) (diskB A n c s r)).alloc (by simp) zeroB)
  clear hr hc hnm hD hK hby hok hrb
  go_enter Try.func13, Try.ntmps13
  go_wp2_with fail
  refine (HO.out _ B1.out).mono ?_
  rintro e w1 ⟨A5, c5, rfl, o5, b5⟩
  have X5 := X1.out.under b5
  have Y5 := Y1.out.under b5
  obtain ⟨x0, x1, x2⟩ := X5.cells3
  have e0 := X5.frozen 0
  have e1 := X5.frozen 1
  have e2 := X5.frozen 2
  obtain ⟨W6, hW6⟩ : ∃ W, setDisk w1 w.heap.size (.slice A5 K c5) (.int .i64 S) (.int .i64 R) = W := ⟨_, rfl⟩
  have X6 := Lib.hid (show Whole W6 w.heap.size 24 #[.slice A5 K c5, .int .i64 S, .int .i64 R] by rw [← hW6]; exact X5.disk _ _ _)
  have Y6 := Lib.hid (show Whole W6 (w.heap.size + 1) 24 #[.slice none 0 0, .int .i64 0, .int .i64 0] by rw [← hW6]; exact Y5.farDisk (by omega) _ _ _)
  have O6 := Lib.hid (show W6.ownsRow (w.heap.size + 2) 5 1 (.slice A5 K c5) K (bv ob) by rw [← hW6]; exact own_setDisk (own_weaker o5 (by simp)) (by omega) _ _ _)
  have B6 := Lib.hid (show Below w.heap.size w W6 by rw [← hW6]; exact below_setDisk (B1.out.trans (b5.mono B1.out.size)) (Nat.le_refl _) _ _ _)
  have HW6 := Lib.hid (show ((w1.setCell ⟨w.heap.size, 0, none⟩ (.slice A5 K c5)).setCell ⟨w.heap.size, 1, none⟩ (.int .i64 S)).setCell ⟨w.heap.size, 2, none⟩ (.int .i64 R) = W6 from hW6)
  have lw6 : w.heap.size < W6.heap.size := X6.out.lt
  have C5 := own_cap O6.out
  clear o5 b5 X5 Y5 hW6
  have d1 : decide ((R : Int) < (nb : Int)) = true := by simp; omega
  have d2 : (R : Int) < (nb : Int) := by omega
  go_wp2_with (rw [HW6.out]; clear x0 x1 x2 e0 e1 e2; obtain ⟨x0, x1, x2⟩ := X6.out.cells3; have e0 := X6.out.frozen 0; have e1 := X6.out.frozen 1; have e2 := X6.out.frozen 2; obtain ⟨y0, y1, y2⟩ := Y6.out.cells3; have f0 := Y6.out.frozen 0; have f1 := Y6.out.frozen 1; have f2 := Y6.out.frozen 2)
  obtain ⟨p0, p1, p2⟩ := (Y6.out.disk (.slice A5 K c5) (.int .i64 S) (.int .i64 R)).cells3
  refine bodyPost_ret (v := .tuple #[diskV A5 K c5 S R, .int .i64 30]) (by simp [results, Try.results13, go_sem, p0, p1, p2]) rfl ⟨A5, c5, rfl, own_weaker (own_setDisk O6.out (b := w.heap.size + 1) (by simp) _ _ _) (by omega), below_setDisk B6.out (b := w.heap.size + 1) (Nat.le_succ _) _ _ _⟩

set_option maxRecDepth 100000 in
set_option maxHeartbeats 1000000 in
theorem refSwap_fit (hf : nb ≤ R) : Calls Try.prog 13 #[diskV A n c s r, .slice Ab nb cb] w (DiskNE nb b nb R 0 w) := by
  have hok : (⟨ob, S, R⟩ : Dk).Ok := by have h := cnt_ok s r hby; rwa [hD] at h
  have hlen : S ≤ K ∧ K ≤ R ∧ R ≤ 65536 := by have h1 := hok.syn; have h2 := hok.len; have h3 := hok.room; simp only at h1 h2 h3; omega
  obtain ⟨hl1, hl2, hl3⟩ := hlen
  have HOK := Lib.hid hok
  have HK := Lib.hid hK
  have HRB := Lib.hid hrb
  have HO := refOwn_hid A n c s r bs w hr hc hnm hD hK
  have X1 := Lib.hid ((Whole.new w 24 #[.slice A n c, .int .i64 s, .int .i64 r]).alloc zeroB)
  have Y1 := Lib.hid (by have := Whole.new (w.alloc (diskB A n c s r)) 24 #[.slice none 0 0, .int .i64 0, .int .i64 0]; simpa using this : Whole ((w.alloc (diskB A n c s r)).alloc zeroB) (w.heap.size + 1) 24 #[.slice none 0 0, .int .i64 0, .int .i64 0])
  have B1 := Lib.hid (((Below.refl w.heap.size w).alloc (Nat.le_refl _) (diskB A n c s r)).alloc (by simp) zeroB)
  clear hr hc hnm hD hK hby hok hrb
  go_enter Try.func13, Try.ntmps13
  go_wp2_with fail
  refine (HO.out _ B1.out).mono ?_
  rintro e w1 ⟨A5, c5, rfl, o5, b5⟩
  have X5 := X1.out.under b5
  have Y5 := Y1.out.under b5
  obtain ⟨x0, x1, x2⟩ := X5.cells3
  have e0 := X5.frozen 0
  have e1 := X5.frozen 1
  have e2 := X5.frozen 2
  obtain ⟨W6, hW6⟩ : ∃ W, setDisk w1 w.heap.size (.slice A5 K c5) (.int .i64 S) (.int .i64 R) = W := ⟨_, rfl⟩
  have X6 := Lib.hid (show Whole W6 w.heap.size 24 #[.slice A5 K c5, .int .i64 S, .int .i64 R] by rw [← hW6]; exact X5.disk _ _ _)
  have Y6 := Lib.hid (show Whole W6 (w.heap.size + 1) 24 #[.slice none 0 0, .int .i64 0, .int .i64 0] by rw [← hW6]; exact Y5.farDisk (by omega) _ _ _)
  have O6 := Lib.hid (show W6.ownsRow (w.heap.size + 2) 5 1 (.slice A5 K c5) K (bv ob) by rw [← hW6]; exact own_setDisk (own_weaker o5 (by simp)) (by omega) _ _ _)
  have B6 := Lib.hid (show Below w.heap.size w W6 by rw [← hW6]; exact below_setDisk (B1.out.trans (b5.mono B1.out.size)) (Nat.le_refl _) _ _ _)
  have HW6 := Lib.hid (show ((w1.setCell ⟨w.heap.size, 0, none⟩ (.slice A5 K c5)).setCell ⟨w.heap.size, 1, none⟩ (.int .i64 S)).setCell ⟨w.heap.size, 2, none⟩ (.int .i64 R) = W6 from hW6)
  have lw6 : w.heap.size < W6.heap.size := X6.out.lt
  have C5 := own_cap O6.out
  clear o5 b5 X5 Y5 hW6
  have d1 : decide ((R : Int) < (nb : Int)) = false := by simp; omega
  have d2 : ¬ (R : Int) < (nb : Int) := by omega
  obtain ⟨A9, c9, W9, h9, o9, b9⟩ := run_copy W6 w.heap.size Ab nb cb b (HRB.out.below B6.out) B6.out.size (by omega) W6.heap.size rfl
  have X9 := Lib.hid (X6.out.under b9)
  have Y9 := Lib.hid (Y6.out.under b9)
  have B9 := Lib.hid (B6.out.trans (b9.mono B6.out.size))
  have lw62 : w.heap.size + 1 < W6.heap.size := Y6.out.lt
  have O9 := Lib.hid (own_weaker o9 (by omega) : W9.ownsRow (w.heap.size + 2) 5 1 (.slice A9 nb c9) nb (bv b))
  have H9 := Lib.hid h9
  clear h9 o9 b9
  obtain ⟨x0q, x1q, x2q⟩ := X9.out.cells3
  have e0q := X9.out.frozen 0
  have e1q := X9.out.frozen 1
  have e2q := X9.out.frozen 2
  obtain ⟨y0q, y1q, y2q⟩ := Y9.out.cells3
  have f0q := Y9.out.frozen 0
  have f1q := Y9.out.frozen 1
  have f2q := Y9.out.frozen 2
  go_wp2_with (first | (at_builtin; refine wpList_app (by rfl) _ _ _ rfl _ _ _ _ rfl rfl H9.out ?_) | (rw [HW6.out]; clear x0 x1 x2 e0 e1 e2; obtain ⟨x0, x1, x2⟩ := X6.out.cells3; have e0 := X6.out.frozen 0; have e1 := X6.out.frozen 1; have e2 := X6.out.frozen 2; obtain ⟨y0, y1, y2⟩ := Y6.out.cells3; have f0 := Y6.out.frozen 0; have f1 := Y6.out.frozen 1; have f2 := Y6.out.frozen 2))
  obtain ⟨p0, p1, p2⟩ := (((Y9.out.far (p := ⟨w.heap.size, 0, none⟩) (by simp) (.slice A9 nb c9)).far (p := ⟨w.heap.size, 1, none⟩) (by simp) (.int .i64 nb)).disk (.slice A9 nb c9) (.int .i64 nb) (.int .i64 R)).cells3
  refine bodyPost_ret (v := .tuple #[diskV A9 nb c9 nb R, .int .i64 0]) (by simp [results, Try.results13, go_sem, p0, p1, p2]) rfl ⟨A9, c9, rfl, own_weaker (own_setDisk (own_set (own_set O9.out (by omega) _) (by omega) _) (b := w.heap.size + 1) (by simp) _ _ _) (by omega), below_setDisk ((B9.out.setCell (p := ⟨w.heap.size, 0, none⟩) (Nat.le_refl _) _).setCell (p := ⟨w.heap.size, 1, none⟩) (Nat.le_refl _) _) (b := w.heap.size + 1) (Nat.le_succ _) _ _ _⟩
end

end Go.Proofs.Ytekffkoggnbgeaa
