/-
  The document's own answers for package disk (herdref03): 'New', 'Sync', 'Free', 'Crash'. Conditions: those that each theorem names.
-/
import Derived.Test.YtekffkoggnbgeaaRefDisk
namespace Go.Proofs.Ytekffkoggnbgeaa
open Go.RowKit Go.Shelf

set_option maxRecDepth 100000 in
set_option maxHeartbeats 1000000 in
theorem refNew_any (room : Int) (w : World) {R : Nat} (hD : cnt [] 0 room = ⟨[], 0, R⟩) : Calls Try.prog 19 #[.int .i64 room] w (DiskN 0 [] 0 R w) := by
  have HO := Lib.hid (fun W => refOwn_any (w := W) none 0 0 0 room [] ⟨rfl, fun h => absurd h (by omega)⟩ (Nat.le_refl _) (by omega) hD (K := 0) rfl)
  have Y1 := Lib.hid (Whole.new w 24 #[.slice none 0 0, .int .i64 0, .int .i64 0])
  have B1 := Lib.hid ((Below.refl w.heap.size w).alloc (Nat.le_refl _) zeroB)
  clear hD
  go_enter Try.func19, Try.ntmps19
  go_wp2_with fail
  refine (HO.out _).mono ?_
  rintro e w1 ⟨A5, c5, rfl, o5, b5⟩
  have Y5 := Lib.hid (Y1.out.under b5)
  obtain ⟨y0, y1, y2⟩ := Y5.out.cells3
  have f0 := Y5.out.frozen 0
  have f1 := Y5.out.frozen 1
  have f2 := Y5.out.frozen 2
  have O5 := Lib.hid o5
  have B5 := Lib.hid (B1.out.trans (b5.mono B1.out.size))
  clear o5 b5
  go_wp2_with fail
  obtain ⟨p0, p1, p2⟩ := (Y5.out.disk (.slice A5 0 c5) (.int .i64 0) (.int .i64 R)).cells3
  refine bodyPost_ret (v := diskV A5 0 c5 0 R) (by simp [results, Try.results19, go_sem, p0, p1, p2]) rfl ⟨A5, c5, rfl, own_weaker (own_setDisk O5.out (by simp) _ _ _) (by simp), below_setDisk B5.out (Nat.le_refl _) _ _ _⟩

section
variable (A : Option Addr) (n c : Nat) (s r : Int) (bs : List Nat) (w : World) (hr : Rd w w.heap.size A n (bv bs)) (hc : n ≤ c) (hnm : n ≤ 500000) {ob : List Nat} {K S R : Nat} (hD : cnt bs s r = ⟨ob, S, R⟩) (hK : ob.length = K)
include hr hc hnm hD hK

theorem refOwn_hid : Hid (∀ W, Below w.heap.size w W → Calls Try.prog 18 #[diskV A n c s r] W (DiskN K ob S R W)) :=
  fun W hW => refOwn_any A n c s r bs W ((hr.below hW).more hW.size) hc hnm hD hK

set_option maxRecDepth 100000 in
set_option maxHeartbeats 1000000 in
theorem refSync_any : Calls Try.prog 20 #[diskV A n c s r] w (DiskN K ob K R w) := by
  have HO := refOwn_hid A n c s r bs w hr hc hnm hD hK
  have X1 := Lib.hid ((Whole.new w 24 #[.slice A n c, .int .i64 s, .int .i64 r]).alloc zeroB)
  have Y1 := Lib.hid (by have := Whole.new (w.alloc (diskB A n c s r)) 24 #[.slice none 0 0, .int .i64 0, .int .i64 0]; simpa using this : Whole ((w.alloc (diskB A n c s r)).alloc zeroB) (w.heap.size + 1) 24 #[.slice none 0 0, .int .i64 0, .int .i64 0])
  have B1 := Lib.hid (((Below.refl w.heap.size w).alloc (Nat.le_refl _) (diskB A n c s r)).alloc (by simp) zeroB)
  clear hr hc hnm hD hK
  go_enter Try.func20, Try.ntmps20
  go_wp2_with fail
  refine (HO.out _ B1.out).mono ?_
  rintro e w1 ⟨A5, c5, rfl, o5, b5⟩
  have X5 := X1.out.under b5
  have Y5 := Y1.out.under b5
  obtain ⟨x0, x1, x2⟩ := X5.cells3
  have e0 := X5.frozen 0
  have e1 := X5.frozen 1
  have e2 := X5.frozen 2
  obtain ⟨W6, hW6⟩ : ∃ W, setDisk w1 w.heap.size (.slice A5 K c5) (.int .i64 S) (.int .i64 R) = W := ⟨_, rfl⟩
  have X6 := Lib.hid (show Whole W6 w.heap.size 24 #[.slice A5 K c5, .int .i64 S, .int .i64 R] by rw [← hW6]; exact X5.disk _ _ _)
  have Y6 := Lib.hid (show Whole W6 (w.heap.size + 1) 24 #[.slice none 0 0, .int .i64 0, .int .i64 0] by rw [← hW6]; exact Y5.farDisk (by omega) _ _ _)
  have O6 := Lib.hid (show W6.ownsRow (w.heap.size + 2) 5 1 (.slice A5 K c5) K (bv ob) by rw [← hW6]; exact own_setDisk (own_weaker o5 (by simp)) (by omega) _ _ _)
  have B6 := Lib.hid (show Below w.heap.size w W6 by rw [← hW6]; exact below_setDisk (B1.out.trans (b5.mono B1.out.size)) (Nat.le_refl _) _ _ _)
  have HW6 := Lib.hid (show ((w1.setCell ⟨w.heap.size, 0, none⟩ (.slice A5 K c5)).setCell ⟨w.heap.size, 1, none⟩ (.int .i64 S)).setCell ⟨w.heap.size, 2, none⟩ (.int .i64 R) = W6 from hW6)
  have lw6 : w.heap.size < W6.heap.size := X6.out.lt
  have C5 := own_cap O6.out
  clear o5 b5 X5 Y5 hW6
  go_wp2_with (rw [HW6.out]; clear x0 x1 x2 e0 e1 e2; obtain ⟨x0, x1, x2⟩ := X6.out.cells3; have e0 := X6.out.frozen 0; have e1 := X6.out.frozen 1; have e2 := X6.out.frozen 2; obtain ⟨y0, y1, y2⟩ := Y6.out.cells3; have f0 := Y6.out.frozen 0; have f1 := Y6.out.frozen 1; have f2 := Y6.out.frozen 2)
  have hz := (Y6.out.far (p := ⟨w.heap.size, 1, none⟩) (by simp) (.int .i64 K)).disk (.slice A5 K c5) (.int .i64 K) (.int .i64 R)
  obtain ⟨p0, p1, p2⟩ := hz.cells3
  refine bodyPost_ret (v := diskV A5 K c5 K R) (by simp [results, Try.results20, go_sem, p0, p1, p2]) rfl ⟨A5, c5, rfl, ?_, ?_⟩
  · exact own_weaker (own_setDisk (own_set O6.out (by omega) _) (b := w.heap.size + 1) (by simp) _ _ _) (by omega)
  · exact below_setDisk (B6.out.setCell (p := ⟨w.heap.size, 1, none⟩) (Nat.le_refl _) _) (b := w.heap.size + 1) (Nat.le_succ _) _ _ _

set_option maxRecDepth 100000 in
set_option maxHeartbeats 1000000 in
theorem refFree_any : Calls Try.prog 24 #[diskV A n c s r] w (fun e w' => e = .returned (.int .i64 ((R : Int) - (K : Int))) ∧ Below w.heap.size w w') := by
  have hok : K ≤ R ∧ R ≤ 65536 := by
    simp only [cnt, Dk.mk.injEq] at hD
    obtain ⟨h1, h2, h3⟩ := hD
    have := clampN_le r 65536
    rw [← hK, ← h1, List.length_take]; omega
  have HO := refOwn_hid A n c s r bs w hr hc hnm hD hK
  have X1 := Lib.hid ((Whole.new w 24 #[.slice A n c, .int .i64 s, .int .i64 r]))
  have B1 := Lib.hid (((Below.refl w.heap.size w).alloc (Nat.le_refl _) (diskB A n c s r)))
  have g : IntKind.i64.wrap ((R : Int) - (K : Int)) = (R : Int) - (K : Int) := IntWalk.i64_in _ ⟨by omega, by omega⟩
  clear hr hc hnm hD hK
  go_enter Try.func24, Try.ntmps24
  go_wp2_with fail
  refine (HO.out _ B1.out).mono ?_
  rintro e w1 ⟨A5, c5, rfl, o5, b5⟩
  have X5 := Lib.hid (X1.out.under b5)
  obtain ⟨x0, x1, x2⟩ := X5.out.cells3
  have e0 := X5.out.frozen 0
  have e1 := X5.out.frozen 1
  have e2 := X5.out.frozen 2
  have B5 := Lib.hid (B1.out.trans (b5.mono B1.out.size))
  clear o5 b5
  go_wp2_with fail
  go_ret
  exact ⟨rfl, below_setDisk B5.out (Nat.le_refl _) _ _ _⟩

set_option maxRecDepth 100000 in
set_option maxHeartbeats 1000000 in
theorem refCrash_any (keep : Int) {L : Nat} (hL : S + clampN keep (K - S) = L) : Calls Try.prog 21 #[diskV A n c s r, .int .i64 keep] w (DiskN L (ob.take L) L R w) := by
  have hok : S ≤ K ∧ K ≤ R ∧ R ≤ 65536 := by
    simp only [cnt, Dk.mk.injEq] at hD
    obtain ⟨h1, h2, h3⟩ := hD
    have := clampN_le r 65536
    have h5 := clampN_le s (bs.take (clampN r 65536)).length
    rw [h2, h1, hK] at h5
    have h6 : ob.length ≤ R := by rw [← h1, List.length_take, h3]; omega
    omega
  have HO := refOwn_hid A n c s r bs w hr hc hnm hD hK
  have X1 := Lib.hid ((Whole.new w 24 #[.slice A n c, .int .i64 s, .int .i64 r]).alloc zeroB)
  have Y1 := Lib.hid (by have := Whole.new (w.alloc (diskB A n c s r)) 24 #[.slice none 0 0, .int .i64 0, .int .i64 0]; simpa using this : Whole ((w.alloc (diskB A n c s r)).alloc zeroB) (w.heap.size + 1) 24 #[.slice none 0 0, .int .i64 0, .int .i64 0])
  have B1 := Lib.hid (((Below.refl w.heap.size w).alloc (Nat.le_refl _) (diskB A n c s r)).alloc (by simp) zeroB)
  obtain ⟨hok1, hok2, hok3⟩ := hok
  obtain ⟨mm, hmm⟩ : ∃ mm, K - S = mm := ⟨_, rfl⟩
  have g3 : (K : Int) - (S : Int) = (mm : Int) := by omega
  have g4 : IntKind.i64.wrap (mm : Int) = (mm : Int) := IntWalk.i64_in _ ⟨by omega, by omega⟩
  have hLK : L ≤ K ∧ S ≤ L := by have := clampN_le keep (K - S); omega
  have g5 : IntKind.i64.wrap (L : Int) = (L : Int) := IntWalk.i64_in _ ⟨by omega, by omega⟩
  have HL : Hid ((keep < 0 ∧ (L : Int) = S) ∨ (0 ≤ keep ∧ keep ≤ (mm : Int) ∧ (S : Int) + keep = L) ∨ ((mm : Int) < keep ∧ (S : Int) + (mm : Int) = L)) := Lib.hid (by rw [hmm] at hL; unfold clampN at hL; omega)
  clear hr hc hnm hD hK hL hmm
  go_enter Try.func21, Try.ntmps21
  go_wp2_with fail
  refine (HO.out _ B1.out).mono ?_
  rintro e w1 ⟨A5, c5, rfl, o5, b5⟩
  have X5 := X1.out.under b5
  have Y5 := Y1.out.under b5
  obtain ⟨x0, x1, x2⟩ := X5.cells3
  have e0 := X5.frozen 0
  have e1 := X5.frozen 1
  have e2 := X5.frozen 2
  obtain ⟨W6, hW6⟩ : ∃ W, setDisk w1 w.heap.size (.slice A5 K c5) (.int .i64 S) (.int .i64 R) = W := ⟨_, rfl⟩
  have X6 := Lib.hid (show Whole W6 w.heap.size 24 #[.slice A5 K c5, .int .i64 S, .int .i64 R] by rw [← hW6]; exact X5.disk _ _ _)
  have Y6 := Lib.hid (show Whole W6 (w.heap.size + 1) 24 #[.slice none 0 0, .int .i64 0, .int .i64 0] by rw [← hW6]; exact Y5.farDisk (by omega) _ _ _)
  have O6 := Lib.hid (show W6.ownsRow (w.heap.size + 2) 5 1 (.slice A5 K c5) K (bv ob) by rw [← hW6]; exact own_setDisk (own_weaker o5 (by simp)) (by omega) _ _ _)
  have B6 := Lib.hid (show Below w.heap.size w W6 by rw [← hW6]; exact below_setDisk (B1.out.trans (b5.mono B1.out.size)) (Nat.le_refl _) _ _ _)
  have HW6 := Lib.hid (show ((w1.setCell ⟨w.heap.size, 0, none⟩ (.slice A5 K c5)).setCell ⟨w.heap.size, 1, none⟩ (.int .i64 S)).setCell ⟨w.heap.size, 2, none⟩ (.int .i64 R) = W6 from hW6)
  have lw6 : w.heap.size < W6.heap.size := X6.out.lt
  have C5 := own_cap O6.out
  clear o5 b5 X5 Y5 hW6
  have hh := fun W => run_head A5 K c5 L (by omega) W
  go_upto_region 2 with fail
  rw [HW6.out]
  clear x0 x1 x2 e0 e1 e2
  go_cut [5] (fun s5 wx => s5 = .int .i64 (L : Int) ∧ wx = W6)
  case first =>
    obtain ⟨x0, x1, x2⟩ := X6.out.cells3
    rcases HL.out with ⟨h, h2⟩ | ⟨h, h1, h2⟩ | ⟨h, h2⟩
    · rw [h2] at g5
      have h3 : ¬ (mm : Int) < 0 := by omega
      go_wp2_with fail
      go_meet
      exact ⟨by rw [h2], rfl⟩
    · have h3 : ¬ keep < 0 := by omega
      go_wp2_with fail
      go_meet
      exact ⟨rfl, rfl⟩
    · have h3 : ¬ keep < 0 := by omega
      go_wp2_with fail
      go_meet
      exact ⟨rfl, rfl⟩
  case rest =>
    obtain ⟨rfl, rfl⟩ := hcut
    obtain ⟨x0, x1, x2⟩ := X6.out.cells3
    have e0 := X6.out.frozen 0
    have e1 := X6.out.frozen 1
    have e2 := X6.out.frozen 2
    obtain ⟨y0, y1, y2⟩ := Y6.out.cells3
    have f0 := Y6.out.frozen 0
    have f1 := Y6.out.frozen 1
    have f2 := Y6.out.frozen 2
    go_wp2_with fail
    have hz := ((Y6.out.far (p := ⟨w.heap.size, 0, none⟩) (by simp) (.slice A5 L c5)).far (p := ⟨w.heap.size, 1, none⟩) (by simp) (.int .i64 L)).disk (.slice A5 L c5) (.int .i64 L) (.int .i64 R)
    obtain ⟨p0, p1, p2⟩ := hz.cells3
    refine bodyPost_ret (v := diskV A5 L c5 L R) (by simp [results, Try.results21, go_sem, p0, p1, p2]) rfl ⟨A5, c5, rfl, ?_, ?_⟩
    · exact own_weaker (own_setDisk (own_set (own_set (own_head O6.out (by omega)) (by omega) _) (by omega) _) (b := w.heap.size + 1) (by simp) _ _ _) (by omega)
    · exact below_setDisk ((B6.out.setCell (p := ⟨w.heap.size, 0, none⟩) (Nat.le_refl _) _).setCell (p := ⟨w.heap.size, 1, none⟩) (Nat.le_refl _) _) (b := w.heap.size + 1) (Nat.le_succ _) _ _ _
end

end Go.Proofs.Ytekffkoggnbgeaa
