/-
  The document's own answers for package disk (herdref03): 'Own' and 'New'. Conditions: those that each theorem names.
-/
import Derived.Test.YtekffkoggnbgeaaDiskLawRoom
import Derived.Test.YtekffkoggnbgeaaDiskUse
import Derived.Deep.DeepCutAuto
namespace Go.Proofs.Ytekffkoggnbgeaa
open Go.RowKit Go.Shelf

set_option maxRecDepth 100000 in
set_option maxHeartbeats 1000000 in
theorem refOwn_z (A : Option Addr) (n c : Nat) (s r : Int) (ob : List Nat) (K R : Nat) (Z : Int) (w : World) (hr : Rd w w.heap.size A K (bv ob)) (hc : n ≤ c) (hnm : n ≤ 500000) (hR : min (max r 0) 65536 = (R : Int)) (hK : (n ≤ R ∧ K = n) ∨ (R < n ∧ K = R)) (hZ : (s < 0 ∧ Z = 0) ∨ (0 ≤ s ∧ s ≤ (K : Int) ∧ Z = s) ∨ ((K : Int) < s ∧ Z = (K : Int))) :
    Calls Try.prog 18 #[diskV A n c s r] w (DiskN K ob Z R w) := by
  have hR2 : R ≤ 65536 := by omega
  have hKn : K ≤ n := by omega
  obtain ⟨W1, hW1⟩ : ∃ W, (w.alloc (diskB A n c s r)).alloc zeroB = W := ⟨_, rfl⟩
  have b1 : Below w.heap.size w W1 := by rw [← hW1]; exact ((Below.refl _ w).alloc (Nat.le_refl _) _).alloc (by simp) _
  have X1 : Whole W1 w.heap.size 24 #[.slice A n c, .int .i64 s, .int .i64 r] := by rw [← hW1]; exact (Whole.new w _ _).alloc _
  have Y1 : Whole W1 (w.heap.size + 1) 24 #[.slice none 0 0, .int .i64 0, .int .i64 0] := by
    rw [← hW1]; have := Whole.new (w.alloc (diskB A n c s r)) 24 #[.slice none 0 0, .int .i64 0, .int .i64 0]; simpa using this
  have s1 : W1.heap.size = w.heap.size + 2 := by rw [← hW1]; simp
  obtain ⟨A5, c5, W5, e5, o5, b5⟩ := run_copy W1 W1.heap.size A K c ob ((hr.below b1).more b1.size) (Nat.le_refl _) (by omega) W1.heap.size rfl
  have X5 := Lib.hid (X1.under b5)
  have Y5 := Lib.hid (Y1.under b5)
  have B5 := Lib.hid (b1.trans (b5.mono b1.size))
  have O5 := Lib.hid (own_weaker o5 (by omega) : W5.ownsRow (w.heap.size + 2) 5 1 (.slice A5 K c5) K (bv ob))
  have HE := Lib.hid e5
  have HX1 := Lib.hid X1
  have HW1 := Lib.hid hW1
  have HRR := Lib.hid hR
  have HZZ := Lib.hid hZ
  have HKK := Lib.hid hK
  have hh := fun W => run_head A n c K (by omega) W
  have HH := Lib.hid hh
  clear hr b1 X1 Y1 s1 e5 o5 b5 hh hR hZ hK hW1
  go_enter Try.func18, Try.ntmps18
  go_upto_region 1 with fail
  rw [HW1.out]
  go_cut [3] (fun s3 wx => s3 = .int .i64 (R : Int) ∧ wx = W1)
  case first =>
    obtain ⟨x0, x1, x2⟩ := HX1.out.cells3
    go_wp2_with fail
    all_goals go_meet
    all_goals (have h := HRR.out; refine ⟨?_, rfl⟩; congr 1; omega)
  case rest =>
    obtain ⟨rfl, rfl⟩ := hcut
    go_upto_region 2 with fail
    go_cut [4] (fun s4 wx => s4 = .slice A5 K c5 ∧ wx = W5)
    case first =>
      obtain ⟨x0, x1, x2⟩ := HX1.out.cells3
      have lw := HX1.out.lt
      have hh := HH.out
      rcases HKK.out with ⟨h, rfl⟩ | ⟨h, rfl⟩
      · have h' : (K : Int) ≤ (R : Int) := by omega
        go_wp2_with (at_builtin; refine wpList_app (by rfl) _ _ _ rfl _ _ _ _ rfl rfl HE.out ?_)
        go_meet
        exact ⟨rfl, rfl⟩
      · have h' : (K : Int) < (n : Int) := by omega
        go_wp2_with (at_builtin; refine wpList_app (by rfl) _ _ _ rfl _ _ _ _ rfl rfl HE.out ?_)
        go_meet
        exact ⟨rfl, rfl⟩
    case rest =>
      obtain ⟨rfl, rfl⟩ := hcut
      obtain ⟨x0, x1, x2⟩ := X5.out.cells3
      obtain ⟨y0, y1, y2⟩ := Y5.out.cells3
      have f0 := Y5.out.frozen 0
      have f1 := Y5.out.frozen 1
      have f2 := Y5.out.frozen 2
      rcases HZZ.out with ⟨h, rfl⟩ | ⟨h, h2, rfl⟩ | ⟨h, rfl⟩
      all_goals
        have hs : ¬ (K : Int) < 0 := by omega
      all_goals go_wp2_with fail
      all_goals
        have hz := fun z => (Y5.out.disk (.slice A5 K c5) (.int .i64 z) (.int .i64 R)).cells3
        have p0 := fun z => (hz z).1
        have p1 := fun z => (hz z).2.1
        have p2 := fun z => (hz z).2.2
        clear hz
        refine bodyPost_ret (v := diskV A5 K c5 _ R) (by simp [results, Try.results18, go_sem, p0, p1, p2]) rfl ⟨A5, c5, rfl, own_weaker (own_setDisk O5.out (Nat.lt_succ_self _) _ _ _) (by omega), below_setDisk B5.out (Nat.le_succ _) _ _ _⟩

theorem refOwn_any (A : Option Addr) (n c : Nat) (s r : Int) (bs : List Nat) (w : World) (hr : Rd w w.heap.size A n (bv bs)) (hc : n ≤ c) (hnm : n ≤ 500000) {ob : List Nat} {K S R : Nat} (hD : cnt bs s r = ⟨ob, S, R⟩) (hK : ob.length = K) :
    Calls Try.prog 18 #[diskV A n c s r] w (DiskN K ob S R w) := by
  have hl : bs.length = n := by have := hr.1; rwa [bv_length] at this
  simp only [cnt, Dk.mk.injEq] at hD
  obtain ⟨h1, h2, h3⟩ := hD
  have hob : ob = bs.take K := by rw [← h1, ← hK, ← h1, List.length_take, List.take_eq_take_iff]; omega
  have hk : K = min R n := by rw [← hK, ← h1, h3, List.length_take, hl]
  have h4 : clampN s K = S := by rw [← hK, ← h1]; exact h2
  refine refOwn_z A n c s r ob K R S w ?_ hc hnm (by have h := clampN_int r 65536; rw [h3] at h; exact h) (by omega) (by unfold clampN at h4; omega)
  have h := hr.take (k := K) (by omega)
  rw [hob]
  simpa only [bv, ← List.map_take] using h

end Go.Proofs.Ytekffkoggnbgeaa
