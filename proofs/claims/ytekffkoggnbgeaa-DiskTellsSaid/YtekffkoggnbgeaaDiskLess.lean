/-
  The walks of 'Free' of package disk, of 'bytes.Equal', and of the statements' 'same' and 'great'. Conditions: those that each theorem names.
-/
import Derived.Test.YtekffkoggnbgeaaDiskChanged
namespace Go.Proofs.Ytekffkoggnbgeaa
open Go.RowKit Go.Shelf

def freeD (D : Dk) : Int := (D.room : Int) - (D.bs.length : Int)

set_option maxHeartbeats 400000 in
theorem free_any (A : Option Addr) (n c : Nat) (s r : Int) (bs : List Nat) (B : Nat) (w : World) (hr : Rd w B A n (bv bs)) (hB : B ≤ w.heap.size) (hc : n ≤ c) {D : Dk} (hD : cnt bs s r = D) :
    Calls Try.prog 23 #[diskV A n c s r] w fun e w' => e = .returned (.int .i64 (freeD D)) ∧ Below w.heap.size w w' := by
  have hl : D.room ≤ 65536 ∧ D.bs.length ≤ D.room := by
    rw [← hD]
    refine ⟨clampN_le _ _, ?_⟩
    simp only [cnt, List.length_take]; omega
  have hb0 : Below w.heap.size w (w.alloc (diskB A n c s r)) := (Below.refl _ w).alloc (Nat.le_refl _) _
  have hC := counted_any A n c s r bs B (w.alloc (diskB A n c s r)) (hr.below (hb0.mono hB)) hc
  rw [hD] at hC
  have HC := Lib.hid hC
  have hl1 := hl.1
  have hl2 := hl.2
  have hb4 : Below w.heap.size w (((w.alloc (diskB A D.bs.length c D.syn D.room)).alloc (diskB A D.bs.length c D.syn D.room)).alloc (diskB A D.bs.length c D.syn D.room)) := (((Below.refl _ w).alloc (Nat.le_refl _) _).alloc (by simp) _).alloc (by simp; omega) _
  have HB4 := Lib.hid hb4
  clear hr hD hC hb0 hl hb4
  go_enter Try.func23, Try.ntmps23
  go_wp2_with fail
  refine (HC.out).mono ?_
  rintro e w1 ⟨rfl, rfl⟩
  go_wp2_with fail
  go_ret
  exact ⟨rfl, HB4.out⟩

set_option maxHeartbeats 400000 in
theorem equal_bytes (A A' : Option Addr) (n c n' c' : Nat) (a b : List Nat) (B B' : Nat) (w : World) (hr : Rd w B A n (bv a)) (hr' : Rd w B' A' n' (bv b)) (ha : ∀ x ∈ a, x < 256) (hb : ∀ x ∈ b, x < 256) :
    Calls Try.prog 33 #[.slice A n c, .slice A' n' c'] w fun e w' => e = .returned (.bool (decide (a = b))) ∧ w' = w := by
  have h1 := run_string w A n c a B hr
  have h2 := run_string w A' n' c' b B' hr'
  have HE := Lib.hid (strB_inj ha hb)
  obtain ⟨s1, hs1⟩ : ∃ s, strB a = s := ⟨_, rfl⟩
  obtain ⟨s2, hs2⟩ : ∃ s, strB b = s := ⟨_, rfl⟩
  rw [hs1] at h1 HE
  rw [hs2] at h2 HE
  clear hr hr' hs1 hs2 ha hb
  go_enter Try.func33, Try.ntmps33
  go_wp2_with fail
  go_ret
  exact ⟨by rw [← HE.out]; rfl, rfl⟩

set_option maxHeartbeats 400000 in
theorem same_bytes (A A' : Option Addr) (n c n' c' : Nat) (a b : List Nat) (B B' : Nat) (w : World) (hr : Rd w B A n (bv a)) (hr' : Rd w B' A' n' (bv b)) (ha : ∀ x ∈ a, x < 256) (hb : ∀ x ∈ b, x < 256) :
    Calls Try.prog 22 #[.slice A n c, .slice A' n' c'] w fun e w' => e = .returned (.bool (decide (a = b))) ∧ w' = w := by
  have h1 := run_string w A n c a B hr
  have h2 := run_string w A' n' c' b B' hr'
  have HE := Lib.hid (strB_inj ha hb)
  obtain ⟨s1, hs1⟩ : ∃ s, strB a = s := ⟨_, rfl⟩
  obtain ⟨s2, hs2⟩ : ∃ s, strB b = s := ⟨_, rfl⟩
  rw [hs1] at h1 HE
  rw [hs2] at h2 HE
  clear hr hr' hs1 hs2 ha hb
  go_enter Try.func22, Try.ntmps22
  go_wp2_with fail
  go_ret
  exact ⟨by rw [← HE.out]; rfl, rfl⟩

theorem greatD_any (A : Option Addr) (n c : Nat) (s r : Int) (w : World) {b : Bool} (hb : decide (400 < n) = b) :
    Calls Try.prog 8 #[diskV A n c s r] w fun e w' => e = .returned (.bool b) ∧ w' = w.alloc (diskB A n c s r) := by
  subst hb
  by_cases h : 400 < n
  · have h' : (400 : Int) < (n : Int) := by omega
    have HD := Lib.hid (show decide (400 < n) = true by simpa using h)
    clear h
    go_enter Try.func8, Try.ntmps8
    go_wp2_with fail
    go_ret
    exact ⟨by rw [HD.out]; rfl, rfl⟩
  · have h' : decide ((400 : Int) < (n : Int)) = false := by simp; omega
    have HD := Lib.hid (show decide (400 < n) = false by simpa using h)
    clear h
    go_enter Try.func8, Try.ntmps8
    go_wp2_with fail
    go_ret
    exact ⟨by rw [HD.out]; rfl, rfl⟩

end Go.Proofs.Ytekffkoggnbgeaa
