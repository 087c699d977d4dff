/-
  What the statements over disks ask of package disk, its answers written out. Conditions: those that each theorem names.
-/
import Derived.Test.YtekffkoggnbgeaaDiskWakes
namespace Go.Proofs.Ytekffkoggnbgeaa
open Go.RowKit Go.Shelf

theorem swapR_yes {b : List Nat} {D : Dk} (h : b.length ≤ D.room) : swapR b D = some ⟨b, b.length, D.room⟩ := by
  have e : writeD b (wipeD D) = some (plusD b (wipeD D)) := by rw [writeD, if_pos (by simpa [wipeD] using h)]
  rw [swapR, e]
  simp [plusD, wipeD, secureD]
theorem swapR_no {b : List Nat} {D : Dk} (h : ¬ b.length ≤ D.room) : swapR b D = none := by
  have e : writeD b (wipeD D) = none := by rw [writeD, if_neg (by simpa [wipeD] using h)]
  rw [swapR, e]
  rfl
theorem crash_safe (keep : Int) (b : List Nat) (R : Nat) : crashD keep ⟨b, b.length, R⟩ = ⟨b, b.length, R⟩ := by
  have h : clampN keep 0 = 0 := by unfold clampN; omega
  simp [crashD, loseD, secureD, loseN, h]
theorem crash_zero (b m : List Nat) (R : Nat) : crashD 0 ⟨b ++ m, b.length, R⟩ = ⟨b, b.length, R⟩ := by
  simp [crashD, loseD, secureD, loseN, clampN]

section
variable {A : Option Addr} {n c : Nat} {W : World} {bs : List Nat} {s R : Nat}
theorem swap_N {s0 r0 : Int} {bs0 b : List Nat} {Ab : Option Addr} {nb cb : Nat} {D : Dk} {R' : Nat} (hD : cnt bs0 s0 r0 = D) (hr : Rd W W.heap.size A n (bv bs0)) (hc : n ≤ c) (hby : ∀ x ∈ bs0, x < 256) (hrb : Rd W W.heap.size Ab nb (bv b)) (hcb : nb ≤ cb) (hcm : cb ≤ maxLen) (hbb : ∀ x ∈ b, x < 256) (hnb : nb ≤ 100000) (hR : D.room = R') (hf : b.length ≤ R') :
    Calls Try.prog 12 #[diskV A n c s0 r0, .slice Ab nb cb] W (DiskNE b.length b b.length R' 0 W) := by
  have h := swap_any A n c s0 r0 bs0 Ab nb cb b W hr hc hby hrb hcb hcm hbb hnb hD
  rw [swapR_yes (by omega), hR] at h
  exact h
theorem swap_full {s0 r0 : Int} {bs0 b : List Nat} {Ab : Option Addr} {nb cb : Nat} {D : Dk} (hD : cnt bs0 s0 r0 = D) (hr : Rd W W.heap.size A n (bv bs0)) (hc : n ≤ c) (hby : ∀ x ∈ bs0, x < 256) (hrb : Rd W W.heap.size Ab nb (bv b)) (hcb : nb ≤ cb) (hcm : cb ≤ maxLen) (hbb : ∀ x ∈ b, x < 256) (hnb : nb ≤ 100000) (hf : ¬ b.length ≤ D.room) :
    Calls Try.prog 12 #[diskV A n c s0 r0, .slice Ab nb cb] W (DiskNE D.bs.length D.bs D.syn D.room 30 W) := by
  have h := swap_any A n c s0 r0 bs0 Ab nb cb b W hr hc hby hrb hcb hcm hbb hnb hD
  rw [swapR_no hf] at h
  exact h
theorem append_N {s0 r0 : Int} {bs0 b : List Nat} {Ab : Option Addr} {nb cb : Nat} {D : Dk} (hD : cnt bs0 s0 r0 = D) (hr : Rd W W.heap.size A n (bv bs0)) (hc : n ≤ c) (hby : ∀ x ∈ bs0, x < 256) (hrb : Rd W W.heap.size Ab nb (bv b)) (hcb : nb ≤ cb) (hcm : cb ≤ maxLen) (hbb : ∀ x ∈ b, x < 256) (hnb : nb ≤ 100000) (hf : D.bs.length + b.length ≤ D.room) :
    Calls Try.prog 10 #[diskV A n c s0 r0, .slice Ab nb cb] W (DiskNE (D.bs.length + b.length) (D.bs ++ b) D.syn D.room 0 W) := by
  have h := append_any A n c s0 r0 bs0 Ab nb cb b W hr hc hby hrb hcb hcm hbb hnb hD
  have e : writeD b D = some (plusD b D) := by rw [writeD, if_pos hf]
  rw [e] at h
  have e2 : (plusD b D).bs.length = D.bs.length + b.length := by simp [plusD]
  unfold DiskRes at h
  simp only [Option.getD_some] at h
  rw [e2] at h
  exact h
theorem append_full {s0 r0 : Int} {bs0 b : List Nat} {Ab : Option Addr} {nb cb : Nat} {D : Dk} (hD : cnt bs0 s0 r0 = D) (hr : Rd W W.heap.size A n (bv bs0)) (hc : n ≤ c) (hby : ∀ x ∈ bs0, x < 256) (hrb : Rd W W.heap.size Ab nb (bv b)) (hcb : nb ≤ cb) (hcm : cb ≤ maxLen) (hbb : ∀ x ∈ b, x < 256) (hnb : nb ≤ 100000) (hf : ¬ D.bs.length + b.length ≤ D.room) :
    Calls Try.prog 10 #[diskV A n c s0 r0, .slice Ab nb cb] W (DiskNE D.bs.length D.bs D.syn D.room 30 W) := by
  have h := append_any A n c s0 r0 bs0 Ab nb cb b W hr hc hby hrb hcb hcm hbb hnb hD
  have e : writeD b D = none := by rw [writeD, if_neg hf]
  rw [e] at h
  exact h
theorem crash_N (keep : Int) (hok : (⟨bs, s, R⟩ : Dk).Ok) {bs' : List Nat} (h : crashD keep ⟨bs, s, R⟩ = ⟨bs', bs'.length, R⟩) (hr : Rd W W.heap.size A n (bv bs)) (hc : n ≤ c) :
    Calls Try.prog 17 #[diskV A n c s R, .int .i64 keep] W (DiskN bs'.length bs' bs'.length R W) := by
  have h1 := crash_any A n c s R keep bs W hr hc hok.byte (D := ⟨bs, s, R⟩) (cnt_self hok)
  rw [h] at h1
  exact h1
theorem sync_N (hok : (⟨bs, s, R⟩ : Dk).Ok) (hn : bs.length = n) (hr : Rd W W.heap.size A n (bv bs)) (hc : n ≤ c) :
    Calls Try.prog 16 #[diskV A n c s R] W (DiskN n bs n R W) := by
  have h1 := sync_any A n c s R bs W hr hc hok.byte (D := ⟨bs, s, R⟩) (cnt_self hok)
  subst hn
  exact h1
theorem free_N (hok : (⟨bs, s, R⟩ : Dk).Ok) (hn : bs.length = n) (hr : Rd W W.heap.size A n (bv bs)) (hc : n ≤ c) :
    Calls Try.prog 23 #[diskV A n c s R] W fun e w' => e = .returned (.int .i64 ((R : Int) - (n : Int))) ∧ Below W.heap.size W w' := by
  have h1 := free_any A n c s R bs W.heap.size W hr (Nat.le_refl _) hc (D := ⟨bs, s, R⟩) (cnt_self hok)
  subst hn
  exact h1
end

end Go.Proofs.Ytekffkoggnbgeaa
