/-
  The walk of the statement 'DiskTells', whole: it answers true, and nothing that was there turns. Conditions: none.
-/
import Derived.Test.YtekffkoggnbgeaaDiskLawTells
namespace Go.Proofs.Ytekffkoggnbgeaa
open Go.RowKit Go.Shelf

theorem cnt_none (room : Int) : cnt [] 0 room = ⟨[], 0, clampN room 65536⟩ := by simp [cnt, clampN]

theorem diskTells_walk (A : Option Addr) (n c : Nat) (s r : Int) (bs : List Nat) (A' : Option Addr) (n' c' : Nat) (s' r' : Int) (bs' : List Nat) (Ab : Option Addr) (nb cb : Nat) (b : List Nat) (nv : Int) (w : World)
    (hr : Rd w w.heap.size A n (bv bs)) (hby : ∀ x ∈ bs, x < 256) (hc : n ≤ c) (hr' : Rd w w.heap.size A' n' (bv bs')) (hby' : ∀ x ∈ bs', x < 256) (hc' : n' ≤ c') (hrb : Rd w w.heap.size Ab nb (bv b)) (hbb : ∀ x ∈ b, x < 256) (hcb : nb ≤ cb) (hcbm : cb ≤ maxLen) :
    Calls Try.prog 3 #[diskV A n c s r, diskV A' n' c' s' r', .slice Ab nb cb, .int .i64 nv] w (TruePost w) := by
  by_cases hn : n ≤ 400
  · by_cases hn' : n' ≤ 400
    · by_cases hnb : nb ≤ 300
      · have hbl : b.length = nb := by have := hrb.1; rwa [bv_length] at this
        obtain ⟨ob, S, R, hD⟩ : ∃ ob S R, cnt bs s r = ⟨ob, S, R⟩ := ⟨_, _, _, rfl⟩
        obtain ⟨ob', S', R', hD'⟩ : ∃ ob' S' R', cnt bs' s' r' = ⟨ob', S', R'⟩ := ⟨_, _, _, rfl⟩
        have hok : (⟨ob, S, R⟩ : Dk).Ok := by have h := cnt_ok s r hby; rwa [hD] at h
        have hl1 : S ≤ ob.length := hok.syn
        have hl2 : ob.length ≤ R := hok.len
        have hob : ∀ x ∈ ob, x < 256 := hok.byte
        have R1 : ∀ W, Below w.heap.size w W → Rd W W.heap.size A n (bv bs) := fun W hW => (hr.below hW).more hW.size
        have R2 : ∀ W, Below w.heap.size w W → Rd W W.heap.size A' n' (bv bs') := fun W hW => (hr'.below hW).more hW.size
        have R3 : ∀ W, Below w.heap.size w W → Rd W W.heap.size Ab nb (bv b) := fun W hW => (hrb.below hW).more hW.size
        have hL : S + clampN nv (ob.length - S) ≤ ob.length := by have := clampN_le nv (ob.length - S); omega
        have lap : ∃ (K5 : Nat) (o5 : List Nat) (S5 R5 E : Int), (∀ x ∈ o5, x < 256) ∧
            (∀ W, Below w.heap.size w W → Calls Try.prog 10 #[diskV A n c s r, .slice Ab nb cb] W (DiskNE K5 o5 S5 R5 E W)) ∧
            (∀ W, Below w.heap.size w W → Calls Try.prog 11 #[diskV A n c s r, .slice Ab nb cb] W (DiskNE K5 o5 S5 R5 E W)) := by
          by_cases hf : ob.length + nb ≤ R
          · refine ⟨ob.length + nb, ob ++ b, S, R, 0, ?_, fun W hW => ?_, fun W hW => refAppend_fit A n c s r bs Ab nb cb b W (R1 W hW) hc (by omega) hby hD rfl (R3 W hW) hf⟩
            · intro x hx; rcases List.mem_append.1 hx with h | h
              · exact hob x h
              · exact hbb x h
            · have h := append_N (W := W) hD (R1 W hW) hc hby (R3 W hW) hcb hcbm hbb (by omega) (by simp only; omega)
              simp only [hbl] at h
              exact h
          · refine ⟨ob.length, ob, S, R, 30, hob, fun W hW => ?_, fun W hW => refAppend_full A n c s r bs Ab nb cb b W (R1 W hW) hc (by omega) hby hD rfl (R3 W hW) (by omega) hf⟩
            exact append_full (W := W) hD (R1 W hW) hc hby (R3 W hW) hcb hcbm hbb (by omega) (by simp only; omega)
        have lsw : ∃ (K5 : Nat) (o5 : List Nat) (S5 R5 E : Int), (∀ x ∈ o5, x < 256) ∧
            (∀ W, Below w.heap.size w W → Calls Try.prog 12 #[diskV A n c s r, .slice Ab nb cb] W (DiskNE K5 o5 S5 R5 E W)) ∧
            (∀ W, Below w.heap.size w W → Calls Try.prog 13 #[diskV A n c s r, .slice Ab nb cb] W (DiskNE K5 o5 S5 R5 E W)) := by
          by_cases hf : nb ≤ R
          · refine ⟨nb, b, nb, R, 0, hbb, fun W hW => ?_, fun W hW => refSwap_fit A n c s r bs Ab nb cb b W (R1 W hW) hc (by omega) hby hD rfl (R3 W hW) (by omega) hf⟩
            have h := swap_N (W := W) (R' := R) hD (R1 W hW) hc hby (R3 W hW) hcb hcbm hbb (by omega) rfl (by omega)
            simp only [hbl] at h
            exact h
          · refine ⟨ob.length, ob, S, R, 30, hob, fun W hW => ?_, fun W hW => refSwap_full A n c s r bs Ab nb cb b W (R1 W hW) hc (by omega) hby hD rfl (R3 W hW) hf⟩
            exact swap_full (W := W) hD (R1 W hW) hc hby (R3 W hW) hcb hcbm hbb (by omega) (by simp only; omega)
        obtain ⟨K5, o5, S5, R5, E, hb5, ap, ar⟩ := lap
        obtain ⟨K6, o6, S6, R6, F, hb6, sp, sr⟩ := lsw
        refine diskTells_in A n c s r A' n' c' s' r' Ab nb cb nv w hn hn' hnb ob.length ob S R 0 [] 0 (clampN nv 65536) ob.length ob ob.length R (S + clampN nv (ob.length - S)) (ob.take (S + clampN nv (ob.length - S))) ((S + clampN nv (ob.length - S) : Nat)) R K5 o5 S5 R5 K6 o6 S6 R6 E F ((R : Int) - (ob.length : Int)) (decide ((⟨ob, S, R⟩ : Dk) = ⟨ob', S', R'⟩)) ?_
          ap ar sp sr (fun W hW => ?_) (fun W hW => ?_) (fun W hW => ?_) (fun W hW => ?_) (fun W hW => ?_) (fun W hW => ?_) (fun W hW => ?_) (fun W hW => ?_) (fun W hW => ?_) (fun W hW => ?_) (fun W hW => ?_) (fun W hW => ?_)
        · intro o ho
          simp only [List.mem_cons, List.not_mem_nil, or_false] at ho
          rcases ho with rfl | rfl | rfl | rfl | rfl | rfl
          · exact hob
          · simp
          · exact hob
          · exact fun x hx => hob x (List.mem_of_mem_take hx)
          · exact hb5
          · exact hb6
        · have h := own_any A n c s r bs W.heap.size W (R1 W hW) (Nat.le_refl _) hc
          rw [hD] at h; exact h
        · have h := new_any nv W
          rw [cnt_none] at h; exact h
        · exact sync_any A n c s r bs W (R1 W hW) hc hby hD
        · have h := crash_any A n c s r nv bs W (R1 W hW) hc hby hD
          have e : crashD nv ⟨ob, S, R⟩ = ⟨ob.take (S + clampN nv (ob.length - S)), S + clampN nv (ob.length - S), R⟩ := by
            simp only [crashD, secureD, loseD, loseN, Dk.mk.injEq, true_and, and_true, List.length_take]; omega
          rw [e] at h
          have e2 : (ob.take (S + clampN nv (ob.length - S))).length = S + clampN nv (ob.length - S) := by rw [List.length_take]; omega
          unfold DiskIs at h
          simp only [e2] at h
          exact h
        · exact (refOwn_hid A n c s r bs W (R1 W hW) hc (by omega) hD rfl).out W (Below.refl _ _)
        · exact refNew_any nv W (cnt_none nv)
        · exact refSync_any A n c s r bs W (R1 W hW) hc (by omega) hD rfl
        · exact refCrash_any A n c s r bs W (R1 W hW) hc (by omega) hD rfl nv rfl
        · exact free_any A n c s r bs W.heap.size W (R1 W hW) (Nat.le_refl _) hc hD
        · exact same_any A n c s r bs A' n' c' s' r' bs' W.heap.size W (R1 W hW) (Nat.le_refl _) hc hby (R2 W hW) hc' hby' hD hD'
        · exact refFree_any A n c s r bs W (R1 W hW) hc (by omega) hD rfl
        · exact refSame_any A n c s r bs A' n' c' s' r' bs' W (R1 W hW) hc (by omega) hby (R2 W hW) hc' (by omega) hby' hD rfl hD' rfl
      · exact diskTells_out A n c s r A' n' c' s' r' Ab nb cb nv w (.inr (.inr ⟨hn, hn', by omega⟩))
    · exact diskTells_out A n c s r A' n' c' s' r' Ab nb cb nv w (.inr (.inl ⟨hn, by omega⟩))
  · exact diskTells_out A n c s r A' n' c' s' r' Ab nb cb nv w (.inl (by omega))

end Go.Proofs.Ytekffkoggnbgeaa
