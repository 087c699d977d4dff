/-
  The walk of the statements' 'same' (stage 4). Conditions: those that each theorem names.
-/
import Derived.Test.YtocleikdabclkaaNumPut
namespace Go.Proofs.Ytocleikdabclkaa
open Go.RowKit Go.Shelf

set_option maxHeartbeats 400000 in
theorem same_any (A A' : Option Addr) (n c n' c' : Nat) (a b : List Nat) (B : Nat) (w : World) (hr : Rd w B A n (bv a)) (hr' : Rd w B A' n' (bv b)) (ha : ∀ x ∈ a, x < 256) (hb : ∀ x ∈ b, x < 256) :
    Calls Try.prog 15 #[.slice A n c, .slice A' n' c'] w fun e w' => e = .returned (.bool (decide (a = b))) ∧ w = w' := by
  have h1 := run_string w A n c a B hr
  have h2 := run_string w A' n' c' b B hr'
  have H3 := Lib.hid (strB_inj ha hb)
  clear hr hr' ha hb
  obtain ⟨s, hs⟩ : ∃ s, strB a = s := ⟨_, rfl⟩
  obtain ⟨t, ht⟩ : ∃ t, strB b = t := ⟨_, rfl⟩
  rw [hs] at h1 H3
  rw [ht] at h2 H3
  clear hs ht
  go_enter Try.func15, Try.ntmps15
  go_wp2_with fail
  go_ret
  exact ⟨by rw [← H3.out]; rfl, rfl⟩

end Go.Proofs.Ytocleikdabclkaa
