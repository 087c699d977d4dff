/-
  The walk of 'Take' of package num. Conditions: those that each theorem names.
-/
import Derived.Test.YtocleikdabclkaaNumBehind
import Derived.Test.YtocleikdabclkaaNumPut
namespace Go.Proofs.Ytocleikdabclkaa
open Go.RowKit Go.Shelf

def TakePost (bs : List Nat) (w : World) (e : Ending) (w' : World) : Prop :=
  ∃ A c, e = .returned (.tuple #[.int .i64 ((first bs).1 : Int), .slice A (behind bs).length c, .int .i64 ((first bs).2.2 : Int)]) ∧ AddInv w.heap.size (behind bs).length (bv (behind bs)) w (.slice A (behind bs).length c) w'

set_option maxHeartbeats 1000000 in
theorem take_err (A : Option Addr) (n c : Nat) (bs : List Nat) (B : Nat) (w : World) (hr : Rd w B A n (bv bs)) (hB : B ≤ w.heap.size) (hb : ∀ x ∈ bs, x < 256) (hn : n ≤ maxLen) (he : (first bs).2.2 ≠ 0) :
    Calls Try.prog 35 #[.slice A n c] w (TakePost bs w) := by
  obtain ⟨N, K, E, hF⟩ : ∃ N K E, first bs = (N, K, E) := ⟨_, _, _, rfl⟩
  have H1 := Lib.hid (first_eq A n c bs B w hr hB hb hn hF)
  have h0 := first_err he
  rw [hF] at he h0
  obtain ⟨hN, hK, _⟩ := h0
  simp only at hN hK
  subst hN; subst hK
  have hE : ((E : Int) != 0) = true := by simp; exact he
  have HF := Lib.hid hF
  have HE : Hid (¬ E = 0) := he
  clear hF he hr hb
  go_enter Try.func35, Try.ntmps35
  go_wp2_with (first | (go_at_call 38; refine (H1.out).mono ?_; rintro e w1 ⟨rfl, hb1, hk1⟩; clear H1))
  go_quiet (fail)
  go_wp2
  go_ret3
  have e1 := HF.out
  refine ⟨none, 0, ?_, ?_⟩
  · simp only [e1, behind, if_neg (HE.out)]; rfl
  · simp only [e1, behind, if_neg (HE.out)]
    exact nil_inv ((hb1.alloc hb1.size _).trans (below_drewN (Below.refl _ _) _)) (hk1.trans ((KeepsOthers.alloc _ _).trans (keeps_drewN _ _)))

set_option maxRecDepth 100000 in
set_option maxHeartbeats 1000000 in
theorem take_ok (A : Option Addr) (n c : Nat) (bs : List Nat) (B : Nat) (w : World) (hr : Rd w B A n (bv bs)) (hB : B ≤ w.heap.size) (hb : ∀ x ∈ bs, x < 256) (hn : n ≤ 140737488355328) (hc : n ≤ c) (he : (first bs).2.2 = 0) :
    Calls Try.prog 35 #[.slice A n c] w (TakePost bs w) := by
  obtain ⟨N, K, E, hF⟩ : ∃ N K E, first bs = (N, K, E) := ⟨_, _, _, rfl⟩
  have H1 := Lib.hid (first_eq A n c bs B w hr hB hb (by unfold maxLen; omega) hF)
  rw [hF] at he
  simp only at he
  subst he
  have hKl := (first_ok hb (show (first bs).2.2 = 0 by rw [hF])).2.1
  rw [hF] at hKl
  have hKn : K ≤ n := by
    rcases scan_cases bs 0 0 with hc | hc | ⟨N', K', hc, h4, h5, h6⟩
    · unfold first at hF; rw [hc] at hF; simp at hF
    · unfold first at hF; rw [hc] at hF; simp at hF
    · unfold first at hF; rw [hc] at hF
      simp only [Prod.mk.injEq] at hF
      have := hr.1; rw [bv_length] at this; omega
  obtain ⟨A', hA1, hA2⟩ := run_rest A n c K hKn
  have HA1 := Lib.hid hA1
  have HKn : Hid (K ≤ n) := hKn
  have HA2 := Lib.hid hA2
  have HKl := Lib.hid hKl
  have HF := Lib.hid hF
  have HR := Lib.hid hr
  clear hF hr hb hA2 hKl hA1 hKn
  go_enter Try.func35, Try.ntmps35
  go_wp2_with (first | (go_at_call 38; refine (H1.out).mono ?_; rintro e w1 ⟨rfl, hb1, hk1⟩; clear H1))
  obtain ⟨W2, hW2⟩ : ∃ W2, w1.alloc (.cells #[.int .i64 (N : Int), .int .i64 (K : Int), .int .i64 0] 60) = W2 := ⟨_, rfl⟩
  have hz2 : w1.heap.size + 1 = W2.heap.size := by rw [← hW2]; simp
  have c0 : W2.cell? ⟨w1.heap.size, 0, none⟩ = some (.int .i64 (N : Int)) := by rw [← hW2]; exact cell_new w1 _ _ 0
  have c1 : W2.cell? ⟨w1.heap.size, 1, none⟩ = some (.int .i64 (K : Int)) := by rw [← hW2]; exact cell_new w1 _ _ 1
  have hB2 : Below w.heap.size w W2 := by rw [← hW2]; exact hb1.alloc hb1.size _
  have hK2 : KeepsOthers w W2 := by rw [← hW2]; exact hk1.trans (KeepsOthers.alloc _ _)
  rw [hW2]
  clear hW2 hb1 hk1
  obtain ⟨g, hg⟩ : ∃ g, w1.heap.size = g := ⟨_, rfl⟩
  rw [hg] at hz2 c0 c1 ⊢
  clear hg
  have HZ := Lib.hid hz2
  clear hz2
  have HRd : Hid (Rd W2.drew B A' (n - K) (bv (bs.drop K))) := by
    have h1 : Rd W2.drew B A n (bv bs) := HR.out.below ((hB2.mono hB).drew)
    have h2 := h1.cut HKn.out A' (fun hk => HA2.out ⟨hk, hc⟩)
    rw [bv, List.map_drop]
    exact h2
  have Hn : Hid (n - K ≤ 140737488355328) := by show n - K ≤ 140737488355328; omega
  have HL : Hid ((bs.drop K).length = n - K) := by
    have := HR.out.1; rw [bv_length] at this
    show (bs.drop K).length = n - K
    rw [List.length_drop, this]
  have Hc : Hid (∀ w3 : World, Below W2.drew.heap.size W2.drew w3 → w3.cell? ⟨g, 0, none⟩ = some (.int .i64 (N : Int)) ∧ w3.cell? ⟨g, 1, none⟩ = some (.int .i64 (K : Int))) := fun w3 h => by
    have hg : g < W2.drew.heap.size := by have := HZ.out; show g < W2.heap.size; omega
    exact ⟨(h.cell (p := ⟨g, 0, none⟩) hg).trans c0, (h.cell (p := ⟨g, 1, none⟩) hg).trans c1⟩
  have HB2 := Lib.hid hB2
  have HK2 := Lib.hid hK2
  clear hB2 hK2 hn hc hB
  have hA1 := HA1.out
  go_region_held3 (fun W => W.cell? ⟨g, 0, none⟩ = some (.int .i64 (N : Int)) ∧ W.cell? ⟨g, 1, none⟩ = some (.int .i64 (K : Int))) (go_keep)
    (first | (go_at_call 26; refine (clone_any A' (n - K) (c - K) (bs.drop K) B _ HRd.out Hn.out).mono ?_; rintro e w3 ⟨A3, c3, rfl, hI3⟩; obtain ⟨d0, d1⟩ := Hc.out w3 hI3.2.1))
  go_wp2
  go_ret3
  have e1 := HF.out
  have hbh : behind bs = bs.drop K := by simp [behind, e1]
  refine ⟨A3, c3, ?_, ?_⟩
  · rw [hbh, HL.out, e1]; rfl
  · rw [hbh, HL.out]
    exact hI3.after HB2.out.drew (HK2.out.trans (keeps_drewN W2 1)) (by have := HB2.out.size; exact this)

end Go.Proofs.Ytocleikdabclkaa
