/-
  The walk of 'Take' of package frame. Conditions: those that each theorem names.
-/
import Derived.Test.YtocleikdabclkaaFrFirst
namespace Go.Proofs.Ytocleikdabclkaa
open Go.RowKit Go.Shelf

theorem frFirst_yes {A : Option Addr} {n c : Nat} {bs p : List Nat} {B : Nat} {w : World} (hp : IsFr bs p) (hr : Rd w B A n (bv bs)) (hB : B ≤ w.heap.size) (hb : ∀ x ∈ bs, x < 256) (hn : n ≤ 1000000) (hc : n ≤ c) :
    Calls Try.prog 25 #[.slice A n c] w (FirstYes p B w) := by
  refine (frFirst_any A n c bs B w hr hB hb hn hc).mono ?_
  rintro e w' (⟨h, _⟩ | ⟨q, hq, h⟩)
  · exact absurd hp (h p)
  · rw [isFr_one hp hq]; exact h
theorem frFirst_no {A : Option Addr} {n c : Nat} {bs : List Nat} {B : Nat} {w : World} (hp : ∀ p, ¬ IsFr bs p) (hr : Rd w B A n (bv bs)) (hB : B ≤ w.heap.size) (hb : ∀ x ∈ bs, x < 256) (hn : n ≤ 1000000) (hc : n ≤ c) :
    Calls Try.prog 25 #[.slice A n c] w (FirstNo w) := by
  refine (frFirst_any A n c bs B w hr hB hb hn hc).mono ?_
  rintro e w' (⟨_, h⟩ | ⟨q, hq, _⟩)
  · exact h
  · exact absurd hq (hp q)

/-- What 'Take' answers if there is no frame; and if there is one. -/
def TakeNo (w : World) (e : Ending) (w' : World) : Prop := e = .returned (.tuple #[.slice none 0 0, .slice none 0 0, .int .i64 40]) ∧ Below w.heap.size w w'
def TakeYes (p r : List Nat) (w : World) (e : Ending) (w' : World) : Prop :=
  ∃ A c A' c', e = .returned (.tuple #[.slice A p.length c, .slice A' r.length c', .int .i64 0]) ∧ w'.ownsRow w.heap.size 5 1 (.slice A p.length c) p.length (bv p) ∧ w'.ownsRow w.heap.size 5 1 (.slice A' r.length c') r.length (bv r) ∧ Below w.heap.size w w'

set_option maxRecDepth 100000 in
set_option maxHeartbeats 1000000 in
theorem frTake_no (A : Option Addr) (n c : Nat) (bs : List Nat) (B : Nat) (w : World) (hp : ∀ p, ¬ IsFr bs p) (hr : Rd w B A n (bv bs)) (hB : B ≤ w.heap.size) (hb : ∀ x ∈ bs, x < 256) (hn : n ≤ 1000000) (hc : n ≤ c) :
    Calls Try.prog 11 #[.slice A n c] w (TakeNo w) := by
  have HF := Lib.hid (frFirst_no hp hr hB hb hn hc)
  clear hp hr hb
  go_enter Try.func11, Try.ntmps11
  go_wp2_with fail
  refine (HF.out).mono ?_
  rintro e w1 ⟨rfl, b1⟩
  go_wp2_with fail
  go_ret3
  exact ⟨rfl, b1.alloc b1.size _⟩

set_option maxRecDepth 100000 in
set_option maxHeartbeats 1000000 in
theorem frTake_yes (A : Option Addr) (n c : Nat) (bs p r : List Nat) (B : Nat) (w : World) (hp : IsFr bs p) (hrest : bs.drop (frLen p.length) = r) (hr : Rd w B A n (bv bs)) (hB : B ≤ w.heap.size) (hb : ∀ x ∈ bs, x < 256) (hn : n ≤ 1000000) (hc : n ≤ c) :
    Calls Try.prog 11 #[.slice A n c] w (TakeYes p r w) := by
  have HF := Lib.hid (frFirst_yes hp hr hB hb hn hc)
  have HBB := Lib.hid hB
  have hl : bs.length = n := by have := hr.1; rwa [bv_length] at this
  have hle := hp.le
  have hp4 := hp.1
  obtain ⟨F, hFe⟩ : ∃ F, frLen p.length = F := ⟨_, rfl⟩
  unfold FirstYes at HF
  rw [hFe] at hrest hle HF
  have hF5 : F ≠ 0 := by rw [← hFe]; have := frLen_pos p.length; omega
  have hFb : ((F : Int) == 0) = false := by rw [beq_eq_false_iff_ne]; omega
  have hFn : (F : Int) ≤ (n : Int) := by omega
  obtain ⟨A', hA1, hA2⟩ := run_rest A n c F (by omega)
  have hrl : r.length = n - F := by rw [← hrest, List.length_drop, hl]
  have HRr : Hid (Rd w w.heap.size A' r.length (bv r)) := by
    rw [← hrest, bv, List.map_drop, List.length_drop, hl]
    exact (hr.more hB).cut (by omega) A' (fun h => hA2 ⟨h, hc⟩)
  rw [← hrl] at hA1
  have HRn : Hid (r.length ≤ 140737488355328) := by show r.length ≤ 140737488355328; omega
  clear hp hr hb hrest hle hFe hF5 hA2 hrl hl
  go_enter Try.func11, Try.ntmps11
  go_wp2_with fail
  refine (HF.out).mono ?_
  rintro e w1 ⟨A1, c1, rfl, hr1, b1⟩
  have B1 := Lib.hid b1
  have HR1 := Lib.hid (hr1.more HBB.out)
  have X1 := Lib.hid (Whole.new w1 48 #[.slice A1 p.length c1, .int .i64 (F : Int)])
  have x0 := X1.out.cell 0
  have x1 := X1.out.cell 1
  simp only [List.getElem?_toArray, List.getElem?_cons_zero, List.getElem?_cons_succ] at x0 x1
  clear b1 hr1 HF
  go_wp2_with fail
  have B2 := Lib.hid (B1.out.alloc B1.out.size (.cells #[.slice A1 p.length c1, .int .i64 (F : Int)] 48))
  generalize w1.alloc (.cells #[.slice A1 p.length c1, .int .i64 (F : Int)] 48) = W2 at X1 B2 x0 x1 ⊢
  generalize w1.heap.size = g at X1 x0 x1 ⊢
  have HP := Lib.hid (fun (W : World) (hW : Below w.heap.size w W) => clone_any A1 p.length c1 p w.heap.size W (HR1.out.below hW) (by omega))
  have HQ := Lib.hid (fun (W : World) (hW : Below w.heap.size w W) => clone_any A' r.length (c - F) r w.heap.size W (HRr.out.below hW) HRn.out)
  have HC := Lib.hid B2.out.drew
  go_region_held3 (fun W => W.cell? ⟨g, 0, none⟩ = some (.slice A1 p.length c1) ∧ W.cell? ⟨g, 1, none⟩ = some (.int .i64 (F : Int))) (first | (with_reducible exact S4.out) | (with_reducible exact S3.out) | go_keep)
    (first | (go_at_call 26; refine (HP.out _ HC.out).mono ?_; rintro e w3 ⟨A3, c3, rfl, hI3⟩; clear HP HC; have HI3 := Lib.hid hI3; have HC := Lib.hid (B2.out.drew.trans (hI3.2.1.mono B2.out.size)); have X3 := Lib.hid (Whole.under (w := W2.drew) X1.out hI3.2.1); have S3 := Lib.hid (And.intro (X3.out.cell 0) (X3.out.cell 1)); simp only [List.getElem?_toArray, List.getElem?_cons_zero, List.getElem?_cons_succ] at S3; clear hI3) | (go_at_call 26; refine (HQ.out _ HC.out).mono ?_; rintro e w4 ⟨A4, c4, rfl, hI4⟩; clear HQ; have HI4 := Lib.hid hI4; have X4 := Lib.hid (Whole.under X3.out hI4.2.1); have S4 := Lib.hid (And.intro (X4.out.cell 0) (X4.out.cell 1)); simp only [List.getElem?_toArray, List.getElem?_cons_zero, List.getElem?_cons_succ] at S4; clear hI4))
  go_wp2_with fail
  go_ret3
  refine ⟨A3, c3, A4, c4, rfl, ?_, ?_, HC.out.trans (HI4.out.2.1.mono HC.out.size)⟩
  · exact own_weaker (own_under HI3.out.1 HI4.out.2.1) B2.out.size
  · exact own_weaker HI4.out.1 HC.out.size

end Go.Proofs.Ytocleikdabclkaa
