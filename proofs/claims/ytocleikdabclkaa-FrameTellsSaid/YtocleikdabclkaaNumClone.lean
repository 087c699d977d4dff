/-
  The walk of 'bytes.Clone', and bytes as strings. Conditions: those that each theorem names.
-/
import Derived.Test.YtocleikdabclkaaNumAdd
import Derived.Laws.BytesArg
namespace Go.Proofs.Ytocleikdabclkaa
open Go.RowKit Go.Shelf

theorem AddInv.form {base j : Nat} {ys : List Value} {w w' : World} {v : Value} (h : AddInv base j ys w v w') : ∃ A c, v = .slice A j c := by
  rcases h.1.2 with ⟨rfl, rfl⟩ | ⟨g, cap, cur, rfl, _⟩
  · exact ⟨_, _, rfl⟩
  · exact ⟨_, _, rfl⟩

def TwoPost (base k : Nat) (xs : List Value) (w : World) (e : Ending) (w' : World) : Prop :=
  ∃ A c, e = .returned (.tuple #[.slice A k c, .int .i64 0]) ∧ AddInv base k xs w (.slice A k c) w'

/-- A slice of the same elements, of the call's own. -/
def OwnPost (base k : Nat) (xs : List Value) (w : World) (e : Ending) (w' : World) : Prop :=
  ∃ A c, e = .returned (.slice A k c) ∧ AddInv base k xs w (.slice A k c) w'

set_option maxHeartbeats 1000000 in
theorem clone_any (A : Option Addr) (n c : Nat) (bs : List Nat) (B : Nat) (w : World) (hr : Rd w B A n (bv bs)) (hn : n ≤ 140737488355328) :
    Calls Try.prog 26 #[.slice A n c] w (OwnPost w.heap.size n (bv bs) w) := by
  obtain ⟨i0, hi, hz0, hz1, hz2⟩ := info_parts info_u8
  have q : ∀ (w : World) (a : Option Addr) (n c n' c' : Nat), (binOp .eql 22 (.slice a n c) (.slice none n' c')).run Try.prog w = .ok (.bool a.isNone) w := fun w a n c n' c' => Lib.run_eql_slice_nil w _ _ a n c n' c' Try.underlying22
  have Hr := Lib.hid hr
  clear hr
  rcases A with _ | a
  · have hn0 : n = 0 := by
      rcases Nat.eq_zero_or_pos n with h | h
      · exact h
      · obtain ⟨b, off, e, _⟩ := Hr.out.2 h
        cases e
    have hbs : bv bs = [] := List.eq_nil_of_length_eq_zero (by rw [Hr.out.1, hn0])
    rw [hbs]
    subst hn0
    clear hbs Hr
    go_enter Try.func26, Try.ntmps26
    go_wp2_with fail
    go_ret
    exact ⟨none, 0, rfl, World.ownsRow_nil _ _ _ _, Below.refl _ _, KeepsOthers.refl _, Nat.le_refl _⟩
  · have hnews : ∀ (o : Obj) (j : Nat) (u : Value), (bv bs)[j]? = some u → (w.alloc o).cell? (a.add j) = some u := by
      intro o j u hu
      have hj : j < n := by rw [← Hr.out.1]; exact (List.getElem?_eq_some_iff.1 hu).1
      obtain ⟨b, off, e, _, hc⟩ := Hr.out.2 (by omega)
      injection e with e
      subst e
      rw [Addr.add_lit]
      have h1 := hc j hj
      rw [hu] at h1
      exact (World.cell?_alloc_lt w o _ (World.block_lt_of_cell? w _ h1)).trans h1
    have Hn := Lib.hid hnews
    clear hnews
    have Hl := Lib.hid Hr.out.1
    clear Hr
    go_enter Try.func26, Try.ntmps26
    go_wp2_with (at_builtin; refine wpList_append_own _ rfl _ _ 22 rfl w.heap.size 5 i0 (.int .u8 0) 1 1 Try.underlying22 hi hz0 hz1 hz2 rfl (by decide) _ _ _ rfl (World.ownsRow_made w #[] 0 (Nat.le_refl _) (Nat.zero_le _) rfl) a n c (bv bs) rfl (by rw [Hl.out, Nat.mul_one]) (Hn.out _) (bv_one bs) (by unfold maxLen; omega) (by omega) (by simp) ?_; intro v1 w1 hown1 hgrow1 _)
    have hI : AddInv w.heap.size n (bv bs) w v1 w1 := by
      have h1 := World.ownsRow_made (base := w.heap.size) (e := 5) (size := 1) w #[] 0 (Nat.le_refl _) (Nat.zero_le _) rfl
      refine ⟨by simpa using hown1, ((Below.refl _ w).alloc (Nat.le_refl _) _).trans (below_row h1 hgrow1 (by simp)), (KeepsOthers.alloc w _).trans (keeps_row h1 hgrow1), ?_⟩
      have := hgrow1.size; simp at this; omega
    obtain ⟨A1, c1, rfl⟩ := hI.form
    go_ret
    exact ⟨A1, c1, rfl, hI⟩

end Go.Proofs.Ytocleikdabclkaa
