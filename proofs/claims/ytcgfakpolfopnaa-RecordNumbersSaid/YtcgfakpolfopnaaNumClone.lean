/-
  The walk of 'bytes.Clone', and bytes as strings. Conditions: those that each theorem names.
-/
import Derived.Test.YtcgfakpolfopnaaNumAdd
import Derived.Laws.BytesArg
namespace Go.Proofs.Ytcgfakpolfopnaa
open Go.RowKit Go.Shelf

theorem AddInv.form {base j : Nat} {ys : List Value} {w w' : World} {v : Value} (h : AddInv base j ys w v w') : ∃ A c, v = .slice A j c := by
  rcases h.1.2 with ⟨rfl, rfl⟩ | ⟨g, cap, cur, rfl, _⟩
  · exact ⟨_, _, rfl⟩
  · exact ⟨_, _, rfl⟩

def TwoPost (base k : Nat) (xs : List Value) (w : World) (e : Ending) (w' : World) : Prop :=
  ∃ A c, e = .returned (.tuple #[.slice A k c, .int .i64 0]) ∧ AddInv base k xs w (.slice A k c) w'

/-- A slice of the same elements, of the call's own. -/
def OwnPost (base k : Nat) (xs : List Value) (w : World) (e : Ending) (w' : World) : Prop :=
  ∃ A c, e = .returned (.slice A k c) ∧ AddInv base k xs w (.slice A k c) w'

set_option maxHeartbeats 1000000 in
theorem clone_any (A : Option Addr) (n c : Nat) (bs : List Nat) (B : Nat) (w : World) (hr : Rd w B A n (bv bs)) (hn : n ≤ 140737488355328) :
    Calls Try.prog 43 #[.slice A n c] w (OwnPost w.heap.size n (bv bs) w) := by
  obtain ⟨i0, hi, hz0, hz1, hz2⟩ := info_parts info_u8
  have q : ∀ (w : World) (a : Option Addr) (n c n' c' : Nat), (binOp .eql 26 (.slice a n c) (.slice none n' c')).run Try.prog w = .ok (.bool a.isNone) w := fun w a n c n' c' => Lib.run_eql_slice_nil w _ _ a n c n' c' Try.underlying26
  have Hr := Lib.hid hr
  clear hr
  rcases A with _ | a
  · have hn0 : n = 0 := by
      rcases Nat.eq_zero_or_pos n with h | h
      · exact h
      · obtain ⟨b, off, e, _⟩ := Hr.out.2 h
        cases e
    have hbs : bv bs = [] := List.eq_nil_of_length_eq_zero (by rw [Hr.out.1, hn0])
    rw [hbs]
    subst hn0
    clear hbs Hr
    go_enter Try.func43, Try.ntmps43
    go_wp2_with fail
    go_ret
    exact ⟨none, 0, rfl, World.ownsRow_nil _ _ _ _, Below.refl _ _, KeepsOthers.refl _, Nat.le_refl _⟩
  · have hnews : ∀ (o : Obj) (j : Nat) (u : Value), (bv bs)[j]? = some u → (w.alloc o).cell? (a.add j) = some u := by
      intro o j u hu
      have hj : j < n := by rw [← Hr.out.1]; exact (List.getElem?_eq_some_iff.1 hu).1
      obtain ⟨b, off, e, _, hc⟩ := Hr.out.2 (by omega)
      injection e with e
      subst e
      rw [Addr.add_lit]
      have h1 := hc j hj
      rw [hu] at h1
      exact (World.cell?_alloc_lt w o _ (World.block_lt_of_cell? w _ h1)).trans h1
    have Hn := Lib.hid hnews
    clear hnews
    have Hl := Lib.hid Hr.out.1
    clear Hr
    go_enter Try.func43, Try.ntmps43
    go_wp2_with (at_builtin; refine wpList_append_own _ rfl _ _ 26 rfl w.heap.size 5 i0 (.int .u8 0) 1 1 Try.underlying26 hi hz0 hz1 hz2 rfl (by decide) _ _ _ rfl (World.ownsRow_made w #[] 0 (Nat.le_refl _) (Nat.zero_le _) rfl) a n c (bv bs) rfl (by rw [Hl.out, Nat.mul_one]) (Hn.out _) (bv_one bs) (by unfold maxLen; omega) (by omega) (by simp) ?_; intro v1 w1 hown1 hgrow1 _)
    have hI : AddInv w.heap.size n (bv bs) w v1 w1 := by
      have h1 := World.ownsRow_made (base := w.heap.size) (e := 5) (size := 1) w #[] 0 (Nat.le_refl _) (Nat.zero_le _) rfl
      refine ⟨by simpa using hown1, ((Below.refl _ w).alloc (Nat.le_refl _) _).trans (below_row h1 hgrow1 (by simp)), (KeepsOthers.alloc w _).trans (keeps_row h1 hgrow1), ?_⟩
      have := hgrow1.size; simp at this; omega
    obtain ⟨A1, c1, rfl⟩ := hI.form
    go_ret
    exact ⟨A1, c1, rfl, hI⟩

/-- The string of a list of bytes. -/
def strB (bs : List Nat) : ByteArray := strOfNums (bs.map fun x : Nat => (x : Int))

theorem run_string (w : World) (A : Option Addr) (n c : Nat) (bs : List Nat) (B : Nat) (hr : Rd w B A n (bv bs)) :
    (convert 26 9 (.slice A n c)).run Try.prog w = .ok (.string (strB bs)) w := by
  rcases Nat.eq_zero_or_pos n with h | h
  · subst h
    have hbs : bs = [] := by have := hr.1; rw [bv_length] at this; exact List.eq_nil_of_length_eq_zero this
    subst hbs
    rcases A with _ | a
    · exact run_convert_bytes_nil w 26 5 Try.underlying26 Try.underlying5 0 c 9 Try.underlying9
    · have h1 : (loadCells a 0).run Try.prog w = .ok (([] : List Int).map (Value.int .u8)).toArray w := by
        have := run_loadCells_list (P := Try.prog) w a [] (fun j v hj => by simp at hj)
        simpa using this
      rw [run_convert_bytes_string w 26 9 5 _ 0 c Try.underlying26 Try.underlying5 Try.underlying9, run_bytesToString w a 0 c [] h1]
      rfl
  · obtain ⟨b, off, rfl, _, hc⟩ := hr.2 h
    have hl : bs.length = n := by have := hr.1; rwa [bv_length] at this
    refine run_convert_bytes_arg w 26 5 Try.underlying26 Try.underlying5 b off n c (bs.map fun x : Nat => (x : Int)) (by simpa using hl) ?_ 9 Try.underlying9
    intro i hi
    rw [hc i hi]
    have hib : i < bs.length := by omega
    simp [bv, List.getD, List.getElem?_eq_getElem hib]

theorem strB_inj {a b : List Nat} (ha : ∀ x ∈ a, x < 256) (hb : ∀ x ∈ b, x < 256) : ((strB a).toList == (strB b).toList) = decide (a = b) := by
  have h2 : ∀ (l : List Nat), (∀ x ∈ l, x < 256) → (strB l).toList.map UInt8.toNat = l := by
    intro l hl
    rw [ByteArray.toList_eq, strB, strOfNums_data, List.map_map, List.map_map]
    conv => rhs; rw [← List.map_id l]
    refine List.map_congr_left fun x hx => ?_
    have := hl x hx
    simp
    omega
  by_cases h : a = b
  · subst h; simp
  · have h' : ¬ (strB a).toList = (strB b).toList := fun e => h (by rw [← h2 a ha, ← h2 b hb, e])
    rw [decide_eq_false h]
    exact beq_eq_false_iff_ne.2 h'

end Go.Proofs.Ytcgfakpolfopnaa
