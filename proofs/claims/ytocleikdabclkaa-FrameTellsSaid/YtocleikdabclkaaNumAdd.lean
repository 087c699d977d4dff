/-
  The walks of 'right', 'add', 'Put' and 'Long' of package num. Conditions: those that each theorem names.
-/
import Derived.Test.YtocleikdabclkaaMem
namespace Go.Proofs.Ytocleikdabclkaa
open Go.RowKit Go.Shelf

set_option maxHeartbeats 400000 in
theorem right_any (n : Int) (w : World) : Calls Try.prog 31 #[.int .i64 n] w fun e w' => e = .returned (.bool (isNum n)) ∧ w = w' := by
  by_cases h0 : 0 ≤ n
  · by_cases h1 : n ≤ 1099511627776
    · rw [isNum_yes h0 h1]
      go_enter Try.func31, Try.ntmps31
      go_wp2
      go_ret
      exact ⟨rfl, rfl⟩
    · have e : isNum n = false := by simp [isNum, h1]
      rw [e]
      go_enter Try.func31, Try.ntmps31
      go_wp2
      go_ret
      exact ⟨rfl, rfl⟩
  · have e : isNum n = false := by simp [isNum, h0]
    rw [e]
    go_enter Try.func31, Try.ntmps31
    go_wp2
    go_ret
    exact ⟨rfl, rfl⟩

def AddInv (base j : Nat) (ys : List Value) (w : World) (v : Value) (w' : World) : Prop :=
  w'.ownsRow base 5 1 v j ys ∧ Below base w w' ∧ KeepsOthers w w' ∧ base ≤ w'.heap.size
/-- No block that was there has turned, but the row of v0. -/
def AddFar (v0 : Value) (w : World) (v : Value) (w' : World) : Prop :=
  w.grownBy w' v0.ownBlock ∧ (v.ownBlock = v0.ownBlock ∨ ∃ g, v.ownBlock = some g ∧ w.heap.size ≤ g)
def AddPost (base : Nat) (k : Nat) (xs : List Value) (w : World) (v0 : Value) (e : Ending) (w' : World) : Prop :=
  ∃ v', e = .returned v' ∧ AddInv base k xs w v' w' ∧ AddFar v0 w v' w'

theorem addFar_step {w w' w1 : World} {v0 v v1 : Value} {o : Obj} (h : AddFar v0 w v w') (hg : (w'.alloc o).grownBy w1 v.ownBlock) (h1 : v1.ownBlock = v.ownBlock ∨ v1.ownBlock = some (w'.alloc o).heap.size) : AddFar v0 w v1 w1 := by
  obtain ⟨h2, h3⟩ := h
  have hs := h2.size
  refine ⟨⟨hg.os.trans h2.os, hg.tape.trans h2.tape, hg.output.trans h2.output, by have := hg.size; simp at this; omega, fun k hk hne => ?_⟩, ?_⟩
  · have hne' : some k ≠ v.ownBlock := by
      rcases h3 with h3 | ⟨g, h3, h4⟩
      · rw [h3]; exact hne
      · rw [h3]; intro e; injection e with e; omega
    rw [hg.block k (by simp; omega) hne', Below.heap_alloc _ _ _ (by omega), h2.block k hk hne]
  · rcases h1 with h1 | h1
    · rw [h1]; exact h3
    · exact .inr ⟨_, h1, by simp; omega⟩

theorem addInv_step {base j : Nat} {ys : List Value} {w w' w1 : World} {v v1 : Value} {o : Obj} {u : Value} (h : AddInv base j ys w v w') (h1 : w1.ownsRow base 5 1 v1 (j + 1) (ys ++ [u])) (hg : (w'.alloc o).grownBy w1 v.ownBlock) :
    AddInv base (j + 1) (ys ++ [u]) w v1 w1 := by
  obtain ⟨hr, hb, hk, hs⟩ := h
  refine ⟨h1, ?_, ?_, ?_⟩
  · exact (hb.alloc hs o).trans (below_row (hr.alloc o) hg (by simp; omega))
  · exact (hk.trans (KeepsOthers.alloc _ o)).trans (keeps_row (hr.alloc o) hg)
  · have := hg.size; simp at this; omega

set_option maxRecDepth 1000000 in
set_option maxHeartbeats 1000000 in
theorem add_any (n : Nat) (hn : n ≤ 1099511627776) (v : Value) (k : Nat) (xs : List Value) (base : Nat) (w : World) (hown : w.ownsRow base 5 1 v k xs) (hk : k ≤ 1000000) (hbase : base ≤ w.heap.size) :
    Calls Try.prog 32 #[v, .int .i64 (n : Int)] w (AddPost base (k + (put n).length) (xs ++ bv (put n)) w v) := by
  obtain ⟨i0, hi, hz0, hz1, hz2⟩ := info_parts info_u8
  go_enter Try.func32, Try.ntmps32
  go_wp2_with fail
  refine wp_scope_back 0 (fun a' w' => ∃ (j m : Nat) (v' : Value) (ys : List Value) (u6 u7 u8 u9 u10 u11 u12 u13 u14 u15 u16 u17 u18 u19 u20 u5 : Value), a' = { tmps := #[v', .int .i64 (m : Int), undef, undef, .slice none 0 0, u5, u6, u7, u8, u9, u10, u11, u12, u13, u14, u15, u16, u17, u18, u19, u20], defers := [] } ∧ AddInv base j ys w v' w' ∧ AddFar v w v' w' ∧ j + (put m).length = k + (put n).length ∧ ys ++ bv (put m) = xs ++ bv (put n) ∧ m ≤ n) (fun a' _ => (intOf (a'.tmps.getD 1 undef)).toNat)
    ⟨k, n, v, xs, _, _, _, _, _, _, _, _, _, _, _, _, _, _, _, _, rfl, ⟨hown, Below.refl _ _, KeepsOthers.refl _, hbase⟩, ⟨World.grownBy.refl _ _, .inl rfl⟩, rfl, rfl, Nat.le_refl _⟩ ?pass
  case pass =>
    rintro a' w' ⟨j, m, v', ys, u6, u7, u8, u9, u10, u11, u12, u13, u14, u15, u16, u17, u18, u19, u20, u5, rfl, hP, hfar, hlen, hcat, hm⟩
    have HFar := Lib.hid hfar
    clear hfar
    obtain ⟨hr, hb, hko, hs⟩ := id hP
    have Hlen := Lib.hid hlen
    have Hcat := Lib.hid hcat
    clear hlen hcat
    have hp := put_pos m
    have hl6 := put_six hn
    have hj : j ≤ 1000010 := by have := Hlen.out; omega
    by_cases hlt : m < 128
    · go_wp2_with (at_builtin; refine wpList_append_own_at _ rfl _ _ 22 rfl base 5 i0 (.int .u8 0) 1 1 Try.underlying22 hi hz0 hz1 hz2 rfl (by decide) _ _ _ rfl (hr.alloc _) ⟨w'.heap.size, 0, none⟩ 1 1 [.int .u8 (m : Int)] rfl rfl (cell_one_new _ _ _) (by simp [Value.oneCell']) (by unfold maxLen; omega) (by omega) (by simp; omega) ?_; intro v1 w1 hown1 hgrow1 _ hat1; have HAt := Lib.hid hat1; clear hat1)
      simp only [Exit.jump]
      go_ret
      refine ⟨v1, rfl, ?_, addFar_step HFar.out hgrow1 HAt.out⟩
      have e1 := Hlen.out
      have e2 := Hcat.out
      rw [put_small hlt] at e1 e2
      rw [← e1, ← e2]
      exact addInv_step hP hown1 hgrow1
    · go_wp2_with (at_builtin; refine wpList_append_own_at _ rfl _ _ 22 rfl base 5 i0 (.int .u8 0) 1 1 Try.underlying22 hi hz0 hz1 hz2 rfl (by decide) _ _ _ rfl (hr.alloc _) ⟨w'.heap.size, 0, none⟩ 1 1 [.int .u8 ((m % 128 + 128 : Nat) : Int)] rfl rfl (cell_one_new _ _ _) (by simp [Value.oneCell']) (by unfold maxLen; omega) (by omega) (by simp; omega) ?_; intro v1 w1 hown1 hgrow1 _ hat1; have HAt := Lib.hid hat1; clear hat1)
      go_step3
      have e1 := Hlen.out
      have e2 := Hcat.out
      rw [put_big hlt] at e1 e2
      refine ⟨rfl, ⟨j + 1, m / 128, v1, _, _, _, _, _, _, _, _, _, _, _, _, _, _, _, _, _, rfl, addInv_step hP hown1 hgrow1, addFar_step HFar.out hgrow1 HAt.out, by simp only [List.length_cons] at e1; omega, ?_, by omega⟩, ?_⟩
      · rw [← e2]; simp [bv]
      · simp [intOf]; omega

end Go.Proofs.Ytocleikdabclkaa
