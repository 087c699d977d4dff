/-
  The walks of 'Sum' of package frame, of the function in it, and of the document's own 'Sum'. Conditions: those that each theorem names.
-/
import Derived.Test.YtocleikdabclkaaNumTake
namespace Go.Proofs.Ytocleikdabclkaa
open Go.RowKit Go.Shelf

def step (s c : Nat) : Nat := (31 * s + c + 7) % 4294967296
def sumOf (bs : List Nat) : Nat := bs.foldl step 1
theorem step_lt (s c : Nat) : step s c < 4294967296 := Nat.mod_lt _ (by omega)
theorem fold_lt (bs : List Nat) : ∀ s, s < 4294967296 → bs.foldl step s < 4294967296 := by
  induction bs with
  | nil => intro s h; exact h
  | cons b bs ih => intro s _; exact ih _ (step_lt _ _)
theorem sumOf_lt (bs : List Nat) : sumOf bs < 4294967296 := fold_lt bs 1 (by omega)
theorem sum_take {bs : List Nat} {k d : Nat} (h : bs[k]? = some d) : sumOf (bs.take (k + 1)) = step (sumOf (bs.take k)) d := by
  have hk : k < bs.length := (List.getElem?_eq_some_iff.1 h).1
  rw [List.getElem?_eq_getElem hk] at h
  rw [List.take_succ_eq_append_getElem hk, sumOf, List.foldl_append, Option.some.inj h]
  rfl

set_option maxRecDepth 100000 in
set_option maxHeartbeats 1000000 in
theorem sum1_any (b s c : Nat) (hc : c < 256) (w : World) (h : Whole w b 34 #[.int .u32 (s : Int)]) :
    Calls Try.prog 29 #[.int .u8 (c : Int), .pointer (some ⟨b, 0, none⟩)] w fun e w' => (∃ v, e = .returned v) ∧ w' = w.setCell ⟨b, 0, none⟩ (.int .u32 (step s c : Int)) := by
  have x0 := h.cell 0
  have y0 := h.frozen 0
  simp only [List.getElem?_toArray, List.getElem?_cons_zero] at x0
  have e : (31 * (s : Int) + (c : Int) + 7) % 4294967296 = ((step s c : Nat) : Int) := by unfold step; omega
  go_enter Try.func29, Try.ntmps29
  go_wp2_with fail
  go_end0
  exact ⟨⟨_, rfl⟩, rfl⟩

set_option maxRecDepth 100000 in
set_option maxHeartbeats 1000000 in
theorem refSum_any (A : Option Addr) (n c : Nat) (bs : List Nat) (B : Nat) (w : World) (hr : Rd w B A n (bv bs)) (hb : ∀ x ∈ bs, x < 256) (hn : n ≤ 140737488355328) :
    Calls Try.prog 18 #[.slice A n c] w fun e w' => e = .returned (.int .u32 (sumOf bs : Int)) ∧ w = w' := by
  have hl : bs.length = n := by have := hr.1; rwa [bv_length] at this
  have HR := Lib.hid hr
  have HB := Lib.hid hb
  have HL := Lib.hid hl
  clear hr hb hl
  go_enter Try.func18, Try.ntmps18
  go_wp2_with fail
  go_loop [3, 4] (fun x i => ∃ k : Nat, x = .int .u32 (sumOf (bs.take k) : Int) ∧ i = .int .i64 (k : Int) ∧ k ≤ n) (fun _ i => n - (intOf i).toNat)
  case atStart => exact ⟨0, rfl, rfl, Nat.zero_le _⟩
  case round =>
    obtain ⟨k, rfl, rfl, hk⟩ := hrel
    rcases Nat.eq_or_lt_of_le hk with rfl | hlt
    · go_wp2_with fail
      go_ret
      exact ⟨by rw [List.take_of_length_le (by rw [HL.out]; exact Nat.le_refl _)]; rfl, rfl⟩
    · obtain ⟨b, off, rfl, hbl, hc⟩ := HR.out.2 (by omega)
      obtain ⟨d, hd⟩ : ∃ d, bs[k]? = some d := ⟨_, List.getElem?_eq_getElem (by rw [HL.out]; exact hlt)⟩
      have hd6 : d < 256 := HB.out d (List.mem_of_getElem? hd)
      have hcell := hc k hlt
      have e1 : (bv bs)[k]? = some (.int .u8 (d : Int)) := by simp [bv, hd]
      rw [e1] at hcell
      have hs := sumOf_lt (bs.take k)
      have hT : Hid ((31 * (sumOf (bs.take k) : Int) + (d : Int) + 7) % 4294967296 = ((sumOf (bs.take (k + 1)) : Nat) : Int)) := by
        show (31 * (sumOf (bs.take k) : Int) + (d : Int) + 7) % 4294967296 = ((sumOf (bs.take (k + 1)) : Nat) : Int)
        rw [sum_take hd]; unfold step; omega
      generalize sumOf (bs.take k) = s at hT hs ⊢
      have hlt2 : (k : Int) < (n : Int) := by omega
      clear hc hd e1
      go_wp2_with fail
      go_round
      case rel => exact ⟨k + 1, by rw [← hT.out]; simp, by go_num, by omega⟩
      case measure => simp [intOf]; omega

set_option maxRecDepth 100000 in
set_option maxHeartbeats 1000000 in
theorem sum_any (A : Option Addr) (n c : Nat) (bs : List Nat) (B : Nat) (w : World) (hr : Rd w B A n (bv bs)) (hB : B ≤ w.heap.size) (hb : ∀ x ∈ bs, x < 256) (hn : n ≤ 140737488355328) :
    Calls Try.prog 17 #[.slice A n c] w fun e w' => e = .returned (.int .u32 (sumOf bs : Int)) ∧ Below w.heap.size w w' := by
  have hl : bs.length = n := by have := hr.1; rwa [bv_length] at this
  have HR := Lib.hid (hr.more hB)
  have HBy := Lib.hid hb
  have HL := Lib.hid hl
  clear hr hb hl hB
  go_enter Try.func17, Try.ntmps17
  go_wp2_with fail
  go_loopw [10] (fun i wr => ∃ k : Nat, i = .int .i64 (k : Int) ∧ k ≤ n ∧ Whole wr w.heap.size 34 #[.int .u32 (sumOf (bs.take k) : Int)] ∧ Below w.heap.size w wr) (fun i _ => n - (intOf i).toNat)
  case atStart => exact ⟨0, rfl, Nat.zero_le _, Whole.new w _ _, (Below.refl _ w).alloc (Nat.le_refl _) _⟩
  case round =>
    obtain ⟨k, rfl, hk, hW, hB⟩ := hrel
    rcases Nat.eq_or_lt_of_le hk with rfl | hlt
    · have x0 := hW.cell 0
      simp only [List.getElem?_toArray, List.getElem?_cons_zero] at x0
      go_wp2_with fail
      go_ret
      exact ⟨by rw [List.take_of_length_le (by rw [HL.out]; exact Nat.le_refl _)]; rfl, hB⟩
    · obtain ⟨b, off, rfl, hbl, hc⟩ := HR.out.2 (by omega)
      obtain ⟨d, hd⟩ : ∃ d, bs[k]? = some d := ⟨_, List.getElem?_eq_getElem (by rw [HL.out]; exact hlt)⟩
      have hd6 : d < 256 := HBy.out d (List.mem_of_getElem? hd)
      have hcell := (hB.cell (p := ⟨b, off + k, none⟩) hbl).trans (hc k hlt)
      have e1 : (bv bs)[k]? = some (.int .u8 (d : Int)) := by simp [bv, hd]
      rw [e1] at hcell
      have H1 := Lib.hid (sum1_any w.heap.size (sumOf (bs.take k)) d hd6 wr hW)
      have hW2 := hW.set 0 (.int .u32 (sumOf (bs.take (k + 1)) : Int))
      simp only [List.setIfInBounds_toArray, List.set_cons_zero] at hW2
      have hB2 := hB.setCell (p := ⟨w.heap.size, 0, none⟩) (Nat.le_refl _) (.int .u32 (sumOf (bs.take (k + 1)) : Int))
      rw [← sum_take hd] at H1
      have HW2 := Lib.hid hW2
      have HB2 := Lib.hid hB2
      have hlt2 : (k : Int) < (n : Int) := by omega
      clear hc hd e1 hW2 hB2 hW hB
      go_wp2_with fail
      refine (H1.out).mono ?_
      rintro e w' ⟨⟨v, rfl⟩, rfl⟩
      go_wp2_with fail
      go_roundw
      case rel => exact ⟨k + 1, by go_num, by omega, HW2.out, HB2.out⟩
      case measure => simp [intOf]; omega

end Go.Proofs.Ytocleikdabclkaa
