/-
  The walk of the statement 'RecordOnly': it answers true, and nothing that was there turns. Conditions: none.
-/
import Derived.Test.YtcgfakpolfopnaaRecWakes
import Derived.Test.YtcgfakpolfopnaaRecRef
import Derived.Test.YtcgfakpolfopnaaRecOpen
namespace Go.Proofs.Ytcgfakpolfopnaa
open Go.RowKit Go.Shelf

def TruePost (w : World) (e : Ending) (w' : World) : Prop := e = .returned (.bool true) ∧ Below w.heap.size w w'

theorem recB_ints (k : Nat) (l : List Nat) : recB k (ints l) = row (k :: l) := by
  have h : nats ((k : Int) :: ints l) = k :: l := by
    have := nats_ints (k :: l)
    simpa [ints] using this
  rw [recB, h]
theorem taken_some {bs : List Nat} {k : Nat} {l : List Nat} (hb : ∀ x ∈ bs, x < 256) (h : takenRec bs = some (k, l)) : k < 17 ∧ mayB k (ints l) = true ∧ bs = recB k (ints l) := by
  unfold takenRec at h
  split at h
  · rename_i hc
    obtain ⟨h1, h2⟩ := hc
    obtain ⟨h3, _, _, h4⟩ := takeRow_only hb h1
    obtain ⟨L, hL⟩ : ∃ L, (takeRow bs).2.1 = L := ⟨_, rfl⟩
    rw [hL] at h h3 h4
    rw [behindRow, if_pos h1] at h2
    cases L with
    | nil => simp [takenL] at h
    | cons x L =>
      simp only [takenL] at h
      split at h
      · rename_i hc
        simp only [Option.some.injEq, Prod.mk.injEq] at h
        obtain ⟨rfl, rfl⟩ := h
        refine ⟨hc.1, hc.2, ?_⟩
        rw [recB_ints]
        rw [h2, List.append_nil] at h3
        exact h3
      · simp at h
  · simp at h

set_option maxHeartbeats 400000 in
theorem recOnly_out (A : Option Addr) (n c : Nat) (w : World) (h : 300 < n) :
    Calls Try.prog 5 #[.slice A n c] w (TruePost w) := by
  have h' : (300 : Int) < (n : Int) := by omega
  go_enter Try.func5, Try.ntmps5
  go_wp2_with fail
  refine (wakes_any _).mono ?_
  rintro e w1 ⟨rfl, hb⟩
  go_wp2_with fail
  go_ret
  exact ⟨rfl, hb⟩

set_option maxRecDepth 100000 in
set_option maxHeartbeats 800000 in
theorem recOnly_none (A : Option Addr) (n c : Nat) (bs : List Nat) (w : World) (hr : Rd w w.heap.size A n (bv bs)) (hb : ∀ x ∈ bs, x < 256) (hn : n ≤ 300) (hc : n ≤ c) (hT : takenRec bs = none) :
    Calls Try.prog 5 #[.slice A n c] w (TruePost w) := by
  have HT : Hid (Calls Try.prog 13 #[.slice A n c] w (NoRec w)) := takeRec_is A n c bs w.heap.size w hr (Nat.le_refl _) hb (by omega) hc hT
  have d3 : decide ((300 : Int) < (n : Int)) = false := by simp; omega
  clear hr hb hc hT
  go_enter Try.func5, Try.ntmps5
  go_wp2_with fail
  refine (HT.out).mono ?_
  rintro e w1 ⟨rfl, b1⟩
  have B1 := Lib.hid b1
  clear b1
  go_wp2_with fail
  refine (wakes_any _).mono ?_
  rintro e w2 ⟨rfl, b2⟩
  have B2 := Lib.hid ((B1.out.alloc B1.out.size _).trans (b2.mono (by have := B1.out.size; simp; omega)))
  clear b2
  go_wp2_with fail
  go_ret
  exact ⟨rfl, B2.out⟩

set_option maxRecDepth 100000 in
set_option maxHeartbeats 800000 in
theorem recOnly_some (A : Option Addr) (n c : Nat) (bs : List Nat) (w : World) (hr : Rd w w.heap.size A n (bv bs)) (hb : ∀ x ∈ bs, x < 256) (hn : n ≤ 300) (hc : n ≤ c) {k : Nat} {l : List Nat} (hT : takenRec bs = some (k, l)) :
    Calls Try.prog 5 #[.slice A n c] w (TruePost w) := by
  have HT : Hid (Calls Try.prog 13 #[.slice A n c] w (YesRec k (ints l) w)) := takeRec_is A n c bs w.heap.size w hr (Nat.le_refl _) hb (by omega) hc hT
  obtain ⟨hk, hm, he⟩ := taken_some hb hT
  have d3 : decide ((300 : Int) < (n : Int)) = false := by simp; omega
  obtain ⟨zs, hzs⟩ : ∃ zs, ints l = zs := ⟨_, rfl⟩
  rw [hzs] at HT hm he
  have HR := Lib.hid hr
  have HM := Lib.hid hm
  have HE := Lib.hid he
  clear hr hb hc hT hzs hm he
  go_enter Try.func5, Try.ntmps5
  go_wp2_with fail
  refine (HT.out).mono ?_
  rintro e w1 ⟨A1, c1, rfl, o1, b1⟩
  have R1 := Rd.of_own o1
  have B1 := Lib.hid b1
  clear o1 b1
  go_wp2_with fail
  refine (putRec_yes k A1 zs.length c1 zs w1.heap.size _ (R1.alloc (Nat.le_refl _) _) (by simp) HM.out).mono ?_
  rintro e w2 ⟨A2, c2, rfl, I2⟩
  have hx2 := (Whole.new w1 24 #[.int .u8 (k : Int), .slice A1 zs.length c1]).under (I2.2.1.mono (by simp))
  have d2 : Below w1.heap.size w1 w2 := ((Below.refl _ w1).alloc (Nat.le_refl _) _).trans (I2.2.1.mono (by simp))
  have R1 := (R1.below d2).more d2.size
  have B2 := Lib.hid (B1.out.trans (d2.mono B1.out.size))
  have s2 := run_string w2 A2 _ c2 (recB k zs) _ I2.rd
  have s1 := run_string w2 A n c bs _ (HR.out.below B2.out)
  rw [HE.out] at s1
  have q0 := hx2.cell 0
  have q1 := hx2.cell 1
  simp only [List.getElem?_toArray, List.getElem?_cons_zero, List.getElem?_cons_succ] at q0 q1
  obtain ⟨s, hs⟩ : ∃ s, strB (recB k zs) = s := ⟨_, rfl⟩
  rw [hs] at s1 s2
  have HX := Lib.hid hx2
  clear I2 hx2 d2 hs
  go_wp2_with fail
  refine (right_rec k (by omega) A1 zs.length c1 zs _ _ R1 (Nat.le_refl _)).mono ?_
  rintro e w3 ⟨rfl, b3⟩
  rw [HM.out]
  have B3 := Lib.hid (B2.out.trans (b3.mono B2.out.size))
  have HX3 := Lib.hid (HX.out.under b3)
  have R3 := (R1.below b3).more b3.size
  have p0 := HX3.out.cell 0
  have p1 := HX3.out.cell 1
  simp only [List.getElem?_toArray, List.getElem?_cons_zero, List.getElem?_cons_succ] at p0 p1
  clear b3 R1 q0 q1 s1 s2
  go_wp2_with fail
  refine (refRight_any k A1 zs.length c1 zs _ _ R3 (Nat.le_refl _)).mono ?_
  rintro e w4 ⟨rfl, b4⟩
  rw [HM.out]
  have B4 := Lib.hid (B3.out.trans (b4.mono B3.out.size))
  clear b4 R3 p0 p1
  go_wp2_with fail
  refine (wakes_any _).mono ?_
  rintro e w5 ⟨rfl, b5⟩
  have B5 := Lib.hid (B4.out.trans (b5.mono B4.out.size))
  clear b5
  go_wp2_with fail
  go_ret
  exact ⟨rfl, B5.out⟩

theorem recOnly_walk (A : Option Addr) (n c : Nat) (bs : List Nat) (w : World) (hr : Rd w w.heap.size A n (bv bs)) (hb : ∀ x ∈ bs, x < 256) (hc : n ≤ c) :
    Calls Try.prog 5 #[.slice A n c] w (TruePost w) := by
  by_cases hn : n ≤ 300
  · cases hT : takenRec bs with
    | none => exact recOnly_none A n c bs w hr hb hn hc hT
    | some x => exact recOnly_some A n c bs w hr hb hn hc (k := x.1) (l := x.2) hT
  · exact recOnly_out A n c w (by omega)

end Go.Proofs.Ytcgfakpolfopnaa
