/-
  The walk of the statement 'RecordNames': it answers true, and nothing that was there turns. Conditions: none.
-/
import Derived.Test.YtcgfakpolfopnaaRecOnly
namespace Go.Proofs.Ytcgfakpolfopnaa
open Go.RowKit Go.Shelf

def nmS (k : Nat) : ByteArray := ⟨(nmOf k).toArray⟩
theorem nmS_list (k : Nat) : (nmS k).toList = nmOf k := by rw [ByteArray.toList_eq]; simp [nmS]
theorem nmOf_some {k : Nat} (h : 0 < k) (h' : k < 17) : nmOf k ≠ [] := by
  rcases kind_cases h' with rfl | rfl | rfl | rfl | rfl | rfl | rfl | rfl | rfl | rfl | rfl | rfl | rfl | rfl | rfl | rfl | rfl <;> first | decide | omega
theorem nmOf_none {k : Nat} (h : ¬ (0 < k ∧ k < 17)) : nmOf k = [] := by
  rcases Nat.lt_or_ge k 17 with h1 | h1
  · obtain rfl : k = 0 := by omega
    rfl
  · exact nmOf_out h1
theorem nmOf_inj : ∀ a, a < 17 → ∀ b, b < 17 → 0 < a → (nmOf a = nmOf b ↔ a = b) := by decide
theorem nmS_eq {a b : Nat} (h : 0 < a) (h' : a < 17) : ((nmS a).toList == (nmS b).toList) = decide (a = b) := by
  rw [nmS_list, nmS_list]
  rcases Nat.lt_or_ge b 17 with hb | hb
  · have := nmOf_inj a h' b hb h
    by_cases e : a = b
    · subst e; simp
    · rw [decide_eq_false e, beq_eq_false_iff_ne]
      exact fun h1 => e (this.1 h1)
  · have e : ¬ a = b := by omega
    rw [decide_eq_false e, beq_eq_false_iff_ne, nmOf_out hb]
    exact nmOf_some h h'

/-- What holds at each number: s: the record's box; its numbers from j on are as they were. -/
structure NamesAt (w : World) (s a : Nat) (A1 : Option Addr) (n c1 : Nat) (zs : List Int) (j : Nat) (W : World) : Prop where
  below : Below w.heap.size w W
  box : Whole W s 24 #[.int .u8 (a : Int), .slice A1 n c1]
  row : 0 < n → ∃ g cs, A1 = some ⟨g, 0, none⟩ ∧ Whole W g 3 cs ∧ w.heap.size ≤ g ∧ g ≠ s ∧ ∀ m, j ≤ m → m < n → cs[m]? = (iv zs)[m]?

set_option maxRecDepth 100000 in
set_option maxHeartbeats 400000 in
theorem recNames_out (a b : Nat) (A : Option Addr) (n c : Nat) (w : World) (h : 40 < n) :
    Calls Try.prog 7 #[.int .u8 (a : Int), .int .u8 (b : Int), .slice A n c] w (TruePost w) := by
  have h' : (40 : Int) < (n : Int) := by omega
  go_enter Try.func7, Try.ntmps7
  go_wp2_with fail
  refine (wakes_any _).mono ?_
  rintro e w1 ⟨rfl, hb⟩
  go_wp2_with fail
  go_ret
  exact ⟨rfl, hb⟩

theorem namesAt_start {w wE w5 : World} {n c1 : Nat} {A1 : Option Addr} {zs : List Int} (hE : Below w.heap.size w wE) (o5 : w5.ownsRow wE.heap.size 3 1 (.slice A1 n c1) n (iv zs)) (b5 : Below wE.heap.size wE w5) (a : Nat) :
    NamesAt w w5.heap.size a A1 n c1 zs 0 (w5.alloc (.cells #[.int .u8 (a : Int), .slice A1 n c1] 24)) := by
  have hb5 := hE.trans (b5.mono hE.size)
  refine ⟨hb5.alloc hb5.size _, Whole.new w5 _ _, fun hn => ?_⟩
  rcases o5.2 with ⟨h1, h2⟩ | ⟨g, cap, cur, h1, h2, h3, _⟩
  · have := o5.1; rw [h2] at this; simp at this; omega
  · injection h1 with hA _ _
    subst hA
    have hw : Whole w5 g 3 cur := h3
    have hlt := hw.lt
    refine ⟨g, cur, rfl, hw.alloc _, by have := hE.size; omega, by omega, fun m _ hm => ?_⟩
    rw [← hw.cell m]
    have h4 : w5.ownsRow wE.heap.size 3 1 (.slice (some ⟨g, 0, none⟩) n c1) n (iv zs) := o5
    exact h4.cellAt m (by omega)
theorem namesAt_step {w W : World} {s a n c1 j g k : Nat} {zs : List Int} {cs : Array Value} (h : NamesAt w s a (some ⟨g, 0, none⟩) n c1 zs j W) (hw : Whole W g 3 cs) (hg : w.heap.size ≤ g) (hgs : g ≠ s) (hrow : ∀ m, j ≤ m → m < n → cs[m]? = (iv zs)[m]?) (u : Value) :
    NamesAt w s a (some ⟨g, 0, none⟩) n c1 zs (j + 1) ((W.drewN k).setCell ⟨g, j, none⟩ u) := by
  have hwk : Whole (W.drewN k) g 3 cs := hw
  have hbk : Whole (W.drewN k) s 24 #[.int .u8 (a : Int), .slice (some ⟨g, 0, none⟩) n c1] := h.box
  refine ⟨(below_drewN h.below k).setCell (p := ⟨g, j, none⟩) hg u, hbk.far (fun e => hgs e.symm) u, fun _ => ⟨g, _, rfl, hwk.set j u, hg, hgs, fun m hm hmn => ?_⟩⟩
  rw [Array.getElem?_setIfInBounds_ne (by omega)]
  exact hrow m (by omega) hmn

theorem name_lit (k : Nat) (hk : k < 256) {s : ByteArray} (h : nmS k = s) (w : World) : Calls Try.prog 18 #[.int .u8 (k : Int)] w fun e w' => e = .returned (.string s) ∧ Below w.heap.size w w' := by
  subst h
  exact name_any k hk w

set_option maxRecDepth 100000 in
set_option maxHeartbeats 2000000 in
theorem recNames_in (a b : Nat) (A : Option Addr) (n c : Nat) (zs : List Int) (w : World) (ha : a < 256) (hb : b < 256) (hr : Rd w w.heap.size A n (iv zs)) (hn : n ≤ 40) :
    Calls Try.prog 7 #[.int .u8 (a : Int), .int .u8 (b : Int), .slice A n c] w (TruePost w) := by
  have d40 : decide ((40 : Int) < (n : Int)) = false := by simp; omega
  have HR := Lib.hid hr
  have hl : zs.length = n := by have := hr.1; rwa [iv_length] at this
  have HL := Lib.hid hl
  clear hr hl
  by_cases h0 : 0 < a ∧ a < 17
  · obtain ⟨h1, h2⟩ := h0
    have heq := nmS_eq (b := b) h1 h2
    obtain ⟨s, hs⟩ : ∃ s, nmS a = s := ⟨_, rfl⟩
    obtain ⟨t, ht⟩ : ∃ t, nmS b = t := ⟨_, rfl⟩
    have hne : s.toList ≠ [] := by rw [← hs, nmS_list]; exact nmOf_some h1 h2
    have hne1 : s.toList.isEmpty = false := by simpa using hne
    have HA := Lib.hid (fun W => name_lit a ha hs W)
    have HB := Lib.hid (fun W => name_lit b hb ht W)
    have hkb : ((a : Int) == (b : Int)) = decide (a = b) := by
      by_cases e : a = b
      · subst e; simp
      · have e2 : ¬ (a : Int) = (b : Int) := by omega
        simp [e, e2]
    rw [hs, ht] at heq
    obtain ⟨v, hv⟩ : ∃ v, decide (a = b) = v := ⟨_, rfl⟩
    rw [hv] at heq hkb
    have d1 : decide ((1 : Int) ≤ (a : Int)) = true := by simp; omega
    have d2 : decide ((a : Int) < 17) = true := by simp; omega
    clear hs ht hv
    go_enter Try.func7, Try.ntmps7
    go_wp2_with fail
    refine (HA.out _).mono ?_
    rintro e w1 ⟨rfl, b1⟩
    go_wp2_with fail
    refine (HA.out _).mono ?_
    rintro e w2 ⟨rfl, b2⟩
    have b2 := b1.trans (b2.mono b1.size)
    go_wp2_with fail
    refine (HB.out _).mono ?_
    rintro e w3 ⟨rfl, b3⟩
    have BE := Lib.hid (b2.trans (b3.mono b2.size))
    clear b1 b2 b3
    go_wp2_with fail
    refine (of_any a A n c zs w.heap.size _ (HR.out.below BE.out) BE.out.size (by omega)).mono ?_
    rintro e w5 ⟨A1, c1, rfl, o5, b5⟩
    rw [HL.out] at o5
    rw [HL.out]
    have HI := Lib.hid (namesAt_start BE.out o5 b5 a)
    clear o5 b5
    go_wp2_with fail
    go_loopw [9] (fun i wr => ∃ j : Nat, i = .int .i64 (j : Int) ∧ j ≤ n ∧ NamesAt w w5.heap.size a A1 n c1 zs j wr) (fun i _ => n - (intOf i).toNat)
    case atStart => exact ⟨0, rfl, Nat.zero_le _, HI.out⟩
    case round =>
      obtain ⟨j, rfl, hj, hI⟩ := hrel
      clear HI
      have q1 := hI.box.cell 1
      simp only [List.getElem?_toArray, List.getElem?_cons_zero, List.getElem?_cons_succ] at q1
      by_cases hlt : j < n
      · obtain ⟨g, cs, rfl, hw, hg0, hgs, hrow⟩ := hI.row (by omega)
        obtain ⟨b0, off, rfl, hblt, hc⟩ := (HR.out.below hI.below).2 (by omega)
        have hjl : j < zs.length := by rw [HL.out]; exact hlt
        obtain ⟨z, hz⟩ : ∃ z, zs[j]? = some z := ⟨_, List.getElem?_eq_getElem hjl⟩
        have hiv : (iv zs)[j]? = some (.int .i64 z) := by simp [iv, hz]
        have h1 := hc j hlt
        have h2 := (hw.cell j).trans (hrow j (Nat.le_refl _) hlt)
        rw [hiv] at h1 h2
        have f2 := hw.frozen j
        have hIlt : (j : Int) < (n : Int) := by omega
        have HI := Lib.hid hI
        have HW := Lib.hid hw
        have HRow := Lib.hid hrow
        clear hc hz hiv hjl hI hw hrow
        go_wp2_with fail
        go_quiet (fail)
        go_wp2_with fail
        go_roundw
        case rel => exact ⟨j + 1, by go_num, by omega, namesAt_step HI.out HW.out hg0 hgs HRow.out _⟩
        case measure => simp [intOf]; omega
      · have BI := Lib.hid hI.below
        clear hI
        go_wp2_with fail
        refine (of_any a A n c zs w.heap.size _ (HR.out.below BI.out) BI.out.size (by omega)).mono ?_
        rintro e w6 ⟨A6, c6, rfl, o6, b6⟩
        have R6 := Rd.of_own o6
        have B6 := Lib.hid (BI.out.trans (b6.mono BI.out.size))
        clear o6 b6
        go_wp2_with fail
        have hSm := refSame_any a a A6 A zs.length c6 n c zs zs w6.heap.size w.heap.size w6 R6 (HR.out.below B6.out) (Nat.le_refl _) B6.out.size (by have := HL.out; omega)
        rw [show sameB a zs a zs = true by simp [sameB]] at hSm
        refine hSm.mono ?_
        rintro e w7 ⟨rfl, b7⟩
        have B7 := Lib.hid (B6.out.trans (b7.mono B6.out.size))
        clear hSm b7 R6
        go_wp2_with fail
        refine (wakes_any _).mono ?_
        rintro e w8 ⟨rfl, b8⟩
        have B8 := Lib.hid (B7.out.trans (b8.mono B7.out.size))
        clear b8
        go_wp2_with fail
        go_ret
        exact ⟨rfl, B8.out⟩
  · have hs : nmS a = ⟨#[]⟩ := by rw [nmS, nmOf_none h0]
    have HA := Lib.hid (fun W => name_lit a ha hs W)
    clear hs
    rcases (show a = 0 ∨ 17 ≤ a by omega) with ha0 | h17
    · have d1 : decide ((1 : Int) ≤ (a : Int)) = false := by simp; omega
      clear ha0
      go_enter Try.func7, Try.ntmps7
      go_wp2_with fail
      refine (HA.out _).mono ?_
      rintro e w1 ⟨rfl, b1⟩
      have BE := Lib.hid b1
      clear b1
      go_wp2_with fail
      refine (of_any a A n c zs w.heap.size _ (HR.out.below BE.out) BE.out.size (by omega)).mono ?_
      rintro e w5 ⟨A1, c1, rfl, o5, b5⟩
      rw [HL.out] at o5
      rw [HL.out]
      have HI := Lib.hid (namesAt_start BE.out o5 b5 a)
      clear o5 b5
      go_wp2_with fail
      go_loopw [9] (fun i wr => ∃ j : Nat, i = .int .i64 (j : Int) ∧ j ≤ n ∧ NamesAt w w5.heap.size a A1 n c1 zs j wr) (fun i _ => n - (intOf i).toNat)
      case atStart => exact ⟨0, rfl, Nat.zero_le _, HI.out⟩
      case round =>
        obtain ⟨j, rfl, hj, hI⟩ := hrel
        clear HI
        have q1 := hI.box.cell 1
        simp only [List.getElem?_toArray, List.getElem?_cons_zero, List.getElem?_cons_succ] at q1
        by_cases hlt : j < n
        · obtain ⟨g, cs, rfl, hw, hg0, hgs, hrow⟩ := hI.row (by omega)
          obtain ⟨b0, off, rfl, hblt, hc⟩ := (HR.out.below hI.below).2 (by omega)
          have hjl : j < zs.length := by rw [HL.out]; exact hlt
          obtain ⟨z, hz⟩ : ∃ z, zs[j]? = some z := ⟨_, List.getElem?_eq_getElem hjl⟩
          have hiv : (iv zs)[j]? = some (.int .i64 z) := by simp [iv, hz]
          have h1 := hc j hlt
          have h2 := (hw.cell j).trans (hrow j (Nat.le_refl _) hlt)
          rw [hiv] at h1 h2
          have f2 := hw.frozen j
          have hIlt : (j : Int) < (n : Int) := by omega
          have HI := Lib.hid hI
          have HW := Lib.hid hw
          have HRow := Lib.hid hrow
          clear hc hz hiv hjl hI hw hrow
          go_wp2_with fail
          go_quiet (fail)
          go_wp2_with fail
          go_roundw
          case rel => exact ⟨j + 1, by go_num, by omega, namesAt_step HI.out HW.out hg0 hgs HRow.out _⟩
          case measure => simp [intOf]; omega
        · have BI := Lib.hid hI.below
          clear hI
          go_wp2_with fail
          refine (of_any a A n c zs w.heap.size _ (HR.out.below BI.out) BI.out.size (by omega)).mono ?_
          rintro e w6 ⟨A6, c6, rfl, o6, b6⟩
          have R6 := Rd.of_own o6
          have B6 := Lib.hid (BI.out.trans (b6.mono BI.out.size))
          clear o6 b6
          go_wp2_with fail
          have hSm := refSame_any a a A6 A zs.length c6 n c zs zs w6.heap.size w.heap.size w6 R6 (HR.out.below B6.out) (Nat.le_refl _) B6.out.size (by have := HL.out; omega)
          rw [show sameB a zs a zs = true by simp [sameB]] at hSm
          refine hSm.mono ?_
          rintro e w7 ⟨rfl, b7⟩
          have B7 := Lib.hid (B6.out.trans (b7.mono B6.out.size))
          clear hSm b7 R6
          go_wp2_with fail
          refine (wakes_any _).mono ?_
          rintro e w8 ⟨rfl, b8⟩
          have B8 := Lib.hid (B7.out.trans (b8.mono B7.out.size))
          clear b8
          go_wp2_with fail
          go_ret
          exact ⟨rfl, B8.out⟩
    · have d1 : decide ((1 : Int) ≤ (a : Int)) = true := by simp; omega
      have d2 : decide ((a : Int) < 17) = false := by simp; omega
      go_enter Try.func7, Try.ntmps7
      go_wp2_with fail
      refine (HA.out _).mono ?_
      rintro e w1 ⟨rfl, b1⟩
      have BE := Lib.hid b1
      clear b1
      go_wp2_with fail
      refine (of_any a A n c zs w.heap.size _ (HR.out.below BE.out) BE.out.size (by omega)).mono ?_
      rintro e w5 ⟨A1, c1, rfl, o5, b5⟩
      rw [HL.out] at o5
      rw [HL.out]
      have HI := Lib.hid (namesAt_start BE.out o5 b5 a)
      clear o5 b5
      go_wp2_with fail
      go_loopw [9] (fun i wr => ∃ j : Nat, i = .int .i64 (j : Int) ∧ j ≤ n ∧ NamesAt w w5.heap.size a A1 n c1 zs j wr) (fun i _ => n - (intOf i).toNat)
      case atStart => exact ⟨0, rfl, Nat.zero_le _, HI.out⟩
      case round =>
        obtain ⟨j, rfl, hj, hI⟩ := hrel
        clear HI
        have q1 := hI.box.cell 1
        simp only [List.getElem?_toArray, List.getElem?_cons_zero, List.getElem?_cons_succ] at q1
        by_cases hlt : j < n
        · obtain ⟨g, cs, rfl, hw, hg0, hgs, hrow⟩ := hI.row (by omega)
          obtain ⟨b0, off, rfl, hblt, hc⟩ := (HR.out.below hI.below).2 (by omega)
          have hjl : j < zs.length := by rw [HL.out]; exact hlt
          obtain ⟨z, hz⟩ : ∃ z, zs[j]? = some z := ⟨_, List.getElem?_eq_getElem hjl⟩
          have hiv : (iv zs)[j]? = some (.int .i64 z) := by simp [iv, hz]
          have h1 := hc j hlt
          have h2 := (hw.cell j).trans (hrow j (Nat.le_refl _) hlt)
          rw [hiv] at h1 h2
          have f2 := hw.frozen j
          have hIlt : (j : Int) < (n : Int) := by omega
          have HI := Lib.hid hI
          have HW := Lib.hid hw
          have HRow := Lib.hid hrow
          clear hc hz hiv hjl hI hw hrow
          go_wp2_with fail
          go_quiet (fail)
          go_wp2_with fail
          go_roundw
          case rel => exact ⟨j + 1, by go_num, by omega, namesAt_step HI.out HW.out hg0 hgs HRow.out _⟩
          case measure => simp [intOf]; omega
        · have BI := Lib.hid hI.below
          clear hI
          go_wp2_with fail
          refine (of_any a A n c zs w.heap.size _ (HR.out.below BI.out) BI.out.size (by omega)).mono ?_
          rintro e w6 ⟨A6, c6, rfl, o6, b6⟩
          have R6 := Rd.of_own o6
          have B6 := Lib.hid (BI.out.trans (b6.mono BI.out.size))
          clear o6 b6
          go_wp2_with fail
          have hSm := refSame_any a a A6 A zs.length c6 n c zs zs w6.heap.size w.heap.size w6 R6 (HR.out.below B6.out) (Nat.le_refl _) B6.out.size (by have := HL.out; omega)
          rw [show sameB a zs a zs = true by simp [sameB]] at hSm
          refine hSm.mono ?_
          rintro e w7 ⟨rfl, b7⟩
          have B7 := Lib.hid (B6.out.trans (b7.mono B6.out.size))
          clear hSm b7 R6
          go_wp2_with fail
          refine (wakes_any _).mono ?_
          rintro e w8 ⟨rfl, b8⟩
          have B8 := Lib.hid (B7.out.trans (b8.mono B7.out.size))
          clear b8
          go_wp2_with fail
          go_ret
          exact ⟨rfl, B8.out⟩

theorem recNames_walk (a b : Nat) (A : Option Addr) (n c : Nat) (zs : List Int) (w : World) (ha : a < 256) (hb : b < 256) (hr : Rd w w.heap.size A n (iv zs)) :
    Calls Try.prog 7 #[.int .u8 (a : Int), .int .u8 (b : Int), .slice A n c] w (TruePost w) := by
  by_cases hn : n ≤ 40
  · exact recNames_in a b A n c zs w ha hb hr hn
  · exact recNames_out a b A n c w (by omega)

end Go.Proofs.Ytcgfakpolfopnaa
