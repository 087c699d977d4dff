/-
  The walk of the statement PhaseDue. Conditions: those that each theorem names.
-/
import Derived.Test.YtgjipbhhdiacmaaDoorPhWakes
namespace Go.Proofs.YtgjipbhhdiacmaaDoor
open Go.RowKit Go.Shelf

def wtD (c : Cf) (j : Nat) : Int := [c.f4, c.f6, c.f7, c.f5].getD j 0
def waitOk (z : Int) : Prop := 0 ≤ z ∧ z ≤ 20
theorem waits_all {c : Cf} (h : ∀ j, j < 4 → waitOk (wtD c j)) (k : Nat) : waitOk (dueWait c k) := by
  have h0 := h 0 (by omega)
  have h1 := h 1 (by omega)
  have h2 := h 2 (by omega)
  have h3 := h 3 (by omega)
  unfold dueWait
  split
  · exact h0
  · split
    · exact h1
    · split
      · exact h2
      · exact h3
theorem wrap_diff {a b : Int} (h1 : 0 ≤ b) (h2 : b ≤ a) (h3 : a ≤ 1099511627796) : wrap64 (a - b) = a - b := by
  simp only [wrap64]
  omega
section
variable {x : Kp} {c : Cf} {k : Nat} {now later : Int}
theorem due_no (h : waitsP k = false) (t : Int) : dueB x c k t = false ∧ dueK x c k t = 0 := by simp [dueK, dueB, h]
theorem due_off (h : dueB x c k now = false) : dueK x c k now = 0 := by simp [dueK, h]
theorem due_to (h : dueB x c k now = true) : dueK x c k now = dueTo k := by simp [dueK, h]
theorem due_at (h : waitsP k = true) (hw : ∀ j, j < 4 → waitOk (wtD c j)) (h1 : 0 ≤ x.since) (h2 : x.since ≤ 1099511627776) : dueB x c k (x.since + 20) = true ∧ dueK x c k (x.since + 20) = dueTo k := by
  have hd : dueB x c k (x.since + 20) = true := by
    have := waits_all hw k
    unfold waitOk at this
    unfold dueB
    rw [h, wrap_diff h1 (by omega) (by omega), Bool.true_and, Bool.or_eq_true, decide_eq_true_eq]
    right
    omega
  exact ⟨hd, due_to hd⟩
theorem due_on (hd : dueB x c k now = true) (h0 : 0 ≤ x.since) (h1 : x.since ≤ now) (h2 : now ≤ later) (h3 : later ≤ 1099511627776) : dueB x c k later = true ∧ dueK x c k later = dueTo k := by
  have hl : dueB x c k later = true := by
    unfold dueB at hd ⊢
    rw [wrap_diff h0 h1 (by omega), Bool.and_eq_true, Bool.or_eq_true, decide_eq_true_eq] at hd
    rw [wrap_diff h0 (by omega) (by omega), Bool.and_eq_true, Bool.or_eq_true, decide_eq_true_eq]
    refine ⟨hd.1, ?_⟩
    rcases hd.2 with h | h
    · exact .inl h
    · right; omega
  exact ⟨hl, due_to hl⟩
end

theorem due_nm (x : Kp) (c : Cf) (k : Nat) (hk : x.phase = (k : Int)) (now : Int) (w : World) : Calls Tryd.prog 8 #[x.v, c.v, .int .i64 now] w fun e w' => ∃ (b : Bool) (K : Nat), dueB x c k now = b ∧ dueK x c k now = K ∧ e = .returned (.tuple #[.int .u8 (K : Int), .bool b]) ∧ Below w.heap.size w w' :=
  (due_any x c k hk now w).mono (by rintro e w' ⟨rfl, hb⟩; exact ⟨_, _, rfl, rfl, rfl, hb⟩)

set_option maxRecDepth 100000 in
set_option maxHeartbeats 4000000 in
theorem phaseDue_any (x : Kp) (c : Cf) (k : Nat) (hk : x.phase = (k : Int)) (hk2 : k < 256) (now later : Int) (w : World) (hT : TabN w) :
    Calls Tryd.prog 3 #[x.v, c.v, .int .i64 now, .int .i64 later] w (TruePost w) := by
  obtain ⟨id, tok, ver, zone, phase, since, guard, done⟩ := x
  simp only at hk
  subst hk
  obtain ⟨X, hX⟩ : ∃ X : Kp, X = ⟨id, tok, ver, zone, (k : Int), since, guard, done⟩ := ⟨_, rfl⟩
  obtain ⟨hb, w0, w1⟩ := two_new w 23 26 (Kp.cells ⟨id, tok, ver, zone, (k : Int), since, guard, done⟩) c.cells
  obtain ⟨V, hV⟩ : ∃ V, (w.alloc (.cells (Kp.cells ⟨id, tok, ver, zone, (k : Int), since, guard, done⟩) 23)).alloc (.cells c.cells 26) = V := ⟨_, rfl⟩
  have hs : V.heap.size = w.heap.size + 1 + 1 := by rw [← hV]; simp
  rw [hV] at hb w0 w1
  have q4 : V.cell? ⟨w.heap.size + 1, 4, none⟩ = some (.int .i64 c.f4) := w1.cell 4
  have q5 : V.cell? ⟨w.heap.size + 1, 5, none⟩ = some (.int .i64 c.f5) := w1.cell 5
  have q6 : V.cell? ⟨w.heap.size + 1, 6, none⟩ = some (.int .i64 c.f6) := w1.cell 6
  have q7 : V.cell? ⟨w.heap.size + 1, 7, none⟩ = some (.int .i64 c.f7) := w1.cell 7
  have HB := Lib.hid hb
  have HV := Lib.hid hV
  have W0 := Lib.hid w0
  have W1 := Lib.hid w1
  have HT := Lib.hid (hT.under hb)
  have HX := Lib.hid hX
  have HK2 := Lib.hid hk2
  clear hb w0 w1 hV hT hX hk2
  go_enter Tryd.func3, Tryd.ntmps3
  go_upto_region 1 with fail
  refine wpV (fun V2 hV2 => ?_)
  obtain rfl : V = V2 := HV.out.symm.trans hV2
  clear HV hV2
  go_upto_region 2 with fail
  refine wpV (fun U hU => ?_)
  have hbu : Below V.heap.size V U := by rw [← hU]; exact (Below.refl _ _).alloc (Nat.le_refl _) _
  have hwu : Whole U (w.heap.size + 1 + 1) 27 #[.int .i64 c.f4, .int .i64 c.f6, .int .i64 c.f7, .int .i64 c.f5] := by rw [← hU, ← hs]; exact Whole.new _ _ _
  have cw : ∀ j, j < 4 → U.cell? ⟨w.heap.size + 1 + 1, j, none⟩ = some (.int .i64 (wtD c j)) := by
    intro j hj
    rw [hwu.cell j]
    rcases (by omega : j = 0 ∨ j = 1 ∨ j = 2 ∨ j = 3) with rfl | rfl | rfl | rfl <;> rfl
  have U0 := Lib.hid (W0.out.under hbu)
  have U1 := Lib.hid (W1.out.under hbu)
  have HTU := Lib.hid (HT.out.under hbu)
  have HBU := Lib.hid (HB.out.trans (hbu.mono HB.out.size))
  have CW := Lib.hid cw
  clear hU hbu hwu cw q4 q5 q6 q7 W0 W1 HT HB hs
  go_wp2_with fail
  go_loopw [10] (fun i wr => ∃ j : Nat, i = .int .i64 (j : Int) ∧ j ≤ 4 ∧ (∀ m, m < j → waitOk (wtD c m)) ∧ wr = U) (fun i _ => 4 - (intOf i).toNat)
  case atStart => exact ⟨0, rfl, by omega, by omega, rfl⟩
  case round =>
    obtain ⟨j, rfl, hj, hW, rfl⟩ := hrel
    have HW := Lib.hid hW
    clear hW
    by_cases hlt : j < 4
    · have cj := CW.out j hlt
      obtain ⟨z, hz⟩ : ∃ z, wtD c j = z := ⟨_, rfl⟩
      rw [hz] at cj
      have HZ := Lib.hid hz
      clear hz
      have hI : (j : Int) < 4 := by omega
      by_cases h1 : z < 0
      · go_wp2_with fail
        refine (wakes_any wr HTU.out).mono ?_
        rintro e w7 ⟨rfl, hb7⟩
        have HB7 := Lib.hid (HBU.out.trans (hb7.mono HBU.out.size))
        clear hb7 cj
        go_wp2_with fail
        go_ret
        exact ⟨rfl, HB7.out⟩
      · by_cases h2 : 20 < z
        · go_wp2_with fail
          refine (wakes_any wr HTU.out).mono ?_
          rintro e w7 ⟨rfl, hb7⟩
          have HB7 := Lib.hid (HBU.out.trans (hb7.mono HBU.out.size))
          clear hb7 cj
          go_wp2_with fail
          go_ret
          exact ⟨rfl, HB7.out⟩
        · have HN : Hid (∀ m, m < j + 1 → waitOk (wtD c m)) := Lib.hid (fun m hm => by
            rcases Nat.lt_or_ge m j with h | h
            · exact HW.out m h
            · have : m = j := by omega
              subst this
              rw [HZ.out]
              unfold waitOk
              omega)
          go_wp2_with fail
          exact ⟨⟨j + 1, by go_num, by omega, HN.out, trivial⟩, by simp [intOf]; omega⟩
    · have HA : Hid (∀ m, m < 4 → waitOk (wtD c m)) := Lib.hid (fun m hm => HW.out m (by omega))
      have p5 : wr.cell? ⟨w.heap.size, 5, none⟩ = some (.int .i64 since) := U0.out.cell 5
      clear CW HW
      go_upto_region 7 with fail
      rcases (by omega : now < 0 ∨ (¬ now < 0 ∧ later < now) ∨ (¬ now < 0 ∧ ¬ later < now ∧ 1099511627776 < later) ∨ (¬ now < 0 ∧ ¬ later < now ∧ ¬ 1099511627776 < later ∧ since < 0) ∨ (¬ now < 0 ∧ ¬ later < now ∧ ¬ 1099511627776 < later ∧ ¬ since < 0 ∧ now < since) ∨ (¬ now < 0 ∧ ¬ later < now ∧ ¬ 1099511627776 < later ∧ ¬ since < 0 ∧ ¬ now < since)) with h1 | ⟨h1, h2⟩ | ⟨h1, h2, h3⟩ | ⟨h1, h2, h3, h4⟩ | ⟨h1, h2, h3, h4, h5⟩ | ⟨h1, h2, h3, h4, h5⟩
      · go_wp2_with fail
        refine (wakes_any wr HTU.out).mono ?_
        rintro e w7 ⟨rfl, hb7⟩
        have HB7 := Lib.hid (HBU.out.trans (hb7.mono HBU.out.size))
        clear hb7
        go_wp2_with fail
        go_ret
        exact ⟨rfl, HB7.out⟩
      · go_wp2_with fail
        refine (wakes_any wr HTU.out).mono ?_
        rintro e w7 ⟨rfl, hb7⟩
        have HB7 := Lib.hid (HBU.out.trans (hb7.mono HBU.out.size))
        clear hb7
        go_wp2_with fail
        go_ret
        exact ⟨rfl, HB7.out⟩
      · go_wp2_with fail
        refine (wakes_any wr HTU.out).mono ?_
        rintro e w7 ⟨rfl, hb7⟩
        have HB7 := Lib.hid (HBU.out.trans (hb7.mono HBU.out.size))
        clear hb7
        go_wp2_with fail
        go_ret
        exact ⟨rfl, HB7.out⟩
      · go_wp2_with fail
        refine (wakes_any wr HTU.out).mono ?_
        rintro e w7 ⟨rfl, hb7⟩
        have HB7 := Lib.hid (HBU.out.trans (hb7.mono HBU.out.size))
        clear hb7
        go_wp2_with fail
        go_ret
        exact ⟨rfl, HB7.out⟩
      · go_wp2_with fail
        refine (wakes_any wr HTU.out).mono ?_
        rintro e w7 ⟨rfl, hb7⟩
        have HB7 := Lib.hid (HBU.out.trans (hb7.mono HBU.out.size))
        clear hb7
        go_wp2_with fail
        go_ret
        exact ⟨rfl, HB7.out⟩
      · have G := Lib.hid (show 0 ≤ since ∧ since ≤ now ∧ now ≤ later ∧ later ≤ 1099511627776 from ⟨by omega, by omega, by omega, by omega⟩)
        go_upto_region 9 with fail
        clear h1 h2 h3 h4 h5
        go_wp2_with (first | refine wpList_load_row (by rfl) 23 _ rfl w.heap.size (by rfl) 23 _ (0, 0) _ U0.out Tryd.underlying23 rfl (by kernel_rfl) ?_ | refine wpList_load_row (by rfl) 26 _ rfl (w.heap.size + 1) (by rfl) 26 _ (0, 0) _ U1.out Tryd.underlying26 rfl (by kernel_rfl) ?_)
        refine (due_nm ⟨id, tok, ver, zone, (k : Int), since, guard, done⟩ c k rfl now wr).mono ?_
        rintro e W1 ⟨b1, K1, hb1, hK1, rfl, hbel⟩
        have B1 := Lib.hid hb1
        have D1 := Lib.hid hK1
        have HB1 := Lib.hid (HBU.out.trans (hbel.mono HBU.out.size))
        have T1 := Lib.hid (HTU.out.under hbel)
        have S1 := Lib.hid (U0.out.under hbel)
        have Q1 := Lib.hid (U1.out.under hbel)
        clear hb1 hK1 hbel
        go_wp2_with (first | refine wpList_load_row (by rfl) 23 _ rfl w.heap.size (by rfl) 23 _ (0, 0) _ S1.out Tryd.underlying23 rfl (by kernel_rfl) ?_ | refine wpList_load_row (by rfl) 26 _ rfl (w.heap.size + 1) (by rfl) 26 _ (0, 0) _ Q1.out Tryd.underlying26 rfl (by kernel_rfl) ?_)
        refine (due_nm ⟨id, tok, ver, zone, (k : Int), since, guard, done⟩ c k rfl later W1).mono ?_
        rintro e W2 ⟨b2, K2, hb2, hK2, rfl, hbel⟩
        have B2 := Lib.hid hb2
        have D2 := Lib.hid hK2
        have HB2 := Lib.hid (HB1.out.trans (hbel.mono HB1.out.size))
        have T2 := Lib.hid (T1.out.under hbel)
        have S2 := Lib.hid (S1.out.under hbel)
        have Q2 := Lib.hid (Q1.out.under hbel)
        clear hb2 hK2 hbel
        have p5 : W2.cell? ⟨w.heap.size, 5, none⟩ = some (.int .i64 since) := S2.out.cell 5
        have hw20 : wrap64 (since + 20) = since + 20 := by have := G.out; simp only [wrap64]; omega
        go_wp2_with (first | refine wpList_load_row (by rfl) 23 _ rfl w.heap.size (by rfl) 23 _ (0, 0) _ S2.out Tryd.underlying23 rfl (by kernel_rfl) ?_ | refine wpList_load_row (by rfl) 26 _ rfl (w.heap.size + 1) (by rfl) 26 _ (0, 0) _ Q2.out Tryd.underlying26 rfl (by kernel_rfl) ?_)
        refine (due_nm ⟨id, tok, ver, zone, (k : Int), since, guard, done⟩ c k rfl (since + 20) W2).mono ?_
        rintro e W3 ⟨b3, K3, hb3, hK3, rfl, hbel⟩
        have B3 := Lib.hid hb3
        have D3 := Lib.hid hK3
        have HB3 := Lib.hid (HB2.out.trans (hbel.mono HB2.out.size))
        have T3 := Lib.hid (T2.out.under hbel)
        have S3 := Lib.hid (S2.out.under hbel)
        have Q3 := Lib.hid (Q2.out.under hbel)
        clear hb3 hK3 hbel
        rcases (by omega : k = 1 ∨ k = 2 ∨ k = 6 ∨ k = 7 ∨ (¬ k = 1 ∧ ¬ k = 2 ∧ ¬ k = 6 ∧ ¬ k = 7)) with rfl | rfl | rfl | rfl | ⟨n1, n2, n3, n4⟩
        · have c4 : W3.cell? ⟨w.heap.size, 4, none⟩ = some (.int .u8 1) := S3.out.cell 4
          obtain rfl : b3 = true := B3.out.symm.trans (due_at rfl HA.out G.out.1 (show since ≤ 1099511627776 by have := G.out; omega)).1
          obtain rfl : K3 = 2 := D3.out.symm.trans (due_at rfl HA.out G.out.1 (show since ≤ 1099511627776 by have := G.out; omega)).2
          clear p5 hw20
          go_wp2_with fail
          refine (legal_any 1 2 (by decide) W3).mono ?_
          rintro e W4 ⟨rfl, hbel⟩
          rw [show legalP 1 2 = true from rfl]
          have HB4 := Lib.hid (HB3.out.trans (hbel.mono HB3.out.size))
          have T4 := Lib.hid (T3.out.under hbel)
          have S4 := Lib.hid (S3.out.under hbel)
          clear hbel c4
          cases b1 with
          | false =>
            obtain rfl : K1 = 0 := D1.out.symm.trans (due_off B1.out)
            go_wp2_with fail
            refine (wakes_any W4 T4.out).mono ?_
            rintro e w7 ⟨rfl, hb7⟩
            have HB7 := Lib.hid (HB4.out.trans (hb7.mono HB4.out.size))
            clear hb7
            go_wp2_with fail
            go_ret
            exact ⟨rfl, HB7.out⟩
          | true =>
            obtain rfl : K1 = 2 := D1.out.symm.trans (due_to B1.out)
            obtain rfl : b2 = true := B2.out.symm.trans (due_on B1.out G.out.1 G.out.2.1 G.out.2.2.1 G.out.2.2.2).1
            obtain rfl : K2 = 2 := D2.out.symm.trans (due_on B1.out G.out.1 G.out.2.1 G.out.2.2.1 G.out.2.2.2).2
            have c4 : W4.cell? ⟨w.heap.size, 4, none⟩ = some (.int .u8 1) := S4.out.cell 4
            go_wp2_with fail
            refine (legal_any 1 2 (by decide) W4).mono ?_
            rintro e W5 ⟨rfl, hbel⟩
            rw [show legalP 1 2 = true from rfl]
            have HB5 := Lib.hid (HB4.out.trans (hbel.mono HB4.out.size))
            have T5 := Lib.hid (T4.out.under hbel)
            clear hbel c4
            go_wp2_with fail
            refine (stands_any 8 W5).mono ?_
            rintro e W6 ⟨rfl, hw6⟩
            subst hw6
            rw [show standsP 8 = false from rfl]
            go_wp2_with fail
            refine (wakes_any W6 T5.out).mono ?_
            rintro e w7 ⟨rfl, hb7⟩
            have HB7 := Lib.hid (HB5.out.trans (hb7.mono HB5.out.size))
            clear hb7
            go_wp2_with fail
            go_ret
            exact ⟨rfl, HB7.out⟩
        · have c4 : W3.cell? ⟨w.heap.size, 4, none⟩ = some (.int .u8 2) := S3.out.cell 4
          obtain rfl : b3 = true := B3.out.symm.trans (due_at rfl HA.out G.out.1 (show since ≤ 1099511627776 by have := G.out; omega)).1
          obtain rfl : K3 = 3 := D3.out.symm.trans (due_at rfl HA.out G.out.1 (show since ≤ 1099511627776 by have := G.out; omega)).2
          clear p5 hw20
          go_wp2_with fail
          refine (legal_any 2 3 (by decide) W3).mono ?_
          rintro e W4 ⟨rfl, hbel⟩
          rw [show legalP 2 3 = true from rfl]
          have HB4 := Lib.hid (HB3.out.trans (hbel.mono HB3.out.size))
          have T4 := Lib.hid (T3.out.under hbel)
          have S4 := Lib.hid (S3.out.under hbel)
          clear hbel c4
          cases b1 with
          | false =>
            obtain rfl : K1 = 0 := D1.out.symm.trans (due_off B1.out)
            go_wp2_with fail
            refine (wakes_any W4 T4.out).mono ?_
            rintro e w7 ⟨rfl, hb7⟩
            have HB7 := Lib.hid (HB4.out.trans (hb7.mono HB4.out.size))
            clear hb7
            go_wp2_with fail
            go_ret
            exact ⟨rfl, HB7.out⟩
          | true =>
            obtain rfl : K1 = 3 := D1.out.symm.trans (due_to B1.out)
            obtain rfl : b2 = true := B2.out.symm.trans (due_on B1.out G.out.1 G.out.2.1 G.out.2.2.1 G.out.2.2.2).1
            obtain rfl : K2 = 3 := D2.out.symm.trans (due_on B1.out G.out.1 G.out.2.1 G.out.2.2.1 G.out.2.2.2).2
            have c4 : W4.cell? ⟨w.heap.size, 4, none⟩ = some (.int .u8 2) := S4.out.cell 4
            go_wp2_with fail
            refine (legal_any 2 3 (by decide) W4).mono ?_
            rintro e W5 ⟨rfl, hbel⟩
            rw [show legalP 2 3 = true from rfl]
            have HB5 := Lib.hid (HB4.out.trans (hbel.mono HB4.out.size))
            have T5 := Lib.hid (T4.out.under hbel)
            clear hbel c4
            go_wp2_with fail
            refine (stands_any 8 W5).mono ?_
            rintro e W6 ⟨rfl, hw6⟩
            subst hw6
            rw [show standsP 8 = false from rfl]
            go_wp2_with fail
            refine (wakes_any W6 T5.out).mono ?_
            rintro e w7 ⟨rfl, hb7⟩
            have HB7 := Lib.hid (HB5.out.trans (hb7.mono HB5.out.size))
            clear hb7
            go_wp2_with fail
            go_ret
            exact ⟨rfl, HB7.out⟩
        · have c4 : W3.cell? ⟨w.heap.size, 4, none⟩ = some (.int .u8 6) := S3.out.cell 4
          obtain rfl : b3 = true := B3.out.symm.trans (due_at rfl HA.out G.out.1 (show since ≤ 1099511627776 by have := G.out; omega)).1
          obtain rfl : K3 = 7 := D3.out.symm.trans (due_at rfl HA.out G.out.1 (show since ≤ 1099511627776 by have := G.out; omega)).2
          clear p5 hw20
          go_wp2_with fail
          refine (legal_any 6 7 (by decide) W3).mono ?_
          rintro e W4 ⟨rfl, hbel⟩
          rw [show legalP 6 7 = true from rfl]
          have HB4 := Lib.hid (HB3.out.trans (hbel.mono HB3.out.size))
          have T4 := Lib.hid (T3.out.under hbel)
          have S4 := Lib.hid (S3.out.under hbel)
          clear hbel c4
          cases b1 with
          | false =>
            obtain rfl : K1 = 0 := D1.out.symm.trans (due_off B1.out)
            go_wp2_with fail
            refine (wakes_any W4 T4.out).mono ?_
            rintro e w7 ⟨rfl, hb7⟩
            have HB7 := Lib.hid (HB4.out.trans (hb7.mono HB4.out.size))
            clear hb7
            go_wp2_with fail
            go_ret
            exact ⟨rfl, HB7.out⟩
          | true =>
            obtain rfl : K1 = 7 := D1.out.symm.trans (due_to B1.out)
            obtain rfl : b2 = true := B2.out.symm.trans (due_on B1.out G.out.1 G.out.2.1 G.out.2.2.1 G.out.2.2.2).1
            obtain rfl : K2 = 7 := D2.out.symm.trans (due_on B1.out G.out.1 G.out.2.1 G.out.2.2.1 G.out.2.2.2).2
            have c4 : W4.cell? ⟨w.heap.size, 4, none⟩ = some (.int .u8 6) := S4.out.cell 4
            go_wp2_with fail
            refine (legal_any 6 7 (by decide) W4).mono ?_
            rintro e W5 ⟨rfl, hbel⟩
            rw [show legalP 6 7 = true from rfl]
            have HB5 := Lib.hid (HB4.out.trans (hbel.mono HB4.out.size))
            have T5 := Lib.hid (T4.out.under hbel)
            clear hbel c4
            go_wp2_with fail
            refine (stands_any 8 W5).mono ?_
            rintro e W6 ⟨rfl, hw6⟩
            subst hw6
            rw [show standsP 8 = false from rfl]
            go_wp2_with fail
            refine (wakes_any W6 T5.out).mono ?_
            rintro e w7 ⟨rfl, hb7⟩
            have HB7 := Lib.hid (HB5.out.trans (hb7.mono HB5.out.size))
            clear hb7
            go_wp2_with fail
            go_ret
            exact ⟨rfl, HB7.out⟩
        · have c4 : W3.cell? ⟨w.heap.size, 4, none⟩ = some (.int .u8 7) := S3.out.cell 4
          obtain rfl : b3 = true := B3.out.symm.trans (due_at rfl HA.out G.out.1 (show since ≤ 1099511627776 by have := G.out; omega)).1
          obtain rfl : K3 = 8 := D3.out.symm.trans (due_at rfl HA.out G.out.1 (show since ≤ 1099511627776 by have := G.out; omega)).2
          clear p5 hw20
          go_wp2_with fail
          refine (legal_any 7 8 (by decide) W3).mono ?_
          rintro e W4 ⟨rfl, hbel⟩
          rw [show legalP 7 8 = true from rfl]
          have HB4 := Lib.hid (HB3.out.trans (hbel.mono HB3.out.size))
          have T4 := Lib.hid (T3.out.under hbel)
          have S4 := Lib.hid (S3.out.under hbel)
          clear hbel c4
          cases b1 with
          | false =>
            obtain rfl : K1 = 0 := D1.out.symm.trans (due_off B1.out)
            go_wp2_with fail
            refine (wakes_any W4 T4.out).mono ?_
            rintro e w7 ⟨rfl, hb7⟩
            have HB7 := Lib.hid (HB4.out.trans (hb7.mono HB4.out.size))
            clear hb7
            go_wp2_with fail
            go_ret
            exact ⟨rfl, HB7.out⟩
          | true =>
            obtain rfl : K1 = 8 := D1.out.symm.trans (due_to B1.out)
            obtain rfl : b2 = true := B2.out.symm.trans (due_on B1.out G.out.1 G.out.2.1 G.out.2.2.1 G.out.2.2.2).1
            obtain rfl : K2 = 8 := D2.out.symm.trans (due_on B1.out G.out.1 G.out.2.1 G.out.2.2.1 G.out.2.2.2).2
            have c4 : W4.cell? ⟨w.heap.size, 4, none⟩ = some (.int .u8 7) := S4.out.cell 4
            go_wp2_with fail
            refine (legal_any 7 8 (by decide) W4).mono ?_
            rintro e W5 ⟨rfl, hbel⟩
            rw [show legalP 7 8 = true from rfl]
            have HB5 := Lib.hid (HB4.out.trans (hbel.mono HB4.out.size))
            have T5 := Lib.hid (T4.out.under hbel)
            clear hbel c4
            go_wp2_with fail
            refine (stands_any 8 W5).mono ?_
            rintro e W6 ⟨rfl, hw6⟩
            subst hw6
            rw [show standsP 8 = false from rfl]
            go_wp2_with fail
            refine (wakes_any W6 T5.out).mono ?_
            rintro e w7 ⟨rfl, hb7⟩
            have HB7 := Lib.hid (HB5.out.trans (hb7.mono HB5.out.size))
            clear hb7
            go_wp2_with fail
            go_ret
            exact ⟨rfl, HB7.out⟩
        · have c4 : W3.cell? ⟨w.heap.size, 4, none⟩ = some (.int .u8 (k : Int)) := S3.out.cell 4
          have hno : waitsP k = false := by simp [waitsP]; omega
          obtain rfl : b1 = false := B1.out.symm.trans (due_no hno _).1
          obtain rfl : K1 = 0 := D1.out.symm.trans (due_no hno _).2
          obtain rfl : b3 = false := B3.out.symm.trans (due_no hno _).1
          have e1 : ((k : Int) == 1) = false := by rw [beq_eq_false_iff_ne]; omega
          have e2 : ((k : Int) == 2) = false := by rw [beq_eq_false_iff_ne]; omega
          have e6 : ((k : Int) == 6) = false := by rw [beq_eq_false_iff_ne]; omega
          have e7 : ((k : Int) == 7) = false := by rw [beq_eq_false_iff_ne]; omega
          clear hno p5 hw20 n1 n2 n3 n4
          go_wp2_with fail
          refine (wakes_any W3 T3.out).mono ?_
          rintro e w7 ⟨rfl, hb7⟩
          have HB7 := Lib.hid (HB3.out.trans (hb7.mono HB3.out.size))
          clear hb7
          go_wp2_with fail
          go_ret
          exact ⟨rfl, HB7.out⟩

end Go.Proofs.YtgjipbhhdiacmaaDoor
