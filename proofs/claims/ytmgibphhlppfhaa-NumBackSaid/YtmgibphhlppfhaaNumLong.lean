/-
  The walk of the statement 'NumLong': it answers true, and nothing that was there turns. Conditions: none.
-/
import Derived.Test.YtmgibphhlppfhaaNumApart
import Derived.OpenShut
namespace Go.Proofs.Ytmgibphhlppfhaa
open Go.RowKit Go.Shelf

/-- What came in as a slice of integers reads as a list. -/
theorem rd_of_ints {w : World} {a : Option Addr} {len cap : Nat} {zs : List Int}
    (h : (a = none ∧ len = 0 ∧ cap = 0 ∧ zs = []) ∨ ∃ x, a = some x ∧ len ≤ cap ∧ cap ≤ maxLen ∧ zs.length = cap ∧ (∀ i, i < zs.length → w.cell? (x.add i) = some (.int .i64 (zs.getD i 0))) ∧ ∀ n ∈ zs, (Lit.int .i64 n).wf = true) :
    Rd w w.heap.size a len (iv (zs.take len)) ∧ len ≤ cap ∧ cap ≤ maxLen := by
  rcases h with ⟨rfl, rfl, rfl, rfl⟩ | ⟨x, rfl, hl, hm, hz, hc, _⟩
  · exact ⟨⟨rfl, fun h => absurd h (by omega)⟩, Nat.le_refl _, by omega⟩
  · refine ⟨⟨by rw [iv_length, List.length_take]; omega, fun hp => ?_⟩, hl, hm⟩
    obtain ⟨b, off, rfl, hc'⟩ := ints_at hc (by omega)
    refine ⟨b, off, rfl, World.block_lt_of_cell? w _ (hc' 0 (by omega)), fun j hj => ?_⟩
    rw [hc' j (by omega), iv, List.getElem?_map, List.getElem?_take, if_pos hj, List.getElem?_eq_getElem (by omega)]
    simp [List.getD, List.getElem?_eq_getElem (show j < zs.length by omega)]

theorem rd_of_bytes {w : World} {a : Option Addr} {len cap : Nat} {zs : List Int}
    (h : (a = none ∧ len = 0 ∧ cap = 0 ∧ zs = []) ∨ ∃ x, a = some x ∧ len ≤ cap ∧ cap ≤ maxLen ∧ zs.length = cap ∧ (∀ i, i < zs.length → w.cell? (x.add i) = some (.int .u8 (zs.getD i 0))) ∧ ∀ n ∈ zs, (Lit.int .u8 n).wf = true) :
    ∃ bs : List Nat, Rd w w.heap.size a len (bv bs) ∧ (∀ x ∈ bs, x < 256) ∧ len ≤ cap ∧ cap ≤ maxLen := by
  rcases h with ⟨rfl, rfl, rfl, rfl⟩ | ⟨x, rfl, hl, hm, hz, hc, hw⟩
  · exact ⟨[], ⟨rfl, fun h => absurd h (by omega)⟩, by simp, Nat.le_refl _, by omega⟩
  · have hr : ∀ n ∈ zs, 0 ≤ n ∧ n < 256 := fun n hn => by
      have := hw n hn
      have := bounds_u8 this
      omega
    refine ⟨nats (zs.take len), ⟨by rw [bv_length, nats, List.length_map, List.length_take]; omega, fun hp => ?_⟩, ?_, hl, hm⟩
    · obtain ⟨b, off, rfl, hc'⟩ := ints_at hc (by omega)
      refine ⟨b, off, rfl, World.block_lt_of_cell? w _ (hc' 0 (by omega)), fun j hj => ?_⟩
      have hjz : j < zs.length := by omega
      rw [hc' j hjz, bv, nats, List.getElem?_map, List.getElem?_map, List.getElem?_take, if_pos hj, List.getElem?_eq_getElem hjz]
      have := hr zs[j] (List.getElem_mem hjz)
      simp [List.getD, List.getElem?_eq_getElem hjz]
      omega
    · intro y hy
      simp only [nats, List.mem_map] at hy
      obtain ⟨z, hz1, rfl⟩ := hy
      have := hr z (List.mem_of_mem_take hz1)
      omega

theorem long_is {n k : Nat} (hn : n ≤ 1099511627776) (hk : (put n).length = k) (w : World) : Calls Try.prog 9 #[.int .i64 (n : Int)] w (LongPost k w) := by
  subst hk; exact long_yes n hn w

set_option maxHeartbeats 400000 in
theorem longLaw_out (a0 : Int) (A : Option Addr) (n c : Nat) (w : World) (h : a0 < 0 ∨ (0 ≤ a0 ∧ 1099511627776 < a0) ∨ (0 ≤ a0 ∧ a0 ≤ 1099511627776 ∧ 40 < n)) :
    Calls Try.prog 6 #[.int .i64 a0, .slice A n c] w fun e w' => e = .returned (.bool true) ∧ Below w.heap.size w w' := by
  rcases h with h | ⟨h0, h⟩ | ⟨h0, h1, h⟩
  all_goals
    go_enter Try.func6, Try.ntmps6
    go_wp2_with fail
    refine (wakes_any _).mono ?_
    rintro e w1 ⟨rfl, hb⟩
    go_wp2_with fail
    go_ret
    exact ⟨rfl, hb⟩

theorem row_ok {A : Option Addr} {n c : Nat} {zs : List Int} {B : Nat} {w : World} (hr : Rd w B A n (iv zs)) (hB : B ≤ w.heap.size) (hn : n ≤ 40) (h : zs.all isNum = true) :
    Calls Try.prog 12 #[.slice A n c] w (TwoPost w.heap.size (sofar n zs).length (bv (sofar n zs)) w) := by
  have hl : zs.length = n := by have := hr.1; rwa [iv_length] at this
  refine (row_short A n c zs w (hr.more hB) hn).mono ?_
  rintro e w' (⟨_, A', c', he, hI⟩ | ⟨h0, _⟩)
  · rw [← sofar_row, hl] at he hI
    exact ⟨A', c', he, hI⟩
  · simp only [isRow, h, Bool.and_true, decide_eq_false_iff_not] at h0; omega

/-- What holds at each number of the row. -/
structure LongInv (w : World) (n : Nat) (zs : List Int) (j : Nat) (W : World) : Prop where
  le : j ≤ n
  num : (zs.take j).all isNum = true
  below : Below w.heap.size w W

theorem LongInv.next {w W W' : World} {n j : Nat} {zs : List Int} (h : LongInv w n zs j W) (hl : zs.length = n) (hj : j < n) {m : Nat} (hz : zs[j]? = some (m : Int)) (hm : m ≤ 1099511627776) (hb : Below W.heap.size W W') :
    LongInv w n zs (j + 1) W' ∧ (sofar n (zs.take (j + 1))).length = (sofar n (zs.take j)).length + (put m).length := by
  have hjl : j < zs.length := by omega
  have e : zs.take (j + 1) = zs.take j ++ [(m : Int)] := by
    rw [List.take_succ_eq_append_getElem hjl]
    rw [List.getElem?_eq_getElem hjl] at hz
    rw [Option.some.inj hz]
  have hnum : isNum (m : Int) = true := isNum_yes (by omega) (by omega)
  refine ⟨⟨by omega, by rw [e, List.all_append, h.num]; simp [hnum], h.below.trans (hb.mono h.below.size)⟩, ?_⟩
  rw [e, sofar_snoc, List.length_append]

set_option maxRecDepth 100000 in
set_option maxHeartbeats 4000000 in
theorem longLaw_in (N : Nat) (A : Option Addr) (n c : Nat) (zs : List Int) (w : World) (hN : N ≤ 1099511627776) (hn : n ≤ 40) (hr : Rd w w.heap.size A n (iv zs)) :
    Calls Try.prog 6 #[.int .i64 (N : Int), .slice A n c] w fun e w' => e = .returned (.bool true) ∧ Below w.heap.size w w' := by
  have h1 := put_lt N
  have h2 := put_ge N
  have h3 := put_pos N
  have h4 := put_six hN
  obtain ⟨k, hk⟩ : ∃ k, (put N).length = k := ⟨_, rfl⟩
  rw [hk] at h1 h2 h3 h4
  have d1 : decide ((N : Int) < 0) = false := by simp
  have d2 : decide ((1099511627776 : Int) < (N : Int)) = false := by simp; omega
  have d3 : decide ((40 : Int) < (n : Int)) = false := by simp; omega
  have d4 : decide (((128 ^ k : Nat) : Int) ≤ (N : Int)) = false := by simp only [decide_eq_false_iff_not]; omega
  have d5 : 1 < k → decide ((N : Int) < ((128 ^ (k - 1) : Nat) : Int)) = false := fun h => by have := h2 h; simp only [decide_eq_false_iff_not]; omega
  have hlen : zs.length = n := by have := hr.1; rwa [iv_length] at this
  have HL := Lib.hid hlen
  have HK := Lib.hid hk
  have HR := Lib.hid hr
  have HN := Lib.hid hN
  have Hn := Lib.hid hn
  clear hk hr hN h1 h2 hlen
  have hk6 : k = 1 ∨ k = 2 ∨ k = 3 ∨ k = 4 ∨ k = 5 ∨ k = 6 := by omega
  clear h3 h4
  rcases hk6 with rfl | rfl | rfl | rfl | rfl | rfl
  all_goals try have d6 := d5 (by omega)
  all_goals clear d5
  all_goals simp only [Nat.reducePow, Int.cast_ofNat_Int] at d4
  all_goals try simp only [Nat.reducePow, Nat.reduceSub, Int.cast_ofNat_Int] at d6
  all_goals
    go_enter Try.func6, Try.ntmps6
    go_wp2_with fail
    refine (long_is HN.out HK.out _).mono ?_
    rintro e w1 ⟨rfl, hb1, _⟩
    go_wp2_with fail
    refine (long_yes n (by have := Hn.out; omega) _).mono ?_
    rintro e w2 ⟨rfl, hb2, _⟩
    have hb2 : Below w.heap.size w w2 := hb1.trans (hb2.mono hb1.size)
    clear hb1
    have hI0 : LongInv w n zs 0 w2 := ⟨by omega, rfl, hb2⟩
    clear hb2
    go_wp2_with fail
    clear d4
    try clear d6
    go_loopw [6, 7] (fun s i wr => ∃ j : Nat, i = .int .i64 (j : Int) ∧ s = .int .i64 ((sofar n (zs.take j)).length : Int) ∧ LongInv w n zs j wr) (fun _ i _ => n - (intOf i).toNat)
    case atStart => exact ⟨0, rfl, by simp [sofar, nats, puts], hI0⟩
    case round =>
      obtain ⟨j, rfl, rfl, hI⟩ := hrel
      clear hI0
      have hS : (sofar n (zs.take j)).length ≤ 246 := by
        have := sofar_six Hn.out hI.num
        have h2 := hI.le
        have h3 := Hn.out
        rw [List.length_take] at this; omega
      have hjn := hI.le
      have HI := Lib.hid hI
      clear hI
      by_cases hj : j < n
      · obtain ⟨b, off, rfl, hB, hc⟩ := (HR.out.below HI.out.below).2 (by omega)
        have hjl : j < zs.length := by rw [HL.out]; exact hj
        obtain ⟨z, hz⟩ : ∃ z, zs[j]? = some z := ⟨_, List.getElem?_eq_getElem hjl⟩
        have hcell := hc j hj
        have e1 : (iv zs)[j]? = some (.int .i64 z) := by simp [iv, hz]
        rw [e1] at hcell
        have Hz := Lib.hid hz
        clear hz hc e1 hjl
        by_cases hz0 : 0 ≤ z
        · by_cases hz1 : z ≤ 1099511627776
          · obtain ⟨m, rfl⟩ := Int.eq_ofNat_of_zero_le hz0
            have hP := put_six (n := m) (by omega)
            go_wp2_with fail
            refine (long_yes m (by omega) _).mono ?_
            rintro e w3 ⟨rfl, hb3, _⟩
            obtain ⟨hI3, hS3⟩ := HI.out.next HL.out hj Hz.out (by omega) hb3
            have HI3 := Lib.hid hI3
            have HS3 := Lib.hid hS3
            clear hI3 hS3 hb3
            go_wp2_with fail
            go_roundw
            case rel => exact ⟨j + 1, by go_num, by rw [HS3.out]; go_num, HI3.out⟩
            case measure => simp [intOf]; omega
          · go_wp2_with fail
            refine (wakes_any _).mono ?_
            rintro e w3 ⟨rfl, hb3⟩
            go_wp2_with fail
            go_ret
            exact ⟨rfl, HI.out.below.trans (hb3.mono HI.out.below.size)⟩
        · go_wp2_with fail
          refine (wakes_any _).mono ?_
          rintro e w3 ⟨rfl, hb3⟩
          go_wp2_with fail
          go_ret
          exact ⟨rfl, HI.out.below.trans (hb3.mono HI.out.below.size)⟩
      · obtain rfl : n = j := by omega
        have hall : zs.all isNum = true := by have := HI.out.num; rwa [List.take_of_length_le (by have := HL.out; omega)] at this
        have hcut : sofar n (zs.take n) = sofar n zs := by rw [List.take_of_length_le (by have := HL.out; omega)]
        rw [hcut] at hS ⊢
        have Hrow := Lib.hid (fun (W : World) (hW : Below w.heap.size w W) => row_ok (c := c) (HR.out.below hW) hW.size Hn.out hall)
        clear hcut hall
        go_wp2_with fail
        refine (Hrow.out _ HI.out.below).mono ?_
        rintro e w3 ⟨A3, c3, rfl, hI3⟩
        have b3 : Below w.heap.size w w3 := HI.out.below.trans (hI3.2.1.mono HI.out.below.size)
        clear hI3
        go_wp2_with fail
        refine (wakes_any _).mono ?_
        rintro e w4 ⟨rfl, hb4⟩
        go_wp2_with fail
        go_ret
        exact ⟨rfl, b3.trans (hb4.mono b3.size)⟩

theorem longLaw_walk (a0 : Int) (A : Option Addr) (n c : Nat) (zs : List Int) (w : World) (hr : Rd w w.heap.size A n (iv zs)) :
    Calls Try.prog 6 #[.int .i64 a0, .slice A n c] w fun e w' => e = .returned (.bool true) ∧ Below w.heap.size w w' := by
  by_cases h0 : 0 ≤ a0
  · by_cases h1 : a0 ≤ 1099511627776
    · by_cases h2 : n ≤ 40
      · obtain ⟨N, rfl⟩ := Int.eq_ofNat_of_zero_le h0
        exact longLaw_in N A n c zs w (by omega) h2 hr
      · exact longLaw_out a0 A n c w (.inr (.inr ⟨h0, h1, by omega⟩))
    · exact longLaw_out a0 A n c w (.inr (.inl ⟨h0, by omega⟩))
  · exact longLaw_out a0 A n c w (.inl (by omega))

end Go.Proofs.Ytmgibphhlppfhaa
