/-
  The walk of the statement 'FrameBack': it answers true, and nothing that was there turns. Conditions: none.
-/
import Derived.Test.YtocleikdabclkaaFrWakes
namespace Go.Proofs.Ytocleikdabclkaa
open Go.RowKit Go.Shelf

set_option maxHeartbeats 400000 in
theorem frameBack_out (A : Option Addr) (n c : Nat) (A1 : Option Addr) (n1 c1 : Nat) (w : World) (h : ¬ (n ≤ 12 ∧ n1 ≤ 60)) :
    Calls Try.prog 4 #[.slice A n c, .slice A1 n1 c1] w fun e w' => e = .returned (.bool true) ∧ Below w.heap.size w w' := by
  by_cases h0 : (12 : Int) < (n : Int)
  · go_enter Try.func4, Try.ntmps4
    go_wp2_with fail
    refine (wakes_any _).mono ?_
    rintro e w1 ⟨rfl, hb⟩
    go_wp2_with fail
    go_ret
    exact ⟨rfl, hb⟩
  · have h1 : (60 : Int) < (n1 : Int) := by omega
    go_enter Try.func4, Try.ntmps4
    go_wp2_with fail
    refine (wakes_any _).mono ?_
    rintro e w1 ⟨rfl, hb⟩
    go_wp2_with fail
    go_ret
    exact ⟨rfl, hb⟩

/-- The frames of the first k rows. -/
def frs (l : List BE) (k : Nat) : List Nat := (rowsOf (l.take k)).flatMap fr
theorem frs_zero (l : List BE) : frs l 0 = [] := rfl
theorem frs_succ {l : List BE} {k : Nat} {x : BE} (h : l[k]? = some x) : frs l (k + 1) = frs l k ++ fr x.bs := by
  rw [frs, rowsOf_take h, List.flatMap_append, List.flatMap_singleton]; rfl
theorem frs_all {l : List BE} {n : Nat} (h : l.length = n) : frs l n = (rowsOf l).flatMap fr := by
  rw [frs, List.take_of_length_le (by omega)]
theorem frs_len {l : List BE} {k : Nat} (h : ∀ x ∈ l.take k, x.bs.length ≤ 4000) : (frs l k).length ≤ 4006 * k := by
  have h1 := usedOf_le (rowsOf (l.take k)) (fun p hp => by
    simp only [rowsOf, List.mem_map] at hp
    obtain ⟨x, hx, rfl⟩ := hp
    exact h x hx)
  have h2 : (rowsOf (l.take k)).length ≤ k := by simp only [rowsOf, List.length_map, List.length_take]; omega
  have h3 : 4006 * (rowsOf (l.take k)).length ≤ 4006 * k := Nat.mul_le_mul (Nat.le_refl _) h2
  unfold usedOf at h1
  unfold frs
  omega
theorem frs_bytes {l : List BE} (h : ∀ x ∈ l, ∀ y ∈ x.bs, y < 256) (k : Nat) : ∀ y ∈ frs l k, y < 256 := by
  intro y hy
  simp only [frs, rowsOf, List.mem_flatMap, List.mem_map] at hy
  obtain ⟨p, ⟨x, hx, rfl⟩, hy⟩ := hy
  exact fr_bytes (h x (List.mem_of_mem_take hx)) y hy

set_option maxRecDepth 100000 in
set_option maxHeartbeats 1000000 in
theorem frameBack_in (A : Option Addr) (n c : Nat) (l : List BE) (A1 : Option Addr) (n1 c1 : Nat) (bh : List Nat) (w : World) (hr : RdB w w.heap.size A n l) (hr1 : Rd w w.heap.size A1 n1 (bv bh)) (hb1 : ∀ x ∈ bh, x < 256) (h0 : n ≤ 12) (h1 : n1 ≤ 60) :
    Calls Try.prog 4 #[.slice A n c, .slice A1 n1 c1] w fun e w' => e = .returned (.bool true) ∧ Below w.heap.size w w' := by
  have hl := hr.1
  have hl1 : bh.length = n1 := by have := hr1.1; rwa [bv_length] at this
  have HR := Lib.hid hr
  have HR1 := Lib.hid hr1
  have HBh := Lib.hid hb1
  have HL := Lib.hid hl
  have i0 : ¬ (12 : Int) < (n : Int) := by omega
  have i1 : ¬ (60 : Int) < (n1 : Int) := by omega
  clear hr hr1 hb1 hl
  go_enter Try.func4, Try.ntmps4
  go_wp2_with fail
  go_loopw [5, 6] (fun v i wr => ∃ (k m : Nat), i = .int .i64 (k : Int) ∧ k ≤ n ∧ (frs l k).length = m ∧ (∀ x ∈ l.take k, x.bs.length ≤ 60) ∧ wr.ownsRow w.heap.size 5 1 v m (bv (frs l k)) ∧ Below w.heap.size w wr) (fun _ i _ => n - (intOf i).toNat)
  case atStart => exact ⟨0, 0, rfl, Nat.zero_le _, rfl, by simp, World.ownsRow_nil _ _ _ _, Below.refl _ _⟩
  case round =>
    obtain ⟨k, m, rfl, hk, hm, hsm, hown, hb⟩ := hrel
    rcases Nat.eq_or_lt_of_le hk with rfl | hlt
    · have hml := frs_len (l := l) (k := k) (fun y hy => by have := hsm y hy; omega)
      rw [frs_all HL.out] at hown hm hml
      obtain ⟨A2, c2, rfl⟩ := own_form hown
      have hby : ∀ x ∈ l, ∀ y ∈ x.bs, y < 256 := fun x hx => (HR.out.2.2 x hx).2.1
      have hall := allIs_app (rowsOf l) [] (fun p hp => by
        simp only [rowsOf, List.mem_map] at hp
        obtain ⟨x, hx, rfl⟩ := hp
        have := hsm x (by rw [List.take_of_length_le (by rw [HL.out]; exact Nat.le_refl _)]; exact hx)
        omega) not_isFr_nil
      rw [List.append_nil, hm] at hall
      have hbb : ∀ y ∈ (rowsOf l).flatMap fr, y < 256 := by
        have h := frs_bytes hby k
        rwa [frs_all HL.out] at h
      have hT := frAll_any A2 m c2 _ (rowsOf l) m wr.heap.size wr hall (Rd.of_own hown) (Nat.le_refl _) hbb (by omega) (own_cap hown)
      have hrl : (rowsOf l).length = k := by simp only [rowsOf, List.length_map]; exact HL.out
      unfold AllPost at hT
      rw [hrl] at hT
      have HT := Lib.hid hT
      have HB := Lib.hid hb
      have HBy := Lib.hid hby
      have HRl := Lib.hid hrl
      clear hT hb hby hrl hbb hall hown hsm hm hml
      go_wp2_with fail
      refine (HT.out).mono ?_
      rintro e w1 ⟨A3, c3, rfl, hR3, d1⟩
      rw [← HRl.out] at hR3
      obtain ⟨es, he, hes⟩ := hR3.read (fun p hp => by
        simp only [rowsOf, List.mem_map] at hp
        obtain ⟨x, hx, rfl⟩ := hp
        exact HBy.out x hx)
      rw [HRl.out] at hes
      have HB1 := Lib.hid (HB.out.trans (d1.mono HB.out.size))
      have HRo := Lib.hid (rows_any A3 A k c3 k c es l w1.heap.size w1 hes ((HR.out.below HB1.out).more HB1.out.size) (Nat.le_refl _) (by omega) (r := true) (decide_eq_true he))
      clear hR3 he hes d1
      go_wp2_with fail
      refine (HRo.out).mono ?_
      rintro e w2 ⟨rfl, d2⟩
      have HB2 := Lib.hid (HB1.out.trans (d2.mono HB1.out.size))
      clear d2
      go_wp2_with fail
      refine (wakes_any _).mono ?_
      rintro e w3 ⟨rfl, d3⟩
      go_wp2_with fail
      go_ret
      exact ⟨rfl, HB2.out.trans (d3.mono HB2.out.size)⟩
    · obtain ⟨b, off, rfl, hbl, hc⟩ := HR.out.2.1 (by omega)
      obtain ⟨x, hx⟩ : ∃ x, l[k]? = some x := ⟨_, List.getElem?_eq_getElem (by rw [HL.out]; exact hlt)⟩
      have hcell := (hb.cell (p := ⟨b, off + k, none⟩) hbl).trans (hc k x hx)
      obtain ⟨x1, x2, x3, x4⟩ := HR.out.2.2 x (List.mem_of_getElem? hx)
      have hxl : x.bs.length = x.n := by have := x1.1; rwa [bv_length] at this
      have hlt2 : (k : Int) < (n : Int) := by omega
      have HO := Lib.hid hown
      have HB := Lib.hid hb
      have HSm := Lib.hid hsm
      have HX := Lib.hid hx
      have HX1 := Lib.hid x1
      have HX2 := Lib.hid x2
      have HXL := Lib.hid hxl
      clear hown hb hsm x1 x2 hxl
      by_cases h60 : (60 : Int) < (x.n : Int)
      · clear hc
        go_wp2_with fail
        refine (wakes_any _).mono ?_
        rintro e w1 ⟨rfl, d1⟩
        go_wp2_with fail
        go_ret
        exact ⟨rfl, HB.out.trans (d1.mono HB.out.size)⟩
      · have hx60 : x.n ≤ 60 := by omega
        obtain ⟨F, hF⟩ : ∃ F, frLen x.bs.length = F := ⟨_, rfl⟩
        have hF6 : F ≤ 4006 := by rw [← hF]; exact frLen_le (by rw [HXL.out]; omega)
        have hF5 : 5 ≤ F := by rw [← hF]; exact frLen_pos _
        have hfl : (fr x.bs).length = F := by rw [fr_length, hF]
        have HCell := Lib.hid (hc k x HX.out)
        have HP := Lib.hid (frPut_any x.A x.n x.c x.bs w.heap.size wr (HX1.out.below HB.out) HB.out.size HX2.out (by omega) x3 x4)
        unfold FrOk at HP
        rw [hF] at HP
        have HFr := Lib.hid hF
        have HFl := Lib.hid hfl
        clear hF hfl hc
        go_wp2_with fail
        refine (HP.out).mono ?_
        rintro e w1 ⟨A7, c7, rfl, o7, d7⟩
        have HB1 := Lib.hid (HB.out.trans (d7.mono HB.out.size))
        have HO1 := Lib.hid (own_under HO.out d7)
        have HO7 := Lib.hid o7
        obtain ⟨v1, W1, A3, c3, W2, e1, e2, R3, b3, hc3⟩ := run_two w1 w1.heap.size A7 A1 F c7 n1 c1 (fr x.bs) bh (Rd.of_own o7) ((HR1.out.below HB1.out).more HB1.out.size) (Nat.le_refl _) (by omega)
        have E1 := Lib.hid e1
        have E2 := Lib.hid e2
        have HR3 := Lib.hid R3
        have HC3 := Lib.hid hc3
        have HB2 := Lib.hid (HB1.out.trans (b3.mono HB1.out.size))
        have HO2 := Lib.hid (own_under HO1.out b3)
        have HO72 := Lib.hid (own_under HO7.out b3)
        clear o7 d7 e1 e2 R3 b3 hc3 HP hcell HO HO1 HO7
        go_wp2_with (first | (at_builtin; refine wpList_app (by rfl) _ _ _ rfl _ _ _ _ rfl rfl E1.out ?_; clear E1) | (at_builtin; refine wpList_app (by rfl) _ _ _ rfl _ _ _ _ rfl rfl E2.out ?_; clear E2))
        have hT := frTake_yes A3 (F + n1) c3 (fr x.bs ++ bh) x.bs bh W2.heap.size W2 (isFr_fr (by rw [HXL.out]; omega) bh) (by rw [HFr.out, ← HFl.out, List.drop_left]) HR3.out (Nat.le_refl _) (fun y hy => (List.mem_append.1 hy).elim (fr_bytes HX2.out y) (HBh.out y)) (by omega) HC3.out
        unfold TakeYes at hT
        rw [HXL.out, hl1] at hT
        refine hT.mono ?_
        rintro e w3 ⟨A4, c4, A5, c5, rfl, o4, o5, d3⟩
        have HB3 := Lib.hid (HB2.out.trans (d3.mono HB2.out.size))
        have HO3 := Lib.hid (own_under HO2.out d3)
        have HO73 := Lib.hid (own_under HO72.out d3)
        have hcell := (HB3.out.cell (p := ⟨b, off + k, none⟩) hbl).trans HCell.out
        have HS1 := Lib.hid (same_yes A4 x.A x.n c4 x.n x.c x.bs w3.heap.size w.heap.size w3 (Rd.of_own o4) (HX1.out.below HB3.out) HX2.out)
        have HS2 := Lib.hid (same_yes A5 A1 n1 c5 n1 c1 bh w3.heap.size w.heap.size w3 (Rd.of_own o5) (HR1.out.below HB3.out) HBh.out)
        have HLn := Lib.hid (frLong_yes x.n (by omega) w3)
        rw [← HXL.out, HFr.out, HXL.out] at HLn
        clear hT o4 o5 d3 HR3 HC3 HB2 HO2 HO72
        go_wp2_with fail
        refine (HS1.out).mono ?_
        rintro e w' ⟨rfl, rfl⟩
        go_wp2_with fail
        refine (HS2.out).mono ?_
        rintro e w' ⟨rfl, rfl⟩
        go_wp2_with fail
        refine (HLn.out).mono ?_
        rintro e w5 ⟨rfl, d5⟩
        have HB5 := Lib.hid (HB3.out.trans (d5.mono HB3.out.size))
        have HO5 := Lib.hid (own_under HO3.out d5)
        have HO75 := Lib.hid (own_under HO73.out d5)
        have hml := frs_len (l := l) (k := k) (fun y hy => by have := HSm.out y hy; omega)
        obtain ⟨v6, w6, hrun, hown6, hg6⟩ := run_app w5 w.heap.size _ m _ HO5.out w5.heap.size A7 F c7 (fr x.bs) (Rd.of_own HO75.out) (by omega) HB5.out.size
        rw [← bv_append, ← frs_succ HX.out] at hown6
        have HRun := Lib.hid hrun
        have HO6 := Lib.hid hown6
        have HB6 := Lib.hid (HB5.out.trans (below_row HO5.out hg6 HB5.out.size))
        have HM6 : Hid ((frs l (k + 1)).length = m + F) := by rw [frs_succ HX.out, List.length_append, HFl.out, hm]; exact Lib.hid rfl
        have HSm6 : Hid (∀ y ∈ l.take (k + 1), y.bs.length ≤ 60) := fun y hy => by
          rw [List.take_add_one, HX.out] at hy
          rcases List.mem_append.1 hy with hy | hy
          · exact HSm.out y hy
          · simp only [Option.toList_some, List.mem_singleton] at hy
            subst hy; rw [HXL.out]; exact hx60
        clear hrun hown6 hg6 hml hcell d5 HO3 HO73 HB3 HO5 HO75
        go_wp2_with (first | (at_builtin; refine wpList_app (by rfl) _ _ _ rfl _ _ _ _ rfl rfl HRun.out ?_; clear HRun))
        go_roundw
        case rel => exact ⟨k + 1, m + F, by go_num, by omega, HM6.out, HSm6.out, HO6.out, HB6.out⟩
        case measure => simp [intOf]; omega

theorem frameBack_walk (A : Option Addr) (n c : Nat) (l : List BE) (A1 : Option Addr) (n1 c1 : Nat) (bh : List Nat) (w : World) (hr : RdB w w.heap.size A n l) (hr1 : Rd w w.heap.size A1 n1 (bv bh)) (hb1 : ∀ x ∈ bh, x < 256) :
    Calls Try.prog 4 #[.slice A n c, .slice A1 n1 c1] w fun e w' => e = .returned (.bool true) ∧ Below w.heap.size w w' := by
  by_cases h : n ≤ 12 ∧ n1 ≤ 60
  · exact frameBack_in A n c l A1 n1 c1 bh w hr hr1 hb1 h.1 h.2
  · exact frameBack_out A n c A1 n1 c1 w h

end Go.Proofs.Ytocleikdabclkaa
