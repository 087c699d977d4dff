/-
  The walk of the statement 'FrameCut': it answers true, and nothing that was there turns. Conditions: none.
-/
import Derived.Test.YtocleikdabclkaaFrLawBack
namespace Go.Proofs.Ytocleikdabclkaa
open Go.RowKit Go.Shelf

/-- Two rows of the call's own of unlike element types: one stays while the other one grows. -/
theorem own_kept_of {w w' : World} {base base' n m : Nat} {e e' : TypeId} {v u : Value} {xs ys : List Value} (hne : e ≠ e') (h1 : w.ownsRow base e 1 v n xs) (h2 : w.ownsRow base' e' 1 u m ys) (hg : w.grownBy w' v.ownBlock) : w'.ownsRow base' e' 1 u m ys := by
  refine h2.kept hg ?_
  rcases h2.2 with ⟨rfl, _⟩ | ⟨g, cap, cur, rfl, _, hg1, _⟩
  · exact .inl rfl
  · right
    intro e0
    rcases h1.2 with ⟨rfl, _⟩ | ⟨g', cap', cur', rfl, _, hg', _⟩
    · simp [Value.ownBlock] at e0
    · simp only [Value.ownBlock, Option.some.injEq] at e0
      subst e0
      rw [hg1] at hg'
      injection hg' with hg'
      injection hg' with _ h5 _
      exact absurd h5.symm hne

/-- 'x[:k]' of rows. -/
theorem run_headR (A : Option Addr) (n c k : Nat) (hk : k ≤ c) (w : World) : (Instr.slice 29 (.slice A n c) none (some (.int .i64 (k : Int))) none).run Try.prog w = .ok (.slice A k c) w := by
  obtain ⟨i0, hi, hz0, hz1, hz2⟩ := info_parts info_row
  have hz : (sizeOf (Try.prog.elem 29)).run Try.prog w = .ok 1 w := by
    have he : Try.prog.elem 29 = 22 := by kernel_rfl
    simp [he, Go.sizeOf, typeInfo, hi, hz1]
  have h63 : (k : Int).toNat = k := by omega
  rw [run_slice_h (P := Try.prog) w 29 A n c Try.underlying29 .i64 (k : Int) (by omega) (by omega), hz, h63]
  have e : ∀ o : Option Addr, o.map (fun a => a.add (0 * 1)) = o := fun o => by cases o <;> simp [Addr.add]
  simp only [Result.andThen_ok, sliced, e, Nat.sub_zero, ite_self]

theorem RdB.take {w : World} {B n k : Nat} {A : Option Addr} {l : List BE} (h : RdB w B A n l) (hk : k ≤ n) : RdB w B A k (l.take k) := by
  refine ⟨by rw [List.length_take, h.1]; omega, fun hp => ?_, fun x hx => h.2.2 x (List.mem_of_mem_take hx)⟩
  obtain ⟨b, off, e, hb, hc⟩ := h.2.1 (by omega)
  refine ⟨b, off, e, hb, fun j x hx => hc j x ?_⟩
  rw [List.getElem?_take] at hx
  split at hx
  · exact hx
  · cases hx

/-- Where the frames of the first rows end. -/
def endsOf (l : List BE) (k : Nat) : List Int := (List.range k).map fun j => ((frs l (j + 1)).length : Int)
theorem endsOf_length (l : List BE) (k : Nat) : (endsOf l k).length = k := by simp [endsOf]
theorem endsOf_succ (l : List BE) (k : Nat) : endsOf l (k + 1) = endsOf l k ++ [((frs l (k + 1)).length : Int)] := by simp [endsOf, List.range_succ]
theorem endsOf_at {l : List BE} {k j : Nat} (h : j < k) : (iv (endsOf l k))[j]? = some (.int .i64 ((frs l (j + 1)).length : Int)) := by simp [iv, endsOf, h]

theorem frs_take (l : List BE) (j : Nat) : frs l j = (rowsOf (l.take j)).flatMap fr := rfl
/-- The frames that are cut. -/
theorem cut_is {l : List BE} {n C j : Nat} (hl : l.length = n) (hj : j ≤ n) (h4 : ∀ x ∈ l, x.bs.length ≤ 4000) (hC : C ≤ (frs l n).length) (hlo : (frs l j).length ≤ C) (hhi : j < n → C < (frs l (j + 1)).length) : AllIs ((frs l n).take C) (rowsOf (l.take j)) (frs l j).length := by
  have h4' : ∀ p ∈ rowsOf (l.take j), p.length ≤ 4000 := fun p hp => by
    simp only [rowsOf, List.mem_map] at hp
    obtain ⟨x, hx, rfl⟩ := hp
    exact h4 x (List.mem_of_mem_take hx)
  have hsplit : frs l n = frs l j ++ (rowsOf (l.drop j)).flatMap fr := by
    rw [frs, frs, List.take_of_length_le (by omega)]
    conv => lhs; rw [← List.take_append_drop j l, rowsOf, List.map_append, List.flatMap_append]
    rfl
  have h1 : (frs l n).take C = frs l j ++ ((rowsOf (l.drop j)).flatMap fr).take (C - (frs l j).length) := by
    rw [hsplit, List.take_append, List.take_of_length_le hlo]
  rw [h1]
  refine allIs_app (rowsOf (l.take j)) _ h4' (fun p => ?_)
  rcases Nat.eq_or_lt_of_le hj with rfl | hlt
  · rw [List.drop_of_length_le (by omega)]
    simpa [rowsOf] using not_isFr_nil p
  · obtain ⟨x, hx⟩ : ∃ x, l[j]? = some x := ⟨_, List.getElem?_eq_getElem (by omega)⟩
    have hd : l.drop j = x :: l.drop (j + 1) := by
      rw [List.getElem?_eq_getElem (by omega)] at hx
      rw [← Option.some.inj hx]; exact List.drop_eq_getElem_cons (by omega)
    have hh := hhi hlt
    rw [frs_succ hx, List.length_append] at hh
    rw [hd, rowsOf, List.map_cons, List.flatMap_cons, List.take_append_of_le_length (by omega)]
    exact not_isFr_cut (h4 x (List.mem_of_getElem? hx)) (by omega)
theorem frs_mono (l : List BE) {i j : Nat} (h : i ≤ j) : (frs l i).length ≤ (frs l j).length := by
  have e : l.take i = (l.take j).take i := by rw [List.take_take, Nat.min_eq_left h]
  have h1 : frs l j = frs l i ++ (rowsOf ((l.take j).drop i)).flatMap fr := by
    rw [frs, frs, e]
    conv => lhs; rw [← List.take_append_drop i (l.take j), rowsOf, List.map_append, List.flatMap_append]
    rfl
  rw [h1, List.length_append]
  exact Nat.le_add_right _ _

set_option maxHeartbeats 400000 in
theorem frameCut_out (A : Option Addr) (n c : Nat) (z : Int) (w : World) (h : ¬ n ≤ 12) :
    Calls Try.prog 5 #[.slice A n c, .int .i64 z] w fun e w' => e = .returned (.bool true) ∧ Below w.heap.size w w' := by
  have h0 : (12 : Int) < (n : Int) := by omega
  go_enter Try.func5, Try.ntmps5
  go_wp2_with fail
  refine (wakes_any _).mono ?_
  rintro e w1 ⟨rfl, hb⟩
  go_wp2_with fail
  go_ret
  exact ⟨rfl, hb⟩

set_option maxRecDepth 100000 in
set_option maxHeartbeats 1000000 in
theorem frameCut_in (A : Option Addr) (n c : Nat) (l : List BE) (z : Int) (w : World) (hr : RdB w w.heap.size A n l) (hc : n ≤ c) (hz : (Lit.int .i64 z).wf = true) (h0 : n ≤ 12) :
    Calls Try.prog 5 #[.slice A n c, .int .i64 z] w fun e w' => e = .returned (.bool true) ∧ Below w.heap.size w w' := by
  have hl := hr.1
  have HR := Lib.hid hr
  have HL := Lib.hid hl
  have HZ := Lib.hid hz
  have i0 : ¬ (12 : Int) < (n : Int) := by omega
  clear hr hl hz
  go_enter Try.func5, Try.ntmps5
  go_wp2_with fail
  go_loopw [5, 6, 7] (fun v u i wr => ∃ (k m : Nat), i = .int .i64 (k : Int) ∧ k ≤ n ∧ (frs l k).length = m ∧ (∀ x ∈ l.take k, x.bs.length ≤ 60) ∧ wr.ownsRow w.heap.size 5 1 v m (bv (frs l k)) ∧ wr.ownsRow w.heap.size 3 1 u k (iv (endsOf l k)) ∧ Below w.heap.size w wr) (fun _ _ i _ => n - (intOf i).toNat)
  case atStart => exact ⟨0, 0, rfl, Nat.zero_le _, rfl, by simp, World.ownsRow_nil _ _ _ _, World.ownsRow_nil _ _ _ _, Below.refl _ _⟩
  case round =>
    obtain ⟨k, m, rfl, hk, hm, hsm, hown, hends, hb⟩ := hrel
    have hml := frs_len (l := l) (k := k) (fun y hy => by have := hsm y hy; omega)
    rcases Nat.eq_or_lt_of_le hk with rfl | hlt
    · obtain ⟨A5, c5, rfl⟩ := own_form hown
      obtain ⟨A6, c6, rfl⟩ := own_form hends
      have hm12 : m ≤ 48072 := by rw [hm] at hml; omega
      obtain ⟨T, hT⟩ : ∃ T, Int.tmod z ((m : Int) + 1) = T := ⟨_, rfl⟩
      have hT1 : T < (m : Int) + 1 := by rw [← hT]; exact Int.tmod_lt_of_pos z (by omega)
      have hT2 : -((m : Int) + 1) < T := by rw [← hT]; exact Int.lt_tmod_of_pos z (by omega)
      obtain ⟨C, hC1, hC2⟩ : ∃ C : Nat, Int.tmod (T + (m : Int) + 1) ((m : Int) + 1) = (C : Int) ∧ C ≤ m := by
        have h1 : (0 : Int) ≤ T + (m : Int) + 1 := by omega
        rw [Int.tmod_eq_emod_of_nonneg h1]
        have h2 := Int.emod_nonneg (T + (m : Int) + 1) (show (m : Int) + 1 ≠ 0 by omega)
        have h3 := Int.emod_lt_of_pos (T + (m : Int) + 1) (show (0 : Int) < (m : Int) + 1 by omega)
        exact ⟨((T + (m : Int) + 1) % ((m : Int) + 1)).toNat, by omega, by omega⟩
      have hb64 := bounds_i64 HZ.out
      have hcap5 := own_cap hown
      have hby : ∀ x ∈ l, ∀ y ∈ x.bs, y < 256 := fun x hx => (HR.out.2.2 x hx).2.1
      have HBb := Lib.hid (frs_bytes hby k)
      have hsm' : ∀ y ∈ l, y.bs.length ≤ 60 := fun y hy => hsm y (by rw [List.take_of_length_le (by rw [HL.out]; exact Nat.le_refl _)]; exact hy)
      have HSm := Lib.hid hsm'
      have HO := Lib.hid hown
      have HE := Lib.hid hends
      have HB := Lib.hid hb
      have HM := Lib.hid hm
      have hH := run_head A5 m c5 C (by omega)
      clear hown hends hb hm hsm hsm' hby hml
      go_wp2_with fail
      go_loop [10] (fun i => ∃ j : Nat, i = .int .i64 (j : Int) ∧ j ≤ k ∧ (frs l j).length ≤ C) (fun i => k - (intOf i).toNat)
      case atStart => exact ⟨0, rfl, Nat.zero_le _, by rw [frs_zero]; exact Nat.zero_le _⟩
      case round =>
        obtain ⟨j, rfl, hj, hlo⟩ := hrel
        have HLo := Lib.hid hlo
        clear hlo
        rcases Nat.eq_or_lt_of_le hj with hjk | hjlt
        · have HHi : Hid (j < k → C < (frs l (j + 1)).length) := Lib.hid (fun h => by omega)
          have hjk2 : ¬ (j : Int) < (k : Int) := by omega
          have HJK := Lib.hid hjk
          clear hjk
          cases j with
          | zero =>
            obtain ⟨U, hU⟩ : ∃ U, (frs l 0).length = U := ⟨_, rfl⟩
            have hall := cut_is HL.out (by omega : 0 ≤ k) (fun y hy => by have := HSm.out y hy; omega) (by rw [HM.out]; omega) (HLo.out) HHi.out
            rw [hU] at hall
            have hjl : (rowsOf (l.take 0)).length = 0 := by simp only [rowsOf, List.length_map, List.length_take, HL.out]; omega
            have hby2 : ∀ p ∈ rowsOf (l.take 0), ∀ y ∈ p, y < 256 := fun p hp => by
              simp only [rowsOf, List.mem_map] at hp
              obtain ⟨x, hx, rfl⟩ := hp
              exact (HR.out.2.2 x (List.mem_of_mem_take hx)).2.1
            obtain ⟨Lj, hLj⟩ : ∃ Lj, rowsOf (l.take 0) = Lj := ⟨_, rfl⟩
            rw [hLj] at hall hjl hby2
            have HBy2 := Lib.hid hby2
            have HLj := Lib.hid hLj
            have hT := frAll_any A5 C c5 ((frs l k).take C) Lj U wr.heap.size wr hall (by have h := (Rd.of_own HO.out).take (k := C) (by omega); rwa [bv, ← List.map_take] at h) (Nat.le_refl _) (fun y hy => HBb.out y (List.mem_of_mem_take hy)) (by omega) (by omega)
            unfold AllPost at hT
            rw [hjl] at hT
            have HT := Lib.hid hT
            have HJl := Lib.hid hjl
            have hU0 : U = 0 := by rw [← hU, frs_zero]; rfl
            subst hU0
            have hH2 := run_headR A k c (0) (by omega)
            have HU := Lib.hid hU
            clear hT hall hjl hU hby2 hLj
            go_wp2_with fail
            refine (HT.out).mono ?_
            rintro e w1 ⟨A8, c8, rfl, hR3, d1⟩
            have hR4 : RowsAt wr.heap.size w1 (.slice A8 Lj.length c8) Lj := by rw [HJl.out]; exact hR3
            obtain ⟨es, he, hes⟩ := hR4.read HBy2.out
            rw [HJl.out] at hes
            have HB1 := Lib.hid (HB.out.trans (d1.mono HB.out.size))
            have HRo := Lib.hid (rows_any A8 A (0) c8 (0) c es (l.take (0)) w1.heap.size w1 hes (((HR.out.below HB1.out).more HB1.out.size).take (by omega)) (Nat.le_refl _) (by omega) (r := true) (decide_eq_true (he.trans HLj.out.symm)))

            clear hR3 hR4 he hes d1 HT
            go_wp2_with fail
            refine (HRo.out).mono ?_
            rintro e w2 ⟨rfl, d2⟩
            have HB2 := Lib.hid (HB1.out.trans (d2.mono HB1.out.size))
            clear d2
            go_wp2_with fail
            refine (wakes_any _).mono ?_
            rintro e w3 ⟨rfl, d3⟩
            go_wp2_with fail
            go_ret
            exact ⟨rfl, HB2.out.trans (d3.mono HB2.out.size)⟩
          | succ q =>
            obtain ⟨U, hU⟩ : ∃ U, (frs l (q + 1)).length = U := ⟨_, rfl⟩
            have hall := cut_is HL.out (by omega : (q + 1) ≤ k) (fun y hy => by have := HSm.out y hy; omega) (by rw [HM.out]; omega) (HLo.out) HHi.out
            rw [hU] at hall
            have hjl : (rowsOf (l.take (q + 1))).length = (q + 1) := by simp only [rowsOf, List.length_map, List.length_take, HL.out]; omega
            have hby2 : ∀ p ∈ rowsOf (l.take (q + 1)), ∀ y ∈ p, y < 256 := fun p hp => by
              simp only [rowsOf, List.mem_map] at hp
              obtain ⟨x, hx, rfl⟩ := hp
              exact (HR.out.2.2 x (List.mem_of_mem_take hx)).2.1
            obtain ⟨Lj, hLj⟩ : ∃ Lj, rowsOf (l.take (q + 1)) = Lj := ⟨_, rfl⟩
            rw [hLj] at hall hjl hby2
            have HBy2 := Lib.hid hby2
            have HLj := Lib.hid hLj
            have hT := frAll_any A5 C c5 ((frs l k).take C) Lj U wr.heap.size wr hall (by have h := (Rd.of_own HO.out).take (k := C) (by omega); rwa [bv, ← List.map_take] at h) (Nat.le_refl _) (fun y hy => HBb.out y (List.mem_of_mem_take hy)) (by omega) (by omega)
            unfold AllPost at hT
            rw [hjl] at hT
            have HT := Lib.hid hT
            have HJl := Lib.hid hjl
            obtain ⟨g, cap, hv, hg1, hg2⟩ := HE.out.form (by omega)
            injection hv with hA6 _ hc6
            subst hA6; subst hc6
            have hcq := HE.out.cellAt q (by omega)
            rw [endsOf_at (by omega), hU] at hcq
            have hH2 := run_headR A k c ((q + 1)) (by omega)
            have HU := Lib.hid hU
            clear hT hall hjl hU hby2 hLj
            go_wp2_with fail
            refine (HT.out).mono ?_
            rintro e w1 ⟨A8, c8, rfl, hR3, d1⟩
            have hR4 : RowsAt wr.heap.size w1 (.slice A8 Lj.length c8) Lj := by rw [HJl.out]; exact hR3
            obtain ⟨es, he, hes⟩ := hR4.read HBy2.out
            rw [HJl.out] at hes
            have HB1 := Lib.hid (HB.out.trans (d1.mono HB.out.size))
            have HRo := Lib.hid (rows_any A8 A ((q + 1)) c8 ((q + 1)) c es (l.take ((q + 1))) w1.heap.size w1 hes (((HR.out.below HB1.out).more HB1.out.size).take (by omega)) (Nat.le_refl _) (by omega) (r := true) (decide_eq_true (he.trans HLj.out.symm)))
            have hcell2 := (d1.cell (p := ⟨g, q, none⟩) hg2).trans hcq
            have hne : ((U : Int) != (U : Int)) = false := by simp
            clear hcq
            clear hR3 hR4 he hes d1 HT
            go_wp2_with fail
            refine (HRo.out).mono ?_
            rintro e w2 ⟨rfl, d2⟩
            have HB2 := Lib.hid (HB1.out.trans (d2.mono HB1.out.size))
            clear d2
            go_wp2_with fail
            refine (wakes_any _).mono ?_
            rintro e w3 ⟨rfl, d3⟩
            go_wp2_with fail
            go_ret
            exact ⟨rfl, HB2.out.trans (d3.mono HB2.out.size)⟩
        · by_cases hle : (frs l (j + 1)).length ≤ C
          · obtain ⟨g, cap, hv, hg1, hg2⟩ := HE.out.form (by omega)
            injection hv with hA6 _ hc6
            subst hA6; subst hc6
            have hcq := HE.out.cellAt j (by omega)
            rw [endsOf_at hjlt] at hcq
            have hle2 : ((frs l (j + 1)).length : Int) ≤ (C : Int) := by omega
            have hjlt2 : (j : Int) < (k : Int) := by omega
            have HLe := Lib.hid hle
            clear hle
            go_wp2_with fail
            go_round
            case rel => exact ⟨j + 1, by go_num, by omega, HLe.out⟩
            case measure => simp [intOf]; omega
          · have HHi : Hid (j < k → C < (frs l (j + 1)).length) := Lib.hid (fun _ => by omega)
            obtain ⟨g, cap, hv, hg1, hg2⟩ := HE.out.form (by omega)
            injection hv with hA6 _ hc6
            subst hA6; subst hc6
            have hcj := HE.out.cellAt j (by omega)
            rw [endsOf_at hjlt] at hcj
            have hle2 : ¬ ((frs l (j + 1)).length : Int) ≤ (C : Int) := by omega
            have hjlt2 : (j : Int) < (k : Int) := by omega
            clear hle
            cases j with
            | zero =>
              obtain ⟨U, hU⟩ : ∃ U, (frs l 0).length = U := ⟨_, rfl⟩
              have hall := cut_is HL.out (by omega : 0 ≤ k) (fun y hy => by have := HSm.out y hy; omega) (by rw [HM.out]; omega) (HLo.out) HHi.out
              rw [hU] at hall
              have hjl : (rowsOf (l.take 0)).length = 0 := by simp only [rowsOf, List.length_map, List.length_take, HL.out]; omega
              have hby2 : ∀ p ∈ rowsOf (l.take 0), ∀ y ∈ p, y < 256 := fun p hp => by
                simp only [rowsOf, List.mem_map] at hp
                obtain ⟨x, hx, rfl⟩ := hp
                exact (HR.out.2.2 x (List.mem_of_mem_take hx)).2.1
              obtain ⟨Lj, hLj⟩ : ∃ Lj, rowsOf (l.take 0) = Lj := ⟨_, rfl⟩
              rw [hLj] at hall hjl hby2
              have HBy2 := Lib.hid hby2
              have HLj := Lib.hid hLj
              have hT := frAll_any A5 C c5 ((frs l k).take C) Lj U wr.heap.size wr hall (by have h := (Rd.of_own HO.out).take (k := C) (by omega); rwa [bv, ← List.map_take] at h) (Nat.le_refl _) (fun y hy => HBb.out y (List.mem_of_mem_take hy)) (by omega) (by omega)
              unfold AllPost at hT
              rw [hjl] at hT
              have HT := Lib.hid hT
              have HJl := Lib.hid hjl
              have hU0 : U = 0 := by rw [← hU, frs_zero]; rfl
              subst hU0
              have hH2 := run_headR A k c (0) (by omega)
              have HU := Lib.hid hU
              clear hT hall hjl hU hby2 hLj
              go_wp2_with fail
              refine (HT.out).mono ?_
              rintro e w1 ⟨A8, c8, rfl, hR3, d1⟩
              have hR4 : RowsAt wr.heap.size w1 (.slice A8 Lj.length c8) Lj := by rw [HJl.out]; exact hR3
              obtain ⟨es, he, hes⟩ := hR4.read HBy2.out
              rw [HJl.out] at hes
              have HB1 := Lib.hid (HB.out.trans (d1.mono HB.out.size))
              have HRo := Lib.hid (rows_any A8 A (0) c8 (0) c es (l.take (0)) w1.heap.size w1 hes (((HR.out.below HB1.out).more HB1.out.size).take (by omega)) (Nat.le_refl _) (by omega) (r := true) (decide_eq_true (he.trans HLj.out.symm)))

              clear hR3 hR4 he hes d1 HT
              go_wp2_with fail
              refine (HRo.out).mono ?_
              rintro e w2 ⟨rfl, d2⟩
              have HB2 := Lib.hid (HB1.out.trans (d2.mono HB1.out.size))
              clear d2
              go_wp2_with fail
              refine (wakes_any _).mono ?_
              rintro e w3 ⟨rfl, d3⟩
              go_wp2_with fail
              go_ret
              exact ⟨rfl, HB2.out.trans (d3.mono HB2.out.size)⟩
            | succ q =>
              obtain ⟨U, hU⟩ : ∃ U, (frs l (q + 1)).length = U := ⟨_, rfl⟩
              have hall := cut_is HL.out (by omega : (q + 1) ≤ k) (fun y hy => by have := HSm.out y hy; omega) (by rw [HM.out]; omega) (HLo.out) HHi.out
              rw [hU] at hall
              have hjl : (rowsOf (l.take (q + 1))).length = (q + 1) := by simp only [rowsOf, List.length_map, List.length_take, HL.out]; omega
              have hby2 : ∀ p ∈ rowsOf (l.take (q + 1)), ∀ y ∈ p, y < 256 := fun p hp => by
                simp only [rowsOf, List.mem_map] at hp
                obtain ⟨x, hx, rfl⟩ := hp
                exact (HR.out.2.2 x (List.mem_of_mem_take hx)).2.1
              obtain ⟨Lj, hLj⟩ : ∃ Lj, rowsOf (l.take (q + 1)) = Lj := ⟨_, rfl⟩
              rw [hLj] at hall hjl hby2
              have HBy2 := Lib.hid hby2
              have HLj := Lib.hid hLj
              have hT := frAll_any A5 C c5 ((frs l k).take C) Lj U wr.heap.size wr hall (by have h := (Rd.of_own HO.out).take (k := C) (by omega); rwa [bv, ← List.map_take] at h) (Nat.le_refl _) (fun y hy => HBb.out y (List.mem_of_mem_take hy)) (by omega) (by omega)
              unfold AllPost at hT
              rw [hjl] at hT
              have HT := Lib.hid hT
              have HJl := Lib.hid hjl
              have hcq := HE.out.cellAt q (by omega)
              rw [endsOf_at (by omega), hU] at hcq
              have hH2 := run_headR A k c ((q + 1)) (by omega)
              have HU := Lib.hid hU
              clear hT hall hjl hU hby2 hLj
              go_wp2_with fail
              refine (HT.out).mono ?_
              rintro e w1 ⟨A8, c8, rfl, hR3, d1⟩
              have hR4 : RowsAt wr.heap.size w1 (.slice A8 Lj.length c8) Lj := by rw [HJl.out]; exact hR3
              obtain ⟨es, he, hes⟩ := hR4.read HBy2.out
              rw [HJl.out] at hes
              have HB1 := Lib.hid (HB.out.trans (d1.mono HB.out.size))
              have HRo := Lib.hid (rows_any A8 A ((q + 1)) c8 ((q + 1)) c es (l.take ((q + 1))) w1.heap.size w1 hes (((HR.out.below HB1.out).more HB1.out.size).take (by omega)) (Nat.le_refl _) (by omega) (r := true) (decide_eq_true (he.trans HLj.out.symm)))
              have hcell2 := (d1.cell (p := ⟨g, q, none⟩) hg2).trans hcq
              have hne : ((U : Int) != (U : Int)) = false := by simp
              clear hcq
              clear hR3 hR4 he hes d1 HT
              go_wp2_with fail
              refine (HRo.out).mono ?_
              rintro e w2 ⟨rfl, d2⟩
              have HB2 := Lib.hid (HB1.out.trans (d2.mono HB1.out.size))
              clear d2
              go_wp2_with fail
              refine (wakes_any _).mono ?_
              rintro e w3 ⟨rfl, d3⟩
              go_wp2_with fail
              go_ret
              exact ⟨rfl, HB2.out.trans (d3.mono HB2.out.size)⟩
    · obtain ⟨b, off, rfl, hbl, hcl⟩ := HR.out.2.1 (by omega)
      obtain ⟨x, hx⟩ : ∃ x, l[k]? = some x := ⟨_, List.getElem?_eq_getElem (by rw [HL.out]; exact hlt)⟩
      have hcell := (hb.cell (p := ⟨b, off + k, none⟩) hbl).trans (hcl k x hx)
      obtain ⟨x1, x2, x3, x4⟩ := HR.out.2.2 x (List.mem_of_getElem? hx)
      have hxl : x.bs.length = x.n := by have := x1.1; rwa [bv_length] at this
      have hlt2 : (k : Int) < (n : Int) := by omega
      have HO := Lib.hid hown
      have HE := Lib.hid hends
      have HB := Lib.hid hb
      have HSm := Lib.hid hsm
      have HX := Lib.hid hx
      have HX1 := Lib.hid x1
      have HX2 := Lib.hid x2
      have HXL := Lib.hid hxl
      have HML : Hid (m ≤ 4006 * k) := by rw [← hm]; exact Lib.hid hml
      clear hown hends hb hsm x1 x2 hxl hcl hml
      by_cases h60 : (60 : Int) < (x.n : Int)
      · go_wp2_with fail
        refine (wakes_any _).mono ?_
        rintro e w1 ⟨rfl, d1⟩
        go_wp2_with fail
        go_ret
        exact ⟨rfl, HB.out.trans (d1.mono HB.out.size)⟩
      · have hx60 : x.n ≤ 60 := by omega
        obtain ⟨F, hF⟩ : ∃ F, frLen x.bs.length = F := ⟨_, rfl⟩
        have hF6 : F ≤ 4006 := by rw [← hF]; exact frLen_le (by rw [HXL.out]; omega)
        have hfl : (fr x.bs).length = F := by rw [fr_length, hF]
        have HP := Lib.hid (frPut_any x.A x.n x.c x.bs w.heap.size wr (HX1.out.below HB.out) HB.out.size HX2.out (by omega) x3 x4)
        unfold FrOk at HP
        rw [hF] at HP
        have HFl := Lib.hid hfl
        clear hF hfl
        go_wp2_with fail
        refine (HP.out).mono ?_
        rintro e w1 ⟨A7, c7, rfl, o7, d7⟩
        have HB1 := Lib.hid (HB.out.trans (d7.mono HB.out.size))
        have o1 := own_under HO.out d7
        have e1 := own_under HE.out d7
        have hmB : m ≤ 48072 := by have := HML.out; omega
        obtain ⟨v2, w2, hrun, hown2, hg2⟩ := run_app w1 w.heap.size _ m _ o1 w1.heap.size A7 F c7 (fr x.bs) (Rd.of_own o7) (by omega) HB1.out.size
        rw [← bv_append, ← frs_succ HX.out] at hown2
        obtain ⟨A2, c2, rfl⟩ := own_form hown2
        have e2 := own_kept_of (by decide) o1 e1 hg2
        have HB2 := Lib.hid (HB1.out.trans (below_row o1 hg2 HB1.out.size))
        have HM6 : Hid ((frs l (k + 1)).length = m + F) := by rw [frs_succ HX.out, List.length_append, HFl.out, hm]; exact Lib.hid rfl
        obtain ⟨v3, w3, hrun3, hown3, hg3⟩ := run_appI (w2.alloc (.cells #[.int .i64 ((m + F : Nat) : Int)] 3)) w.heap.size _ k _ (e2.alloc _) (w2.heap.size + 1) (some ⟨w2.heap.size, 0, none⟩) 1 1 [((m + F : Nat) : Int)] (rd_lit w2 (iv [((m + F : Nat) : Int)]) 3 1 rfl) (by omega) (by have := HB2.out.size; simp; omega)
        have hs4 : iv (endsOf l k) ++ iv [((m + F : Nat) : Int)] = iv (endsOf l (k + 1)) := by rw [endsOf_succ, HM6.out]; simp [iv]
        rw [hs4] at hown3
        have o3 := own_kept_of (by decide) (e2.alloc (.cells #[.int .i64 ((m + F : Nat) : Int)] 3)) (hown2.alloc _) hg3
        have b3 := (HB2.out.alloc HB2.out.size (.cells #[.int .i64 ((m + F : Nat) : Int)] 3)).trans (below_row (e2.alloc _) hg3 (by have := HB2.out.size; simp; omega))
        have HRun := Lib.hid hrun
        have HRun3 := Lib.hid hrun3
        have HO3 := Lib.hid o3
        have HE3 := Lib.hid hown3
        have HB3 := Lib.hid b3
        have HSm6 : Hid (∀ y ∈ l.take (k + 1), y.bs.length ≤ 60) := fun y hy => by
          rw [List.take_add_one, HX.out] at hy
          rcases List.mem_append.1 hy with hy | hy
          · exact HSm.out y hy
          · simp only [Option.toList_some, List.mem_singleton] at hy
            subst hy; rw [HXL.out]; exact hx60
        clear hrun hown2 hg2 hrun3 hown3 hg3 o3 b3 e2 hs4 o1 e1 o7 d7 HP hcell HO HE
        go_wp2_with (first | (at_builtin; refine wpList_app (by rfl) _ _ _ rfl _ _ _ _ rfl rfl HRun.out ?_; clear HRun) | (at_builtin; refine wpList_app (by rfl) _ _ _ rfl _ _ _ _ rfl rfl HRun3.out ?_; clear HRun3))
        go_roundw
        case rel => exact ⟨k + 1, m + F, by go_num, by omega, HM6.out, HSm6.out, HO3.out, HE3.out, HB3.out⟩
        case measure => simp [intOf]; omega

theorem frameCut_walk (A : Option Addr) (n c : Nat) (l : List BE) (z : Int) (w : World) (hr : RdB w w.heap.size A n l) (hc : n ≤ c) (hz : (Lit.int .i64 z).wf = true) :
    Calls Try.prog 5 #[.slice A n c, .int .i64 z] w fun e w' => e = .returned (.bool true) ∧ Below w.heap.size w w' := by
  by_cases h : n ≤ 12
  · exact frameCut_in A n c l z w hr hc hz h
  · exact frameCut_out A n c z w h

end Go.Proofs.Ytocleikdabclkaa
