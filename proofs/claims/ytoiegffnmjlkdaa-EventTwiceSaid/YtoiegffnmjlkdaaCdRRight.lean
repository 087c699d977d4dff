/-
  The walk of the document's own 'Right' (layer 8). Conditions: those that each theorem names.
-/
import Derived.Test.YtoiegffnmjlkdaaCdRBox
namespace Go.Proofs.Ytoiegffnmjlkdaa
open Go.RowKit Go.Shelf

/-- None of the first m has the token, if it is one. -/
def noTok (l : List Bx) (m : Nat) (t : Int) : Prop := ∀ k y, k < m → l[k]? = some y → ¬ (0 < t ∧ y.tok = t)
set_option maxRecDepth 100000 in
theorem noTok_step {l : List Bx} {m : Nat} {t : Int} {y : Bx} (h : noTok l m t) (hy : l[m]? = some y) (hn : ¬ (0 < t ∧ y.tok = t)) : noTok l (m + 1) t := by
  intro k z hk hz
  rcases Nat.lt_or_eq_of_le (Nat.le_of_lt_succ hk) with h1 | h1
  · exact h k z h1 hz
  · rw [h1, hy] at hz
    rw [← Option.some.inj hz]
    exact hn
set_option maxRecDepth 100000 in
theorem noTok_dup {l : List Bx} {m : Nat} {u : Bx} (h : noTok l m u.tok) : dup (l.take m) u = false := by
  by_cases h0 : 0 < u.tok
  · have h1 : (l.take m).any (fun y => y.tok == u.tok) = false := by
      rw [List.any_eq_false]
      intro y hy
      obtain ⟨k, hk⟩ := List.getElem?_of_mem hy
      have hlt : k < m := by have := (List.getElem?_eq_some_iff.1 hk).1; rw [List.length_take] at this; omega
      rw [List.getElem?_take, if_pos hlt] at hk
      have := h k y hlt hk
      simp only [beq_iff_eq]
      exact fun e => this ⟨h0, e⟩
    simp [dup, h1]
  · simp [dup, h0]
set_option maxRecDepth 100000 in
theorem dup_yes {l : List Bx} {m k : Nat} {u y : Bx} (hk : k < m) (hy : l[k]? = some y) (h0 : 0 < u.tok) (he : y.tok = u.tok) : dup (l.take m) u = true := by
  have h1 : (l.take m)[k]? = some y := by rw [List.getElem?_take, if_pos hk]; exact hy
  simp only [dup, h0, decide_true, Bool.true_and, List.any_eq_true]
  exact ⟨y, List.mem_of_getElem? h1, by simp [he]⟩

set_option maxRecDepth 100000 in
set_option maxHeartbeats 4000000 in
theorem rright_in (A : Option Addr) (n c : Nat) (x : Cw) (B : Nat) (w : World) (hr : RdX w B A n x.l) (hB : B ≤ w.heap.size) (hn : n ≤ 60) (h1 : isNum x.fl = true) (h2 : isNum x.dr = true) (h3 : isNum x.nw = true) :
    Calls Try.prog 16 #[.agg #[.slice A n c, .int .i64 x.fl, .int .i64 x.dr, .int .i64 x.nw, .bool x.tg]] w (BoolPost (okTo x.l x.l.length) w) := by
  have HR := Lib.hid hr
  have HBB := Lib.hid hB
  have HL := Lib.hid hr.len
  have HI := Lib.hid (In1.new w A n c x)
  have hd : decide ((60 : Int) < (n : Int)) = false := decide_eq_false (by omega)
  have N1 := Lib.hid (fun W => rnumber_any x.fl W)
  have N2 := Lib.hid (fun W => rnumber_any x.dr W)
  have N3 := Lib.hid (fun W => rnumber_any x.nw W)
  rw [h1] at N1
  rw [h2] at N2
  rw [h3] at N3
  clear hr hB h1 h2 h3
  go_enter Try.func16, Try.ntmps16
  go_wp2_with fail
  refine (N1.out _).mono ?_
  rintro e w1 ⟨rfl, rfl⟩
  go_wp2_with fail
  refine (N2.out _).mono ?_
  rintro e w1 ⟨rfl, rfl⟩
  go_wp2_with fail
  refine (N3.out _).mono ?_
  rintro e w1 ⟨rfl, rfl⟩
  go_wp2_with fail
  clear N1 N2 N3 hd
  go_loopw [3] (fun i wr => ∃ j : Nat, i = .int .i64 (j : Int) ∧ j ≤ n ∧ okTo x.l j = true ∧ In1 w A n c x wr) (fun i _ => n - (intOf i).toNat)
  case atStart => exact ⟨0, rfl, Nat.zero_le _, rfl, HI.out⟩
  case round =>
    obtain ⟨j, rfl, hj, hT, hI⟩ := hrel
    have q0 := hI.box.cell 0
    simp only [List.getElem?_toArray, List.getElem?_cons_zero] at q0
    have HRw := Lib.hid (fun W (hW : In1 w A n c x W) => HR.out.below (hW.below.mono HBB.out))
    have HI2 := Lib.hid hI
    have HT := Lib.hid hT
    clear hI HI hT
    by_cases hlt : j < n
    rotate_left
    · have HE := Lib.hid (show okTo x.l x.l.length = true by have h1 := HT.out; rwa [show j = x.l.length by have := HL.out; omega] at h1)
      go_wp2_with fail
      go_ret
      exact ⟨by rw [HE.out]; rfl, HI2.out.below⟩
    obtain ⟨u, hu⟩ : ∃ u, x.l[j]? = some u := ⟨_, List.getElem?_eq_getElem (by rw [HL.out]; exact hlt)⟩
    obtain ⟨b, off, rfl, _, hc⟩ := (HRw.out _ HI2.out).2 (by omega)
    obtain ⟨c0, c1, c2, c3, c4, c5, c6, c7, c8, c9, c10⟩ := hc j u hu
    have hji : (j : Int) < (n : Int) := by omega
    have HU := Lib.hid hu
    have HC := Lib.hid (fun W => rbox_any u j (by omega) W)
    have HOK : Hid (okAt x.l j u = (rboxB u j && !dup (x.l.take j) u)) := Lib.hid rfl
    clear hc hu
    cases hcu : rboxB u j with
    | false =>
      rw [hcu] at HC
      have HE := Lib.hid (okTo_not HU.out (by rw [HOK.out, hcu]; rfl))
      go_wp2_with fail
      refine (HC.out _).mono ?_
      rintro e w2 ⟨rfl, b2⟩
      have H3 := Lib.hid (HI2.out.under b2)
      clear b2
      go_wp2_with fail
      go_ret
      exact ⟨by rw [HE.out]; rfl, H3.out.below⟩
    | true =>
      rw [hcu] at HC
      have HRB := Lib.hid hcu
      clear hcu
      go_wp2_with fail
      refine (HC.out _).mono ?_
      rintro e w2 ⟨rfl, b2⟩
      have H3 := Lib.hid (HI2.out.under b2)
      clear b2 c0 c1 c2 c3 c4 c5 c6 c7 c8 c9 c10 q0 HI2 HC
      go_wp2_with fail
      go_loopw [4] (fun k wr2 => ∃ m : Nat, k = .int .i64 (m : Int) ∧ m ≤ j ∧ noTok x.l m u.tok ∧ In1 w (some ⟨b, off, none⟩) n c x wr2) (fun k _ => j - (intOf k).toNat)
      case atStart => exact ⟨0, rfl, Nat.zero_le _, fun k y hk => by omega, H3.out⟩
      case round =>
        obtain ⟨m, rfl, hm, hN, hI⟩ := hrel
        have q0 := hI.box.cell 0
        simp only [List.getElem?_toArray, List.getElem?_cons_zero] at q0
        have HI4 := Lib.hid hI
        have HN := Lib.hid hN
        clear hI H3 hN
        by_cases hmj : m < j
        rotate_left
        · have hmj' : m = j := by omega
          subst hmj'
          have HE := Lib.hid (okTo_step HU.out HT.out (by rw [HOK.out, HRB.out, noTok_dup HN.out]; rfl))
          go_wp2_with fail
          go_roundw
          case rel => exact ⟨m + 1, by go_num, by omega, HE.out, HI4.out⟩
          case measure => simp [intOf]; omega
        obtain ⟨v, hv⟩ : ∃ v, x.l[m]? = some v := ⟨_, List.getElem?_eq_getElem (by rw [HL.out]; omega)⟩
        obtain ⟨b', off', e', _, hc⟩ := (HRw.out _ HI4.out).2 (by omega)
        injection e' with e'
        injection e' with e1 e2
        subst e1
        subst e2
        obtain ⟨c0, c1, c2, c3, c4, c5, c6, c7, c8, c9, c10⟩ := hc j u HU.out
        obtain ⟨d0, d1, d2, d3, d4, d5, d6, d7, d8, d9, d10⟩ := hc m v hv
        have hmi : (m : Int) < (j : Int) := by omega
        have hmn : (m : Int) < (n : Int) := by omega
        have HV := Lib.hid hv
        clear hc hv c0 c2 c3 c4 c5 c6 c7 c8 c9 c10 d0 d2 d3 d4 d5 d6 d7 d8 d9 d10
        by_cases ht : 0 < u.tok
        · have hd : decide (0 < u.tok) = true := decide_eq_true ht
          by_cases he : v.tok = u.tok
          · have hb : (v.tok == u.tok) = true := by simp [he]
            have HE := Lib.hid (okTo_not HU.out (by rw [HOK.out, dup_yes hmj HV.out ht he]; simp))
            clear ht he
            go_wp2_with fail
            go_quiet (fail)
            go_wp2_with fail
            go_ret
            exact ⟨by rw [HE.out]; rfl, below_drewN HI4.out.below _⟩
          · have hb : (v.tok == u.tok) = false := by simp [he]
            have HE := Lib.hid (noTok_step HN.out HV.out (fun h => he h.2))
            clear ht he
            go_wp2_with fail
            go_quiet (fail)
            go_wp2_with fail
            go_roundw
            case rel => exact ⟨m + 1, by go_num, by omega, HE.out, HI4.out.under (below_drewN (Below.refl _ _) _)⟩
            case measure => simp [intOf]; omega
        · have hd : decide (0 < u.tok) = false := decide_eq_false ht
          have HE := Lib.hid (noTok_step HN.out HV.out (fun h => ht h.1))
          clear ht
          go_wp2_with fail
          go_quiet (fail)
          go_wp2_with fail
          go_roundw
          case rel => exact ⟨m + 1, by go_num, by omega, HE.out, HI4.out.under (below_drewN (Below.refl _ _) _)⟩
          case measure => simp [intOf]; omega

set_option maxRecDepth 100000 in
set_option maxHeartbeats 2000000 in
theorem rright_any (A : Option Addr) (n c : Nat) (x : Cw) (B : Nat) (w : World) (hr : RdX w B A n x.l) (hB : B ≤ w.heap.size) :
    Calls Try.prog 16 #[.agg #[.slice A n c, .int .i64 x.fl, .int .i64 x.dr, .int .i64 x.nw, .bool x.tg]] w (BoolPost (right x) w) := by
  have hl := hr.len
  have HI := Lib.hid (In1.new w A n c x)
  by_cases hn : n ≤ 60
  rotate_left
  · rw [show right x = false by simp only [right, hl, decide_eq_false hn, Bool.false_and]]
    have hd : decide ((60 : Int) < (n : Int)) = true := decide_eq_true (by omega)
    clear hr hB hl
    go_enter Try.func16, Try.ntmps16
    go_wp2_with fail
    go_ret
    exact ⟨rfl, HI.out.below⟩
  have hd : decide ((60 : Int) < (n : Int)) = false := decide_eq_false (by omega)
  have N1 := Lib.hid (fun W => rnumber_any x.fl W)
  have N2 := Lib.hid (fun W => rnumber_any x.dr W)
  have N3 := Lib.hid (fun W => rnumber_any x.nw W)
  cases h1 : isNum x.fl with
  | false =>
    rw [show right x = false by simp only [right, h1, Bool.false_and, Bool.and_false]]
    rw [h1] at N1
    clear hr hB hl
    go_enter Try.func16, Try.ntmps16
    go_wp2_with fail
    refine (N1.out _).mono ?_
    rintro e w1 ⟨rfl, rfl⟩
    go_wp2_with fail
    go_ret
    exact ⟨rfl, HI.out.below⟩
  | true =>
    cases h2 : isNum x.dr with
    | false =>
      rw [show right x = false by simp only [right, h2, Bool.false_and, Bool.and_false]]
      rw [h1] at N1
      rw [h2] at N2
      clear hr hB hl
      go_enter Try.func16, Try.ntmps16
      go_wp2_with fail
      refine (N1.out _).mono ?_
      rintro e w1 ⟨rfl, rfl⟩
      go_wp2_with fail
      refine (N2.out _).mono ?_
      rintro e w1 ⟨rfl, rfl⟩
      go_wp2_with fail
      go_ret
      exact ⟨rfl, HI.out.below⟩
    | true =>
      cases h3 : isNum x.nw with
      | false =>
        rw [show right x = false by simp only [right, h3, Bool.false_and, Bool.and_false]]
        rw [h1] at N1
        rw [h2] at N2
        rw [h3] at N3
        clear hr hB hl
        go_enter Try.func16, Try.ntmps16
        go_wp2_with fail
        refine (N1.out _).mono ?_
        rintro e w1 ⟨rfl, rfl⟩
        go_wp2_with fail
        refine (N2.out _).mono ?_
        rintro e w1 ⟨rfl, rfl⟩
        go_wp2_with fail
        refine (N3.out _).mono ?_
        rintro e w1 ⟨rfl, rfl⟩
        go_wp2_with fail
        go_ret
        exact ⟨rfl, HI.out.below⟩
      | true =>
        rw [show right x = okTo x.l x.l.length by simp only [right, h1, h2, h3, hl, decide_eq_true hn, Bool.and_self, Bool.true_and]]
        exact rright_in A n c x B w hr hB hn h1 h2 h3

end Go.Proofs.Ytoiegffnmjlkdaa
