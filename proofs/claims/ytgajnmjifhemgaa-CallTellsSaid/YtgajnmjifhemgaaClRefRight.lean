/-
  The walk of the document's own 'Right' of calls. Conditions: those that each theorem names.
-/
import Derived.Test.YtgajnmjifhemgaaClRefA
import Derived.Test.YtgajnmjifhemgaaClClose
namespace Go.Proofs.Ytgajnmjifhemgaa
open Go.RowKit Go.Shelf

/-- As the document asks of one: by its number less the epoch's, as Go counts it. -/
theorem okAtC_ref {b nx : Int} {l : List Cl} {j : Nat} {x : Cl} (h0 : 0 ≤ b) (h1 : b ≤ 549755813888) (h2 : 1 ≤ nx) (h3 : nx ≤ 1048576) (hw : (Lit.int .i64 x.id).wf = true) (hx : l[j]? = some x) (hok : okToC b nx l j = true) :
    okAtC b nx (l.take j) x = ((!decide (wrap64 (x.id - b) < 1) && !decide (nx ≤ wrap64 (x.id - b))) && (!(decide (0 < j) && decide (x.id ≤ lastC b (l.take j))) && (oneB x && !anyC (l.take j) x.kind x.key))) := by
  have hwf : -9223372036854775808 ≤ x.id ∧ x.id ≤ 9223372036854775807 := by
    simpa [Lit.wf, IntKind.min, IntKind.max, IntKind.signed, IntKind.bits] using hw
  have hb : j = 0 → lastC b (l.take j) = b := by rintro rfl; rfl
  have hp : 0 < j → b < lastC b (l.take j) := by
    intro h
    obtain ⟨m, rfl⟩ : ∃ m, j = m + 1 := ⟨j - 1, by omega⟩
    have hj := (List.getElem?_eq_some_iff.1 hx).1
    obtain ⟨y, hy⟩ : ∃ y, l[m]? = some y := ⟨_, List.getElem?_eq_getElem (by omega)⟩
    rw [lastC_take hy]
    have := (okToC_right (by omega) hok).1 y (by
      rw [List.take_succ_eq_append_getElem (List.getElem?_eq_some_iff.1 hy).1, (List.getElem?_eq_some_iff.1 hy).2]
      simp)
    exact this.1
  have key : (decide (lastC b (l.take j) < x.id) && decide (x.id < b + nx)) = ((!decide (wrap64 (x.id - b) < 1) && !decide (nx ≤ wrap64 (x.id - b))) && !(decide (0 < j) && decide (x.id ≤ lastC b (l.take j)))) := by
    unfold wrap64
    generalize lastC b (l.take j) = la at *
    rw [Bool.eq_iff_iff]
    simp only [Bool.and_eq_true, decide_eq_true_eq, Bool.not_eq_true', decide_eq_false_iff_not, Bool.and_eq_false_iff]
    rcases Nat.eq_zero_or_pos j with h | h
    · have := hb h
      omega
    · have := hp h
      omega
  rw [okAtC, key, Bool.and_assoc]
theorem RdC.cells_at {w : World} {B b off n : Nat} {l : List Cl} (h : RdC w B (some ⟨b, off, none⟩) n l) {j : Nat} {x : Cl} (hx : l[j]? = some x) : ClAt w b (off + j * 4) x := by
  have hj := (List.getElem?_eq_some_iff.1 hx).1
  obtain ⟨b', off', e, _, hc⟩ := RdC.at_ h (by have := h.len; omega)
  injection e with e
  injection e with e1 e2
  subst e1
  subst e2
  exact hc j x hx

set_option maxRecDepth 100000 in
set_option maxHeartbeats 2000000 in
theorem rright_out (c : Cs) (A : Option Addr) (n k : Nat) (w : World) (h : headB c.ep c.nx = false) :
    Calls Try.prog 18 #[.agg #[.int .i64 c.ep, .int .i64 c.nx, .slice A n k]] w (BoolPost false w) := by
  have HB := Lib.hid ((Below.refl _ w).alloc (Nat.le_refl _) (.cells #[.int .i64 c.ep, .int .i64 c.nx, .slice A n k] 24))
  simp only [headB, Bool.and_eq_false_iff, decide_eq_false_iff_not] at h
  by_cases h1 : c.ep < 0
  · clear h
    have d1 : decide (c.ep < 0) = true := decide_eq_true h1
    clear h1
    go_enter Try.func18, Try.ntmps18
    go_wp2_with fail
    go_ret
    exact ⟨rfl, HB.out⟩
  have d1 : decide (c.ep < 0) = false := decide_eq_false h1
  by_cases h2 : 524288 < c.ep
  · clear h h1
    have d2 : decide ((524288 : Int) < c.ep) = true := decide_eq_true h2
    clear h2
    go_enter Try.func18, Try.ntmps18
    go_wp2_with fail
    go_ret
    exact ⟨rfl, HB.out⟩
  have d2 : decide ((524288 : Int) < c.ep) = false := decide_eq_false h2
  by_cases h3 : c.nx < 1
  · clear h h1 h2
    have d3 : decide (c.nx < 1) = true := decide_eq_true h3
    clear h3
    go_enter Try.func18, Try.ntmps18
    go_wp2_with fail
    go_ret
    exact ⟨rfl, HB.out⟩
  have d3 : decide (c.nx < 1) = false := decide_eq_false h3
  have d4 : decide ((1048576 : Int) < c.nx) = true := decide_eq_true (by omega)
  clear h h1 h2 h3
  go_enter Try.func18, Try.ntmps18
  go_wp2_with fail
  go_ret
  exact ⟨rfl, HB.out⟩

set_option maxRecDepth 100000 in
set_option maxHeartbeats 4000000 in
theorem rright_in (c : Cs) (A : Option Addr) (n k : Nat) (B : Nat) (w : World) (hr : RdC w B A n c.l) (hB : B ≤ w.heap.size) (hn : n ≤ 1000) (hid : ∀ x ∈ c.l, (Lit.int .i64 x.id).wf = true) (h : headB c.ep c.nx = true) :
    Calls Try.prog 18 #[.agg #[.int .i64 c.ep, .int .i64 c.nx, .slice A n k]] w (BoolPost (okToC (c.ep * 1048576) c.nx c.l c.l.length) w) := by
  simp only [headB, Bool.and_eq_true, decide_eq_true_eq] at h
  obtain ⟨⟨h1, h2⟩, h3, h4⟩ := h
  obtain ⟨V, hV⟩ : ∃ V, w.alloc (.cells #[.int .i64 c.ep, .int .i64 c.nx, .slice A n k] 24) = V := ⟨_, rfl⟩
  have hw : Whole V w.heap.size 24 #[.int .i64 c.ep, .int .i64 c.nx, .slice A n k] := by rw [← hV]; exact Whole.new _ _ _
  have hb : Below w.heap.size w V := by rw [← hV]; exact (Below.refl _ _).alloc (Nat.le_refl _) _
  obtain ⟨L, hL⟩ : ∃ L, okToC (c.ep * 1048576) c.nx c.l c.l.length = L := ⟨_, rfl⟩
  rw [hL]
  have HLL := Lib.hid hL
  obtain ⟨c0, c1, c2⟩ := cells3 hw
  have HR := Lib.hid (show RdC V B A n c.l from hr.below (hb.mono hB))
  have HBs := Lib.hid (Nat.le_trans hB hb.size)
  have HL := Lib.hid hr.len
  have HB := Lib.hid hb
  have HW := Lib.hid hw
  have HV := Lib.hid hV
  have HId := Lib.hid hid
  have d1 : decide (c.ep < 0) = false := decide_eq_false (by omega)
  have d2 : decide ((524288 : Int) < c.ep) = false := decide_eq_false (by omega)
  have d3 : decide (c.nx < 1) = false := decide_eq_false (by omega)
  have d4 : decide ((1048576 : Int) < c.nx) = false := decide_eq_false (by omega)
  have hwm := wrapI_mid (n := c.ep * 1048576) (by omega) (by omega)
  have HK := Lib.hid (fun z W => rkind_any z W)
  have HN := Lib.hid (fun z W => rnumber_any z W)
  clear hw hb hr hB hL hV hid
  go_enter Try.func18, Try.ntmps18
  go_upto_region 1 with fail
  rw [HV.out]
  clear HV
  go_wp2_with fail
  clear c0 c1 c2
  go_loopw [3] (fun i wr => ∃ j : Nat, i = .int .i64 (j : Int) ∧ j ≤ n ∧ okToC (c.ep * 1048576) c.nx c.l j = true ∧ Below V.heap.size V wr) (fun i _ => n - (intOf i).toNat)
  case atStart => exact ⟨0, rfl, Nat.zero_le _, rfl, Below.refl _ _⟩
  case round =>
    obtain ⟨j, rfl, hj, hT, hbw⟩ := hrel
    have HT := Lib.hid hT
    have HBW := Lib.hid hbw
    obtain ⟨c0, c1, c2⟩ := cells3 (HW.out.under hbw)
    clear hT hbw
    by_cases hlt : j < n
    rotate_left
    · have HF := Lib.hid (show L = true by rw [← HLL.out]; have h1 := HT.out; rwa [show j = c.l.length by rw [HL.out]; omega] at h1)
      go_wp2_with fail
      go_ret
      exact ⟨by rw [HF.out]; rfl, HB.out.trans (HBW.out.mono HB.out.size)⟩
    obtain ⟨b, off, rfl, _, hc⟩ := RdC.at_ (HR.out.below (HBW.out.mono HBs.out)) (by omega)
    obtain ⟨x, hx⟩ : ∃ x, c.l[j]? = some x := ⟨_, List.getElem?_eq_getElem (by rw [HL.out]; exact hlt)⟩
    obtain ⟨g0, g1, g2, g3⟩ := hc j x hx
    have hI : (j : Int) < (n : Int) := by omega
    have HX := Lib.hid hx
    have HC := Lib.hid hc
    have HAt := Lib.hid (okAtC_ref (b := c.ep * 1048576) (by omega) (by omega) h3 h4 (HId.out x (List.mem_of_getElem? hx)) hx HT.out)
    obtain ⟨N, hN⟩ : ∃ N, wrap64 (x.id - c.ep * 1048576) = N := ⟨_, rfl⟩
    rw [hN] at HAt
    obtain ⟨X, hX⟩ : ∃ X, wr.alloc (.cells #[.int .i64 x.id, .int .u8 x.kind, .int .i64 x.key, .int .i64 x.sent] 31) = X := ⟨_, rfl⟩
    have hbX : Below wr.heap.size wr X := by rw [← hX]; exact (Below.refl _ _).alloc (Nat.le_refl _) _
    have hwX : Whole X wr.heap.size 31 #[.int .i64 x.id, .int .u8 x.kind, .int .i64 x.key, .int .i64 x.sent] := by rw [← hX]; exact Whole.new _ _ _
    obtain ⟨e0, e1, e2⟩ := cells3 ((HW.out.under HBW.out).under hbX)
    obtain ⟨x0, x1, x2, x3⟩ := cells4 hwX
    have HBX := Lib.hid (HBW.out.trans (hbX.mono HBW.out.size))
    have HBX2 := Lib.hid (HB.out.trans ((HBW.out.trans (hbX.mono HBW.out.size)).mono HB.out.size))
    have HWX := Lib.hid hwX
    have HNot : Hid (okAtC (c.ep * 1048576) c.nx (c.l.take j) x = false → L = false) := Lib.hid (fun h => by rw [← HLL.out]; exact okToC_not HX.out h)
    clear hx hc hbX hwX
    by_cases n1 : N < 1
    · have q1 : decide (N < 1) = true := decide_eq_true n1
      have HF := Lib.hid (HNot.out (by rw [HAt.out, q1]; rfl))
      clear n1
      go_wp2_with fail
      go_quiet (fail)
      go_wp2_with fail
      go_ret
      exact ⟨by rw [HF.out]; rfl, HBX2.out.trans (drewN_below (Below.refl _ _) _)⟩
    have q1 : decide (N < 1) = false := decide_eq_false n1
    by_cases n2 : c.nx ≤ N
    · have q2 : decide (c.nx ≤ N) = true := decide_eq_true n2
      have HF := Lib.hid (HNot.out (by rw [HAt.out, q1, q2]; rfl))
      clear n1 n2
      go_wp2_with fail
      go_quiet (fail)
      go_wp2_with fail
      go_ret
      exact ⟨by rw [HF.out]; rfl, HBX2.out.trans (drewN_below (Below.refl _ _) _)⟩
    have q2 : decide (c.nx ≤ N) = false := decide_eq_false n2
    clear n1 n2
    have HRX := Lib.hid (show RdC X B (some ⟨b, off, none⟩) n c.l from HR.out.below (HBX.out.mono HBs.out))
    rcases Nat.eq_zero_or_pos j with hj0 | hjp
    · subst hj0
      simp only [Nat.zero_mul, Nat.add_zero] at g0 g1 g2 g3
      have q5 : decide ((0 : Int) < ((0 : Nat) : Int)) = false := by simp
      have HAt2 := Lib.hid (show okAtC (c.ep * 1048576) c.nx (c.l.take 0) x = (oneB x && !anyC (c.l.take 0) x.kind x.key) by rw [HAt.out, q1, q2]; simp)
      cases kb : kindB x.kind with
      | false =>
        have HF := Lib.hid (HNot.out (by rw [HAt2.out]; simp [oneB, kb]))
        go_wp2_with fail
        go_quiet ((first | (go_at_call 32; exact (HK.out _ _).mono (by rintro e w1 ⟨rfl, rfl⟩; exact ⟨rfl, _, rfl⟩)) | (go_at_call 33; exact (HN.out _ _).mono (by rintro e w1 ⟨rfl, rfl⟩; exact ⟨rfl, _, rfl⟩))))
        go_wp2_with fail
        go_ret
        exact ⟨by rw [HF.out]; rfl, HBX2.out.trans (drewN_below (Below.refl _ _) _)⟩
      | true =>
      cases nk : isNum x.key with
      | false =>
        have HF := Lib.hid (HNot.out (by rw [HAt2.out]; simp [oneB, nk]))
        go_wp2_with fail
        go_quiet ((first | (go_at_call 32; exact (HK.out _ _).mono (by rintro e w1 ⟨rfl, rfl⟩; exact ⟨rfl, _, rfl⟩)) | (go_at_call 33; exact (HN.out _ _).mono (by rintro e w1 ⟨rfl, rfl⟩; exact ⟨rfl, _, rfl⟩))))
        go_wp2_with fail
        go_ret
        exact ⟨by rw [HF.out]; rfl, HBX2.out.trans (drewN_below (Below.refl _ _) _)⟩
      | true =>
      cases ns : isNum x.sent with
      | false =>
        have HF := Lib.hid (HNot.out (by rw [HAt2.out]; simp [oneB, ns]))
        go_wp2_with fail
        go_quiet ((first | (go_at_call 32; exact (HK.out _ _).mono (by rintro e w1 ⟨rfl, rfl⟩; exact ⟨rfl, _, rfl⟩)) | (go_at_call 33; exact (HN.out _ _).mono (by rintro e w1 ⟨rfl, rfl⟩; exact ⟨rfl, _, rfl⟩))))
        go_wp2_with fail
        go_ret
        exact ⟨by rw [HF.out]; rfl, HBX2.out.trans (drewN_below (Below.refl _ _) _)⟩
      | true =>
      have HAt3 := Lib.hid (show okAtC (c.ep * 1048576) c.nx (c.l.take 0) x = !anyC (c.l.take 0) x.kind x.key by rw [HAt2.out]; simp [oneB, kb, nk, ns])
      go_wp2_with fail
      go_quiet ((first | (go_at_call 32; exact (HK.out _ _).mono (by rintro e w1 ⟨rfl, rfl⟩; exact ⟨rfl, _, rfl⟩)) | (go_at_call 33; exact (HN.out _ _).mono (by rintro e w1 ⟨rfl, rfl⟩; exact ⟨rfl, _, rfl⟩))))
      go_wp2_with fail
      refine wp_at (fun Z hZ => ?_)
      have hXZ : Below X.heap.size X Z := by rw [← hZ]; exact drewN_below (Below.refl _ _) _
      have WZ := Lib.hid (((HW.out.under HBW.out).under (show Below wr.heap.size wr X by rw [← hX]; exact (Below.refl _ _).alloc (Nat.le_refl _) _)).under hXZ)
      have XZ := Lib.hid (HWX.out.under hXZ)
      have BZ := Lib.hid (HBX.out.trans (hXZ.mono HBX.out.size))
      have hwrg : wr.heap.size = wr.heap.size := rfl
      have HNo : Hid (anyC (c.l.take 0) x.kind x.key = true → L = false) := Lib.hid (fun h => HNot.out (by rw [HAt3.out, h]; rfl))
      have HYes : Hid (anyC (c.l.take 0) x.kind x.key = false → okToC (c.ep * 1048576) c.nx c.l (0 + 1) = true) := Lib.hid (fun h => okToC_step HX.out HT.out (by rw [HAt3.out, h]; rfl))
      clear hZ hXZ hwrg c0 c1 c2 g0 g1 g2 g3 hX e0 e1 e2 x0 x1 x2 x3 hN q1 q2 q5 kb nk ns hwm d1 d2 d3 d4
      go_loopw [6] (fun i2 wr2 => ∃ m2 : Nat, i2 = .int .i64 (m2 : Int) ∧ m2 ≤ 0 ∧ (∀ y ∈ c.l.take m2, ¬ (y.kind = x.kind ∧ y.key = x.key)) ∧ Below Z.heap.size Z wr2) (fun i2 _ => 0 - (intOf i2).toNat)
      case atStart => exact ⟨0, rfl, Nat.zero_le _, by simp, Below.refl _ _⟩
      case round =>
        obtain ⟨m2, rfl, hm2, hno, hb2⟩ := hrel
        have HN2 := Lib.hid hno
        have HB2 := Lib.hid hb2
        obtain ⟨e0, e1, e2⟩ := cells3 (WZ.out.under hb2)
        obtain ⟨x0, x1, x2, x3⟩ := cells4 (XZ.out.under hb2)
        clear hno hb2
        by_cases hlt2 : m2 < 0
        rotate_left
        · have HE := Lib.hid (HYes.out (by rw [anyC, List.any_eq_false]; intro y hy; have h1 := HN2.out y (by rw [show m2 = 0 by omega]; exact hy); simpa using h1))
          have hm3 : decide ((m2 : Int) < ((0 : Nat) : Int)) = false := decide_eq_false (by omega)
          go_wp2_with fail
          go_roundw
          case rel => exact ⟨0 + 1, by go_num, by omega, HE.out, BZ.out.trans (HB2.out.mono BZ.out.size)⟩
          case measure => simp [intOf]; omega
        · omega
    · obtain ⟨m, rfl⟩ : ∃ m, j = m + 1 := ⟨j - 1, by omega⟩
      obtain ⟨y, hy⟩ : ∃ y, c.l[m]? = some y := ⟨_, List.getElem?_eq_getElem (by have := HL.out; omega)⟩
      obtain ⟨p0, p1, p2, p3⟩ := HRX.out.cells_at hy
      have hla := lastC_take (b := c.ep * 1048576) hy
      have q5 : decide ((0 : Int) < ((m + 1 : Nat) : Int)) = true := decide_eq_true (by omega)
      have q6 : wrap64 (((m + 1 : Nat) : Int) - 1) = (m : Int) := by rw [wrap64_mid (by omega) (by omega)]; omega
      have HY := Lib.hid hy
      clear hy
      by_cases n3 : x.id ≤ y.id
      · have q3 : decide (x.id ≤ y.id) = true := decide_eq_true n3
        have HF := Lib.hid (HNot.out (by rw [HAt.out, q1, q2, hla, q3]; simp))
        clear n3 hla
        go_wp2_with fail
        go_quiet (fail)
        go_wp2_with fail
        go_ret
        exact ⟨by rw [HF.out]; rfl, HBX2.out.trans (drewN_below (Below.refl _ _) _)⟩
      have q3 : decide (x.id ≤ y.id) = false := decide_eq_false n3
      clear n3
      have HAt2 := Lib.hid (show okAtC (c.ep * 1048576) c.nx (c.l.take (m + 1)) x = (oneB x && !anyC (c.l.take (m + 1)) x.kind x.key) by rw [HAt.out, q1, q2, hla, q3]; simp)
      clear hla
      cases kb : kindB x.kind with
      | false =>
        have HF := Lib.hid (HNot.out (by rw [HAt2.out]; simp [oneB, kb]))
        go_wp2_with fail
        go_quiet ((first | (go_at_call 32; exact (HK.out _ _).mono (by rintro e w1 ⟨rfl, rfl⟩; exact ⟨rfl, _, rfl⟩)) | (go_at_call 33; exact (HN.out _ _).mono (by rintro e w1 ⟨rfl, rfl⟩; exact ⟨rfl, _, rfl⟩))))
        go_wp2_with fail
        go_ret
        exact ⟨by rw [HF.out]; rfl, HBX2.out.trans (drewN_below (Below.refl _ _) _)⟩
      | true =>
      cases nk : isNum x.key with
      | false =>
        have HF := Lib.hid (HNot.out (by rw [HAt2.out]; simp [oneB, nk]))
        go_wp2_with fail
        go_quiet ((first | (go_at_call 32; exact (HK.out _ _).mono (by rintro e w1 ⟨rfl, rfl⟩; exact ⟨rfl, _, rfl⟩)) | (go_at_call 33; exact (HN.out _ _).mono (by rintro e w1 ⟨rfl, rfl⟩; exact ⟨rfl, _, rfl⟩))))
        go_wp2_with fail
        go_ret
        exact ⟨by rw [HF.out]; rfl, HBX2.out.trans (drewN_below (Below.refl _ _) _)⟩
      | true =>
      cases ns : isNum x.sent with
      | false =>
        have HF := Lib.hid (HNot.out (by rw [HAt2.out]; simp [oneB, ns]))
        go_wp2_with fail
        go_quiet ((first | (go_at_call 32; exact (HK.out _ _).mono (by rintro e w1 ⟨rfl, rfl⟩; exact ⟨rfl, _, rfl⟩)) | (go_at_call 33; exact (HN.out _ _).mono (by rintro e w1 ⟨rfl, rfl⟩; exact ⟨rfl, _, rfl⟩))))
        go_wp2_with fail
        go_ret
        exact ⟨by rw [HF.out]; rfl, HBX2.out.trans (drewN_below (Below.refl _ _) _)⟩
      | true =>
      have HAt3 := Lib.hid (show okAtC (c.ep * 1048576) c.nx (c.l.take (m + 1)) x = !anyC (c.l.take (m + 1)) x.kind x.key by rw [HAt2.out]; simp [oneB, kb, nk, ns])
      go_wp2_with fail
      go_quiet ((first | (go_at_call 32; exact (HK.out _ _).mono (by rintro e w1 ⟨rfl, rfl⟩; exact ⟨rfl, _, rfl⟩)) | (go_at_call 33; exact (HN.out _ _).mono (by rintro e w1 ⟨rfl, rfl⟩; exact ⟨rfl, _, rfl⟩))))
      go_wp2_with fail
      refine wp_at (fun Z hZ => ?_)
      have hXZ : Below X.heap.size X Z := by rw [← hZ]; exact drewN_below (Below.refl _ _) _
      have WZ := Lib.hid (((HW.out.under HBW.out).under (show Below wr.heap.size wr X by rw [← hX]; exact (Below.refl _ _).alloc (Nat.le_refl _) _)).under hXZ)
      have XZ := Lib.hid (HWX.out.under hXZ)
      have BZ := Lib.hid (HBX.out.trans (hXZ.mono HBX.out.size))
      have hwrg : wr.heap.size = wr.heap.size := rfl
      have HNo : Hid (anyC (c.l.take (m + 1)) x.kind x.key = true → L = false) := Lib.hid (fun h => HNot.out (by rw [HAt3.out, h]; rfl))
      have HYes : Hid (anyC (c.l.take (m + 1)) x.kind x.key = false → okToC (c.ep * 1048576) c.nx c.l ((m + 1) + 1) = true) := Lib.hid (fun h => okToC_step HX.out HT.out (by rw [HAt3.out, h]; rfl))
      clear hZ hXZ hwrg c0 c1 c2 g0 g1 g2 g3 hX e0 e1 e2 x0 x1 x2 x3 hN q1 q2 q5 kb nk ns hwm d1 d2 d3 d4 p0 p1 p2 p3 q3 q6
      go_loopw [6] (fun i2 wr2 => ∃ m2 : Nat, i2 = .int .i64 (m2 : Int) ∧ m2 ≤ (m + 1) ∧ (∀ y ∈ c.l.take m2, ¬ (y.kind = x.kind ∧ y.key = x.key)) ∧ Below Z.heap.size Z wr2) (fun i2 _ => (m + 1) - (intOf i2).toNat)
      case atStart => exact ⟨0, rfl, Nat.zero_le _, by simp, Below.refl _ _⟩
      case round =>
        obtain ⟨m2, rfl, hm2, hno, hb2⟩ := hrel
        have HN2 := Lib.hid hno
        have HB2 := Lib.hid hb2
        obtain ⟨e0, e1, e2⟩ := cells3 (WZ.out.under hb2)
        obtain ⟨x0, x1, x2, x3⟩ := cells4 (XZ.out.under hb2)
        clear hno hb2
        by_cases hlt2 : m2 < (m + 1)
        rotate_left
        · have HE := Lib.hid (HYes.out (by rw [anyC, List.any_eq_false]; intro y hy; have h1 := HN2.out y (by rw [show m2 = (m + 1) by omega]; exact hy); simpa using h1))
          have hm3 : decide ((m2 : Int) < ((m + 1 : Nat) : Int)) = false := decide_eq_false (by omega)
          go_wp2_with fail
          go_roundw
          case rel => exact ⟨(m + 1) + 1, by go_num, by omega, HE.out, BZ.out.trans (HB2.out.mono BZ.out.size)⟩
          case measure => simp [intOf]; omega
        obtain ⟨v, hv⟩ : ∃ v, c.l[m2]? = some v := ⟨_, List.getElem?_eq_getElem (by have := HL.out; omega)⟩
        obtain ⟨p0, p1, p2, p3⟩ := RdC.cells_at (HR.out.below ((BZ.out.trans (HB2.out.mono BZ.out.size)).mono HBs.out)) hv
        have hm3 : (m2 : Int) < ((m + 1 : Nat) : Int) := by omega
        have hm4 : (m2 : Int) < (n : Int) := by omega
        have HV := Lib.hid hv
        have HG : Hid (¬ (v.kind = x.kind ∧ v.key = x.key) → ∀ y ∈ c.l.take (m2 + 1), ¬ (y.kind = x.kind ∧ y.key = x.key)) := Lib.hid (fun h y hy => by
          rw [List.take_succ_eq_append_getElem (List.getElem?_eq_some_iff.1 HV.out).1, (List.getElem?_eq_some_iff.1 HV.out).2, List.mem_append, List.mem_singleton] at hy
          rcases hy with hy | rfl
          · exact HN2.out y hy
          · exact h)
        clear hv
        by_cases t1 : v.kind = x.kind
        rotate_left
        · have q0 : (v.kind == x.kind) = false := by simp [t1]
          have HNx := Lib.hid (HG.out (fun h => t1 h.1))
          clear t1
          go_wp2_with fail
          go_quiet (fail)
          go_wp2_with fail
          go_roundw
          case rel => exact ⟨m2 + 1, by go_num, by omega, HNx.out, drewN_below HB2.out _⟩
          case measure => simp [intOf]; omega
        have q0 : (v.kind == x.kind) = true := by simp [t1]
        by_cases t2 : v.key = x.key
        rotate_left
        · have q1 : (v.key == x.key) = false := by simp [t2]
          have HNx := Lib.hid (HG.out (fun h => t2 h.2))
          clear t1 t2
          go_wp2_with fail
          go_quiet (fail)
          go_wp2_with fail
          go_roundw
          case rel => exact ⟨m2 + 1, by go_num, by omega, HNx.out, drewN_below HB2.out _⟩
          case measure => simp [intOf]; omega
        have q1 : (v.key == x.key) = true := by simp [t2]
        have HF := Lib.hid (HNo.out (by rw [anyC, List.any_eq_true]; exact ⟨v, by rw [List.mem_take_iff_getElem]; exact ⟨m2, by have := (List.getElem?_eq_some_iff.1 HV.out).1; omega, (List.getElem?_eq_some_iff.1 HV.out).2⟩, by simp [t1, t2]⟩))
        clear t1 t2
        go_wp2_with fail
        go_quiet (fail)
        go_wp2_with fail
        go_ret
        exact ⟨by rw [HF.out]; rfl, drewN_below (HB.out.trans ((BZ.out.trans (HB2.out.mono BZ.out.size)).mono HB.out.size)) _⟩

end Go.Proofs.Ytgajnmjifhemgaa
