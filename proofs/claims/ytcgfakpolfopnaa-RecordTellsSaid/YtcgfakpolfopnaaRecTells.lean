/-
  The walk of the statement 'RecordTells': it answers true, and nothing that was there turns. Conditions: none.
-/
import Derived.Test.YtcgfakpolfopnaaRecBack
import Derived.Test.YtcgfakpolfopnaaRefRecTake
namespace Go.Proofs.Ytcgfakpolfopnaa
open Go.RowKit Go.Shelf

/-- What Put answers, whichever record it is: bytes, an error's number. -/
def PutGen (P : List Nat) (E : Int) (w : World) (e : Ending) (w' : World) : Prop :=
  ∃ A c, e = .returned (.tuple #[.slice A P.length c, .int .i64 E]) ∧ Rd w' w'.heap.size A P.length (bv P) ∧ Below w.heap.size w w'
def pB (k : Nat) (zs : List Int) : List Nat := if mayB k zs = true then recB k zs else []
def pE (k : Nat) (zs : List Int) : Int := if mayB k zs = true then 0 else 2
theorem putGen_any (k : Nat) (hk : k < 256) (A : Option Addr) (n c : Nat) (zs : List Int) (B : Nat) (w : World) (hr : Rd w B A n (iv zs)) (hB : B ≤ w.heap.size) :
    Calls Try.prog 11 #[.agg #[.int .u8 (k : Int), .slice A n c]] w (PutGen (pB k zs) (pE k zs) w) := by
  by_cases h : mayB k zs = true
  · rw [pB, pE, if_pos h, if_pos h]
    refine (putRec_yes k A n c zs B w hr hB h).mono ?_
    rintro e w' ⟨A', c', rfl, hI⟩
    exact ⟨A', c', rfl, hI.rd, hI.2.1⟩
  · rw [pB, pE, if_neg h, if_neg h]
    refine (putRec_no k hk A n c zs B w hr hB (by simpa using h)).mono ?_
    rintro e w' ⟨rfl, hb⟩
    exact ⟨none, 0, rfl, Rd.nil_ _ _ _, hb⟩
theorem refPutGen_any (k : Nat) (A : Option Addr) (n c : Nat) (zs : List Int) (B : Nat) (w : World) (hr : Rd w B A n (iv zs)) (hB : B ≤ w.heap.size) :
    Calls Try.prog 12 #[.agg #[.int .u8 (k : Int), .slice A n c]] w (PutGen (pB k zs) (pE k zs) w) := by
  by_cases h : mayB k zs = true
  · rw [pB, pE, if_pos h, if_pos h]
    refine (refPutRec_yes k A n c zs B w hr hB h).mono ?_
    rintro e w' ⟨A', c', rfl, hI⟩
    exact ⟨A', c', rfl, hI.rd, hI.2.1⟩
  · rw [pB, pE, if_neg h, if_neg h]
    refine (refPutRec_no k A n c zs B w hr hB (by simpa using h)).mono ?_
    rintro e w' ⟨rfl, hb⟩
    exact ⟨none, 0, rfl, Rd.nil_ _ _ _, hb⟩

/-- What Take answers, whichever bytes they are: a record, an error's number. -/
def TakeGen (k : Nat) (zs : List Int) (E : Int) (w : World) (e : Ending) (w' : World) : Prop :=
  ∃ A c, e = .returned (.tuple #[.agg #[.int .u8 (k : Int), .slice A zs.length c], .int .i64 E]) ∧ Rd w' w'.heap.size A zs.length (iv zs) ∧ Below w.heap.size w w'
theorem takeGen {r : Option (Nat × List Nat)} (hr : ∀ k l, r = some (k, l) → mayB k (ints l) = true) : ∃ (k : Nat) (zs : List Int) (E : Int), zs.length ≤ 18 ∧ ∀ w e w', TakeRecIs r w e w' → TakeGen k zs E w e w' := by
  cases r with
  | none => exact ⟨0, [], 11, by simp, fun w e w' h => ⟨none, 0, h.1, Rd.nil_ _ _ _, h.2⟩⟩
  | some x => exact ⟨x.1, ints x.2, 0, by have h1 := (mayB_yes (hr x.1 x.2 rfl)).2.1; have h2 := (hi_le x.1).1; omega, fun w e w' h => by
      obtain ⟨A, c, he, ho, hb⟩ := h
      exact ⟨A, c, he, Rd.of_own ho, hb⟩⟩

theorem refSame_self {w : World} {A A' : Option Addr} {B : Nat} {zs : List Int} (hr : Rd w B A zs.length (iv zs)) (hr' : Rd w w.heap.size A' zs.length (iv zs)) (hB : B ≤ w.heap.size) (hn : zs.length ≤ 1000000) (k c c' : Nat) :
    Calls Try.prog 15 #[.agg #[.int .u8 (k : Int), .slice A zs.length c], .agg #[.int .u8 (k : Int), .slice A' zs.length c']] w (BoolPost true w) := by
  have h := refSame_any k k A A' zs.length c zs.length c' zs zs B w.heap.size w hr hr' hB (Nat.le_refl _) hn
  rwa [show sameB k zs k zs = true by simp [sameB]] at h

set_option maxRecDepth 100000 in
set_option maxHeartbeats 800000 in
theorem recTells_out (k : Nat) (A : Option Addr) (n c : Nat) (zs : List Int) (k' : Nat) (A' : Option Addr) (n' c' : Nat) (zs' : List Int) (A2 : Option Addr) (n2 c2 : Nat) (l : List RE) (A3 : Option Addr) (n3 c3 : Nat) (kind : Nat) (w : World) (hk : k < 256) (hr : Rd w w.heap.size A n (iv zs)) (hk' : k' < 256) (hr' : Rd w w.heap.size A' n' (iv zs')) (hl : RdR w w.heap.size A2 n2 l)
    (h : greatB [⟨k, A, n, c, zs⟩, ⟨k', A', n', c', zs'⟩] = true ∨ (greatB [⟨k, A, n, c, zs⟩, ⟨k', A', n', c', zs'⟩] = false ∧ greatB l = true) ∨ (greatB [⟨k, A, n, c, zs⟩, ⟨k', A', n', c', zs'⟩] = false ∧ greatB l = false ∧ 300 < n3)) :
    Calls Try.prog 3 #[.agg #[.int .u8 (k : Int), .slice A n c], .agg #[.int .u8 (k' : Int), .slice A' n' c'], .slice A2 n2 c2, .slice A3 n3 c3, .int .u8 (kind : Int)] w (TruePost w) := by
  have hb1 : Below w.heap.size w ((w.alloc (.cells #[.int .u8 (k : Int), .slice A n c] 24)).alloc (.cells #[.int .u8 (k' : Int), .slice A' n' c'] 24)) := ((Below.refl _ w).alloc (Nat.le_refl _) _).alloc (by simp) _
  have HG := Lib.hid (great_any (some ⟨w.heap.size + 1 + 1, 0, none⟩) 2 2 [⟨k, A, n, c, zs⟩, ⟨k', A', n', c', zs'⟩] _ _ (rdR_two ((w.alloc (.cells #[.int .u8 (k : Int), .slice A n c] 24)).alloc (.cells #[.int .u8 (k' : Int), .slice A' n' c'] 24)) ⟨k, A, n, c, zs⟩ ⟨k', A', n', c', zs'⟩ w.heap.size hb1.size hk (hr.below hb1) hk' (hr'.below hb1) (w.heap.size + 1 + 1) (by simp)))
  have hb2 := hb1.alloc hb1.size (.cells #[.int .u8 (k : Int), .slice A n c, .int .u8 (k' : Int), .slice A' n' c'] 24)
  have HG2 := Lib.hid (great_any A2 n2 c2 l w.heap.size _ (hl.below hb2))
  have HB2 := Lib.hid hb2
  clear hr hr' hl hb1 hb2
  rcases h with h | ⟨h1, h⟩ | ⟨h1, h2, h⟩
  · rw [h] at HG
    clear h HG2
    go_enter Try.func3, Try.ntmps3
    go_wp2_with fail
    refine (HG.out).mono ?_
    rintro e w1 ⟨rfl, rfl⟩
    go_wp2_with fail
    refine (wakes_any _).mono ?_
    rintro e w2 ⟨rfl, b2⟩
    have B2 := Lib.hid (HB2.out.trans (b2.mono HB2.out.size))
    clear b2
    go_wp2_with fail
    go_ret
    exact ⟨rfl, B2.out⟩
  · rw [h1] at HG
    rw [h] at HG2
    clear h h1
    go_enter Try.func3, Try.ntmps3
    go_wp2_with fail
    refine (HG.out).mono ?_
    rintro e w1 ⟨rfl, rfl⟩
    go_wp2_with fail
    refine (HG2.out).mono ?_
    rintro e w1 ⟨rfl, rfl⟩
    go_wp2_with fail
    refine (wakes_any _).mono ?_
    rintro e w2 ⟨rfl, b2⟩
    have B2 := Lib.hid (HB2.out.trans (b2.mono HB2.out.size))
    clear b2
    go_wp2_with fail
    go_ret
    exact ⟨rfl, B2.out⟩
  · rw [h1] at HG
    rw [h2] at HG2
    have h3 : (300 : Int) < (n3 : Int) := by omega
    clear h h1 h2
    go_enter Try.func3, Try.ntmps3
    go_wp2_with fail
    refine (HG.out).mono ?_
    rintro e w1 ⟨rfl, rfl⟩
    go_wp2_with fail
    refine (HG2.out).mono ?_
    rintro e w1 ⟨rfl, rfl⟩
    go_wp2_with fail
    refine (wakes_any _).mono ?_
    rintro e w2 ⟨rfl, b2⟩
    have B2 := Lib.hid (HB2.out.trans (b2.mono HB2.out.size))
    clear b2
    go_wp2_with fail
    go_ret
    exact ⟨rfl, B2.out⟩

set_option maxRecDepth 100000 in
set_option maxHeartbeats 4000000 in
theorem recTells_in (k : Nat) (A : Option Addr) (n c : Nat) (zs : List Int) (k' : Nat) (A' : Option Addr) (n' c' : Nat) (zs' : List Int) (A2 : Option Addr) (n2 c2 : Nat) (l : List RE) (A3 : Option Addr) (n3 c3 : Nat) (bs : List Nat) (kind : Nat) (w : World) (hk : k < 256) (hr : Rd w w.heap.size A n (iv zs)) (hk' : k' < 256) (hr' : Rd w w.heap.size A' n' (iv zs')) (hl : RdR w w.heap.size A2 n2 l)
    (hrb : Rd w w.heap.size A3 n3 (bv bs)) (hbb : ∀ x ∈ bs, x < 256) (hc3 : n3 ≤ c3) (hkind : kind < 256) (h1 : greatB [⟨k, A, n, c, zs⟩, ⟨k', A', n', c', zs'⟩] = false) (h2 : greatB l = false) (h3 : n3 ≤ 300) :
    Calls Try.prog 3 #[.agg #[.int .u8 (k : Int), .slice A n c], .agg #[.int .u8 (k' : Int), .slice A' n' c'], .slice A2 n2 c2, .slice A3 n3 c3, .int .u8 (kind : Int)] w (TruePost w) := by
  have hb1 : Below w.heap.size w ((w.alloc (.cells #[.int .u8 (k : Int), .slice A n c] 24)).alloc (.cells #[.int .u8 (k' : Int), .slice A' n' c'] 24)) := ((Below.refl _ w).alloc (Nat.le_refl _) _).alloc (by simp) _
  have HG := Lib.hid (great_any (some ⟨w.heap.size + 1 + 1, 0, none⟩) 2 2 [⟨k, A, n, c, zs⟩, ⟨k', A', n', c', zs'⟩] _ _ (rdR_two ((w.alloc (.cells #[.int .u8 (k : Int), .slice A n c] 24)).alloc (.cells #[.int .u8 (k' : Int), .slice A' n' c'] 24)) ⟨k, A, n, c, zs⟩ ⟨k', A', n', c', zs'⟩ w.heap.size hb1.size hk (hr.below hb1) hk' (hr'.below hb1) (w.heap.size + 1 + 1) (by simp)))
  have hb2 := hb1.alloc hb1.size (.cells #[.int .u8 (k : Int), .slice A n c, .int .u8 (k' : Int), .slice A' n' c'] 24)
  have HG2 := Lib.hid (great_any A2 n2 c2 l w.heap.size _ (hl.below hb2))
  have HB2 := Lib.hid hb2
  rw [h1] at HG
  rw [h2] at HG2
  have hn : n ≤ 60 := (greatB_no h1).2 ⟨k, A, n, c, zs⟩ (by simp)
  have hn2 : n2 ≤ 40 := by have := (greatB_no h2).1; rw [hl.1] at this; exact this
  have d300 : decide ((300 : Int) < (n3 : Int)) = false := by simp; omega
  have HX := Lib.hid (((Whole.new w 24 #[.int .u8 (k : Int), .slice A n c]).alloc (.cells #[.int .u8 (k' : Int), .slice A' n' c'] 24)).alloc (.cells #[.int .u8 (k : Int), .slice A n c, .int .u8 (k' : Int), .slice A' n' c'] 24))
  have hy := ((Whole.new (w.alloc (.cells #[.int .u8 (k : Int), .slice A n c] 24)) 24 #[.int .u8 (k' : Int), .slice A' n' c']).alloc (.cells #[.int .u8 (k : Int), .slice A n c, .int .u8 (k' : Int), .slice A' n' c'] 24))
  rw [World.size_alloc] at hy
  have HY := Lib.hid hy
  obtain ⟨tk, tz, tE, htl, htk⟩ := takeGen (r := takenRec bs) (fun k l h => (taken_some hbb h).2.1)
  have HPut := Lib.hid (fun (W : World) (hW : Below w.heap.size w W) => putGen_any k hk A n c zs w.heap.size W (hr.below hW) hW.size)
  have HRPut := Lib.hid (fun (W : World) (hW : Below w.heap.size w W) => refPutGen_any k A n c zs w.heap.size W (hr.below hW) hW.size)
  have HTake := Lib.hid (fun (W : World) (hW : Below w.heap.size w W) => (takeRec_is A3 n3 c3 bs w.heap.size W (hrb.below hW) hW.size hbb (by omega) hc3 rfl).mono (htk W))
  have HRTake := Lib.hid (fun (W : World) (hW : Below w.heap.size w W) => (refTakeRec_is A3 n3 c3 bs w.heap.size W (hrb.below hW) hW.size hbb (by omega) hc3 rfl).mono (htk W))
  obtain ⟨v1, hv1⟩ : ∃ v, mayB k zs = v := ⟨_, rfl⟩
  obtain ⟨v2, hv2⟩ : ∃ v, sameB k zs k' zs' = v := ⟨_, rfl⟩
  obtain ⟨v3, hv3⟩ : ∃ v, allB l = v := ⟨_, rfl⟩
  obtain ⟨sN, hsN⟩ : ∃ s, nmS kind = s := ⟨_, rfl⟩
  have HRt := Lib.hid (fun (W : World) (hW : Below w.heap.size w W) => right_rec k hk A n c zs w.heap.size W (hr.below hW) hW.size)
  have HRRt := Lib.hid (fun (W : World) (hW : Below w.heap.size w W) => refRight_any k A n c zs w.heap.size W (hr.below hW) hW.size)
  have HSm := Lib.hid (fun (W : World) (hW : Below w.heap.size w W) => sameRec_any k k' A A' n c n' c' zs zs' w.heap.size w.heap.size W (hr.below hW) (hr'.below hW) hW.size hW.size (by omega))
  have HRSm := Lib.hid (fun (W : World) (hW : Below w.heap.size w W) => refSame_any k k' A A' n c n' c' zs zs' w.heap.size w.heap.size W (hr.below hW) (hr'.below hW) hW.size hW.size (by omega))
  have HAll := Lib.hid (fun (W : World) (hW : Below w.heap.size w W) => all_any A2 n2 c2 l w.heap.size W (hl.below hW) hW.size (by omega))
  have HRAll := Lib.hid (fun (W : World) (hW : Below w.heap.size w W) => refAll_any A2 n2 c2 l w.heap.size W (hl.below hW) hW.size (by omega))
  have HOf := Lib.hid (fun (W : World) (hW : Below w.heap.size w W) => of_any kind A n c zs w.heap.size W (hr.below hW) hW.size (by omega))
  have HROf := Lib.hid (fun (W : World) (hW : Below w.heap.size w W) => refOf_any kind A n c zs w.heap.size W (hr.below hW) hW.size (by omega))
  have HNm := Lib.hid (fun W => name_lit kind hkind hsN W)
  have HRNm : Hid (∀ W, Calls Try.prog 19 #[.int .u8 (kind : Int)] W fun e w' => e = .returned (.string sN) ∧ Below W.heap.size W w') := fun W => by rw [← hsN]; exact refName_any kind hkind W
  have hln : zs.length = n := by have := hr.1; rwa [iv_length] at this
  have Hln := Lib.hid hln
  rw [hv1] at HRt HRRt
  rw [hv2] at HSm HRSm
  rw [hv3] at HAll HRAll
  obtain ⟨P, hP⟩ : ∃ P, pB k zs = P := ⟨_, rfl⟩
  obtain ⟨PE, hPE⟩ : ∃ P, pE k zs = P := ⟨_, rfl⟩
  rw [hP, hPE] at HPut HRPut
  clear hr hr' hl hrb hbb hb1 hb2 h1 h2 h3 hy htk hv1 hv2 hv3 hsN hln hP hPE
  go_enter Try.func3, Try.ntmps3
  go_wp2_with fail
  refine (HG.out).mono ?_
  rintro e w1 ⟨rfl, rfl⟩
  go_wp2_with fail
  refine (HG2.out).mono ?_
  rintro e w1 ⟨rfl, rfl⟩
  go_wp2_with fail
  refine (HPut.out _ HB2.out).mono ?_
  rintro e w4 ⟨A4, c4, rfl, R4, b4⟩
  have B4 := Lib.hid (HB2.out.trans (b4.mono HB2.out.size))
  have X4 := Lib.hid (HX.out.under b4)
  have Y4 := Lib.hid (HY.out.under b4)
  have q0 := X4.out.cell 0
  have q1 := X4.out.cell 1
  simp only [List.getElem?_toArray, List.getElem?_cons_zero, List.getElem?_cons_succ] at q0 q1
  clear b4 HX HY HB2
  go_wp2_with fail
  refine (HRPut.out _ B4.out).mono ?_
  rintro e w5 ⟨A5, c5, rfl, R5, b5⟩
  have B5 := Lib.hid (B4.out.trans (b5.mono B4.out.size))
  have X5 := Lib.hid (X4.out.under b5)
  have Y5 := Lib.hid (Y4.out.under b5)
  have R4 := (R4.below b5).more b5.size
  clear b5 X4 Y4 q0 q1
  go_wp2_with fail
  refine (HTake.out _ B5.out).mono ?_
  rintro e w6 ⟨A6, c6, rfl, R6, b6⟩
  have B6 := Lib.hid (B5.out.trans (b6.mono B5.out.size))
  have B6' := Lib.hid (B6.out.alloc B6.out.size (.cells #[.int .u8 (tk : Int), .slice A6 tz.length c6] 24))
  have X6 := Lib.hid (X5.out.under b6)
  have Y6 := Lib.hid (Y5.out.under b6)
  have R4 := (R4.below b6).more b6.size
  have R5 := (R5.below b6).more b6.size
  clear b6 X5 Y5
  go_wp2_with fail
  refine (HRTake.out _ B6'.out).mono ?_
  rintro e w7 ⟨A7, c7, rfl, R7, b7⟩
  have b7' : Below w6.heap.size w6 w7 := ((Below.refl _ w6).alloc (Nat.le_refl _) _).trans (b7.mono (by simp))
  have B7 := Lib.hid (B6.out.trans (b7'.mono B6.out.size))
  have X7 := Lib.hid (X6.out.under b7')
  have Y7 := Lib.hid (Y6.out.under b7')
  have Z7 := Lib.hid ((Whole.new w6 24 #[.int .u8 (tk : Int), .slice A6 tz.length c6]).under b7)
  have R4 := (R4.below b7').more b7'.size
  have R5 := (R5.below b7').more b7'.size
  have R6 := (R6.below b7').more b7'.size
  clear b7 b7' X6 Y6
  obtain ⟨s, hs⟩ : ∃ s, strB P = s := ⟨_, rfl⟩
  obtain ⟨W8, hW8⟩ : ∃ W8, w7.alloc (.cells #[.int .u8 (tk : Int), .slice A7 tz.length c7] 24) = W8 := ⟨_, rfl⟩
  have b8 : Below w7.heap.size w7 W8 := by rw [← hW8]; exact (Below.refl _ w7).alloc (Nat.le_refl _) _
  have V8 : Whole W8 w7.heap.size 24 #[.int .u8 (tk : Int), .slice A7 tz.length c7] := by rw [← hW8]; exact Whole.new w7 _ _
  have B8 := Lib.hid (B7.out.trans (b8.mono B7.out.size))
  have HL : Hid (∀ W, Below W8.heap.size W8 W → (convert 26 9 (.slice A4 P.length c4)).run Try.prog W = .ok (.string s) W ∧ (convert 26 9 (.slice A5 P.length c5)).run Try.prog W = .ok (.string s) W ∧
      W.cell? ⟨w.heap.size, 0, none⟩ = some (.int .u8 (k : Int)) ∧ W.cell? ⟨w.heap.size, 1, none⟩ = some (.slice A n c) ∧ W.cell? ⟨w.heap.size + 1, 0, none⟩ = some (.int .u8 (k' : Int)) ∧ W.cell? ⟨w.heap.size + 1, 1, none⟩ = some (.slice A' n' c') ∧
      W.cell? ⟨w6.heap.size, 0, none⟩ = some (.int .u8 (tk : Int)) ∧ W.cell? ⟨w6.heap.size, 1, none⟩ = some (.slice A6 tz.length c6) ∧ W.cell? ⟨w7.heap.size, 0, none⟩ = some (.int .u8 (tk : Int)) ∧ W.cell? ⟨w7.heap.size, 1, none⟩ = some (.slice A7 tz.length c7)) := fun W hW => by
    have hW' := b8.trans (hW.mono b8.size)
    have r1 := run_string W A4 P.length c4 P _ (R4.below hW')
    have r2 := run_string W A5 P.length c5 P _ (R5.below hW')
    rw [hs] at r1 r2
    exact ⟨r1, r2, (X7.out.under hW').cell 0, (X7.out.under hW').cell 1, (Y7.out.under hW').cell 0, (Y7.out.under hW').cell 1, (Z7.out.under hW').cell 0, (Z7.out.under hW').cell 1, (V8.under hW).cell 0, (V8.under hW).cell 1⟩
  have HS1 : Hid (∀ W, Below W8.heap.size W8 W → Calls Try.prog 15 #[.agg #[.int .u8 (tk : Int), .slice A6 tz.length c6], .agg #[.int .u8 (tk : Int), .slice A7 tz.length c7]] W (BoolPost true W)) := fun W hW => by
    have hW' := b8.trans (hW.mono b8.size)
    have h := refSame_any tk tk A6 A7 tz.length c6 tz.length c7 tz tz w7.heap.size w7.heap.size W (R6.below hW') (R7.below hW') hW'.size hW'.size (by omega)
    rwa [show sameB tk tz tk tz = true by simp [sameB]] at h
  go_wp2_with fail
  have HW8 := Lib.hid hW8
  have HC := Lib.hid ((Below.refl W8.heap.size W8).drew)
  clear hW8 b8 V8 hs R4 R5 R6 R7 htl
  obtain ⟨L1, L2, L3, L4, L5, L6, L7, L8, L9, L10⟩ := HL.out W8.drew HC.out
  go_region_held3 (fun W => (convert 26 9 (.slice A4 P.length c4)).run Try.prog W = .ok (.string s) W ∧ (convert 26 9 (.slice A5 P.length c5)).run Try.prog W = .ok (.string s) W ∧
      W.cell? ⟨w.heap.size, 0, none⟩ = some (.int .u8 (k : Int)) ∧ W.cell? ⟨w.heap.size, 1, none⟩ = some (.slice A n c) ∧ W.cell? ⟨w.heap.size + 1, 0, none⟩ = some (.int .u8 (k' : Int)) ∧ W.cell? ⟨w.heap.size + 1, 1, none⟩ = some (.slice A' n' c') ∧
      W.cell? ⟨w6.heap.size, 0, none⟩ = some (.int .u8 (tk : Int)) ∧ W.cell? ⟨w6.heap.size, 1, none⟩ = some (.slice A6 tz.length c6) ∧ W.cell? ⟨w7.heap.size, 0, none⟩ = some (.int .u8 (tk : Int)) ∧ W.cell? ⟨w7.heap.size, 1, none⟩ = some (.slice A7 tz.length c7)) (go_keep)
    (first | (go_at_call 15; ((with_reducible refine (HS1.out _ HC.out).mono ?_); rintro e w9 ⟨rfl, b9⟩); have HC2 := Lib.hid (HC.out.trans (b9.mono HC.out.size)); clear HC b9; have HC := HC2; clear HC2 L1 L2 L3 L4 L5 L6 L7 L8 L9 L10; obtain ⟨L1, L2, L3, L4, L5, L6, L7, L8, L9, L10⟩ := HL.out w9 HC.out) | (go_at_call 16; ((with_reducible refine (HRt.out _ (B8.out.trans (HC.out.mono B8.out.size))).mono ?_); rintro e w9 ⟨rfl, b9⟩); have HC2 := Lib.hid (HC.out.trans (b9.mono HC.out.size)); clear HC b9; have HC := HC2; clear HC2 L1 L2 L3 L4 L5 L6 L7 L8 L9 L10; obtain ⟨L1, L2, L3, L4, L5, L6, L7, L8, L9, L10⟩ := HL.out w9 HC.out) | (go_at_call 17; ((with_reducible refine (HRRt.out _ (B8.out.trans (HC.out.mono B8.out.size))).mono ?_); rintro e w9 ⟨rfl, b9⟩); have HC2 := Lib.hid (HC.out.trans (b9.mono HC.out.size)); clear HC b9; have HC := HC2; clear HC2 L1 L2 L3 L4 L5 L6 L7 L8 L9 L10; obtain ⟨L1, L2, L3, L4, L5, L6, L7, L8, L9, L10⟩ := HL.out w9 HC.out) | (go_at_call 18; ((with_reducible refine (HNm.out _).mono ?_); rintro e w9 ⟨rfl, b9⟩); have HC2 := Lib.hid (HC.out.trans (b9.mono HC.out.size)); clear HC b9; have HC := HC2; clear HC2 L1 L2 L3 L4 L5 L6 L7 L8 L9 L10; obtain ⟨L1, L2, L3, L4, L5, L6, L7, L8, L9, L10⟩ := HL.out w9 HC.out) | (go_at_call 19; ((with_reducible refine (HRNm.out _).mono ?_); rintro e w9 ⟨rfl, b9⟩); have HC2 := Lib.hid (HC.out.trans (b9.mono HC.out.size)); clear HC b9; have HC := HC2; clear HC2 L1 L2 L3 L4 L5 L6 L7 L8 L9 L10; obtain ⟨L1, L2, L3, L4, L5, L6, L7, L8, L9, L10⟩ := HL.out w9 HC.out) | (go_at_call 20; ((with_reducible refine (HSm.out _ (B8.out.trans (HC.out.mono B8.out.size))).mono ?_); rintro e w9 ⟨rfl, b9⟩); have HC2 := Lib.hid (HC.out.trans (b9.mono HC.out.size)); clear HC b9; have HC := HC2; clear HC2 L1 L2 L3 L4 L5 L6 L7 L8 L9 L10; obtain ⟨L1, L2, L3, L4, L5, L6, L7, L8, L9, L10⟩ := HL.out w9 HC.out) | (go_at_call 15; ((with_reducible refine (HRSm.out _ (B8.out.trans (HC.out.mono B8.out.size))).mono ?_); rintro e w9 ⟨rfl, b9⟩); have HC2 := Lib.hid (HC.out.trans (b9.mono HC.out.size)); clear HC b9; have HC := HC2; clear HC2 L1 L2 L3 L4 L5 L6 L7 L8 L9 L10; obtain ⟨L1, L2, L3, L4, L5, L6, L7, L8, L9, L10⟩ := HL.out w9 HC.out))
  rename_i hHeld
  clear hHeld L1 L2 L3 L5 L6 L7 L8 L9 L10 HS1
  go_wp2_with fail
  have HC2 := Lib.hid (HC.out.drew)
  clear HC L4
  have HC := HC2
  clear HC2
  have L4 := (HL.out _ HC.out).2.2.2.1
  go_region_held3 (fun W => W.cell? ⟨w.heap.size, 1, none⟩ = some (.slice A n c)) (go_keep)
    (first | (go_at_call 21; ((with_reducible refine (HAll.out _ (B8.out.trans (HC.out.mono B8.out.size))).mono ?_); rintro e w10 ⟨rfl, b10⟩); have HC2 := Lib.hid (HC.out.trans (b10.mono HC.out.size)); clear HC; have HC := HC2; clear HC2 L4; have L4 := (HL.out w10 HC.out).2.2.2.1; clear b10) | (go_at_call 22; ((with_reducible refine (HRAll.out _ (B8.out.trans (HC.out.mono B8.out.size))).mono ?_); rintro e w11 ⟨rfl, b11⟩); have HC2 := Lib.hid (HC.out.trans (b11.mono HC.out.size)); clear HC; have HC := HC2; clear HC2 L4; have L4 := (HL.out w11 HC.out).2.2.2.1; clear b11) | (go_at_call 23; ((with_reducible refine (HOf.out _ (B8.out.trans (HC.out.mono B8.out.size))).mono ?_); rintro e w12 ⟨A12, c12, rfl, o12, b12⟩); have R12 := Lib.hid (Rd.of_own o12); have HC2 := Lib.hid (HC.out.trans (b12.mono HC.out.size)); clear HC; have HC := HC2; clear HC2 L4; have L4 := (HL.out w12 HC.out).2.2.2.1; clear b12 o12) | (go_at_call 24; ((with_reducible refine (HROf.out _ (B8.out.trans (HC.out.mono B8.out.size))).mono ?_); rintro e w13 ⟨A13, c13, rfl, o13, b13⟩); have HS2 := Lib.hid (refSame_self (R12.out.below b13) (Rd.of_own o13) b13.size (by rw [Hln.out]; omega) kind c12 c13); have HC2 := Lib.hid (HC.out.trans (b13.mono HC.out.size)); clear HC; have HC := HC2; clear HC2 L4; have L4 := (HL.out w13 HC.out).2.2.2.1; clear b13 o13) | (go_at_call 15; ((with_reducible refine (HS2.out).mono ?_); rintro e w14 ⟨rfl, b14⟩); have HC2 := Lib.hid (HC.out.trans (b14.mono HC.out.size)); clear HC; have HC := HC2; clear HC2 L4; have L4 := (HL.out w14 HC.out).2.2.2.1; clear b14) | (go_at_call 10; ((with_reducible refine (wakes_any _).mono ?_); rintro e w15 ⟨rfl, b15⟩); have HC2 := Lib.hid (HC.out.trans (b15.mono HC.out.size)); clear HC; have HC := HC2; clear HC2 L4; have L4 := (HL.out w15 HC.out).2.2.2.1; clear b15))
  rename_i hHeld
  clear hHeld L4
  have BF := Lib.hid (B8.out.trans (HC.out.mono B8.out.size))
  clear HC
  go_wp2_with fail
  go_ret
  exact ⟨rfl, BF.out⟩

theorem recTells_walk (k : Nat) (A : Option Addr) (n c : Nat) (zs : List Int) (k' : Nat) (A' : Option Addr) (n' c' : Nat) (zs' : List Int) (A2 : Option Addr) (n2 c2 : Nat) (l : List RE) (A3 : Option Addr) (n3 c3 : Nat) (bs : List Nat) (kind : Nat) (w : World) (hk : k < 256) (hr : Rd w w.heap.size A n (iv zs)) (hk' : k' < 256) (hr' : Rd w w.heap.size A' n' (iv zs')) (hl : RdR w w.heap.size A2 n2 l)
    (hrb : Rd w w.heap.size A3 n3 (bv bs)) (hbb : ∀ x ∈ bs, x < 256) (hc3 : n3 ≤ c3) (hkind : kind < 256) :
    Calls Try.prog 3 #[.agg #[.int .u8 (k : Int), .slice A n c], .agg #[.int .u8 (k' : Int), .slice A' n' c'], .slice A2 n2 c2, .slice A3 n3 c3, .int .u8 (kind : Int)] w (TruePost w) := by
  cases h1 : greatB [⟨k, A, n, c, zs⟩, ⟨k', A', n', c', zs'⟩]
  · cases h2 : greatB l
    · by_cases h3 : n3 ≤ 300
      · exact recTells_in k A n c zs k' A' n' c' zs' A2 n2 c2 l A3 n3 c3 bs kind w hk hr hk' hr' hl hrb hbb hc3 hkind h1 h2 h3
      · exact recTells_out k A n c zs k' A' n' c' zs' A2 n2 c2 l A3 n3 c3 kind w hk hr hk' hr' hl (.inr (.inr ⟨h1, h2, by omega⟩))
    · exact recTells_out k A n c zs k' A' n' c' zs' A2 n2 c2 l A3 n3 c3 kind w hk hr hk' hr' hl (.inr (.inl ⟨h1, h2⟩))
  · exact recTells_out k A n c zs k' A' n' c' zs' A2 n2 c2 l A3 n3 c3 kind w hk hr hk' hr' hl (.inl h1)

end Go.Proofs.Ytcgfakpolfopnaa
