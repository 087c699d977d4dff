/-
  The walk of the statement 'RecordApart': it answers true, and nothing that was there turns. Conditions: none.
-/
import Derived.Test.YtcgfakpolfopnaaRecOnly
namespace Go.Proofs.Ytcgfakpolfopnaa
open Go.RowKit Go.Shelf

theorem mayB_nums {k : Nat} {zs : List Int} (h : mayB k zs = true) : (nats ((k : Int) :: zs)).length ≤ 40 ∧ (∀ n ∈ nats ((k : Int) :: zs), n ≤ 1099511627776) ∧ ints (nats ((k : Int) :: zs)) = (k : Int) :: zs := by
  have h1 := mayB_row h
  simp only [isRow, Bool.and_eq_true, decide_eq_true_eq, List.all_eq_true] at h1
  obtain ⟨h2, h3⟩ := h1
  generalize hx : (k : Int) :: zs = xs at h2 h3 ⊢
  refine ⟨by simpa [nats] using h2, ?_, ?_⟩
  · intro n hn
    simp only [nats, List.mem_map] at hn
    obtain ⟨y, hy, rfl⟩ := hn
    have := isNum_iff.1 (h3 y hy)
    omega
  · rw [nats, ints, List.map_map]
    conv => rhs; rw [← List.map_id xs]
    refine List.map_congr_left fun y hy => ?_
    have := isNum_iff.1 (h3 y hy)
    simp; omega
theorem recB_inj {k k' : Nat} {zs zs' : List Int} (h : mayB k zs = true) (h' : mayB k' zs' = true) {rest rest' : List Nat} (he : recB k zs ++ rest = recB k' zs' ++ rest') : k = k' ∧ zs = zs' := by
  obtain ⟨a1, a2, a3⟩ := mayB_nums h
  obtain ⟨b1, b2, b3⟩ := mayB_nums h'
  have e1 := takeRow_row a1 a2 rest
  have e2 := takeRow_row b1 b2 rest'
  rw [recB, recB] at he
  rw [he, e2] at e1
  simp only [Prod.mk.injEq] at e1
  have e3 : (k : Int) :: zs = (k' : Int) :: zs' := by rw [← a3, ← b3, e1.2.1]
  simp only [List.cons.injEq] at e3
  exact ⟨by omega, e3.2⟩
theorem apart_same {k k' : Nat} {zs zs' : List Int} (h : mayB k zs = true) (h' : mayB k' zs' = true) {n : Nat} (hn : n = min (recB k zs).length (recB k' zs').length) :
    decide ((recB k zs).take n = (recB k' zs').take n) = sameB k zs k' zs' := by
  rw [sameB, ← Bool.decide_and, decide_eq_decide]
  constructor
  · intro he
    rcases Nat.le_total (recB k zs).length (recB k' zs').length with hl | hl
    · rw [Nat.min_eq_left hl] at hn
      subst hn
      rw [List.take_length] at he
      refine recB_inj h h' (rest := (recB k' zs').drop (recB k zs).length) (rest' := []) ?_
      conv => lhs; lhs; rw [he]
      rw [List.take_append_drop, List.append_nil]
    · rw [Nat.min_eq_right hl] at hn
      subst hn
      rw [List.take_length] at he
      refine recB_inj h h' (rest := []) (rest' := (recB k zs).drop (recB k' zs').length) ?_
      conv => rhs; lhs; rw [← he]
      rw [List.take_append_drop, List.append_nil]
  · rintro ⟨rfl, rfl⟩
    rfl
theorem recB_bytes (k : Nat) (zs : List Int) : ∀ x ∈ recB k zs, x < 256 := row_bytes _
theorem recB_len {k : Nat} {zs : List Int} (h : mayB k zs = true) : (recB k zs).length ≤ 300 ∧ 2 ≤ (recB k zs).length := by
  obtain ⟨a1, a2, _⟩ := mayB_nums h
  have h1 := put_six (n := (nats ((k : Int) :: zs)).length) (by omega)
  have h2 := puts_len _ a2
  have h3 := put_pos (nats ((k : Int) :: zs)).length
  have h5 := put_pos k
  have h4 : (puts (nats ((k : Int) :: zs))).length = (put k).length + (puts (nats zs)).length := by simp [nats, puts]
  rw [recB, row, List.length_append]
  omega

set_option maxRecDepth 100000 in
set_option maxHeartbeats 800000 in
theorem recApart_out (k : Nat) (A : Option Addr) (n c : Nat) (zs : List Int) (k' : Nat) (A' : Option Addr) (n' c' : Nat) (zs' : List Int) (w : World) (hk : k < 256) (hr : Rd w w.heap.size A n (iv zs)) (hk' : k' < 256) (hr' : Rd w w.heap.size A' n' (iv zs'))
    (h : greatB [⟨k, A, n, c, zs⟩, ⟨k', A', n', c', zs'⟩] = true ∨ (greatB [⟨k, A, n, c, zs⟩, ⟨k', A', n', c', zs'⟩] = false ∧ mayB k zs = false) ∨ (greatB [⟨k, A, n, c, zs⟩, ⟨k', A', n', c', zs'⟩] = false ∧ mayB k zs = true ∧ mayB k' zs' = false)) :
    Calls Try.prog 8 #[.agg #[.int .u8 (k : Int), .slice A n c], .agg #[.int .u8 (k' : Int), .slice A' n' c']] w (TruePost w) := by
  have hb1 : Below w.heap.size w ((w.alloc (.cells #[.int .u8 (k : Int), .slice A n c] 24)).alloc (.cells #[.int .u8 (k' : Int), .slice A' n' c'] 24)) := ((Below.refl _ w).alloc (Nat.le_refl _) _).alloc (by simp) _
  have HG := Lib.hid (great_any (some ⟨w.heap.size + 1 + 1, 0, none⟩) 2 2 [⟨k, A, n, c, zs⟩, ⟨k', A', n', c', zs'⟩] _ _ (rdR_two ((w.alloc (.cells #[.int .u8 (k : Int), .slice A n c] 24)).alloc (.cells #[.int .u8 (k' : Int), .slice A' n' c'] 24)) ⟨k, A, n, c, zs⟩ ⟨k', A', n', c', zs'⟩ w.heap.size hb1.size hk (hr.below hb1) hk' (hr'.below hb1) (w.heap.size + 1 + 1) (by simp)))
  have hb2 := hb1.alloc hb1.size (.cells #[.int .u8 (k : Int), .slice A n c, .int .u8 (k' : Int), .slice A' n' c'] 24)
  have HB2 := Lib.hid hb2
  rcases h with h | ⟨h1, h⟩ | ⟨h1, h2, h⟩
  · rw [h] at HG
    clear hr hr' hb1 hb2 h
    go_enter Try.func8, Try.ntmps8
    go_wp2_with fail
    refine (HG.out).mono ?_
    rintro e w1 ⟨rfl, rfl⟩
    go_wp2_with fail
    refine (wakes_any _).mono ?_
    rintro e w2 ⟨rfl, b2⟩
    have B2 := Lib.hid (HB2.out.trans (b2.mono HB2.out.size))
    clear b2
    go_wp2_with fail
    go_ret
    exact ⟨rfl, B2.out⟩
  · rw [h1] at HG
    have HRt := Lib.hid (refRight_any k A n c zs w.heap.size _ (hr.below hb2) hb2.size)
    rw [h] at HRt
    clear hr hr' hb1 hb2 h h1
    go_enter Try.func8, Try.ntmps8
    go_wp2_with fail
    refine (HG.out).mono ?_
    rintro e w1 ⟨rfl, rfl⟩
    go_wp2_with fail
    refine (HRt.out).mono ?_
    rintro e w2 ⟨rfl, b2⟩
    have B2 := Lib.hid (HB2.out.trans (b2.mono HB2.out.size))
    clear b2
    go_wp2_with fail
    refine (wakes_any _).mono ?_
    rintro e w3 ⟨rfl, b3⟩
    have B3 := Lib.hid (B2.out.trans (b3.mono B2.out.size))
    clear b3
    go_wp2_with fail
    go_ret
    exact ⟨rfl, B3.out⟩
  · rw [h1] at HG
    have HRt := Lib.hid (refRight_any k A n c zs w.heap.size _ (hr.below hb2) hb2.size)
    rw [h2] at HRt
    have HRt' := Lib.hid (fun (W : World) (hW : Below w.heap.size w W) => refRight_any k' A' n' c' zs' w.heap.size W (hr'.below hW) hW.size)
    rw [h] at HRt'
    have hx := ((Whole.new (w.alloc (.cells #[.int .u8 (k : Int), .slice A n c] 24)) 24 #[.int .u8 (k' : Int), .slice A' n' c']).alloc (.cells #[.int .u8 (k : Int), .slice A n c, .int .u8 (k' : Int), .slice A' n' c'] 24))
    rw [World.size_alloc] at hx
    have HX := Lib.hid hx
    clear hr hr' hb1 hb2 h h1 h2 hx
    go_enter Try.func8, Try.ntmps8
    go_wp2_with fail
    refine (HG.out).mono ?_
    rintro e w1 ⟨rfl, rfl⟩
    go_wp2_with fail
    refine (HRt.out).mono ?_
    rintro e w2 ⟨rfl, b2⟩
    have B2 := Lib.hid (HB2.out.trans (b2.mono HB2.out.size))
    have hx2 := HX.out.under b2
    have q0 := hx2.cell 0
    have q1 := hx2.cell 1
    simp only [List.getElem?_toArray, List.getElem?_cons_zero, List.getElem?_cons_succ] at q0 q1
    clear b2 hx2
    go_wp2_with fail
    refine (HRt'.out _ B2.out).mono ?_
    rintro e w3 ⟨rfl, b3⟩
    have B3 := Lib.hid (B2.out.trans (b3.mono B2.out.size))
    clear b3 q0 q1
    go_wp2_with fail
    refine (wakes_any _).mono ?_
    rintro e w4 ⟨rfl, b4⟩
    have B4 := Lib.hid (B3.out.trans (b4.mono B3.out.size))
    clear b4
    go_wp2_with fail
    go_ret
    exact ⟨rfl, B4.out⟩

theorem strB_eq {a b : List Nat} (ha : ∀ x ∈ a, x < 256) (hb : ∀ x ∈ b, x < 256) {v : Bool} (h : decide (a = b) = v) : ((strB a).toList == (strB b).toList) = v := by rw [strB_inj ha hb, h]

set_option maxRecDepth 100000 in
set_option maxHeartbeats 2000000 in
theorem recApart_in (k : Nat) (A : Option Addr) (n c : Nat) (zs : List Int) (k' : Nat) (A' : Option Addr) (n' c' : Nat) (zs' : List Int) (w : World) (hk : k < 256) (hr : Rd w w.heap.size A n (iv zs)) (hk' : k' < 256) (hr' : Rd w w.heap.size A' n' (iv zs'))
    (h1 : greatB [⟨k, A, n, c, zs⟩, ⟨k', A', n', c', zs'⟩] = false) (h2 : mayB k zs = true) (h3 : mayB k' zs' = true) :
    Calls Try.prog 8 #[.agg #[.int .u8 (k : Int), .slice A n c], .agg #[.int .u8 (k' : Int), .slice A' n' c']] w (TruePost w) := by
  have hb1 : Below w.heap.size w ((w.alloc (.cells #[.int .u8 (k : Int), .slice A n c] 24)).alloc (.cells #[.int .u8 (k' : Int), .slice A' n' c'] 24)) := ((Below.refl _ w).alloc (Nat.le_refl _) _).alloc (by simp) _
  have HG := Lib.hid (great_any (some ⟨w.heap.size + 1 + 1, 0, none⟩) 2 2 [⟨k, A, n, c, zs⟩, ⟨k', A', n', c', zs'⟩] _ _ (rdR_two ((w.alloc (.cells #[.int .u8 (k : Int), .slice A n c] 24)).alloc (.cells #[.int .u8 (k' : Int), .slice A' n' c'] 24)) ⟨k, A, n, c, zs⟩ ⟨k', A', n', c', zs'⟩ w.heap.size hb1.size hk (hr.below hb1) hk' (hr'.below hb1) (w.heap.size + 1 + 1) (by simp)))
  have hb2 := hb1.alloc hb1.size (.cells #[.int .u8 (k : Int), .slice A n c, .int .u8 (k' : Int), .slice A' n' c'] 24)
  have HB2 := Lib.hid hb2
  rw [h1] at HG
  have hn60 := greatB_no h1
  have hn : n ≤ 60 := hn60.2 ⟨k, A, n, c, zs⟩ (by simp)
  have HRt := Lib.hid (refRight_any k A n c zs w.heap.size _ (hr.below hb2) hb2.size)
  rw [h2] at HRt
  have HRt' := Lib.hid (fun (W : World) (hW : Below w.heap.size w W) => refRight_any k' A' n' c' zs' w.heap.size W (hr'.below hW) hW.size)
  rw [h3] at HRt'
  have hx := ((Whole.new w 24 #[.int .u8 (k : Int), .slice A n c]).alloc (.cells #[.int .u8 (k' : Int), .slice A' n' c'] 24)).alloc (.cells #[.int .u8 (k : Int), .slice A n c, .int .u8 (k' : Int), .slice A' n' c'] 24)
  have hy := ((Whole.new (w.alloc (.cells #[.int .u8 (k : Int), .slice A n c] 24)) 24 #[.int .u8 (k' : Int), .slice A' n' c']).alloc (.cells #[.int .u8 (k : Int), .slice A n c, .int .u8 (k' : Int), .slice A' n' c'] 24))
  rw [World.size_alloc] at hy
  have HX := Lib.hid hx
  have HY := Lib.hid hy
  have HR := Lib.hid hr
  have HR' := Lib.hid hr'
  have HM := Lib.hid h2
  have HM' := Lib.hid h3
  clear hr hr' hb1 hb2 h1 h2 h3 hx hy hn60
  go_enter Try.func8, Try.ntmps8
  go_wp2_with fail
  refine (HG.out).mono ?_
  rintro e w1 ⟨rfl, rfl⟩
  go_wp2_with fail
  refine (HRt.out).mono ?_
  rintro e w2 ⟨rfl, b2⟩
  have B2 := Lib.hid (HB2.out.trans (b2.mono HB2.out.size))
  have X2 := Lib.hid (HX.out.under b2)
  have Y2 := Lib.hid (HY.out.under b2)
  have q0 := Y2.out.cell 0
  have q1 := Y2.out.cell 1
  simp only [List.getElem?_toArray, List.getElem?_cons_zero, List.getElem?_cons_succ] at q0 q1
  clear b2 HX HY
  go_wp2_with fail
  refine (HRt'.out _ B2.out).mono ?_
  rintro e w3 ⟨rfl, b3⟩
  have B3 := Lib.hid (B2.out.trans (b3.mono B2.out.size))
  have X3 := Lib.hid (X2.out.under b3)
  have Y3 := Lib.hid (Y2.out.under b3)
  have p0 := X3.out.cell 0
  have p1 := X3.out.cell 1
  simp only [List.getElem?_toArray, List.getElem?_cons_zero, List.getElem?_cons_succ] at p0 p1
  clear b3 q0 q1 X2 Y2
  go_wp2_with fail
  refine (putRec_yes k A n c zs w.heap.size _ (HR.out.below B3.out) B3.out.size HM.out).mono ?_
  rintro e w4 ⟨A4, c4, rfl, I4⟩
  have R4 := I4.rd
  have hc4 := I4.cap
  have B4 := Lib.hid (B3.out.trans (I4.2.1.mono B3.out.size))
  have X4 := Lib.hid (X3.out.under I4.2.1)
  have Y4 := Lib.hid (Y3.out.under I4.2.1)
  have q0 := Y4.out.cell 0
  have q1 := Y4.out.cell 1
  simp only [List.getElem?_toArray, List.getElem?_cons_zero, List.getElem?_cons_succ] at q0 q1
  clear I4 p0 p1 X3 Y3
  go_wp2_with fail
  refine (putRec_yes k' A' n' c' zs' w.heap.size _ (HR'.out.below B4.out) B4.out.size HM'.out).mono ?_
  rintro e w5 ⟨A5, c5, rfl, I5⟩
  have R5 := I5.rd
  have hc5 := I5.cap
  have R4 := (R4.below I5.2.1).more I5.2.1.size
  have B5 := Lib.hid (B4.out.trans (I5.2.1.mono B4.out.size))
  have X5 := Lib.hid (X4.out.under I5.2.1)
  have Y5 := Lib.hid (Y4.out.under I5.2.1)
  clear I5 q0 q1 X4 Y4
  obtain ⟨P, hP⟩ : ∃ P, recB k zs = P := ⟨_, rfl⟩
  obtain ⟨Q, hQ⟩ : ∃ Q, recB k' zs' = Q := ⟨_, rfl⟩
  have hPl := recB_len HM.out
  have hQl := recB_len HM'.out
  have hAp := fun m => apart_same (n := m) HM.out HM'.out
  have hPb := recB_bytes k zs
  have hQb := recB_bytes k' zs'
  rw [hP] at hPl hPb R4 hc4 hAp ⊢
  rw [hQ] at hQl hQb R5 hc5 hAp ⊢
  obtain ⟨M, hM⟩ : ∃ M, M = min P.length Q.length := ⟨_, rfl⟩
  obtain ⟨v, hv⟩ : ∃ v, sameB k zs k' zs' = v := ⟨_, rfl⟩
  have hMP : M ≤ P.length := by omega
  have hMQ : M ≤ Q.length := by omega
  have hst := strB_eq (fun x hx => hPb x (List.mem_of_mem_take hx)) (fun x hx => hQb x (List.mem_of_mem_take hx)) ((hAp M hM).trans hv)
  have e1 := fun W => run_head A4 P.length c4 M (by omega) W
  have e2 := fun W => run_head A5 Q.length c5 M (by omega) W
  have R4' := R4.take hMP
  have R5' := R5.take hMQ
  rw [bv, ← List.map_take] at R4' R5'
  obtain ⟨s, hs⟩ : ∃ s, strB (P.take M) = s := ⟨_, rfl⟩
  obtain ⟨t, ht⟩ : ∃ t, strB (Q.take M) = t := ⟨_, rfl⟩
  rw [hs, ht] at hst
  have HL : Hid (∀ W, Below w5.heap.size w5 W → (convert 26 9 (.slice A4 M c4)).run Try.prog W = .ok (.string s) W ∧ (convert 26 9 (.slice A5 M c5)).run Try.prog W = .ok (.string t) W ∧
      W.cell? ⟨w.heap.size, 0, none⟩ = some (.int .u8 (k : Int)) ∧ W.cell? ⟨w.heap.size, 1, none⟩ = some (.slice A n c) ∧ W.cell? ⟨w.heap.size + 1, 0, none⟩ = some (.int .u8 (k' : Int)) ∧ W.cell? ⟨w.heap.size + 1, 1, none⟩ = some (.slice A' n' c')) := fun W hW => by
    have r1 := run_string W A4 M c4 (P.take M) _ (R4'.below hW)
    have r2 := run_string W A5 M c5 (Q.take M) _ (R5'.below hW)
    rw [hs] at r1
    rw [ht] at r2
    exact ⟨r1, r2, (X5.out.under hW).cell 0, (X5.out.under hW).cell 1, (Y5.out.under hW).cell 0, (Y5.out.under hW).cell 1⟩
  have HS := Lib.hid (fun (W : World) (hW : Below w.heap.size w W) => refSame_any k k' A A' n c n' c' zs zs' w.heap.size w.heap.size W (HR.out.below hW) (HR'.out.below hW) hW.size hW.size (by omega))
  rw [hv] at HS
  have hcs : (Q.length < P.length ∧ M = Q.length) ∨ (¬ Q.length < P.length ∧ M = P.length) := by omega
  clear R4 R5 R4' R5' hs ht hP hQ hAp hPb hQb hv hM hMP hMQ hc4 hc5 hn
  rcases hcs with ⟨hlt, rfl⟩ | ⟨hlt, rfl⟩
  · go_wp2_with fail
    obtain ⟨L1, L2, L3, L4, L5, L6⟩ := HL.out w5.drew ((Below.refl _ w5).drew)
    go_region_held3 (fun W => (convert 26 9 (.slice A4 Q.length c4)).run Try.prog W = .ok (.string s) W ∧ (convert 26 9 (.slice A5 Q.length c5)).run Try.prog W = .ok (.string t) W ∧
      W.cell? ⟨w.heap.size, 0, none⟩ = some (.int .u8 (k : Int)) ∧ W.cell? ⟨w.heap.size, 1, none⟩ = some (.slice A n c) ∧ W.cell? ⟨w.heap.size + 1, 0, none⟩ = some (.int .u8 (k' : Int)) ∧ W.cell? ⟨w.heap.size + 1, 1, none⟩ = some (.slice A' n' c')) (go_keep)
      (first | (go_at_call 15; refine (HS.out _ B5.out.drew).mono ?_; rintro e w6 ⟨rfl, b6⟩; obtain ⟨L1, L2, L3, L4, L5, L6⟩ := HL.out w6 ((Below.refl _ w5).drew.trans b6)) | (go_at_call 10; refine (wakes_any _).mono ?_; rintro e w7 ⟨rfl, b7⟩; obtain ⟨L1, L2, L3, L4, L5, L6⟩ := HL.out w7 (((Below.refl _ w5).drew.trans b6).trans (b7.mono b6.size))))
    have B7 := Lib.hid ((B5.out.drew.trans (b6.mono B5.out.size)).trans (b7.mono (B5.out.drew.trans (b6.mono B5.out.size)).size))
    clear L1 L2 L3 L4 L5 L6 b6 b7
    go_wp2_with fail
    go_ret
    exact ⟨rfl, B7.out⟩
  · go_wp2_with fail
    obtain ⟨L1, L2, L3, L4, L5, L6⟩ := HL.out w5.drew ((Below.refl _ w5).drew)
    go_region_held3 (fun W => (convert 26 9 (.slice A4 P.length c4)).run Try.prog W = .ok (.string s) W ∧ (convert 26 9 (.slice A5 P.length c5)).run Try.prog W = .ok (.string t) W ∧
      W.cell? ⟨w.heap.size, 0, none⟩ = some (.int .u8 (k : Int)) ∧ W.cell? ⟨w.heap.size, 1, none⟩ = some (.slice A n c) ∧ W.cell? ⟨w.heap.size + 1, 0, none⟩ = some (.int .u8 (k' : Int)) ∧ W.cell? ⟨w.heap.size + 1, 1, none⟩ = some (.slice A' n' c')) (go_keep)
      (first | (go_at_call 15; refine (HS.out _ B5.out.drew).mono ?_; rintro e w6 ⟨rfl, b6⟩; obtain ⟨L1, L2, L3, L4, L5, L6⟩ := HL.out w6 ((Below.refl _ w5).drew.trans b6)) | (go_at_call 10; refine (wakes_any _).mono ?_; rintro e w7 ⟨rfl, b7⟩; obtain ⟨L1, L2, L3, L4, L5, L6⟩ := HL.out w7 (((Below.refl _ w5).drew.trans b6).trans (b7.mono b6.size))))
    have B7 := Lib.hid ((B5.out.drew.trans (b6.mono B5.out.size)).trans (b7.mono (B5.out.drew.trans (b6.mono B5.out.size)).size))
    clear L1 L2 L3 L4 L5 L6 b6 b7
    go_wp2_with fail
    go_ret
    exact ⟨rfl, B7.out⟩

theorem recApart_walk (k : Nat) (A : Option Addr) (n c : Nat) (zs : List Int) (k' : Nat) (A' : Option Addr) (n' c' : Nat) (zs' : List Int) (w : World) (hk : k < 256) (hr : Rd w w.heap.size A n (iv zs)) (hk' : k' < 256) (hr' : Rd w w.heap.size A' n' (iv zs')) :
    Calls Try.prog 8 #[.agg #[.int .u8 (k : Int), .slice A n c], .agg #[.int .u8 (k' : Int), .slice A' n' c']] w (TruePost w) := by
  cases h1 : greatB [⟨k, A, n, c, zs⟩, ⟨k', A', n', c', zs'⟩]
  · cases h2 : mayB k zs
    · exact recApart_out k A n c zs k' A' n' c' zs' w hk hr hk' hr' (.inr (.inl ⟨h1, h2⟩))
    · cases h3 : mayB k' zs'
      · exact recApart_out k A n c zs k' A' n' c' zs' w hk hr hk' hr' (.inr (.inr ⟨h1, h2, h3⟩))
      · exact recApart_in k A n c zs k' A' n' c' zs' w hk hr hk' hr' h1 h2 h3
  · exact recApart_out k A n c zs k' A' n' c' zs' w hk hr hk' hr' (.inl h1)

end Go.Proofs.Ytcgfakpolfopnaa
