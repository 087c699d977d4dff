/-
  The walks of the document's own 'Close' and 'Late' of calls. Conditions: those that each theorem names.
-/
import Derived.Test.YtgajnmjifhemgaaClRefB
namespace Go.Proofs.Ytgajnmjifhemgaa
open Go.RowKit Go.Shelf

def keepId (id : Int) (x : Cl) : Bool := decide (x.id ≠ id)
def keepLate (now timeout : Int) (x : Cl) : Bool := decide (now < x.sent + timeout)

set_option maxRecDepth 100000 in
set_option maxHeartbeats 2000000 in
theorem rclose_any (c : Cs) (A : Option Addr) (n k : Nat) (id : Int) (B : Nat) (w : World) (hr : RdC w B A n c.l) (hB : B ≤ w.heap.size) (hn : n ≤ 1000) (hid : ∀ x ∈ c.l, (Lit.int .i64 x.id).wf = true) :
    Calls Try.prog 22 #[.agg #[.int .i64 c.ep, .int .i64 c.nx, .slice A n k], .int .i64 id] w (CsPost (closeR c id) w) := by
  obtain ⟨hb, w0, w1⟩ := two_new w 24 24 #[.int .i64 c.ep, .int .i64 c.nx, .slice A n k] #[.int .i64 0, .int .i64 0, .slice none 0 0]
  obtain ⟨V, hV⟩ : ∃ V, (w.alloc (.cells #[.int .i64 c.ep, .int .i64 c.nx, .slice A n k] 24)).alloc (.cells #[.int .i64 0, .int .i64 0, .slice none 0 0] 24) = V := ⟨_, rfl⟩
  have hs : V.heap.size = w.heap.size + 1 + 1 := by rw [← hV]; simp
  rw [hV] at hb w0 w1
  obtain ⟨c0, c1, c2⟩ := cells3 w0
  have y0 := w0.frozen 0
  have y1 := w0.frozen 1
  have y2 := w0.frozen 2
  have hl := hr.len
  have HO := Lib.hid (rown_any c A n k B V (hr.below (hb.mono hB)) (Nat.le_trans hB hb.size) hn)
  have HLn := Lib.hid (show c.l.length ≤ 1000 by omega)
  have HK := Lib.hid (fun z W => rkind_any z W)
  have HN := Lib.hid (fun z W => rnumber_any z W)
  have HId := Lib.hid hid
  have HB := Lib.hid hb
  have HV := Lib.hid hV
  have HS := Lib.hid hs
  have W0 := Lib.hid w0
  have W1 := Lib.hid w1
  clear hb w0 w1 hr hB hn hV hs hl hid
  go_enter Try.func22, Try.ntmps22
  go_upto_region 1 with fail
  rw [HV.out]
  clear HV
  go_wp2_with fail
  refine HO.out.mono ?_
  rintro e w3 ⟨A2, k2, rfl, ho, hb3⟩
  have u0 := W0.out.under hb3
  have HB3 := Lib.hid (HB.out.trans (hb3.mono HB.out.size))
  clear c0 c1 c2 y0 y1 y2
  obtain ⟨c0, c1, c2⟩ := cells3 u0
  have y0 := u0.frozen 0
  have y1 := u0.frozen 1
  have y2 := u0.frozen 2
  obtain ⟨e4, k4⟩ := put3 u0 (.int .i64 c.ep) (.int .i64 c.nx) (.slice A2 c.l.length k2)
  obtain ⟨w4, hw4⟩ : ∃ w4, ((w3.setCell ⟨w.heap.size, 0, none⟩ (.int .i64 c.ep)).setCell ⟨w.heap.size, 1, none⟩ (.int .i64 c.nx)).setCell ⟨w.heap.size, 2, none⟩ (.slice A2 c.l.length k2) = w4 := ⟨_, rfl⟩
  rw [hw4] at e4 k4
  have O4 := Lib.hid (ho.only k4 u0 (by decide))
  have R4 := Lib.hid (k4.far (W1.out.under hb3) (by omega))
  have B4 := Lib.hid (k4.bel HB3.out (Nat.le_refl _))
  have S4 := Lib.hid (show V.heap.size ≤ w4.heap.size by rw [k4.size]; exact hb3.size)
  have E4 := Lib.hid e4
  have HRt := Lib.hid (rright_any c A2 c.l.length k2 w4.heap.size w4 O4.out.read (Nat.le_refl _) HLn.out HId.out)
  have HW4 := Lib.hid hw4
  clear u0 ho hb3 e4 k4 hw4 HO W0 W1 HB3
  go_upto_region 2 with fail
  rw [HW4.out]
  clear HW4 c0 c1 c2 y0 y1 y2
  obtain ⟨c0, c1, c2⟩ := cells3 E4.out
  go_wp2_with fail
  refine HRt.out.mono ?_
  rintro e w5 ⟨rfl, q5⟩
  have E5 := Lib.hid (E4.out.under q5)
  have R5 := Lib.hid (R4.out.under q5)
  have O5 := Lib.hid (O4.out.under q5)
  have B5 := Lib.hid (B4.out.trans (q5.mono B4.out.size))
  have S5 := Lib.hid (Nat.le_trans S4.out q5.size)
  clear c0 c1 c2 q5
  obtain ⟨c0, c1, c2⟩ := cells3 E5.out
  clear E4 R4 O4 B4 S4 HRt
  cases hrc : rightC c with
  | false =>
    have E_1 := Lib.hid (show closeR c id = c by simp [closeR, hrc])
    obtain ⟨r0, r1, r2⟩ := cells3 R5.out
    have z0 := R5.out.frozen 0
    have z1 := R5.out.frozen 1
    have z2 := R5.out.frozen 2
    go_wp2_with fail
    obtain ⟨e6, k6⟩ := put3 R5.out (.int .i64 c.ep) (.int .i64 c.nx) (.slice A2 c.l.length k2)
    obtain ⟨y0, y1, y2⟩ := cells3 e6
    exact bodyPost_ret (v := .agg #[.int .i64 c.ep, .int .i64 c.nx, .slice A2 c.l.length k2]) (by simp [results, Try.results22, go_sem, y0, y1, y2]) rfl (by rw [E_1.out]; exact ⟨A2, k2, rfl, CallsAt.weaker (base := w.heap.size) (base' := V.heap.size) (O5.out.only k6 R5.out (by decide)) (by have := HS.out; omega), k6.bel B5.out (by omega)⟩)
  | true =>
    have E_1 := Lib.hid (show closeR c id = ⟨c.ep, c.nx, c.l.filter (keepId id)⟩ by rw [closeR, hrc]; rfl)
    clear hrc
    have hLn : c.l.length ≤ 1000 := HLn.out
    go_wp2_with fail
    go_loopw [5, 6] (fun v i wr => ∃ j : Nat, i = .int .i64 (j : Int) ∧ j ≤ c.l.length ∧ (∃ A1 k1, v = .slice A1 ((c.l.take j).filter (keepId id)).length k1 ∧ CallsAt w5.heap.size wr v ((c.l.take j).filter (keepId id))) ∧ Below w5.heap.size w5 wr) (fun _ i _ => c.l.length - (intOf i).toNat)
    case atStart => exact ⟨0, rfl, Nat.zero_le _, ⟨none, 0, rfl, CallsAt.nil_ _ _⟩, Below.refl _ _⟩
    case round =>
      obtain ⟨j, rfl, hj, ⟨A1, k1, rfl, hrow⟩, hbw⟩ := hrel
      have HRow := Lib.hid hrow
      have HBW := Lib.hid hbw
      have h0 := E5.out.under hbw
      have h1 := R5.out.under hbw
      have H0 := Lib.hid h0
      have H1 := Lib.hid h1
      clear c0 c1 c2
      obtain ⟨c0, c1, c2⟩ := cells3 h0
      clear hrow hbw h0 h1
      by_cases hlt : j < c.l.length
      · obtain ⟨b, off, rfl, hblt, hc⟩ := RdC.at_ O5.out.read (by omega)
        obtain ⟨x, hx⟩ : ∃ x, c.l[j]? = some x := ⟨_, List.getElem?_eq_getElem hlt⟩
        obtain ⟨g0, g1, g2, g3⟩ := RdC.cells_at ((O5.out.read).below HBW.out) hx
        have hI : (j : Int) < (c.l.length : Int) := by omega
        have HX := Lib.hid hx
        have hfl : (c.l.take (j + 1)).filter (keepId id) = (c.l.take j).filter (keepId id) ++ (if keepId id x then [x] else []) := by
          have hj2 := List.getElem?_eq_some_iff.1 hx
          rw [List.take_succ_eq_append_getElem hj2.1, hj2.2, List.filter_append]
          cases h : keepId id x <;> simp [h]
        have HFl := Lib.hid hfl
        clear hx hc hfl
        by_cases q0 : x.id ≠ id
        · have q1 : (x.id != id) = true := by simp [q0]
          have hm : ((c.l.take j).filter (keepId id)).length ≤ 1000 := Nat.le_trans (List.length_filter_le _ _) (by have := HLn.out; rw [List.length_take]; omega)
          obtain ⟨A3, k3, W2, hrun, ho2, hb2, _, _, _⟩ := calls_put wr w5.heap.size _ _ HRow.out x hm HBW.out.size
          have HRun := Lib.hid hrun
          have HB2 := Lib.hid (HBW.out.trans hb2)
          have HFn := Lib.hid (show (c.l.take (j + 1)).filter (keepId id) = (c.l.take j).filter (keepId id) ++ [x] by rw [HFl.out, if_pos (show keepId id x = true from decide_eq_true q0)])
          have HO2 := Lib.hid (show CallsAt w5.heap.size W2 (.slice A3 (((c.l.take j).filter (keepId id)).length + 1) k3) ((c.l.take (j + 1)).filter (keepId id)) by rw [HFn.out]; exact ho2)
          clear q0 hm hrun ho2 hb2
          go_wp2_with (at_builtin; refine wpList_app (by rfl) _ _ 22 rfl _ _ _ W2 (by rfl) (by rfl) HRun.out ?_)
          go_roundw
          case rel => exact ⟨j + 1, by go_num, by omega, ⟨A3, k3, by rw [HFn.out, List.length_append, List.length_singleton], HO2.out⟩, HB2.out⟩
          case measure => simp [intOf]; omega
        · have q1 : (x.id != id) = false := by simp at q0; simp [q0]
          have HFn := Lib.hid (show (c.l.take (j + 1)).filter (keepId id) = (c.l.take j).filter (keepId id) by rw [HFl.out, if_neg (by intro h; exact q0 (of_decide_eq_true h)), List.append_nil])
          have HO2 := Lib.hid (show CallsAt w5.heap.size wr (.slice A1 ((c.l.take j).filter (keepId id)).length k1) ((c.l.take (j + 1)).filter (keepId id)) by rw [HFn.out]; exact HRow.out)
          clear q0
          go_wp2_with fail
          go_roundw
          case rel => exact ⟨j + 1, by go_num, by omega, ⟨A1, k1, by rw [HFn.out], HO2.out⟩, HBW.out⟩
          case measure => simp [intOf]; omega
      · have hjl : (c.l.take j).filter (keepId id) = c.l.filter (keepId id) := by rw [List.take_of_length_le (by omega)]
        have HRow2 := Lib.hid (show CallsAt w5.heap.size wr (.slice A1 (c.l.filter (keepId id)).length k1) (c.l.filter (keepId id)) by have h := HRow.out; rw [hjl] at h; exact h)
        rw [hjl]
        have y2 := H0.out.frozen 2
        obtain ⟨r0, r1, r2⟩ := cells3 H1.out
        have z0 := H1.out.frozen 0
        have z1 := H1.out.frozen 1
        have z2 := H1.out.frozen 2
        clear hjl
        go_wp2_with fail
        have k10 := Only.set wr w.heap.size 2 (.slice A1 (c.l.filter (keepId id)).length k1)
        have hr10 := k10.far H1.out (by omega)
        obtain ⟨e11, k11⟩ := put3 hr10 (.int .i64 c.ep) (.int .i64 c.nx) (.slice A1 (c.l.filter (keepId id)).length k1)
        have ho11 := (HRow2.out.only k10 H0.out (by decide)).only k11 hr10 (by decide)
        have hb11 := k11.bel (k10.bel (B5.out.trans (HBW.out.mono B5.out.size)) (Nat.le_refl _)) (by omega)
        obtain ⟨t0, t1, t2⟩ := cells3 e11
        exact bodyPost_ret (v := .agg #[.int .i64 c.ep, .int .i64 c.nx, .slice A1 (c.l.filter (keepId id)).length k1]) (by simp [results, Try.results22, go_sem, t0, t1, t2]) rfl (by rw [E_1.out]; exact ⟨A1, k1, rfl, CallsAt.weaker (base := w.heap.size) (base' := w5.heap.size) ho11 B5.out.size, hb11⟩)

set_option maxRecDepth 100000 in
set_option maxHeartbeats 2000000 in
theorem rlate_any (c : Cs) (A : Option Addr) (n k : Nat) (now timeout : Int) (B : Nat) (w : World) (hr : RdC w B A n c.l) (hB : B ≤ w.heap.size) (hn : n ≤ 1000) (hid : ∀ x ∈ c.l, (Lit.int .i64 x.id).wf = true) :
    Calls Try.prog 24 #[.agg #[.int .i64 c.ep, .int .i64 c.nx, .slice A n k], .int .i64 now, .int .i64 timeout] w (CsPost (lateR c now timeout) w) := by
  obtain ⟨hb, w0, w1⟩ := two_new w 24 24 #[.int .i64 c.ep, .int .i64 c.nx, .slice A n k] #[.int .i64 0, .int .i64 0, .slice none 0 0]
  obtain ⟨V, hV⟩ : ∃ V, (w.alloc (.cells #[.int .i64 c.ep, .int .i64 c.nx, .slice A n k] 24)).alloc (.cells #[.int .i64 0, .int .i64 0, .slice none 0 0] 24) = V := ⟨_, rfl⟩
  have hs : V.heap.size = w.heap.size + 1 + 1 := by rw [← hV]; simp
  rw [hV] at hb w0 w1
  obtain ⟨c0, c1, c2⟩ := cells3 w0
  have y0 := w0.frozen 0
  have y1 := w0.frozen 1
  have y2 := w0.frozen 2
  have hl := hr.len
  have HO := Lib.hid (rown_any c A n k B V (hr.below (hb.mono hB)) (Nat.le_trans hB hb.size) hn)
  have HLn := Lib.hid (show c.l.length ≤ 1000 by omega)
  have HK := Lib.hid (fun z W => rkind_any z W)
  have HN := Lib.hid (fun z W => rnumber_any z W)
  have HId := Lib.hid hid
  have HB := Lib.hid hb
  have HV := Lib.hid hV
  have HS := Lib.hid hs
  have W0 := Lib.hid w0
  have W1 := Lib.hid w1
  clear hb w0 w1 hr hB hn hV hs hl hid
  go_enter Try.func24, Try.ntmps24
  go_upto_region 1 with fail
  rw [HV.out]
  clear HV
  go_wp2_with fail
  refine HO.out.mono ?_
  rintro e w3 ⟨A2, k2, rfl, ho, hb3⟩
  have u0 := W0.out.under hb3
  have HB3 := Lib.hid (HB.out.trans (hb3.mono HB.out.size))
  clear c0 c1 c2 y0 y1 y2
  obtain ⟨c0, c1, c2⟩ := cells3 u0
  have y0 := u0.frozen 0
  have y1 := u0.frozen 1
  have y2 := u0.frozen 2
  obtain ⟨e4, k4⟩ := put3 u0 (.int .i64 c.ep) (.int .i64 c.nx) (.slice A2 c.l.length k2)
  obtain ⟨w4, hw4⟩ : ∃ w4, ((w3.setCell ⟨w.heap.size, 0, none⟩ (.int .i64 c.ep)).setCell ⟨w.heap.size, 1, none⟩ (.int .i64 c.nx)).setCell ⟨w.heap.size, 2, none⟩ (.slice A2 c.l.length k2) = w4 := ⟨_, rfl⟩
  rw [hw4] at e4 k4
  have O4 := Lib.hid (ho.only k4 u0 (by decide))
  have R4 := Lib.hid (k4.far (W1.out.under hb3) (by omega))
  have B4 := Lib.hid (k4.bel HB3.out (Nat.le_refl _))
  have S4 := Lib.hid (show V.heap.size ≤ w4.heap.size by rw [k4.size]; exact hb3.size)
  have E4 := Lib.hid e4
  have HRt := Lib.hid (rright_any c A2 c.l.length k2 w4.heap.size w4 O4.out.read (Nat.le_refl _) HLn.out HId.out)
  have HW4 := Lib.hid hw4
  clear u0 ho hb3 e4 k4 hw4 HO W0 W1 HB3
  go_upto_region 2 with fail
  rw [HW4.out]
  clear HW4 c0 c1 c2 y0 y1 y2
  obtain ⟨c0, c1, c2⟩ := cells3 E4.out
  go_wp2_with fail
  refine HRt.out.mono ?_
  rintro e w5 ⟨rfl, q5⟩
  have E5 := Lib.hid (E4.out.under q5)
  have R5 := Lib.hid (R4.out.under q5)
  have O5 := Lib.hid (O4.out.under q5)
  have B5 := Lib.hid (B4.out.trans (q5.mono B4.out.size))
  have S5 := Lib.hid (Nat.le_trans S4.out q5.size)
  clear c0 c1 c2 q5
  obtain ⟨c0, c1, c2⟩ := cells3 E5.out
  clear E4 R4 O4 B4 S4 HRt
  cases hrc : rightC c with
  | false =>
    have E_1 := Lib.hid (show lateR c now timeout = c by simp [lateR, hrc])
    obtain ⟨r0, r1, r2⟩ := cells3 R5.out
    have z0 := R5.out.frozen 0
    have z1 := R5.out.frozen 1
    have z2 := R5.out.frozen 2
    go_wp2_with fail
    obtain ⟨e6, k6⟩ := put3 R5.out (.int .i64 c.ep) (.int .i64 c.nx) (.slice A2 c.l.length k2)
    obtain ⟨y0, y1, y2⟩ := cells3 e6
    exact bodyPost_ret (v := .agg #[.int .i64 c.ep, .int .i64 c.nx, .slice A2 c.l.length k2]) (by simp [results, Try.results24, go_sem, y0, y1, y2]) rfl (by rw [E_1.out]; exact ⟨A2, k2, rfl, CallsAt.weaker (base := w.heap.size) (base' := V.heap.size) (O5.out.only k6 R5.out (by decide)) (by have := HS.out; omega), k6.bel B5.out (by omega)⟩)
  | true =>
  go_wp2_with fail
  refine (HN.out _ _).mono ?_
  rintro e w5 ⟨rfl, rfl⟩
  cases n1 : isNum now with
  | false =>
    have E_1 := Lib.hid (show lateR c now timeout = c by simp [lateR, n1])
    obtain ⟨r0, r1, r2⟩ := cells3 R5.out
    have z0 := R5.out.frozen 0
    have z1 := R5.out.frozen 1
    have z2 := R5.out.frozen 2
    go_wp2_with fail
    obtain ⟨e6, k6⟩ := put3 R5.out (.int .i64 c.ep) (.int .i64 c.nx) (.slice A2 c.l.length k2)
    obtain ⟨y0, y1, y2⟩ := cells3 e6
    exact bodyPost_ret (v := .agg #[.int .i64 c.ep, .int .i64 c.nx, .slice A2 c.l.length k2]) (by simp [results, Try.results24, go_sem, y0, y1, y2]) rfl (by rw [E_1.out]; exact ⟨A2, k2, rfl, CallsAt.weaker (base := w.heap.size) (base' := V.heap.size) (O5.out.only k6 R5.out (by decide)) (by have := HS.out; omega), k6.bel B5.out (by omega)⟩)
  | true =>
  go_wp2_with fail
  refine (HN.out _ _).mono ?_
  rintro e w5 ⟨rfl, rfl⟩
  cases n2 : isNum timeout with
  | false =>
    have E_1 := Lib.hid (show lateR c now timeout = c by simp [lateR, n2])
    obtain ⟨r0, r1, r2⟩ := cells3 R5.out
    have z0 := R5.out.frozen 0
    have z1 := R5.out.frozen 1
    have z2 := R5.out.frozen 2
    go_wp2_with fail
    obtain ⟨e6, k6⟩ := put3 R5.out (.int .i64 c.ep) (.int .i64 c.nx) (.slice A2 c.l.length k2)
    obtain ⟨y0, y1, y2⟩ := cells3 e6
    exact bodyPost_ret (v := .agg #[.int .i64 c.ep, .int .i64 c.nx, .slice A2 c.l.length k2]) (by simp [results, Try.results24, go_sem, y0, y1, y2]) rfl (by rw [E_1.out]; exact ⟨A2, k2, rfl, CallsAt.weaker (base := w.heap.size) (base' := V.heap.size) (O5.out.only k6 R5.out (by decide)) (by have := HS.out; omega), k6.bel B5.out (by omega)⟩)
  | true =>
    have E_1 := Lib.hid (show lateR c now timeout = ⟨c.ep, c.nx, c.l.filter (keepLate now timeout)⟩ by rw [lateR, hrc, n1, n2]; rfl)
    have HRg := Lib.hid (rightC_iff.1 hrc)
    have HT := Lib.hid (isNum_iff.1 n2)
    clear hrc n1 n2
    have hLn : c.l.length ≤ 1000 := HLn.out
    go_wp2_with fail
    go_loopw [7, 8] (fun v i wr => ∃ j : Nat, i = .int .i64 (j : Int) ∧ j ≤ c.l.length ∧ (∃ A1 k1, v = .slice A1 ((c.l.take j).filter (keepLate now timeout)).length k1 ∧ CallsAt w5.heap.size wr v ((c.l.take j).filter (keepLate now timeout))) ∧ Below w5.heap.size w5 wr) (fun _ i _ => c.l.length - (intOf i).toNat)
    case atStart => exact ⟨0, rfl, Nat.zero_le _, ⟨none, 0, rfl, CallsAt.nil_ _ _⟩, Below.refl _ _⟩
    case round =>
      obtain ⟨j, rfl, hj, ⟨A1, k1, rfl, hrow⟩, hbw⟩ := hrel
      have HRow := Lib.hid hrow
      have HBW := Lib.hid hbw
      have h0 := E5.out.under hbw
      have h1 := R5.out.under hbw
      have H0 := Lib.hid h0
      have H1 := Lib.hid h1
      clear c0 c1 c2
      obtain ⟨c0, c1, c2⟩ := cells3 h0
      clear hrow hbw h0 h1
      by_cases hlt : j < c.l.length
      · obtain ⟨b, off, rfl, hblt, hc⟩ := RdC.at_ O5.out.read (by omega)
        obtain ⟨x, hx⟩ : ∃ x, c.l[j]? = some x := ⟨_, List.getElem?_eq_getElem hlt⟩
        obtain ⟨g0, g1, g2, g3⟩ := RdC.cells_at ((O5.out.read).below HBW.out) hx
        have hI : (j : Int) < (c.l.length : Int) := by omega
        have HX := Lib.hid hx
        have hfl : (c.l.take (j + 1)).filter (keepLate now timeout) = (c.l.take j).filter (keepLate now timeout) ++ (if keepLate now timeout x then [x] else []) := by
          have hj2 := List.getElem?_eq_some_iff.1 hx
          rw [List.take_succ_eq_append_getElem hj2.1, hj2.2, List.filter_append]
          cases h : keepLate now timeout x <;> simp [h]
        have HFl := Lib.hid hfl
        have hsm : -9000000000000000 ≤ x.sent + timeout ∧ x.sent + timeout ≤ 9000000000000000 := by
          have h1 := (HRg.out.ok x (List.mem_of_getElem? hx)).sent
          have h2 := HT.out
          unfold numC at h1
          omega
        have hwi := wrapI_mid hsm.1 hsm.2
        have hwi2 := wrap64_mid hsm.1 hsm.2
        clear hsm
        clear hx hc hfl
        by_cases q0 : now < x.sent + timeout
        · have q1 : decide (now < x.sent + timeout) = true := decide_eq_true q0
          have hm : ((c.l.take j).filter (keepLate now timeout)).length ≤ 1000 := Nat.le_trans (List.length_filter_le _ _) (by have := HLn.out; rw [List.length_take]; omega)
          obtain ⟨A3, k3, W2, hrun, ho2, hb2, _, _, _⟩ := calls_put wr w5.heap.size _ _ HRow.out x hm HBW.out.size
          have HRun := Lib.hid hrun
          have HB2 := Lib.hid (HBW.out.trans hb2)
          have HFn := Lib.hid (show (c.l.take (j + 1)).filter (keepLate now timeout) = (c.l.take j).filter (keepLate now timeout) ++ [x] by rw [HFl.out, if_pos (show keepLate now timeout x = true from decide_eq_true q0)])
          have HO2 := Lib.hid (show CallsAt w5.heap.size W2 (.slice A3 (((c.l.take j).filter (keepLate now timeout)).length + 1) k3) ((c.l.take (j + 1)).filter (keepLate now timeout)) by rw [HFn.out]; exact ho2)
          clear q0 hm hrun ho2 hb2
          go_wp2_with (at_builtin; refine wpList_app (by rfl) _ _ 22 rfl _ _ _ W2 (by rfl) (by rfl) HRun.out ?_)
          go_roundw
          case rel => exact ⟨j + 1, by go_num, by omega, ⟨A3, k3, by rw [HFn.out, List.length_append, List.length_singleton], HO2.out⟩, HB2.out⟩
          case measure => simp [intOf]; omega
        · have q1 : decide (now < x.sent + timeout) = false := decide_eq_false q0
          have HFn := Lib.hid (show (c.l.take (j + 1)).filter (keepLate now timeout) = (c.l.take j).filter (keepLate now timeout) by rw [HFl.out, if_neg (by intro h; exact q0 (of_decide_eq_true h)), List.append_nil])
          have HO2 := Lib.hid (show CallsAt w5.heap.size wr (.slice A1 ((c.l.take j).filter (keepLate now timeout)).length k1) ((c.l.take (j + 1)).filter (keepLate now timeout)) by rw [HFn.out]; exact HRow.out)
          clear q0
          go_wp2_with fail
          go_roundw
          case rel => exact ⟨j + 1, by go_num, by omega, ⟨A1, k1, by rw [HFn.out], HO2.out⟩, HBW.out⟩
          case measure => simp [intOf]; omega
      · have hjl : (c.l.take j).filter (keepLate now timeout) = c.l.filter (keepLate now timeout) := by rw [List.take_of_length_le (by omega)]
        have HRow2 := Lib.hid (show CallsAt w5.heap.size wr (.slice A1 (c.l.filter (keepLate now timeout)).length k1) (c.l.filter (keepLate now timeout)) by have h := HRow.out; rw [hjl] at h; exact h)
        rw [hjl]
        have y2 := H0.out.frozen 2
        obtain ⟨r0, r1, r2⟩ := cells3 H1.out
        have z0 := H1.out.frozen 0
        have z1 := H1.out.frozen 1
        have z2 := H1.out.frozen 2
        clear hjl
        go_wp2_with fail
        have k10 := Only.set wr w.heap.size 2 (.slice A1 (c.l.filter (keepLate now timeout)).length k1)
        have hr10 := k10.far H1.out (by omega)
        obtain ⟨e11, k11⟩ := put3 hr10 (.int .i64 c.ep) (.int .i64 c.nx) (.slice A1 (c.l.filter (keepLate now timeout)).length k1)
        have ho11 := (HRow2.out.only k10 H0.out (by decide)).only k11 hr10 (by decide)
        have hb11 := k11.bel (k10.bel (B5.out.trans (HBW.out.mono B5.out.size)) (Nat.le_refl _)) (by omega)
        obtain ⟨t0, t1, t2⟩ := cells3 e11
        exact bodyPost_ret (v := .agg #[.int .i64 c.ep, .int .i64 c.nx, .slice A1 (c.l.filter (keepLate now timeout)).length k1]) (by simp [results, Try.results24, go_sem, t0, t1, t2]) rfl (by rw [E_1.out]; exact ⟨A1, k1, rfl, CallsAt.weaker (base := w.heap.size) (base' := w5.heap.size) ho11 B5.out.size, hb11⟩)

end Go.Proofs.Ytgajnmjifhemgaa
