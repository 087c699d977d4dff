/-
  The walks of the document's own 'Open', 'Close' and 'Late' of calls. Conditions: those that each theorem names.
-/
import Derived.Test.YtgajnmjifhemgaaClRefRight
namespace Go.Proofs.Ytgajnmjifhemgaa
open Go.RowKit Go.Shelf

theorem rright_any (c : Cs) (A : Option Addr) (n k : Nat) (B : Nat) (w : World) (hr : RdC w B A n c.l) (hB : B ≤ w.heap.size) (hn : n ≤ 1000) (hid : ∀ x ∈ c.l, (Lit.int .i64 x.id).wf = true) :
    Calls Try.prog 18 #[.agg #[.int .i64 c.ep, .int .i64 c.nx, .slice A n k]] w (BoolPost (rightC c) w) := by
  unfold rightC
  cases h : headB c.ep c.nx with
  | true => rw [Bool.true_and]; exact rright_in c A n k B w hr hB hn hid h
  | false => rw [Bool.false_and]; exact rright_out c A n k w h

set_option maxRecDepth 100000 in
set_option maxHeartbeats 2000000 in
theorem ropen_any (c : Cs) (A : Option Addr) (n k : Nat) (kind key now : Int) (B : Nat) (w : World) (hr : RdC w B A n c.l) (hB : B ≤ w.heap.size) (hn : n ≤ 1000) (hid : ∀ x ∈ c.l, (Lit.int .i64 x.id).wf = true) :
    Calls Try.prog 11 #[.agg #[.int .i64 c.ep, .int .i64 c.nx, .slice A n k], .int .u8 kind, .int .i64 key, .int .i64 now] w (CsPost3 (openC c kind key now) (.int .i64 (openI c kind key now)) (.int .i64 (openE c kind key now)) w) := by
  obtain ⟨hb, w0, w1⟩ := two_new w 24 24 #[.int .i64 c.ep, .int .i64 c.nx, .slice A n k] #[.int .i64 0, .int .i64 0, .slice none 0 0]
  obtain ⟨V, hV⟩ : ∃ V, (w.alloc (.cells #[.int .i64 c.ep, .int .i64 c.nx, .slice A n k] 24)).alloc (.cells #[.int .i64 0, .int .i64 0, .slice none 0 0] 24) = V := ⟨_, rfl⟩
  have hs : V.heap.size = w.heap.size + 1 + 1 := by rw [← hV]; simp
  rw [hV] at hb w0 w1
  obtain ⟨c0, c1, c2⟩ := cells3 w0
  have y0 := w0.frozen 0
  have y1 := w0.frozen 1
  have y2 := w0.frozen 2
  have hl := hr.len
  have HO := Lib.hid (rown_any c A n k B V (hr.below (hb.mono hB)) (Nat.le_trans hB hb.size) hn)
  have HLn := Lib.hid (show c.l.length ≤ 1000 by omega)
  have HK := Lib.hid (fun z W => rkind_any z W)
  have HN := Lib.hid (fun z W => rnumber_any z W)
  have HId := Lib.hid hid
  have HB := Lib.hid hb
  have HV := Lib.hid hV
  have HS := Lib.hid hs
  have W0 := Lib.hid w0
  have W1 := Lib.hid w1
  clear hb w0 w1 hr hB hn hV hs hl hid
  go_enter Try.func11, Try.ntmps11
  go_upto_region 1 with fail
  rw [HV.out]
  clear HV
  go_wp2_with fail
  refine HO.out.mono ?_
  rintro e w3 ⟨A2, k2, rfl, ho, hb3⟩
  have u0 := W0.out.under hb3
  have HB3 := Lib.hid (HB.out.trans (hb3.mono HB.out.size))
  clear c0 c1 c2 y0 y1 y2
  obtain ⟨c0, c1, c2⟩ := cells3 u0
  have y0 := u0.frozen 0
  have y1 := u0.frozen 1
  have y2 := u0.frozen 2
  obtain ⟨e4, k4⟩ := put3 u0 (.int .i64 c.ep) (.int .i64 c.nx) (.slice A2 c.l.length k2)
  obtain ⟨w4, hw4⟩ : ∃ w4, ((w3.setCell ⟨w.heap.size, 0, none⟩ (.int .i64 c.ep)).setCell ⟨w.heap.size, 1, none⟩ (.int .i64 c.nx)).setCell ⟨w.heap.size, 2, none⟩ (.slice A2 c.l.length k2) = w4 := ⟨_, rfl⟩
  rw [hw4] at e4 k4
  have O4 := Lib.hid (ho.only k4 u0 (by decide))
  have R4 := Lib.hid (k4.far (W1.out.under hb3) (by omega))
  have B4 := Lib.hid (k4.bel HB3.out (Nat.le_refl _))
  have S4 := Lib.hid (show V.heap.size ≤ w4.heap.size by rw [k4.size]; exact hb3.size)
  have E4 := Lib.hid e4
  have HRt := Lib.hid (rright_any c A2 c.l.length k2 w4.heap.size w4 O4.out.read (Nat.le_refl _) HLn.out HId.out)
  have HW4 := Lib.hid hw4
  clear u0 ho hb3 e4 k4 hw4 HO W0 W1 HB3
  go_upto_region 2 with fail
  rw [HW4.out]
  clear HW4 c0 c1 c2 y0 y1 y2
  obtain ⟨c0, c1, c2⟩ := cells3 E4.out
  go_wp2_with fail
  refine HRt.out.mono ?_
  rintro e w5 ⟨rfl, q5⟩
  have E5 := Lib.hid (E4.out.under q5)
  have R5 := Lib.hid (R4.out.under q5)
  have O5 := Lib.hid (O4.out.under q5)
  have B5 := Lib.hid (B4.out.trans (q5.mono B4.out.size))
  have S5 := Lib.hid (Nat.le_trans S4.out q5.size)
  clear c0 c1 c2 q5
  obtain ⟨c0, c1, c2⟩ := cells3 E5.out
  clear E4 R4 O4 B4 S4 HRt
  cases hrc : rightC c with
  | false =>
    have hbb : openB c kind key now = false := by simp [openB, oneB, hrc]
    have E_1 := Lib.hid (show openC c kind key now = c by simp [openC, hbb])
    have E_2 := Lib.hid (show openI c kind key now = 0 by simp [openI, hbb])
    have E_3 := Lib.hid (show openE c kind key now = 2 by simp [openE, hbb])
    clear hbb
    obtain ⟨r0, r1, r2⟩ := cells3 R5.out
    have z0 := R5.out.frozen 0
    have z1 := R5.out.frozen 1
    have z2 := R5.out.frozen 2
    go_wp2_with fail
    obtain ⟨e6, k6⟩ := put3 R5.out (.int .i64 c.ep) (.int .i64 c.nx) (.slice A2 c.l.length k2)
    obtain ⟨y0, y1, y2⟩ := cells3 e6
    exact bodyPost_ret (v := .tuple #[.agg #[.int .i64 c.ep, .int .i64 c.nx, .slice A2 c.l.length k2], .int .i64 0, .int .i64 2]) (by simp [results, Try.results11, go_sem, y0, y1, y2]) rfl (by rw [E_1.out, E_2.out, E_3.out]; exact ⟨A2, k2, rfl, CallsAt.weaker (base := w.heap.size) (base' := V.heap.size) (O5.out.only k6 R5.out (by decide)) (by have := HS.out; omega), k6.bel B5.out (by omega)⟩)
  | true =>
  go_wp2_with fail
  refine (HK.out _ _).mono ?_
  rintro e w5 ⟨rfl, rfl⟩
  cases kb : kindB kind with
  | false =>
    have hbb : openB c kind key now = false := by simp [openB, oneB, kb]
    have E_1 := Lib.hid (show openC c kind key now = c by simp [openC, hbb])
    have E_2 := Lib.hid (show openI c kind key now = 0 by simp [openI, hbb])
    have E_3 := Lib.hid (show openE c kind key now = 2 by simp [openE, hbb])
    clear hbb
    obtain ⟨r0, r1, r2⟩ := cells3 R5.out
    have z0 := R5.out.frozen 0
    have z1 := R5.out.frozen 1
    have z2 := R5.out.frozen 2
    go_wp2_with fail
    obtain ⟨e6, k6⟩ := put3 R5.out (.int .i64 c.ep) (.int .i64 c.nx) (.slice A2 c.l.length k2)
    obtain ⟨y0, y1, y2⟩ := cells3 e6
    exact bodyPost_ret (v := .tuple #[.agg #[.int .i64 c.ep, .int .i64 c.nx, .slice A2 c.l.length k2], .int .i64 0, .int .i64 2]) (by simp [results, Try.results11, go_sem, y0, y1, y2]) rfl (by rw [E_1.out, E_2.out, E_3.out]; exact ⟨A2, k2, rfl, CallsAt.weaker (base := w.heap.size) (base' := V.heap.size) (O5.out.only k6 R5.out (by decide)) (by have := HS.out; omega), k6.bel B5.out (by omega)⟩)
  | true =>
  go_wp2_with fail
  refine (HN.out _ _).mono ?_
  rintro e w5 ⟨rfl, rfl⟩
  cases nk : isNum key with
  | false =>
    have hbb : openB c kind key now = false := by simp [openB, oneB, nk]
    have E_1 := Lib.hid (show openC c kind key now = c by simp [openC, hbb])
    have E_2 := Lib.hid (show openI c kind key now = 0 by simp [openI, hbb])
    have E_3 := Lib.hid (show openE c kind key now = 2 by simp [openE, hbb])
    clear hbb
    obtain ⟨r0, r1, r2⟩ := cells3 R5.out
    have z0 := R5.out.frozen 0
    have z1 := R5.out.frozen 1
    have z2 := R5.out.frozen 2
    go_wp2_with fail
    obtain ⟨e6, k6⟩ := put3 R5.out (.int .i64 c.ep) (.int .i64 c.nx) (.slice A2 c.l.length k2)
    obtain ⟨y0, y1, y2⟩ := cells3 e6
    exact bodyPost_ret (v := .tuple #[.agg #[.int .i64 c.ep, .int .i64 c.nx, .slice A2 c.l.length k2], .int .i64 0, .int .i64 2]) (by simp [results, Try.results11, go_sem, y0, y1, y2]) rfl (by rw [E_1.out, E_2.out, E_3.out]; exact ⟨A2, k2, rfl, CallsAt.weaker (base := w.heap.size) (base' := V.heap.size) (O5.out.only k6 R5.out (by decide)) (by have := HS.out; omega), k6.bel B5.out (by omega)⟩)
  | true =>
  go_wp2_with fail
  refine (HN.out _ _).mono ?_
  rintro e w5 ⟨rfl, rfl⟩
  cases ns : isNum now with
  | false =>
    have hbb : openB c kind key now = false := by simp [openB, oneB, ns]
    have E_1 := Lib.hid (show openC c kind key now = c by simp [openC, hbb])
    have E_2 := Lib.hid (show openI c kind key now = 0 by simp [openI, hbb])
    have E_3 := Lib.hid (show openE c kind key now = 2 by simp [openE, hbb])
    clear hbb
    obtain ⟨r0, r1, r2⟩ := cells3 R5.out
    have z0 := R5.out.frozen 0
    have z1 := R5.out.frozen 1
    have z2 := R5.out.frozen 2
    go_wp2_with fail
    obtain ⟨e6, k6⟩ := put3 R5.out (.int .i64 c.ep) (.int .i64 c.nx) (.slice A2 c.l.length k2)
    obtain ⟨y0, y1, y2⟩ := cells3 e6
    exact bodyPost_ret (v := .tuple #[.agg #[.int .i64 c.ep, .int .i64 c.nx, .slice A2 c.l.length k2], .int .i64 0, .int .i64 2]) (by simp [results, Try.results11, go_sem, y0, y1, y2]) rfl (by rw [E_1.out, E_2.out, E_3.out]; exact ⟨A2, k2, rfl, CallsAt.weaker (base := w.heap.size) (base' := V.heap.size) (O5.out.only k6 R5.out (by decide)) (by have := HS.out; omega), k6.bel B5.out (by omega)⟩)
  | true =>
  go_wp2_with fail
  refine (rhas_any c A2 c.l.length k2 kind key w5.heap.size w5 O5.out.read (Nat.le_refl _) HLn.out).mono ?_
  rintro e w7 ⟨rfl, q7⟩
  have E7 := Lib.hid (E5.out.under q7)
  have R7 := Lib.hid (R5.out.under q7)
  have O7 := Lib.hid (O5.out.under q7)
  have B7 := Lib.hid (B5.out.trans (q7.mono B5.out.size))
  have S7 := Lib.hid (Nat.le_trans S5.out q7.size)
  clear c0 c1 c2 q7
  obtain ⟨c0, c1, c2⟩ := cells3 E7.out
  clear E5 R5 O5 B5 S5
  cases hh : hasC c kind key with
  | true =>
    have hbb : openB c kind key now = false := by simp [openB, oneB, hh]
    have E_1 := Lib.hid (show openC c kind key now = c by simp [openC, hbb])
    have E_2 := Lib.hid (show openI c kind key now = 0 by simp [openI, hbb])
    have E_3 := Lib.hid (show openE c kind key now = 2 by simp [openE, hbb])
    clear hbb
    obtain ⟨r0, r1, r2⟩ := cells3 R7.out
    have z0 := R7.out.frozen 0
    have z1 := R7.out.frozen 1
    have z2 := R7.out.frozen 2
    go_wp2_with fail
    obtain ⟨e6, k6⟩ := put3 R7.out (.int .i64 c.ep) (.int .i64 c.nx) (.slice A2 c.l.length k2)
    obtain ⟨y0, y1, y2⟩ := cells3 e6
    exact bodyPost_ret (v := .tuple #[.agg #[.int .i64 c.ep, .int .i64 c.nx, .slice A2 c.l.length k2], .int .i64 0, .int .i64 2]) (by simp [results, Try.results11, go_sem, y0, y1, y2]) rfl (by rw [E_1.out, E_2.out, E_3.out]; exact ⟨A2, k2, rfl, CallsAt.weaker (base := w.heap.size) (base' := V.heap.size) (O7.out.only k6 R7.out (by decide)) (by have := HS.out; omega), k6.bel B7.out (by omega)⟩)
  | false =>
  have hbb : openB c kind key now = true := by simp [openB, oneB, hrc, kb, nk, ns, hh]
  obtain ⟨r0, r1, r2⟩ := cells3 R7.out
  have z0 := R7.out.frozen 0
  have z1 := R7.out.frozen 1
  have z2 := R7.out.frozen 2
  by_cases hx : c.nx = 1048576
  · have E_1 := Lib.hid (show openC c kind key now = c by simp [openC, hbb, hx])
    have E_2 := Lib.hid (show openI c kind key now = 0 by simp [openI, hbb, hx])
    have E_3 := Lib.hid (show openE c kind key now = 241 by simp [openE, hbb, hx])
    have q1 : (c.nx == (1048576 : Int)) = true := by simp [hx]
    clear hbb hx
    go_wp2_with fail
    obtain ⟨e6, k6⟩ := put3 R7.out (.int .i64 c.ep) (.int .i64 c.nx) (.slice A2 c.l.length k2)
    obtain ⟨y0, y1, y2⟩ := cells3 e6
    exact bodyPost_ret (v := .tuple #[.agg #[.int .i64 c.ep, .int .i64 c.nx, .slice A2 c.l.length k2], .int .i64 0, .int .i64 241]) (by simp [results, Try.results11, go_sem, y0, y1, y2]) rfl (by rw [E_1.out, E_2.out, E_3.out]; exact ⟨A2, k2, rfl, CallsAt.weaker (base := w.heap.size) (base' := V.heap.size) (O7.out.only k6 R7.out (by decide)) (by have := HS.out; omega), k6.bel B7.out (by omega)⟩)
  · have E_1 := Lib.hid (show openC c kind key now = moreC c kind key now by simp [openC, hbb, hx])
    have E_2 := Lib.hid (show openI c kind key now = c.ep * 1048576 + c.nx by simp [openI, hbb, hx])
    have E_3 := Lib.hid (show openE c kind key now = 0 by simp [openE, hbb, hx])
    have q1 : (c.nx == (1048576 : Int)) = false := by simp [hx]
    have hright := (openB_iff.1 hbb).1
    have hel := hright.el
    have heh := hright.eh
    have hnl := hright.nl
    have hnh := hright.nh
    have hwm := wrapI_mid (n := c.ep * 1048576) (by omega) (by omega)
    have hwr := wrapI_mid (n := c.ep * 1048576 + c.nx) (by omega) (by omega)
    have hwn := wrapI_mid (n := c.nx + 1) (by omega) (by omega)
    have y1 := E7.out.frozen 1
    clear hbb hx hright hel heh hnl hnh
    go_upto_region 8 with fail
    have hc8 := E7.out.set 1 (.int .i64 (c.nx + 1))
    simp only [List.setIfInBounds_toArray, List.set_cons_zero, List.set_cons_succ] at hc8
    have ko := Only.set w7 w.heap.size 1 (.int .i64 (c.nx + 1))
    have hr8 := ko.far R7.out (by omega)
    have ho8 := Only.ownB ko O7.out (by have := HS.out; omega)
    have hb8 := ko.bel B7.out (Nat.le_refl _)
    have hs8 : V.heap.size ≤ (w7.setCell ⟨w.heap.size, 1, none⟩ (.int .i64 (c.nx + 1))).heap.size := by rw [ko.size]; exact S7.out
    refine wp_at (fun Y hY => ?_)
    rw [hY] at hc8 hr8 ho8 hb8 hs8
    clear hY ko c0 c1 c2 r0 r1 r2 z0 z1 z2 y1 hwm hwr hwn q1
    obtain ⟨A3, k3, W9, hrun, ho9, hb9, _, _, _⟩ := calls_put Y V.heap.size _ _ ho8 ⟨c.ep * 1048576 + c.nx, kind, key, now⟩ HLn.out hs8
    have hc9 : Whole W9 w.heap.size 24 #[.int .i64 c.ep, .int .i64 (c.nx + 1), .slice A2 c.l.length k2] := hc8.below hb9 (by have := HS.out; omega)
    have hr9 : Whole W9 (w.heap.size + 1) 24 #[.int .i64 0, .int .i64 0, .slice none 0 0] := hr8.below hb9 (by have := HS.out; omega)
    have HB9 := Lib.hid (hb8.trans (hb9.mono (by have := HS.out; omega)))
    have HO9 := Lib.hid ho9
    have HRun := Lib.hid hrun
    have HC9 := Lib.hid hc9
    have HR9 := Lib.hid hr9
    obtain ⟨c0, c1, c2⟩ := cells3 hc8
    obtain ⟨d0, d1, d2⟩ := cells3 hc9
    have y2 := hc9.frozen 2
    obtain ⟨r0, r1, r2⟩ := cells3 hr9
    have z0 := hr9.frozen 0
    have z1 := hr9.frozen 1
    have z2 := hr9.frozen 2
    clear hc8 hr8 ho8 hb8 hs8 hrun ho9 hb9 hc9 hr9
    go_wp2_with (at_builtin; refine wpList_app (by rfl) _ _ 22 rfl _ _ _ W9 (by rfl) (by rfl) HRun.out ?_)
    have k10 := Only.set W9 w.heap.size 2 (.slice A3 (c.l.length + 1) k3)
    have hr10 := k10.far HR9.out (by omega)
    have ho10 := HO9.out.only k10 HC9.out (by decide)
    obtain ⟨e11, k11⟩ := put3 hr10 (.int .i64 c.ep) (.int .i64 (c.nx + 1)) (.slice A3 (c.l.length + 1) k3)
    have ho11 := ho10.only k11 hr10 (by decide)
    have hb11 := k11.bel (k10.bel HB9.out (Nat.le_refl _)) (by omega)
    obtain ⟨t0, t1, t2⟩ := cells3 e11
    refine bodyPost_ret (v := .tuple #[.agg #[.int .i64 c.ep, .int .i64 (c.nx + 1), .slice A3 (c.l.length + 1) k3], .int .i64 (c.ep * 1048576 + c.nx), .int .i64 0]) (by simp [results, Try.results11, go_sem, t0, t1, t2]) rfl (by rw [E_1.out, E_2.out, E_3.out]; exact ⟨A3, k3, by simp [moreC], by rw [show (moreC c kind key now).l.length = c.l.length + 1 by simp [moreC]]; exact CallsAt.weaker (base := w.heap.size) (base' := V.heap.size) ho11 (by have := HS.out; omega), hb11⟩)

end Go.Proofs.Ytgajnmjifhemgaa
