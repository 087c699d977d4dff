/-
  The walk of the statement 'RecordBack': it answers true, and nothing that was there turns. Conditions: none.
-/
import Derived.Test.YtcgfakpolfopnaaRecApart
namespace Go.Proofs.Ytcgfakpolfopnaa
open Go.RowKit Go.Shelf

theorem ints_nats {k : Nat} {zs : List Int} (h : mayB k zs = true) : ints (nats zs) = zs := by
  have h1 := (mayB_nums h).2.2
  have h2 : ints (nats ((k : Int) :: zs)) = (k : Int) :: ints (nats zs) := by simp [ints, nats]
  rw [h2] at h1
  exact (List.cons.inj h1).2
theorem taken_recB {k : Nat} {zs : List Int} (h : mayB k zs = true) (rest : List Nat) : takenRec (recB k zs ++ rest) = if rest = [] then some (k, nats zs) else none := by
  obtain ⟨a1, a2, _⟩ := mayB_nums h
  have e1 := takeRow_row a1 a2 rest
  have e2 : behindRow (row (nats ((k : Int) :: zs)) ++ rest) = rest := by rw [behindRow, e1, if_pos rfl]; exact List.drop_left
  rw [recB, takenRec, e1, e2]
  by_cases hr : rest = []
  · rw [if_pos ⟨rfl, hr⟩, if_pos hr]
    have e3 : nats ((k : Int) :: zs) = k :: nats zs := by simp [nats]
    rw [e3]
    simp only [takenL]
    rw [if_pos ⟨(mayB_kind h).2, by rw [ints_nats h]; exact h⟩]
  · rw [if_neg (fun hh => hr hh.2), if_neg hr]
theorem taken_cut {k : Nat} {zs : List Int} (h : mayB k zs = true) : takenRec ((recB k zs).take ((recB k zs).length - 1)) = none := by
  obtain ⟨a1, a2, _⟩ := mayB_nums h
  have h1 := takeRow_cut a1 a2 (k := (row (nats ((k : Int) :: zs))).length - 1) (by have := row_pos (nats ((k : Int) :: zs)); omega)
  rw [takenRec, recB, h1, if_neg (fun hh => absurd hh.1 (by decide))]

set_option maxRecDepth 100000 in
set_option maxHeartbeats 800000 in
theorem recBack_out (k : Nat) (A : Option Addr) (n c : Nat) (zs : List Int) (by_ : Nat) (w : World) (hk : k < 256) (hr : Rd w w.heap.size A n (iv zs)) (h : greatB [⟨k, A, n, c, zs⟩] = true) :
    Calls Try.prog 4 #[.agg #[.int .u8 (k : Int), .slice A n c], .int .u8 (by_ : Int)] w (TruePost w) := by
  have hb1 : Below w.heap.size w (w.alloc (.cells #[.int .u8 (k : Int), .slice A n c] 24)) := (Below.refl _ w).alloc (Nat.le_refl _) _
  have HG := Lib.hid (great_any (some ⟨w.heap.size + 1, 0, none⟩) 1 1 [⟨k, A, n, c, zs⟩] _ _ (rdR_one (w.alloc (.cells #[.int .u8 (k : Int), .slice A n c] 24)) ⟨k, A, n, c, zs⟩ w.heap.size hb1.size hk (hr.below hb1) (w.heap.size + 1) (by simp)))
  have HB2 := Lib.hid (hb1.alloc hb1.size (.cells #[.int .u8 (k : Int), .slice A n c] 24))
  rw [h] at HG
  clear hr hb1 h
  go_enter Try.func4, Try.ntmps4
  go_wp2_with fail
  refine (HG.out).mono ?_
  rintro e w1 ⟨rfl, rfl⟩
  go_wp2_with fail
  refine (wakes_any _).mono ?_
  rintro e w2 ⟨rfl, b2⟩
  have B2 := Lib.hid (HB2.out.trans (b2.mono HB2.out.size))
  clear b2
  go_wp2_with fail
  go_ret
  exact ⟨rfl, B2.out⟩

set_option maxRecDepth 100000 in
set_option maxHeartbeats 800000 in
theorem recBack_no (k : Nat) (A : Option Addr) (n c : Nat) (zs : List Int) (by_ : Nat) (w : World) (hk : k < 256) (hr : Rd w w.heap.size A n (iv zs)) (h : greatB [⟨k, A, n, c, zs⟩] = false) (hm : mayB k zs = false) :
    Calls Try.prog 4 #[.agg #[.int .u8 (k : Int), .slice A n c], .int .u8 (by_ : Int)] w (TruePost w) := by
  have hb1 : Below w.heap.size w (w.alloc (.cells #[.int .u8 (k : Int), .slice A n c] 24)) := (Below.refl _ w).alloc (Nat.le_refl _) _
  have HG := Lib.hid (great_any (some ⟨w.heap.size + 1, 0, none⟩) 1 1 [⟨k, A, n, c, zs⟩] _ _ (rdR_one (w.alloc (.cells #[.int .u8 (k : Int), .slice A n c] 24)) ⟨k, A, n, c, zs⟩ w.heap.size hb1.size hk (hr.below hb1) (w.heap.size + 1) (by simp)))
  have HB2 := Lib.hid (hb1.alloc hb1.size (.cells #[.int .u8 (k : Int), .slice A n c] 24))
  have HX := Lib.hid ((Whole.new w 24 #[.int .u8 (k : Int), .slice A n c]).alloc (.cells #[.int .u8 (k : Int), .slice A n c] 24))
  rw [h] at HG
  have HR := Lib.hid hr
  have HM := Lib.hid hm
  clear hr hb1 h hm
  go_enter Try.func4, Try.ntmps4
  go_wp2_with fail
  refine (HG.out).mono ?_
  rintro e w1 ⟨rfl, rfl⟩
  go_wp2_with fail
  refine (putRec_no k hk A n c zs w.heap.size _ (HR.out.below HB2.out) HB2.out.size HM.out).mono ?_
  rintro e w2 ⟨rfl, b2⟩
  have B2 := Lib.hid (HB2.out.trans (b2.mono HB2.out.size))
  have X2 := Lib.hid (HX.out.under b2)
  have q0 := X2.out.cell 0
  have q1 := X2.out.cell 1
  simp only [List.getElem?_toArray, List.getElem?_cons_zero, List.getElem?_cons_succ] at q0 q1
  clear b2
  go_wp2_with fail
  refine (refRight_any k A n c zs w.heap.size _ (HR.out.below B2.out) B2.out.size).mono ?_
  rintro e w3 ⟨rfl, b3⟩
  rw [HM.out]
  have B3 := Lib.hid (B2.out.trans (b3.mono B2.out.size))
  have X3 := Lib.hid (X2.out.under b3)
  have p0 := X3.out.cell 0
  have p1 := X3.out.cell 1
  simp only [List.getElem?_toArray, List.getElem?_cons_zero, List.getElem?_cons_succ] at p0 p1
  clear b3 q0 q1
  go_wp2_with fail
  refine (right_rec k hk A n c zs w.heap.size _ (HR.out.below B3.out) B3.out.size).mono ?_
  rintro e w4 ⟨rfl, b4⟩
  rw [HM.out]
  have B4 := Lib.hid (B3.out.trans (b4.mono B3.out.size))
  clear b4 p0 p1
  go_wp2_with fail
  refine (wakes_any _).mono ?_
  rintro e w5 ⟨rfl, b5⟩
  have B5 := Lib.hid (B4.out.trans (b5.mono B4.out.size))
  clear b5
  go_wp2_with fail
  go_ret
  exact ⟨rfl, B5.out⟩

set_option maxRecDepth 100000 in
set_option maxHeartbeats 2000000 in
theorem recBack_yes (k : Nat) (A : Option Addr) (n c : Nat) (zs : List Int) (by_ : Nat) (w : World) (hk : k < 256) (hby : by_ < 256) (hr : Rd w w.heap.size A n (iv zs)) (h : greatB [⟨k, A, n, c, zs⟩] = false) (hm : mayB k zs = true) :
    Calls Try.prog 4 #[.agg #[.int .u8 (k : Int), .slice A n c], .int .u8 (by_ : Int)] w (TruePost w) := by
  have hb1 : Below w.heap.size w (w.alloc (.cells #[.int .u8 (k : Int), .slice A n c] 24)) := (Below.refl _ w).alloc (Nat.le_refl _) _
  have HG := Lib.hid (great_any (some ⟨w.heap.size + 1, 0, none⟩) 1 1 [⟨k, A, n, c, zs⟩] _ _ (rdR_one (w.alloc (.cells #[.int .u8 (k : Int), .slice A n c] 24)) ⟨k, A, n, c, zs⟩ w.heap.size hb1.size hk (hr.below hb1) (w.heap.size + 1) (by simp)))
  have HB2 := Lib.hid (hb1.alloc hb1.size (.cells #[.int .u8 (k : Int), .slice A n c] 24))
  have HX := Lib.hid ((Whole.new w 24 #[.int .u8 (k : Int), .slice A n c]).alloc (.cells #[.int .u8 (k : Int), .slice A n c] 24))
  have hn60 : n ≤ 60 := (greatB_no h).2 ⟨k, A, n, c, zs⟩ (by simp)
  rw [h] at HG
  have HR := Lib.hid hr
  have HM := Lib.hid hm
  obtain ⟨hpl, hpl2⟩ := recB_len hm
  have hT0 := taken_recB hm []
  have hT1 := taken_recB hm [by_]
  have hT2 := taken_cut hm
  rw [List.append_nil, if_pos rfl] at hT0
  rw [if_neg (by simp)] at hT1
  have hin := ints_nats hm
  have hPb := recB_bytes k zs
  have HPut := Lib.hid (fun (W : World) (hW : Below w.heap.size w W) => putRec_yes k A n c zs w.heap.size W (hr.below hW) hW.size hm)
  obtain ⟨P, hP⟩ : ∃ P, recB k zs = P := ⟨_, rfl⟩
  rw [hP] at hpl hpl2 hT0 hT1 hT2 hPb HPut
  have HT0 := Lib.hid hT0
  have HT1 := Lib.hid hT1
  have HT2 := Lib.hid hT2
  have HIN := Lib.hid hin
  have HPb := Lib.hid hPb
  clear hr hb1 h hm hT0 hT1 hT2 hin hP hPb
  go_enter Try.func4, Try.ntmps4
  go_wp2_with fail
  refine (HG.out).mono ?_
  rintro e w1 ⟨rfl, rfl⟩
  go_wp2_with fail
  refine (HPut.out _ HB2.out).mono ?_
  rintro e w2 ⟨A2, c2, rfl, I2⟩
  have R2 := I2.rd
  have hc2 := I2.cap
  have B2 := Lib.hid (HB2.out.trans (I2.2.1.mono HB2.out.size))
  have X2 := Lib.hid (HX.out.under I2.2.1)
  have q0 := X2.out.cell 0
  have q1 := X2.out.cell 1
  simp only [List.getElem?_toArray, List.getElem?_cons_zero, List.getElem?_cons_succ] at q0 q1
  clear I2
  go_wp2_with fail
  refine (refRight_any k A n c zs w.heap.size _ (HR.out.below B2.out) B2.out.size).mono ?_
  rintro e w3 ⟨rfl, b3⟩
  rw [HM.out]
  have B3 := Lib.hid (B2.out.trans (b3.mono B2.out.size))
  have X3 := Lib.hid (X2.out.under b3)
  have R3 := (R2.below b3).more b3.size
  clear b3 q0 q1 R2 X2
  go_wp2_with fail
  have hTk : Calls Try.prog 13 #[.slice A2 P.length c2] w3 (YesRec k (ints (nats zs)) w3) := takeRec_is A2 P.length c2 P _ w3 R3 (Nat.le_refl _) HPb.out (by omega) hc2 HT0.out
  rw [HIN.out] at hTk
  refine hTk.mono ?_
  rintro e w4 ⟨A4, c4, rfl, o4, b4⟩
  have B4 := Lib.hid (B3.out.trans (b4.mono B3.out.size))
  have X4 := Lib.hid (X3.out.under b4)
  have R4 := (R3.below b4).more b4.size
  have S4 := Rd.of_own o4
  have x4 := X4.out.alloc (.cells #[.int .u8 (k : Int), .slice A4 zs.length c4] 24)
  have q0 := x4.cell 0
  have q1 := x4.cell 1
  simp only [List.getElem?_toArray, List.getElem?_cons_zero, List.getElem?_cons_succ] at q0 q1
  clear b4 hTk R3 X3 o4 x4
  go_wp2_with fail
  have hSm := refSame_any k k A4 A zs.length c4 n c zs zs w4.heap.size w.heap.size (w4.alloc (.cells #[.int .u8 (k : Int), .slice A4 zs.length c4] 24)) (S4.alloc (Nat.le_refl _) _) ((HR.out.below B4.out).alloc B4.out.size _) (by simp) (by have := B4.out.size; simp; omega) (by have := HR.out.1; rw [iv_length] at this; omega)
  rw [show sameB k zs k zs = true by simp [sameB]] at hSm
  refine hSm.mono ?_
  rintro e w5 ⟨rfl, b5⟩
  have b5' : Below w4.heap.size w4 w5 := ((Below.refl _ w4).alloc (Nat.le_refl _) _).trans (b5.mono (by simp))
  have B5 := Lib.hid (B4.out.trans (b5'.mono B4.out.size))
  have R5 := (R4.below b5').more b5'.size
  clear hSm b5 b5' R4 S4 q0 q1 X4
  obtain ⟨v1, W1, e1, o1, g1⟩ := run_app (w5.alloc (.cells #[] 5)) w5.heap.size (.slice (some ⟨w5.heap.size, 0, none⟩) 0 0) 0 [] (World.ownsRow_made w5 #[] 0 (Nat.le_refl _) (Nat.zero_le _) rfl) _ A2 P.length c2 P (R5.alloc (Nat.le_refl _) _) (by omega) (by simp)
  rw [Nat.zero_add, List.nil_append] at o1
  have b1 : Below w5.heap.size w5 W1 := ((Below.refl _ w5).alloc (Nat.le_refl _) _).trans ((Below.refl _ _).grown g1 (by simp) (fun k e => by simp only [Value.ownBlock, Option.some.injEq] at e; omega))
  obtain ⟨v2, W2, e2, o2, g2⟩ := run_app (W1.alloc (.cells #[.int .u8 (by_ : Int)] 5)) w5.heap.size v1 P.length _ (o1.alloc _) (W1.heap.size + 1) (some ⟨W1.heap.size, 0, none⟩) 1 1 [by_] (rd_lit W1 (bv [by_]) 5 1 rfl) (by omega) (by have := b1.size; simp; omega)
  rw [← bv_append] at o2
  obtain ⟨A6, c6, rfl⟩ := own_form o2
  have b2 : Below w5.heap.size w5 W2 := (b1.alloc b1.size _).trans (below_row (o1.alloc _) g2 (by have := b1.size; simp; omega))
  have hc6 := own_cap o2
  have R6 := Rd.of_own o2
  have R5' := (R5.below b2).more b2.size
  have B6 := Lib.hid (B5.out.trans (b2.mono B5.out.size))
  have E1 := Lib.hid e1
  have E2 := Lib.hid e2
  have hsl := fun W => run_less A2 P.length c2 (by omega) hc2 W
  clear e1 e2 o1 o2 g1 g2 b1 b2 R5
  go_wp2_with (first | (at_builtin; refine wpList_app (by rfl) _ _ _ rfl _ _ _ _ rfl rfl E1.out ?_; clear E1) | (at_builtin; refine wpList_app (by rfl) _ _ _ rfl _ _ _ _ rfl rfl E2.out ?_; clear E2))
  have hTk6 : Calls Try.prog 13 #[.slice A6 (P.length + 1) c6] W2 (NoRec W2) := takeRec_is A6 (P.length + 1) c6 (P ++ [by_]) _ W2 R6 (Nat.le_refl _) (by intro x hx; simp only [List.mem_append, List.mem_singleton] at hx; rcases hx with hx | rfl; exact HPb.out x hx; exact hby) (by omega) hc6 HT1.out
  refine hTk6.mono ?_
  rintro e w7 ⟨rfl, b7⟩
  have R7 := (R5'.below b7).more b7.size
  have B7 := Lib.hid (B6.out.trans (b7.mono B6.out.size))
  have R7' := (R7.take (k := P.length - 1) (by omega)).alloc (Nat.le_refl _) (.cells #[.int .u8 0, .slice none 0 0] 24)
  rw [bv, ← List.map_take] at R7'
  clear hTk6 R6 R5' b7 R7
  have hTk7 : Calls Try.prog 13 #[.slice A2 (P.length - 1) c2] (w7.alloc (.cells #[.int .u8 0, .slice none 0 0] 24)) (NoRec (w7.alloc (.cells #[.int .u8 0, .slice none 0 0] 24))) :=
    takeRec_is A2 (P.length - 1) c2 (P.take (P.length - 1)) _ _ R7' (by simp) (fun x hx => HPb.out x (List.mem_of_mem_take hx)) (by omega) (by omega) HT2.out
  have HTk7 := Lib.hid hTk7
  clear hTk7 R7'
  go_wp2_with fail
  refine (HTk7.out).mono ?_
  rintro e w8 ⟨rfl, b8⟩
  have B8 := Lib.hid ((B7.out.alloc B7.out.size _).trans (b8.mono (by have := B7.out.size; simp; omega)))
  clear b8
  go_wp2_with fail
  refine (wakes_any _).mono ?_
  rintro e w9 ⟨rfl, b9⟩
  have B9 := Lib.hid ((B8.out.alloc B8.out.size _).trans (b9.mono (by have := B8.out.size; simp; omega)))
  clear b9
  go_wp2_with fail
  go_ret
  exact ⟨rfl, B9.out⟩

theorem recBack_walk (k : Nat) (A : Option Addr) (n c : Nat) (zs : List Int) (by_ : Nat) (w : World) (hk : k < 256) (hby : by_ < 256) (hr : Rd w w.heap.size A n (iv zs)) :
    Calls Try.prog 4 #[.agg #[.int .u8 (k : Int), .slice A n c], .int .u8 (by_ : Int)] w (TruePost w) := by
  cases h1 : greatB [⟨k, A, n, c, zs⟩]
  · cases h2 : mayB k zs
    · exact recBack_no k A n c zs by_ w hk hr h1 h2
    · exact recBack_yes k A n c zs by_ w hk hby hr h1 h2
  · exact recBack_out k A n c zs by_ w hk hr h1

end Go.Proofs.Ytcgfakpolfopnaa
