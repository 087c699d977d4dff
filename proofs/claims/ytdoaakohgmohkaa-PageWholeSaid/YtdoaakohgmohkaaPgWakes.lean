/-
  The walk of the statements' 'wakes' (layer 9). Conditions: those that the theorem names.
-/
import Derived.Test.YtdoaakohgmohkaaPgAll
import Derived.Test.YtdoaakohgmohkaaPgAnswer
import Derived.Test.YtdoaakohgmohkaaPgRising
import Derived.Test.YtdoaakohgmohkaaCdKit
namespace Go.Proofs.Ytdoaakohgmohkaa
open Go.RowKit Go.Shelf

/-- The k-th of the boxes that it makes. -/
def wbx (k : Nat) : Bx := ⟨k, k, 0, 0, ((k : Int) != 2), true, false, true, 0, 0, 0⟩
def wbs (n : Nat) : List Bx := (List.range n).map fun k => wbx (k + 1)
set_option maxRecDepth 100000 in
theorem wbs_succ (n : Nat) : wbs (n + 1) = wbs n ++ [wbx (n + 1)] := by simp [wbs, List.range_succ]
set_option maxRecDepth 100000 in
theorem wbs_length (n : Nat) : (wbs n).length = n := by simp [wbs]
def ws (k : Int) : Sn := ⟨k, k, 0, 0, true, true, false⟩
set_option maxRecDepth 100000 in
theorem wbs_shown : shown (wbs 5) = [ws 1, ws 3, ws 4, ws 5] := by decide
set_option maxRecDepth 100000 in
theorem wbs_right : right ⟨wbs 5, 0, 0, 0, false⟩ = true := by decide

set_option maxRecDepth 100000 in
/-- 'append(l, b)' of one box. -/
theorem run_oneX (w : World) (base : Nat) (A : Option Addr) (n c : Nat) (S : List Bx) (hown : w.ownsRow base 33 11 (.slice A n c) n (flat S)) (x : Bx) (hm : n ≤ 1000) (hbase : base ≤ w.heap.size) (g : Nat) (hg : w.heap.size = g) :
    ∃ A1 c1 w1, (Builtin.append_ #[22, 22] 22 #[.slice A n c, .slice (some ⟨g, 0, none⟩) 1 1]).run Try.prog (w.alloc (.cells #[.int .i64 x.id, .int .i64 x.tok, .int .i64 x.ver, .int .i64 x.zone, .bool x.tag, .bool x.on, .bool x.gone, .bool x.well, .int .u8 x.lb, .int .i64 x.unt, .int .i64 x.fen] 33)) = .ok (.slice A1 (n + 1) c1) w1 ∧
      w1.ownsRow base 33 11 (.slice A1 (n + 1) c1) (n + 1) (flat (S ++ [x])) ∧ Below base w w1 := by
  have hbu : Below w.heap.size w (w.alloc (.cells #[.int .i64 x.id, .int .i64 x.tok, .int .i64 x.ver, .int .i64 x.zone, .bool x.tag, .bool x.on, .bool x.gone, .bool x.well, .int .u8 x.lb, .int .i64 x.unt, .int .i64 x.fen] 33)) := (Below.refl _ _).alloc (Nat.le_refl _) _
  obtain ⟨v1, w1, h1, h2, h3⟩ := run_appX (w.alloc (.cells #[.int .i64 x.id, .int .i64 x.tok, .int .i64 x.ver, .int .i64 x.zone, .bool x.tag, .bool x.on, .bool x.gone, .bool x.well, .int .u8 x.lb, .int .i64 x.unt, .int .i64 x.fen] 33)) base (.slice A n c) n (flat S) (own_under hown hbu) (g + 1) (some ⟨g, 0, none⟩) 1 1 [x] (rdX_one w x g hg) (by omega) (by omega) (by simp; omega)
  rw [← flat_append] at h2
  obtain ⟨A1, c1, rfl⟩ := own_formX h2
  exact ⟨A1, c1, w1, h1, h2, (hbu.mono hbase).trans (below_row (own_under hown hbu) h3 (by simp; omega))⟩

set_option maxRecDepth 100000 in
theorem RdSn.up {W W' : World} {A : Option Addr} {n : Nat} {l : List Sn} (h : RdSn W W.heap.size A n l) (hb : Below W.heap.size W W') : RdSn W' W'.heap.size A n l := (h.below hb).more hb.size
def wS : List Sn := [ws 1, ws 3, ws 4, ws 5]
set_option maxRecDepth 100000 in
theorem wof {b : Int} {P : List Sn} {M : Bool} {k : Nat} (hP : pageOf wS b = P) (hM : moreOf wS b = M) (hk : P.length = k) (W : World) (A : Option Addr) (c : Nat) (hr : RdX W W.heap.size A 5 (wbs 5)) :
    Calls Try.prog 10 #[.agg #[.slice A 5 c, .int .i64 0, .int .i64 0, .int .i64 0, .bool false], .int .i64 b] W fun e w' => ∃ A' c', e = .returned (.tuple #[.slice A' k c', .bool M]) ∧ RdSn w' w'.heap.size A' k P ∧ Below W.heap.size W w' := by
  subst hP; subst hM; subst hk
  have h := of_any A 5 c ⟨wbs 5, 0, 0, 0, false⟩ b W hr (by omega) wbs_right
  rw [show shown (⟨wbs 5, 0, 0, 0, false⟩ : Cw).l = wS from wbs_shown] at h
  refine h.mono ?_
  rintro e w' ⟨A', c', rfl, h2, h3⟩
  exact ⟨A', c', rfl, RdSn.of_own h2, h3⟩
set_option maxRecDepth 100000 in
theorem wall (W : World) (A : Option Addr) (c : Nat) (hr : RdX W W.heap.size A 5 (wbs 5)) :
    Calls Try.prog 14 #[.agg #[.slice A 5 c, .int .i64 0, .int .i64 0, .int .i64 0, .bool false]] W fun e w' => ∃ A' c', e = .returned (.slice A' 4 c') ∧ Below W.heap.size W w' := by
  have h := all_any A 5 c ⟨wbs 5, 0, 0, 0, false⟩ W hr (by omega) wbs_right
  rw [show shown (⟨wbs 5, 0, 0, 0, false⟩ : Cw).l = wS from wbs_shown] at h
  refine h.mono ?_
  rintro e w' ⟨A', c', rfl, h2, h3⟩
  exact ⟨A', c', rfl, h3⟩
set_option maxRecDepth 100000 in
theorem wanswer (W : World) (A : Option Addr) (c : Nat) (hr : RdX W W.heap.size A 5 (wbs 5)) :
    Calls Try.prog 16 #[.agg #[.slice A 5 c, .int .i64 0, .int .i64 0, .int .i64 0, .bool false], .agg #[.int .u8 7, .int .i64 7, .int .i64 1, .int .i64 0, .int .i64 0, .int .i64 0]] W fun e w' => ∃ A' c', e = .returned (.agg #[.int .i64 7, .int .u8 7, .int .u8 1, .int .i64 1, .slice A' 3 c', .bool false]) ∧ Below W.heap.size W w' := by
  have h := answer_any A 5 c ⟨wbs 5, 0, 0, 0, false⟩ 7 1 0 0 0 W hr (by omega) wbs_right
  rw [show shown (⟨wbs 5, 0, 0, 0, false⟩ : Cw).l = wS from wbs_shown] at h
  refine h.mono ?_
  rintro e w' ⟨A', c', rfl, h2, h3⟩
  exact ⟨A', c', rfl, h3⟩
set_option maxRecDepth 100000 in
/-- Two pages, laid in a literal. -/
theorem rdP_two {W : World} {A1 A2 : Option Addr} {n1 c1 n2 c2 : Nat} {P Q : List Sn} (h1 : RdSn W W.heap.size A1 n1 P) (h2 : RdSn W W.heap.size A2 n2 Q) :
    RdPw (W.alloc (.cells #[.slice A1 n1 c1, .slice A2 n2 c2] 28)) (some ⟨W.heap.size, 0, none⟩) 2 [⟨A1, n1, c1, P⟩, ⟨A2, n2, c2, Q⟩] := by
  have hb : Below W.heap.size W (W.alloc (.cells #[.slice A1 n1 c1, .slice A2 n2 c2] 28)) := (Below.refl _ _).alloc (Nat.le_refl _) _
  have hw := Whole.new W 28 #[.slice A1 n1 c1, .slice A2 n2 c2]
  refine ⟨rfl, fun _ => ⟨W.heap.size, 0, rfl, by simp, ?_⟩, ?_⟩
  · rintro (_ | _ | j) x hx
    · simp only [List.getElem?_cons_zero, Option.some.injEq] at hx
      subst hx; exact hw.cell 0
    · simp only [List.getElem?_cons_succ, List.getElem?_cons_zero, Option.some.injEq] at hx
      subst hx; exact hw.cell 1
    · simp at hx
  · intro x hx
    simp only [List.mem_cons, List.not_mem_nil, or_false] at hx
    rcases hx with rfl | rfl
    · exact RdG.of (h1.below hb) (fun k hk => by simp; omega)
    · exact RdG.of (h2.below hb) (fun k hk => by simp; omega)

set_option maxRecDepth 100000 in
set_option maxHeartbeats 8000000 in
theorem wakes_any (w : World) : Calls Try.prog 9 #[] w (WakePost w) := by
  have H0 := Lib.hid (of_any none 0 0 ⟨[], 0, 0, 0, false⟩ 0 w (RdX.nil_ _ _ _) (by omega) (by decide))
  have K1 := Lib.hid (wof (b := 0) (P := [ws 1, ws 3, ws 4]) (M := true) (k := 3) (by decide) (by decide) rfl)
  have K2 := Lib.hid (wof (b := 4) (P := [ws 5]) (M := false) (k := 1) (by decide) (by decide) rfl)
  go_enter Try.func9, Try.ntmps9
  go_wp2_with fail
  refine H0.out.mono ?_
  rintro e w1 ⟨A1, c1, rfl, _, hb1⟩
  simp only [show shown (⟨[], 0, 0, 0, false⟩ : Cw).l = [] from rfl, show pageOf [] 0 = [] from rfl, show moreOf [] 0 = false from rfl, List.length_nil]
  have HB := Lib.hid hb1
  clear hb1 H0
  go_wp2_with fail
  have one := whole_one (W := w1) (t := 24) (x := #[.slice none 0 0, .int .i64 0, .int .i64 0, .int .i64 0, .bool false])
  go_loopw [4] (fun i wr => ∃ (j k : Nat) (A : Option Addr) (c : Nat), i = .int .i64 (k : Int) ∧ k = j + 1 ∧ j ≤ 5 ∧ Whole wr w1.heap.size 24 #[.slice A j c, .int .i64 0, .int .i64 0, .int .i64 0, .bool false] ∧ wr.ownsRow (w1.heap.size + 1) 33 11 (.slice A j c) j (flat (wbs j)) ∧ Below w1.heap.size w1 wr ∧ w1.heap.size + 1 ≤ wr.heap.size) (fun i _ => 7 - (intOf i).toNat)
  case atStart => exact ⟨0, 1, none, 0, rfl, rfl, by omega, one.1, World.ownsRow_nil _ _ _ _, one.2, by simp⟩
  case round =>
    clear one
    obtain ⟨j, k, A, c, rfl, hkj, hk, hC, hO, hb, hs⟩ := hrel
    by_cases h5 : j = 5
    · subst h5
      subst hkj
      have c0 := hC.cell 0
      have c1 := hC.cell 1
      have c2 := hC.cell 2
      have c3 := hC.cell 3
      have c4 := hC.cell 4
      simp only [List.getElem?_toArray, List.getElem?_cons_zero, List.getElem?_cons_succ] at c0 c1 c2 c3 c4
      have HC := Lib.hid hC
      have HR := Lib.hid (RdX.of_own hO)
      have HBr := Lib.hid (HB.out.trans (hb.mono HB.out.size))
      clear hC hO hb hs hk HB
      go_wp2_with fail
      clear c0 c1 c2 c3 c4
      refine (K1.out _ _ _ HR.out).mono ?_
      rintro e y1 ⟨A3, c3, rfl, r, b⟩
      have HC_ := Lib.hid (HC.out.under b)
      have HR_ := Lib.hid (HR.out.up b)
      have HBr_ := Lib.hid (HBr.out.trans (b.mono HBr.out.size))
      clear HC HR HBr
      have HC := HC_
      have HR := HR_
      have HBr := HBr_
      clear HC_ HR_ HBr_
      have P := Lib.hid r
      clear r b K1
      have vHC_0 := HC.out.cell 0
      have vHC_1 := HC.out.cell 1
      have vHC_2 := HC.out.cell 2
      have vHC_3 := HC.out.cell 3
      have vHC_4 := HC.out.cell 4
      simp only [List.getElem?_toArray, List.getElem?_cons_zero, List.getElem?_cons_succ] at vHC_0 vHC_1 vHC_2 vHC_3 vHC_4
      go_wp2_with fail
      refine (K2.out _ _ _ HR.out).mono ?_
      rintro e y2 ⟨A4, c4, rfl, r, b⟩
      clear vHC_0 vHC_1 vHC_2 vHC_3 vHC_4
      have HC_ := Lib.hid (HC.out.under b)
      have HR_ := Lib.hid (HR.out.up b)
      have HBr_ := Lib.hid (HBr.out.trans (b.mono HBr.out.size))
      have P_ := Lib.hid (P.out.up b)
      clear HC HR HBr P
      have HC := HC_
      have HR := HR_
      have HBr := HBr_
      have P := P_
      clear HC_ HR_ HBr_ P_
      have Q := Lib.hid r
      clear r b K2
      have vHC_0 := HC.out.cell 0
      have vHC_1 := HC.out.cell 1
      have vHC_2 := HC.out.cell 2
      have vHC_3 := HC.out.cell 3
      have vHC_4 := HC.out.cell 4
      simp only [List.getElem?_toArray, List.getElem?_cons_zero, List.getElem?_cons_succ] at vHC_0 vHC_1 vHC_2 vHC_3 vHC_4
      go_wp2_with fail
      refine (wanswer _ _ _ HR.out).mono ?_
      rintro e y3 ⟨A5, c5, rfl, b⟩
      clear vHC_0 vHC_1 vHC_2 vHC_3 vHC_4
      have HC_ := Lib.hid (HC.out.under b)
      have HR_ := Lib.hid (HR.out.up b)
      have HBr_ := Lib.hid (HBr.out.trans (b.mono HBr.out.size))
      have P_ := Lib.hid (P.out.up b)
      have Q_ := Lib.hid (Q.out.up b)
      clear HC HR HBr P Q
      have HC := HC_
      have HR := HR_
      have HBr := HBr_
      have P := P_
      have Q := Q_
      clear HC_ HR_ HBr_ P_ Q_
      clear b
      have one := whole_one (W := y3) (t := 43) (x := #[.int .i64 7, .int .u8 7, .int .u8 1, .int .i64 1, .slice A5 3 c5, .bool false])
      have HC_ := Lib.hid (HC.out.under one.2)
      have HR_ := Lib.hid (HR.out.up one.2)
      have HBr_ := Lib.hid (HBr.out.trans (one.2.mono HBr.out.size))
      have P_ := Lib.hid (P.out.up one.2)
      have Q_ := Lib.hid (Q.out.up one.2)
      clear HC HR HBr P Q
      have HC := HC_
      have HR := HR_
      have HBr := HBr_
      have P := P_
      have Q := Q_
      clear HC_ HR_ HBr_ P_ Q_
      have T := Lib.hid one.1
      clear one
      have vHC_0 := HC.out.cell 0
      have vHC_1 := HC.out.cell 1
      have vHC_2 := HC.out.cell 2
      have vHC_3 := HC.out.cell 3
      have vHC_4 := HC.out.cell 4
      simp only [List.getElem?_toArray, List.getElem?_cons_zero, List.getElem?_cons_succ] at vHC_0 vHC_1 vHC_2 vHC_3 vHC_4
      have vT_0 := T.out.cell 0
      have vT_1 := T.out.cell 1
      have vT_2 := T.out.cell 2
      have vT_3 := T.out.cell 3
      have vT_4 := T.out.cell 4
      have vT_5 := T.out.cell 5
      simp only [List.getElem?_toArray, List.getElem?_cons_zero, List.getElem?_cons_succ] at vT_0 vT_1 vT_2 vT_3 vT_4 vT_5
      have e3 := P.out.2 (by omega)
      obtain ⟨pb, poff, rfl, _, hpc⟩ := e3
      have p2 := (hpc 2 (ws 4) rfl).c0
      simp only [ws] at p2
      clear hpc
      go_wp2_with fail
      refine (wall _ _ _ HR.out).mono ?_
      rintro e y4 ⟨A6, c6, rfl, b⟩
      clear vHC_0 vHC_1 vHC_2 vHC_3 vHC_4 vT_0 vT_1 vT_2 vT_3 vT_4 vT_5
      have HC_ := Lib.hid (HC.out.under b)
      have HR_ := Lib.hid (HR.out.up b)
      have HBr_ := Lib.hid (HBr.out.trans (b.mono HBr.out.size))
      have P_ := Lib.hid (P.out.up b)
      have Q_ := Lib.hid (Q.out.up b)
      have T_ := Lib.hid (T.out.under b)
      clear HC HR HBr P Q T
      have HC := HC_
      have HR := HR_
      have HBr := HBr_
      have P := P_
      have Q := Q_
      have T := T_
      clear HC_ HR_ HBr_ P_ Q_ T_
      clear b
      clear p2
      have vHC_0 := HC.out.cell 0
      have vHC_1 := HC.out.cell 1
      have vHC_2 := HC.out.cell 2
      have vHC_3 := HC.out.cell 3
      have vHC_4 := HC.out.cell 4
      simp only [List.getElem?_toArray, List.getElem?_cons_zero, List.getElem?_cons_succ] at vHC_0 vHC_1 vHC_2 vHC_3 vHC_4
      have vT_0 := T.out.cell 0
      have vT_1 := T.out.cell 1
      have vT_2 := T.out.cell 2
      have vT_3 := T.out.cell 3
      have vT_4 := T.out.cell 4
      have vT_5 := T.out.cell 5
      simp only [List.getElem?_toArray, List.getElem?_cons_zero, List.getElem?_cons_succ] at vT_0 vT_1 vT_2 vT_3 vT_4 vT_5
      go_wp2_with fail
      refine (next_any _ 3 _ [ws 1, ws 3, ws 4] 0 _ P.out (by omega)).mono ?_
      rintro e y5 ⟨rfl, b⟩
      clear vHC_0 vHC_1 vHC_2 vHC_3 vHC_4 vT_0 vT_1 vT_2 vT_3 vT_4 vT_5
      have HC_ := Lib.hid (HC.out.under b)
      have HR_ := Lib.hid (HR.out.up b)
      have HBr_ := Lib.hid (HBr.out.trans (b.mono HBr.out.size))
      have P_ := Lib.hid (P.out.up b)
      have Q_ := Lib.hid (Q.out.up b)
      have T_ := Lib.hid (T.out.under b)
      clear HC HR HBr P Q T
      have HC := HC_
      have HR := HR_
      have HBr := HBr_
      have P := P_
      have Q := Q_
      have T := T_
      clear HC_ HR_ HBr_ P_ Q_ T_
      clear b
      rw [show nextOf [ws 1, ws 3, ws 4] 0 = 4 from by decide]
      go_wp2_with fail
      refine (whole_yes _ 2 _ _ _ (rdP_two P.out Q.out) (by omega) ?_ (by show List.Pairwise (fun s t : Sn => s.id < t.id) [ws 1, ws 3, ws 4, ws 5]; decide)).mono ?_
      · rintro (_ | _ | i) x hx
        · simp at hx; subst hx; simp
        · simp at hx; subst hx; simp
        · simp at hx
      rintro e y9 ⟨rfl, b⟩
      have bb := HBr.out.trans ((((Below.refl _ _).alloc (Nat.le_refl _) _).trans (b.mono (by simp))).mono HBr.out.size)
      go_wp2_with fail
      go_ret
      exact ⟨rfl, bb⟩
    · have hle : decide ((k : Int) ≤ 5) = true := decide_eq_true (by omega)
      obtain ⟨T, hT⟩ : ∃ T, ((k : Int) != 2) = T := ⟨_, rfl⟩
      obtain ⟨A2, c2, w2, hrun, ho2, hb2⟩ := run_oneX wr (w1.heap.size + 1) A j c (wbs j) hO (wbx k) (by omega) hs wr.heap.size rfl
      rw [hkj, ← wbs_succ] at ho2
      unfold wbx at hrun
      rw [hT] at hrun
      have c0 := hC.cell 0
      simp only [List.getElem?_toArray, List.getElem?_cons_zero] at c0
      have hC2 := hC.below hb2 (by omega)
      have f2 := hC2.frozen 0
      have d2 := hC2.cell 0
      simp only [List.getElem?_toArray, List.getElem?_cons_zero] at d2
      have HRun := Lib.hid hrun
      have HO := Lib.hid ho2
      have HB2 := Lib.hid (hb.trans (hb2.mono (by omega)))
      have HC := Lib.hid hC2
      have HS := Lib.hid (Nat.le_trans hs hb2.size)
      have HK := Lib.hid (And.intro hkj (And.intro hk h5))
      have hk6 : k ≤ 5 := by omega
      clear hrun ho2 hb hb2 hC hO hC2 hs hk h5 hkj
      go_wp2_with (refine wpList_app (by rfl) _ _ 22 rfl _ _ _ w2 (by rfl) (by rfl) HRun.out ?_)
      refine ⟨⟨j + 1, k + 1, A2, c2, by simp, by have := HK.out.1; omega, by have := HK.out.2; omega, HC.out.set 0 _, own_set HO.out (by omega) _, HB2.out.setCell (p := ⟨w1.heap.size, 0, none⟩) (Nat.le_refl _) _, by have := HS.out; simp; omega⟩, by simp [intOf]; omega⟩

end Go.Proofs.Ytdoaakohgmohkaa
