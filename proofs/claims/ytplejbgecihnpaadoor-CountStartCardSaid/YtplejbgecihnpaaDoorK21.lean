/-
  Texts that the walk of a statement over brains leans on, joined (CtLawStart). Conditions: those that each theorem names.
-/
import Derived.Test.YtplejbgecihnpaaDoorK11
import Derived.Test.YtplejbgecihnpaaDoorK12
import Derived.Test.YtplejbgecihnpaaDoorK19
import Derived.Test.YtplejbgecihnpaaDoorK20

namespace Go.Proofs.YtplejbgecihnpaaDoor
open Go.RowKit Go.Shelf

/-- What the operations of the drawn region of two counts have yielded. -/
def StR (lo : Nat) (p : Br) (v : Int) (a1 a2 : Ad) (i : Nat) (x : Value) (w : World) : Prop := match i with
  | 0 => x = brV (stB p v) a1
  | 1 => x = (countB (stB p v)).v
  | 2 => x = brV (caB p v) a2
  | 3 => x = (countB (caB p v)).v
  | 4 => CboxIs lo x w
  | 5 => CboxIs lo x w
  | _ => True
theorem StR.under {lo : Nat} {p : Br} {v : Int} {a1 a2 : Ad} (i : Nat) (x : Value) (w w' : World) (hb : Below w.heap.size w w') (h : StR lo p v a1 a2 i x w) : StR lo p v a1 a2 i x w' := by
  match i, h with
  | 0, h => exact h
  | 1, h => exact h
  | 2, h => exact h
  | 3, h => exact h
  | 4, h => exact CboxIs.under hb h
  | 5, h => exact CboxIs.under hb h
  | _ + 6, h => trivial
def StF (i : Nat) (x : Value) (w : World) : Prop := i = 4 ∨ i = 5 → ∀ b, x = .pointer (some ⟨b, 0, none⟩) → w.heap.size ≤ b
def StD (x y : Value) : Prop := ∀ b c, x = .pointer (some ⟨b, 0, none⟩) → y = .pointer (some ⟨c, 0, none⟩) → b ≠ c
theorem stF_no {i : Nat} {x : Value} {w : World} (h : i ≠ 4 ∧ i ≠ 5) : StF i x w := fun h1 => by omega
theorem cbox_lt {lo b : Nat} {x : Value} {w : World} (h : CboxIs lo x w) (e : x = .pointer (some ⟨b, 0, none⟩)) : b < w.heap.size := by
  obtain ⟨b', h1, _, h3⟩ := h
  rw [e] at h1
  cases h1
  exact h3.lt
theorem stD1 (lo : Nat) (p : Br) (v : Int) (a1 a2 : Ad) (x u : Value) (w : World) (h1 : StF 4 x w) (h2 : StR lo p v a1 a2 5 u w) : StD x u := by
  intro b c hb hc e
  have h3 := h1 (.inl rfl) b hb
  have h4 := cbox_lt (show CboxIs lo u w from h2) hc
  omega
theorem stD2 (lo : Nat) (p : Br) (v : Int) (a1 a2 : Ad) (x u : Value) (w : World) (h1 : StF 5 x w) (h2 : StR lo p v a1 a2 4 u w) : StD u x := by
  intro b c hb hc e
  have h3 := h1 (.inr rfl) c hc
  have h4 := cbox_lt (show CboxIs lo u w from h2) hb
  omega
/-- What stands between the two stores. -/
def StM (ds : List Nat) (a0 : Act) (W : World) (p : Br) (v : Int) (a : Act) (w : World) : Prop :=
  ∃ b1 b2, W.heap.size ≤ b1 ∧ W.heap.size ≤ b2 ∧ b1 ≠ b2 ∧ Agree ds a0 a ∧ a.eval (.tmp 11) = .pointer (some ⟨b1, 0, none⟩) ∧ a.eval (.tmp 12) = .pointer (some ⟨b2, 0, none⟩) ∧ a.eval (.tmp 102) = (countB (caB p v)).v ∧ Whole w b1 38 (countB (stB p v)).cells ∧ Whole w b2 38 cn0.cells ∧ Below W.heap.size W w
theorem region_st {P : Program} {ops : Array Oper} {Q : Exit → Act → World → Prop} {id : Nat} {a0 : Act} {W : World} (hm : P.follows .mixedOrders = true) (hl : lowOnly ops = true) (n : Nat) (ds : List Nat) (hk : growOk2 ops n ds = true) (hds : ∀ d ∈ ds, d < a0.tmps.size)
    (R : Nat → Value → World → Prop) (p : Br) (v : Int) (Fr : Nat → Value → World → Prop) (D : Value → Value → Prop) (x y : Nat) (hx : x < n) (hy : y < n) (hxy : x ≠ y)
    (hD1 : ∀ v u w, Fr x v w → R y u w → D v u) (hD2 : ∀ v u w, Fr y v w → R x u w → D u v)
    (step : ∀ i o d a w, i < n → ops[i]? = some o → o.dst = some d → Agree ds a0 a → Below W.heap.size W w → (∀ j d', waits o j = true → dstAt ops j = some d' → R j (a.eval (.tmp d')) w) → ∀ K : Act → World → Prop, (∀ v w', Stay ops n W R i w w' → R i v w' → Fr i v w → K (a.put (some d) v) w') → o.wp P a w K Q)
    (last : ∀ o a w, ops[n]? = some o → Agree ds a0 a → Below W.heap.size W w → (∀ i d, i < n → dstAt ops i = some d → R i (a.eval (.tmp d)) w) → (∀ dx dy, dstAt ops x = some dx → dstAt ops y = some dy → D (a.eval (.tmp dx)) (a.eval (.tmp dy))) → ∀ K : Act → World → Prop, (∀ a' w', StM ds a0 W p v a' w' → K a' w') → o.wp P a w K Q)
    (last2 : ∀ o a w, ops[n + 1]? = some o → StM ds a0 W p v a w → ∀ K : Act → World → Prop, (∀ a' w', Q .normal a' w' → K a' w') → o.wp P a w K Q) : (Code.region id ops true).wp P Q a0 W :=
  region_stay2 hm hl n ds hk hds R (StM ds a0 W p v) Fr D x y hx hy hxy hD1 hD2 step last last2

set_option maxRecDepth 100000 in
set_option maxHeartbeats 8000000 in
theorem countStart_any (C : CountOk) (p : Br) (a : Ad) (v : Int) (w : World) (hb0 : BrAny w p a) (hT : Tab w) :
    Calls Tryd.prog 7 #[brV p a, .int .i64 v] w (TruePost w) := by
  obtain ⟨V, hV⟩ : ∃ V, w.alloc (.cells (brC p a) 30) = V := ⟨_, rfl⟩
  have w0 : Whole V w.heap.size 30 (brC p a) := by rw [← hV]; exact Whole.new _ _ _
  have hb : Below w.heap.size w V := by rw [← hV]; exact (Below.refl _ _).alloc (Nat.le_refl _) _
  have HB := Lib.hid hb
  have HV := Lib.hid hV
  have W0 := Lib.hid w0
  have HT := Lib.hid (hT.under hb)
  have HC := Lib.hid C
  have HA := Lib.hid hb0
  have HT0 := Lib.hid hT
  clear hb w0 hV hT C hb0
  obtain ⟨bg, hbg⟩ : ∃ b, gB p = b := ⟨_, rfl⟩
  obtain ⟨br, hbr⟩ : ∃ b, rightBb p = b := ⟨_, rfl⟩
  obtain ⟨bs, hbs⟩ : ∃ b, p.set = b := ⟨_, rfl⟩
  have HG := Lib.hid hbg
  have HR := Lib.hid hbr
  have HS := Lib.hid hbs
  clear hbg hbr hbs
  go_enter Tryd.func7, Tryd.ntmps7
  go_upto_region 1 with fail
  refine wpV (fun V2 hV2 => ?_)
  obtain rfl : V = V2 := HV.out.symm.trans hV2
  clear HV hV2
  go_wp2_with (refine wpList_loadB (by rfl) _ rfl w.heap.size p a (by rfl) W0.out ?_)
  refine (greatB_any p a V).mono ?_
  rintro e U ⟨rfl, hb1⟩
  rw [HG.out]
  have HBU := Lib.hid (HB.out.trans (hb1.mono HB.out.size))
  have T1 := Lib.hid (HT.out.under hb1)
  have X0 := Lib.hid (W0.out.under hb1)
  clear hb1 W0 HT HB
  cases bg with
  | true =>
    go_wp2_with fail
    refine (wakes15_any HC.out U T1.out).mono ?_
    rintro e w7 ⟨rfl, hb7⟩
    have HB7 := Lib.hid (HBU.out.trans (hb7.mono HBU.out.size))
    clear hb7
    go_wp2_with fail
    go_ret
    exact ⟨rfl, HB7.out⟩
  | false =>
    have N0 := Lib.hid (ctNow HA.out HT0.out HG.out)
    have NU := Lib.hid (N0.out.under HBU.out)
    have HN := Lib.hid (gB_no HG.out)
    go_wp2_with (refine wpList_loadB (by rfl) _ rfl w.heap.size p a (by rfl) X0.out ?_)
    refine (rrightB_any p a U.heap.size U NU.out.rd (Nat.le_refl _) NU.out.ms NU.out.its NU.out.kps).mono ?_
    rintro e U0 ⟨rfl, hb1⟩
    rw [HR.out]
    have X0_ := Lib.hid (X0.out.under hb1)
    clear X0
    have X0 := X0_
    clear X0_
    have T1_ := Lib.hid (T1.out.under hb1)
    clear T1
    have T1 := T1_
    clear T1_
    have NU_ := Lib.hid (NU.out.under hb1)
    clear NU
    have NU := NU_
    clear NU_
    have HBU0 := Lib.hid (HBU.out.trans (hb1.mono HBU.out.size))
    clear hb1 HBU
    cases br with
    | false =>
      go_wp2_with fail
      refine (wakes15_any HC.out U0 T1.out).mono ?_
      rintro e w7 ⟨rfl, hb7⟩
      have HB7 := Lib.hid (HBU0.out.trans (hb7.mono HBU0.out.size))
      clear hb7
      go_wp2_with fail
      go_ret
      exact ⟨rfl, HB7.out⟩
    | true =>
      have d2 : U0.cell? ⟨w.heap.size, 2, none⟩ = some (.bool bs) := by rw [← HS.out]; exact X0.out.cell 2
      cases bs with
      | false =>
        go_wp2_with fail
        refine (wakes15_any HC.out U0 T1.out).mono ?_
        rintro e w7 ⟨rfl, hb7⟩
        have HB7 := Lib.hid (HBU0.out.trans (hb7.mono HBU0.out.size))
        clear hb7
        go_wp2_with fail
        go_ret
        exact ⟨rfl, HB7.out⟩
      | true =>
        have d20 : U0.cell? ⟨w.heap.size, 20, none⟩ = some (.int .u8 p.rf.st) := X0.out.cell 20
        by_cases h1 : p.rf.st = 1
        · rw [h1] at d20
          clear h1
          go_wp2_with fail
          refine (wakes15_any HC.out U0 T1.out).mono ?_
          rintro e w7 ⟨rfl, hb7⟩
          have HB7 := Lib.hid (HBU0.out.trans (hb7.mono HBU0.out.size))
          clear hb7
          go_wp2_with fail
          go_ret
          exact ⟨rfl, HB7.out⟩
        · have Hst := Lib.hid h1
          by_cases h2 : v < 1
          · go_wp2_with fail
            refine (wakes15_any HC.out U0 T1.out).mono ?_
            rintro e w7 ⟨rfl, hb7⟩
            have HB7 := Lib.hid (HBU0.out.trans (hb7.mono HBU0.out.size))
            clear hb7
            go_wp2_with fail
            go_ret
            exact ⟨rfl, HB7.out⟩
          · by_cases h3 : 1099511627776 < v
            · go_wp2_with fail
              refine (wakes15_any HC.out U0 T1.out).mono ?_
              rintro e w7 ⟨rfl, hb7⟩
              have HB7 := Lib.hid (HBU0.out.trans (hb7.mono HBU0.out.size))
              clear hb7
              go_wp2_with fail
              go_ret
              exact ⟨rfl, HB7.out⟩
            · have HV1 := Lib.hid (show 1 ≤ v ∧ v ≤ brMax from ⟨by omega, by show v ≤ 1099511627776; omega⟩)
              have hsb : ((p.rf.st : Int) == 1) = false := by simp [h1]
              go_upto_region 3 with fail
              clear d2 d20 h1 h2 h3 hsb
              go_wp2_with (refine wpList_loadB (by rfl) _ rfl w.heap.size p a (by rfl) X0.out ?_)
              have hba : Below U0.heap.size U0 (U0.alloc (.cells #[.int .i64 v, .int .i64 5] 3)) := (Below.refl _ _).alloc (Nat.le_refl _) _
              have hrow : Rd (U0.alloc (.cells #[.int .i64 v, .int .i64 5] 3)) (U0.alloc (.cells #[.int .i64 v, .int .i64 5] 3)).heap.size (some ⟨U0.heap.size, 0, none⟩) 2 (iv [v, 5]) := by
                rw [World.size_alloc]
                exact rd_lit U0 [.int .i64 v, .int .i64 5] 3 2 rfl
              have hgd : Good 800 p := ⟨by have := HN.out; omega, HA.out.ep, HA.out.sq, HA.out.ph⟩
              have hcon := rapply_any p a ⟨11, some ⟨U0.heap.size, 0, none⟩, 2, 2, [v, 5]⟩ (U0.alloc (.cells #[.int .i64 v, .int .i64 5] 3)) (NU.out.rd.up hba) ⟨show 11 < 256 by decide, hrow, Nat.le_refl _, show 2 ≤ maxLen by decide⟩ (show 2 ≤ 1000 by decide) NU.out.ms hgd
              rw [show applyB p (((11 : Nat) : Int)) [v, 5] = stB p v from start_is HS.out Hst.out HV1.out.1 HV1.out.2] at hcon
              refine hcon.mono ?_
              rintro e U1 ⟨a1, rfl, ho, hb_⟩
              have hb1 : Below U0.heap.size U0 U1 := hba.trans (hb_.mono hba.size)
              have HGd := Lib.hid hgd
              have X0_ := Lib.hid (X0.out.under hb1)
              clear X0
              have X0 := X0_
              clear X0_
              have T1_ := Lib.hid (T1.out.under hb1)
              clear T1
              have T1 := T1_
              clear T1_
              have NU_ := Lib.hid (NU.out.under hb1)
              clear NU
              have NU := NU_
              clear NU_
              have ND := Lib.hid (show BrNow (stB p v) a1 U1 from ⟨ho.reads, T1.out, NU.out.its, NU.out.kps, NU.out.ms⟩)
              have HBU1 := Lib.hid (HBU0.out.trans (hb1.mono HBU0.out.size))
              have hb4 : Below U1.heap.size U1 (U1.alloc (.cells (brC br0 ad0) 30)) := (Below.refl _ _).alloc (Nat.le_refl _) _
              have HX4 : Hid (Whole (U1.alloc (.cells (brC br0 ad0) 30)) U1.heap.size 30 (brC br0 ad0)) := Lib.hid (Whole.new _ _ _)
              have HB4 := Lib.hid hb4
              clear hb1 hba hrow hgd hcon hb_ hb4 ho HBU0
              go_upto_region 4 with (refine wpList_storeB rfl _ _ rfl U1.heap.size (stB p v) a1 _ rfl (by rfl) (by rfl) HX4.out ?_; intro U2 hU2)
              have D5 := Lib.hid (show Whole U2 U1.heap.size 30 (brC (stB p v) a1) by rw [hU2]; exact setRow_heap _ _ _ _ _ _ HX4.out)
              have hb5 : Below U1.heap.size U1 U2 := by rw [hU2]; exact below_rowsetB HB4.out (Nat.le_refl _) _
              have X0_ := Lib.hid (X0.out.under hb5)
              clear X0
              have X0 := X0_
              clear X0_
              have T1_ := Lib.hid (T1.out.under hb5)
              clear T1
              have T1 := T1_
              clear T1_
              have NU_ := Lib.hid (NU.out.under hb5)
              clear NU
              have NU := NU_
              clear NU_
              have ND_ := Lib.hid (ND.out.under hb5)
              clear ND
              have ND := ND_
              clear ND_
              have HBU2 := Lib.hid (HBU1.out.trans (hb5.mono HBU1.out.size))
              clear hb5 hU2 HX4 HB4 HBU1
              go_wp2_with (refine wpList_loadB (by rfl) _ rfl U1.heap.size (stB p v) a1 (by rfl) D5.out ?_)
              have hcon := rapply_any (stB p v) a1 ⟨12, none, 0, 0, []⟩ U2 ND.out.rd ⟨by decide, Rd.nil_ _ _ _, Nat.le_refl _, by decide⟩ (by decide) NU.out.ms ⟨HGd.out.len, HGd.out.ep, HGd.out.sq, HGd.out.ph⟩
              rw [show applyB (stB p v) (((12 : Nat) : Int)) [] = caB p v from cancel_is] at hcon
              refine hcon.mono ?_
              rintro e U3 ⟨a2, rfl, ho, hb1⟩
              have X0_ := Lib.hid (X0.out.under hb1)
              clear X0
              have X0 := X0_
              clear X0_
              have T1_ := Lib.hid (T1.out.under hb1)
              clear T1
              have T1 := T1_
              clear T1_
              have NU_ := Lib.hid (NU.out.under hb1)
              clear NU
              have NU := NU_
              clear NU_
              have ND_ := Lib.hid (ND.out.under hb1)
              clear ND
              have ND := ND_
              clear ND_
              have D5_ := Lib.hid (D5.out.under hb1)
              clear D5
              have D5 := D5_
              clear D5_
              have NE := Lib.hid (show BrNow (caB p v) a2 U3 from ⟨ho.reads, T1.out, NU.out.its, NU.out.kps, NU.out.ms⟩)
              have HBU3 := Lib.hid (HBU2.out.trans (hb1.mono HBU2.out.size))
              have hb4 : Below U3.heap.size U3 (U3.alloc (.cells (brC br0 ad0) 30)) := (Below.refl _ _).alloc (Nat.le_refl _) _
              have HX4 : Hid (Whole (U3.alloc (.cells (brC br0 ad0) 30)) U3.heap.size 30 (brC br0 ad0)) := Lib.hid (Whole.new _ _ _)
              have HB4 := Lib.hid hb4
              clear hb1 hcon hb4 ho HBU2
              go_upto_region 5 with (refine wpList_storeB rfl _ _ rfl U3.heap.size (caB p v) a2 _ rfl (by rfl) (by rfl) HX4.out ?_; intro U4 hU4)
              have E6 := Lib.hid (show Whole U4 U3.heap.size 30 (brC (caB p v) a2) by rw [hU4]; exact setRow_heap _ _ _ _ _ _ HX4.out)
              have hb5 : Below U3.heap.size U3 U4 := by rw [hU4]; exact below_rowsetB HB4.out (Nat.le_refl _) _
              have X0_ := Lib.hid (X0.out.under hb5)
              clear X0
              have X0 := X0_
              clear X0_
              have T1_ := Lib.hid (T1.out.under hb5)
              clear T1
              have T1 := T1_
              clear T1_
              have NU_ := Lib.hid (NU.out.under hb5)
              clear NU
              have NU := NU_
              clear NU_
              have ND_ := Lib.hid (ND.out.under hb5)
              clear ND
              have ND := ND_
              clear ND_
              have NE_ := Lib.hid (NE.out.under hb5)
              clear NE
              have NE := NE_
              clear NE_
              have D5_ := Lib.hid (D5.out.under hb5)
              clear D5
              have D5 := D5_
              clear D5_
              have HBU4 := Lib.hid (HBU3.out.trans (hb5.mono HBU3.out.size))
              clear hb5 hU4 HX4 HB4 HBU3
              go_wp2_with fail
              go_loopw [7, 8] (fun s7 s8 wr => ∃ j : Nat, s7 = .int .i64 ((kpOld (stB p v) (p.kps.take j) : Nat) : Int) ∧ s8 = .int .i64 (j : Int) ∧ j ≤ p.kps.length ∧ Below U4.heap.size U4 wr) (fun _ s8 _ => p.kps.length - (intOf s8).toNat)
              case atStart => exact ⟨0, rfl, rfl, Nat.zero_le _, Below.refl _ _⟩
              case round =>
                obtain ⟨j, rfl, rfl, hj, hbr⟩ := hrel
                have HBr := Lib.hid hbr
                clear hbr
                have c19 : wr.cell? ⟨U1.heap.size, 19, none⟩ = some (.slice a1.B p.kps.length a1.d) := (D5.out.under HBr.out).cell 19
                obtain ⟨g, hg⟩ : ∃ g, kpOld (stB p v) (p.kps.take j) = g := ⟨_, rfl⟩
                rw [hg]
                have HGj := Lib.hid hg
                clear hg
                have hkl : p.kps.length ≤ 40 := HN.out.2.1
                by_cases hlt : j < p.kps.length
                · obtain ⟨b1, off1, h1, hb1, hc⟩ := RdK.at_ (ND.out.rd).kps (by show 0 < p.kps.length; omega)
                  obtain ⟨y, hy⟩ : ∃ y, p.kps[j]? = some y := ⟨_, List.getElem?_eq_getElem hlt⟩
                  have hI : (j : Int) < (p.kps.length : Int) := by omega
                  rw [h1] at c19
                  have HCy := Lib.hid (hc j y hy)
                  have i0 : wr.cell? ⟨b1, off1 + j * 8, none⟩ = some (.int .i64 y.id) := (HBr.out.cell (p := ⟨b1, off1 + j * 8, none⟩) hb1).trans HCy.out.c0
                  have i1 : wr.cell? ⟨b1, off1 + j * 8 + 1, none⟩ = some (.int .i64 y.tok) := (HBr.out.cell (p := ⟨b1, off1 + j * 8 + 1, none⟩) hb1).trans HCy.out.c1
                  have i2 : wr.cell? ⟨b1, off1 + j * 8 + 2, none⟩ = some (.int .i64 y.ver) := (HBr.out.cell (p := ⟨b1, off1 + j * 8 + 2, none⟩) hb1).trans HCy.out.c2
                  have i3 : wr.cell? ⟨b1, off1 + j * 8 + 3, none⟩ = some (.int .i64 y.zone) := (HBr.out.cell (p := ⟨b1, off1 + j * 8 + 3, none⟩) hb1).trans HCy.out.c3
                  have i4 : wr.cell? ⟨b1, off1 + j * 8 + 4, none⟩ = some (.int .u8 y.phase) := (HBr.out.cell (p := ⟨b1, off1 + j * 8 + 4, none⟩) hb1).trans HCy.out.c4
                  have i5 : wr.cell? ⟨b1, off1 + j * 8 + 5, none⟩ = some (.int .i64 y.since) := (HBr.out.cell (p := ⟨b1, off1 + j * 8 + 5, none⟩) hb1).trans HCy.out.c5
                  have i6 : wr.cell? ⟨b1, off1 + j * 8 + 6, none⟩ = some (.bool y.guard) := (HBr.out.cell (p := ⟨b1, off1 + j * 8 + 6, none⟩) hb1).trans HCy.out.c6
                  have i7 : wr.cell? ⟨b1, off1 + j * 8 + 7, none⟩ = some (.bool y.done) := (HBr.out.cell (p := ⟨b1, off1 + j * 8 + 7, none⟩) hb1).trans HCy.out.c7
                  have HY := Lib.hid hy
                  clear hc hy hb1
                  obtain ⟨bo, hbo⟩ : ∃ b, oldK (stB p v) y = b := ⟨_, rfl⟩
                  have HO := Lib.hid hbo
                  clear hbo
                  have hgl : g ≤ 40 := by rw [← HGj.out]; have h9 := kpOld_le (stB p v) p.kps j; omega
                  have HGl := Lib.hid hgl
                  clear hgl
                  have g1 : IntKind.i64.wrap ((g : Int) + 1) = (g : Int) + 1 := wrapS (by omega) (by have := HGl.out; omega)
                  go_upto_region 10 with fail
                  refine wpV (fun W4 hW4 => ?_)
                  have hb4 : Below wr.heap.size wr W4 := by rw [← hW4]; exact (Below.refl _ _).alloc (Nat.le_refl _) _
                  have hk4 : Whole W4 wr.heap.size 32 y.cells := by rw [← hW4]; exact Whole.new _ _ _
                  have HBr4 := Lib.hid (HBr.out.trans (hb4.mono HBr.out.size))
                  have K4 := Lib.hid hk4
                  clear hW4 hb4 hk4 i0 i1 i2 i3 i4 i5 i6 i7 c19 HBr
                  go_cut [79] (fun s wx => s = .bool bo ∧ wx = W4)
                  case first =>
                    have k2 : W4.cell? ⟨wr.heap.size, 2, none⟩ = some (.int .i64 y.ver) := K4.out.cell 2
                    have k4 : W4.cell? ⟨wr.heap.size, 4, none⟩ = some (.int .u8 y.phase) := K4.out.cell 4
                    have k6 : W4.cell? ⟨wr.heap.size, 6, none⟩ = some (.bool y.guard) := K4.out.cell 6
                    have d16 : W4.cell? ⟨U1.heap.size, 16, none⟩ = some (.bool p.cf.sk) := (D5.out.under HBr4.out).cell 16
                    by_cases hv : y.ver = v
                    · have ho : bo = false := by rw [← HO.out]; simp [oldK, ver_start, hv]
                      subst ho
                      go_wp2_with fail
                      go_meet
                      exact ⟨rfl, rfl⟩
                    · have HVn := Lib.hid hv
                      cases hgo : goesI y.phase with
                      | true =>
                        have HGo := Lib.hid hgo
                        clear hgo
                        have ho : bo = false := by rw [← HO.out]; simp [oldK, HGo.out]
                        subst ho
                        go_wp2_with fail
                        refine (refGoes_any y.phase W4).mono ?_
                        rintro e W6 ⟨rfl, hw6⟩
                        subst hw6
                        rw [HGo.out]
                        go_wp2_with fail
                        go_meet
                        first | exact ⟨rfl, rfl⟩ | exact ⟨by rw [show (y.ver != v) = true from by simp [HVn.out]], rfl⟩
                      | false =>
                        have HGo := Lib.hid hgo
                        clear hgo
                        cases hgd : y.guard with
                        | false =>
                          have HGd2 := Lib.hid hgd
                          rw [hgd] at k6
                          clear hgd
                          have ho : bo = true := by rw [← HO.out]; simp [oldK, HGo.out, HGd2.out, ver_start, HVn.out]
                          subst ho
                          go_wp2_with fail
                          refine (refGoes_any y.phase W4).mono ?_
                          rintro e W6 ⟨rfl, hw6⟩
                          subst hw6
                          rw [HGo.out]
                          go_wp2_with fail
                          go_meet
                          first | exact ⟨rfl, rfl⟩ | exact ⟨by rw [show (y.ver != v) = true from by simp [HVn.out]], rfl⟩
                        | true =>
                          have HGd2 := Lib.hid hgd
                          rw [hgd] at k6
                          clear hgd
                          cases hsk : p.cf.sk with
                          | true =>
                            have HSk := Lib.hid hsk
                            rw [hsk] at d16
                            clear hsk
                            have ho : bo = false := by rw [← HO.out]; simp [oldK, HGd2.out, stB, HSk.out]
                            subst ho
                            go_wp2_with fail
                            refine (refGoes_any y.phase W4).mono ?_
                            rintro e W6 ⟨rfl, hw6⟩
                            subst hw6
                            rw [HGo.out]
                            go_wp2_with fail
                            go_meet
                            first | exact ⟨rfl, rfl⟩ | exact ⟨by rw [show (y.ver != v) = true from by simp [HVn.out]], rfl⟩
                          | false =>
                            have HSk := Lib.hid hsk
                            rw [hsk] at d16
                            clear hsk
                            have ho : bo = true := by
                              rw [← HO.out]
                              have h9 : decide (y.ver = verB (stB p v)) = false := by rw [ver_start]; simp [HVn.out]
                              have h8 : (stB p v).cf.sk = false := HSk.out
                              simp [oldK, HGo.out, h8, h9]
                            subst ho
                            go_wp2_with fail
                            refine (refGoes_any y.phase W4).mono ?_
                            rintro e W6 ⟨rfl, hw6⟩
                            subst hw6
                            rw [HGo.out]
                            go_wp2_with fail
                            go_meet
                            first | exact ⟨rfl, rfl⟩ | exact ⟨by rw [show (y.ver != v) = true from by simp [HVn.out]], rfl⟩
                  case rest =>
                    obtain ⟨rfl, hwx⟩ := hcut
                    have hwy := hwx.symm
                    subst hwy
                    clear hwx
                    cases bo with
                    | false =>
                      go_wp2_with fail
                      go_roundw
                      case rel => exact ⟨j + 1, by rw [kpOld_next HY.out, HGj.out]; simp only [HO.out, Bool.false_eq_true, if_false, Nat.add_zero], by go_num, by omega, HBr4.out⟩
                      case measure => simp [intOf]; omega
                    | true =>
                      go_wp2_with fail
                      go_roundw
                      case rel => exact ⟨j + 1, by rw [kpOld_next HY.out, HGj.out]; simp only [HO.out, if_true]; rfl, by go_num, by omega, HBr4.out⟩
                      case measure => simp [intOf]; omega
                  
                · have hje : j = p.kps.length := by omega
                  subst hje
                  have hge := HGj.out
                  rw [List.take_length] at hge
                  clear hkl hj hlt HGj
                  have HKo := Lib.hid hge
                  clear hge
                  go_wp2_with fail
                  clear c19
                  go_loopw [7, 10] (fun s7 s10 wr2 => ∃ j : Nat, s7 = .int .i64 ((g + itOld (stB p v) (p.its.take j) : Nat) : Int) ∧ s10 = .int .i64 (j : Int) ∧ j ≤ p.its.length ∧ wr2 = wr) (fun _ s10 _ => p.its.length - (intOf s10).toNat)
                  case atStart => exact ⟨0, by simp [itOld], rfl, Nat.zero_le _, rfl⟩
                  case round =>
                    obtain ⟨j, rfl, rfl, hj, hwx⟩ := hrel
                    have hwy := hwx.symm
                    subst hwy
                    clear hwx
                    have c18 : wr.cell? ⟨U1.heap.size, 18, none⟩ = some (.slice a1.A p.its.length a1.c) := (D5.out.under HBr.out).cell 18
                    obtain ⟨q, hq⟩ : ∃ q, g + itOld (stB p v) (p.its.take j) = q := ⟨_, rfl⟩
                    rw [hq]
                    have hil : p.its.length ≤ 40 := HN.out.1
                    have hql : q ≤ 80 := by
                      rw [← hq, ← HKo.out]
                      have h9 := itOld_le (stB p v) p.its j
                      have h8 : kpOld (stB p v) p.kps ≤ p.kps.length := List.countP_le_length
                      have h7 := HN.out
                      omega
                    have HQ := Lib.hid hq
                    have HQl := Lib.hid hql
                    clear hq hql
                    by_cases hlt : j < p.its.length
                    · obtain ⟨b1, off1, h1, hb1, hc⟩ := RdI.at_ (ND.out.rd).its (by show 0 < p.its.length; omega)
                      obtain ⟨y, hy⟩ : ∃ y, p.its[j]? = some y := ⟨_, List.getElem?_eq_getElem hlt⟩
                      have hI : (j : Int) < (p.its.length : Int) := by omega
                      rw [h1] at c18
                      have i1 : wr.cell? ⟨b1, off1 + j * 4 + 1, none⟩ = some (.int .i64 y.ver) := (HBr.out.cell (p := ⟨b1, off1 + j * 4 + 1, none⟩) hb1).trans (hc j y hy).c1
                      have HY := Lib.hid hy
                      clear hc hy hb1
                      have g1 : IntKind.i64.wrap ((q : Int) + 1) = (q : Int) + 1 := wrapS (by omega) (by have := HQl.out; omega)
                      by_cases hv : y.ver = v
                      · rw [hv] at i1
                        have HO := Lib.hid (show oldI (stB p v) y = false by simp [oldI, ver_start, hv])
                        clear hv
                        go_wp2_with fail
                        go_roundw
                        case rel => exact ⟨j + 1, by rw [itOld_next HY.out, ← Nat.add_assoc, HQ.out]; simp only [HO.out, Bool.false_eq_true, if_false, Nat.add_zero], by go_num, by omega, by first | rfl | trivial⟩
                        case measure => simp [intOf]; omega
                      · have HO := Lib.hid (show oldI (stB p v) y = true by simp [oldI, ver_start, hv])
                        have hvb : (y.ver != v) = true := by simp [hv]
                        have hv2 := Lib.hid hv
                        go_wp2_with fail
                        go_roundw
                        case rel => exact ⟨j + 1, by rw [itOld_next HY.out, ← Nat.add_assoc, HQ.out]; simp only [HO.out, if_true]; rfl, by go_num, by omega, by first | rfl | trivial⟩
                        case measure => simp [intOf]; omega
                    · have hje : j = p.its.length := by omega
                      subst hje
                      have hqe := HQ.out
                      rw [List.take_length] at hqe
                      have HOn := Lib.hid (show oldB (stB p v) = q by rw [← hqe, ← HKo.out]; exact Nat.add_comm _ _)
                      clear hil hj hlt hqe HQ
                      go_upto_region 17 with fail
                      clear c18
                      have hD5w := D5.out.under HBr.out
                      have hE6w := E6.out.under HBr.out
                      have hX0w := X0.out.under HBr.out
                      have hNDw := ND.out.under HBr.out
                      have hNEw := NE.out.under HBr.out
                      have hNUw := NU.out.under HBr.out
                      have hTw := T1.out.under HBr.out
                      have hBw := HBU4.out.trans (HBr.out.mono HBU4.out.size)
                      clear D5 E6 X0 ND NE NU T1 HBU4 HBr
                      have D5 := Lib.hid hD5w
                      have E6 := Lib.hid hE6w
                      have X0 := Lib.hid hX0w
                      have ND := Lib.hid hNDw
                      have NE := Lib.hid hNEw
                      have NU := Lib.hid hNUw
                      have T1 := Lib.hid hTw
                      have HBU4 := Lib.hid hBw
                      clear hD5w hE6w hX0w hNDw hNEw hNUw hTw hBw
                      refine region_st (by kernel_rfl) (by kernel_rfl) 6 [99, 100, 101, 102, 11, 12] (by kernel_rfl) (by simp) (StR wr.heap.size p v a1 a2) p v StF StD 4 5 (by decide) (by decide) (by decide) (stD1 _ p v a1 a2) (stD2 _ p v a1 a2) ?_ ?_ ?_
                      · intro i o d_ a_ w_ hi ho hd hag hbel hgot K hK
                        rcases (by omega : i = 0 ∨ i = 1 ∨ i = 2 ∨ i = 3 ∨ i = 4 ∨ i = 5) with rfl | rfl | rfl | rfl | rfl | rfl
                        all_goals
                          simp only [List.getElem?_toArray, List.getElem?_cons_zero, List.getElem?_cons_succ, Option.some.injEq] at ho
                          subst ho
                          injection hd with hd
                          subst hd
                        · exact opB_load (hag.eval (t := 5) (by decide)) (D5.out.under hbel) (hK _ _ (stay_grow StR.under hbel.size (Below.refl _ _)) rfl (stF_no (by decide)))
                        · have g99 : a_.eval (.tmp 99) = brV (stB p v) a1 := hgot 0 99 (by kernel_rfl) rfl
                          have e99 : a_.tmps[99]?.getD undef = brV (stB p v) a1 := by rw [← Array.getD_eq_getD_getElem?]; exact g99
                          clear g99 hgot
                          have HNw := Lib.hid (ND.out.under hbel)
                          have HK := Lib.hid hK
                          clear hK
                          go_simp
                          refine (HC.out.of (stB p v) a1 w_ HNw.out).mono ?_
                          rintro e w2 ⟨rfl, hb2⟩
                          exact HK.out _ _ (stay_grow StR.under hbel.size hb2) rfl (stF_no (by decide))
                        · exact opB_load (hag.eval (t := 6) (by decide)) (E6.out.under hbel) (hK _ _ (stay_grow StR.under hbel.size (Below.refl _ _)) rfl (stF_no (by decide)))
                        · have g101 : a_.eval (.tmp 101) = brV (caB p v) a2 := hgot 2 101 (by kernel_rfl) rfl
                          have e101 : a_.tmps[101]?.getD undef = brV (caB p v) a2 := by rw [← Array.getD_eq_getD_getElem?]; exact g101
                          clear g101 hgot
                          have HNw := Lib.hid (NE.out.under hbel)
                          have HK := Lib.hid hK
                          clear hK
                          go_simp
                          refine (HC.out.of (caB p v) a2 w_ HNw.out).mono ?_
                          rintro e w2 ⟨rfl, hb2⟩
                          exact HK.out _ _ (stay_grow StR.under hbel.size hb2) rfl (stF_no (by decide))
                        all_goals
                          have hw := Whole.new w_ 38 cn0.cells
                          have hb : Below w_.heap.size w_ (w_.alloc (.cells cn0.cells 38)) := (Below.refl _ _).alloc (Nat.le_refl _) _
                          have HW9 := Lib.hid hw
                          have HB9 := Lib.hid hb
                          have HK := Lib.hid hK
                          clear hw hb hK hgot
                          unfold Oper.wp execOp
                          go_simp
                          exact HK.out _ _ (stay_grow StR.under hbel.size HB9.out) ⟨_, rfl, hbel.size, HW9.out⟩ (fun _ b hb => by cases hb; exact Nat.le_refl _)
                      · intro o a_ w_ ho hag hbel hgot hdd K hK
                        simp only [List.getElem?_toArray, List.getElem?_cons_zero, List.getElem?_cons_succ, Option.some.injEq] at ho
                        subst ho
                        obtain ⟨b1, e1, hl1, hw1⟩ := hgot 4 11 (by decide) rfl
                        obtain ⟨b2, e2, hl2, hw2⟩ := hgot 5 12 (by decide) rfl
                        have hne := hdd 11 12 rfl rfl b1 b2 e1 e2
                        have e100 : a_.eval (.tmp 100) = (countB (stB p v)).v := hgot 1 100 (by decide) rfl
                        have e102 : a_.eval (.tmp 102) = (countB (caB p v)).v := hgot 3 102 (by decide) rfl
                        refine wp_storeC _ _ rfl b1 _ _ (by rfl) e1 e100 hw1 (fun U hU => hK _ _ ?_)
                        exact ⟨b1, b2, hl1, hl2, hne, hag, e1, e2, e102, by rw [hU]; exact setRow_heap _ _ _ _ _ _ hw1, by rw [hU]; exact (Only.row hw1 _).far hw2 (Ne.symm hne), by rw [hU]; exact below_rowsetB hbel hl1 _⟩
                      intro o a_ w_ ho hM K hK
                      simp only [List.getElem?_toArray, List.getElem?_cons_zero, List.getElem?_cons_succ, Option.some.injEq] at ho
                      subst ho
                      obtain ⟨b1, b2, hl1, hl2, hne, hag, e1, e2, e102, hw1, hw2, hbel⟩ := hM
                      refine wp_storeC _ _ rfl b2 _ _ (by rfl) e2 e102 hw2 (fun W8 hU => hK _ _ ?_)
                      have Y1 := Lib.hid (show Whole W8 b1 38 (countB (stB p v)).cells by rw [hU]; exact (Only.row hw2 _).far hw1 hne)
                      have Y2 := Lib.hid (show Whole W8 b2 38 (countB (caB p v)).cells by rw [hU]; exact setRow_heap _ _ _ _ _ _ hw2)
                      have hbe : Below wr.heap.size wr W8 := by rw [hU]; exact below_rowsetB hbel hl2 _
                      have D5_ := Lib.hid (D5.out.under hbe)
                      clear D5
                      have D5 := D5_
                      clear D5_
                      have E6_ := Lib.hid (E6.out.under hbe)
                      clear E6
                      have E6 := E6_
                      clear E6_
                      have X0_ := Lib.hid (X0.out.under hbe)
                      clear X0
                      have X0 := X0_
                      clear X0_
                      have ND_ := Lib.hid (ND.out.under hbe)
                      clear ND
                      have ND := ND_
                      clear ND_
                      have NE_ := Lib.hid (NE.out.under hbe)
                      clear NE
                      have NE := NE_
                      clear NE_
                      have NU_ := Lib.hid (NU.out.under hbe)
                      clear NU
                      have NU := NU_
                      clear NU_
                      have T1_ := Lib.hid (T1.out.under hbe)
                      clear T1
                      have T1 := T1_
                      clear T1_
                      have HBU5 := Lib.hid (HBU4.out.trans (hbe.mono HBU4.out.size))
                      obtain ⟨σ, hσ⟩ : ∃ σ : Nat → Value, (fun d => a_.eval (.tmp d)) = σ := ⟨_, rfl⟩
                      have ha := hag.lay (by simp)
                      rw [hσ] at ha
                      have s_1 : σ 11 = .pointer (some ⟨b1, 0, none⟩) := by rw [← hσ]; exact e1
                      have s_2 : σ 12 = .pointer (some ⟨b2, 0, none⟩) := by rw [← hσ]; exact e2
                      clear hσ hag hK hbel e1 e2 e102 hw1 hw2 hl1 hl2 hne hU hbe HBU4
                      subst ha
                      simp only [lay, List.foldl_cons, List.foldl_nil, Act.put, List.setIfInBounds_toArray, List.set_cons_zero, List.set_cons_succ, s_1, s_2]
                      clear s_1 s_2
                      obtain ⟨u99, hu99⟩ : ∃ u, σ 99 = u := ⟨_, rfl⟩
                      rw [hu99]
                      clear hu99
                      obtain ⟨u100, hu100⟩ : ∃ u, σ 100 = u := ⟨_, rfl⟩
                      rw [hu100]
                      clear hu100
                      obtain ⟨u101, hu101⟩ : ∃ u, σ 101 = u := ⟨_, rfl⟩
                      rw [hu101]
                      clear hu101
                      obtain ⟨u102, hu102⟩ : ∃ u, σ 102 = u := ⟨_, rfl⟩
                      rw [hu102]
                      clear hu102
                      obtain ⟨oo, hoo⟩ : ∃ n, oldB p = n := ⟨_, rfl⟩
                      have hc2o : (countB (caB p v)).old = oo := by rw [← hoo]; exact old_cancel v Hst.out
                      have hc2w : (countB (caB p v)).want = p.cf.f0 := want_cancel p v
                      have hc1o : (countB (stB p v)).old = q := HOn.out
                      have hc0o : (countB p).old = oo := hoo
                      obtain ⟨c1, hc1⟩ : ∃ c, countB (stB p v) = c := ⟨_, rfl⟩
                      obtain ⟨c2, hc2⟩ : ∃ c, countB (caB p v) = c := ⟨_, rfl⟩
                      obtain ⟨c0, hc0⟩ : ∃ c, countB p = c := ⟨_, rfl⟩
                      have hc1w : q = 0 → c1.want = p.cf.f0 := by
                        intro h9
                        rw [← hc1]
                        exact want_start (by rw [HOn.out]; exact h9)
                      rw [hc1] at hc1o
                      rw [hc2] at hc2o hc2w
                      rw [hc0] at hc0o
                      have Z1 := Lib.hid (show Whole W8 b1 38 c1.cells by rw [← hc1]; exact Y1.out)
                      have Z2 := Lib.hid (show Whole W8 b2 38 c2.cells by rw [← hc2]; exact Y2.out)
                      have G1 := Lib.hid hc1o
                      have G2 := Lib.hid hc2o
                      have G3 := Lib.hid hc2w
                      have G4 := Lib.hid hc0o
                      have G5 := Lib.hid hc1w
                      have HC0 := Lib.hid hc0
                      clear hoo hc2o hc2w hc1o hc0o hc1 hc2 hc0 hc1w Y1 Y2
                      go_upto_region 18 with fail
                      rcases (by omega : q = 0 ∨ 0 < q) with hq0 | hq0
                      · subst hq0
                        have HL : Hid (∀ V', Below W8.heap.size W8 V' → Whole V' w.heap.size 30 (brC p a) ∧ Whole V' U1.heap.size 30 (brC (stB p v) a1) ∧ Whole V' U3.heap.size 30 (brC (caB p v) a2) ∧ V'.cell? ⟨w.heap.size, 3, none⟩ = some (.int .i64 p.cf.f0) ∧ V'.cell? ⟨w.heap.size, 15, none⟩ = some (.int .i64 p.cf.f12) ∧ V'.cell? ⟨b1, 1, none⟩ = some (.int .i64 (((0 : Nat) : Int) : Int)) ∧ V'.cell? ⟨b1, 6, none⟩ = some (.int .i64 p.cf.f0) ∧ V'.cell? ⟨b2, 1, none⟩ = some (.int .i64 (oo : Int)) ∧ V'.cell? ⟨b2, 6, none⟩ = some (.int .i64 p.cf.f0)) := Lib.hid (fun V' hV => ⟨X0.out.under hV, D5.out.under hV, E6.out.under hV, (X0.out.under hV).cell 3, (X0.out.under hV).cell 15, by have h9 := (Z1.out.under hV).cell 1; rw [← G1.out]; exact h9, by have h9 := (Z1.out.under hV).cell 6; rw [← G5.out rfl]; exact h9, by have h9 := (Z2.out.under hV).cell 1; rw [← G2.out]; exact h9, by have h9 := (Z2.out.under hV).cell 6; rw [← G3.out]; exact h9⟩)
                        have HBd := Lib.hid (show Below W8.heap.size W8 W8.drew from below_drewB (Below.refl _ _) 1)
                        refine wp_region_T (ls := []) (T := (fun V' => Below W8.heap.size W8 V')) (by kernel_rfl) ?_
                        refine takeT (i := 0) (v := brV (stB p v) a1) rfl (by kernel_rfl) (by kernel_rfl) (by kernel_rfl) (by kernel_rfl) (fun _ _ _ h => h) (by rfl) ?_ HBd.out ?_
                        · intro V' hV; obtain ⟨y0, y1, y2, y3, y4, y5, y6, y7, y8⟩ := HL.out V' hV; exact exec_load_brain rfl y1
                        simp only [Act.put, List.setIfInBounds_toArray, List.set_cons_zero, List.set_cons_succ]
                        refine takeP (i := 2) (v := ?_) rfl (by kernel_rfl) (by kernel_rfl) (by kernel_rfl) (by kernel_rfl) (fun _ _ _ h => h) (by rfl) ?_ (fun _ => HBd.out) ?_
                        rotate_left
                        · intro V'; go_simp <;> with_reducible rfl
                        simp only [Act.put, List.setIfInBounds_toArray, List.set_cons_zero, List.set_cons_succ]
                        refine oneT (i := 1) rfl (by kernel_rfl) (by rfl) (fun K hK => ?_)
                        go_simp
                        refine (HC.out.ver (stB p v) a1 W8.drew (ND.out.under HBd.out)).mono ?_
                        rintro e W8_1 ⟨rfl, hb_⟩
                        rw [ver_start]
                        have HB_1 := Lib.hid (show Below W8.heap.size W8 W8_1 from HBd.out.trans (hb_.mono HBd.out.size))
                        clear hb_ HBd
                        refine hK.out _ _ (fun _ => HB_1.out) ?_
                        clear hK K
                        refine takeT (i := 3) (v := .bool true) rfl (by kernel_rfl) (by kernel_rfl) (by kernel_rfl) (by kernel_rfl) (fun _ _ _ h => h) (by rfl) ?_ HB_1.out ?_
                        · intro V' hV; obtain ⟨y0, y1, y2, y3, y4, y5, y6, y7, y8⟩ := HL.out V' hV; go_simp
                        simp only [Act.put, List.setIfInBounds_toArray, List.set_cons_zero, List.set_cons_succ]
                        refine takeP (i := 4) (v := ?_) rfl (by kernel_rfl) (by kernel_rfl) (by kernel_rfl) (by kernel_rfl) (fun _ _ _ h => h) (by rfl) ?_ (fun _ => HB_1.out) ?_
                        rotate_left
                        · intro V'; go_simp <;> with_reducible rfl
                        simp only [Act.put, List.setIfInBounds_toArray, List.set_cons_zero, List.set_cons_succ]
                        refine takeP (i := 5) (v := ?_) rfl (by kernel_rfl) (by kernel_rfl) (by kernel_rfl) (by kernel_rfl) (fun _ _ _ h => h) (by rfl) ?_ (fun _ => HB_1.out) ?_
                        rotate_left
                        · intro V'; go_simp <;> with_reducible rfl
                        simp only [Act.put, List.setIfInBounds_toArray, List.set_cons_zero, List.set_cons_succ]
                        refine takeT (i := 6) (v := ?_) rfl (by kernel_rfl) (by kernel_rfl) (by kernel_rfl) (by kernel_rfl) (fun _ _ _ h => h) (by rfl) ?_ HB_1.out ?_
                        rotate_left
                        · intro V' hV; obtain ⟨y0, y1, y2, y3, y4, y5, y6, y7, y8⟩ := HL.out V' hV; go_simp <;> with_reducible rfl
                        simp only [Act.put, List.setIfInBounds_toArray, List.set_cons_zero, List.set_cons_succ]
                        refine takeP (i := 7) (v := ?_) rfl (by kernel_rfl) (by kernel_rfl) (by kernel_rfl) (by kernel_rfl) (fun _ _ _ h => h) (by rfl) ?_ (fun _ => HB_1.out) ?_
                        rotate_left
                        · intro V'; go_simp <;> with_reducible rfl
                        simp only [Act.put, List.setIfInBounds_toArray, List.set_cons_zero, List.set_cons_succ]
                        refine takeT (i := 8) (v := .bool true) rfl (by kernel_rfl) (by kernel_rfl) (by kernel_rfl) (by kernel_rfl) (fun _ _ _ h => h) (by rfl) ?_ HB_1.out ?_
                        · intro V' hV; obtain ⟨y0, y1, y2, y3, y4, y5, y6, y7, y8⟩ := HL.out V' hV; go_simp
                        simp only [Act.put, List.setIfInBounds_toArray, List.set_cons_zero, List.set_cons_succ]
                        refine takeP (i := 9) (v := ?_) rfl (by kernel_rfl) (by kernel_rfl) (by kernel_rfl) (by kernel_rfl) (fun _ _ _ h => h) (by rfl) ?_ (fun _ => HB_1.out) ?_
                        rotate_left
                        · intro V'; go_simp <;> with_reducible rfl
                        simp only [Act.put, List.setIfInBounds_toArray, List.set_cons_zero, List.set_cons_succ]
                        refine takeP (i := 10) (v := ?_) rfl (by kernel_rfl) (by kernel_rfl) (by kernel_rfl) (by kernel_rfl) (fun _ _ _ h => h) (by rfl) ?_ (fun _ => HB_1.out) ?_
                        rotate_left
                        · intro V'; go_simp <;> with_reducible rfl
                        simp only [Act.put, List.setIfInBounds_toArray, List.set_cons_zero, List.set_cons_succ]
                        refine takeT (i := 11) (v := brV (caB p v) a2) rfl (by kernel_rfl) (by kernel_rfl) (by kernel_rfl) (by kernel_rfl) (fun _ _ _ h => h) (by rfl) ?_ HB_1.out ?_
                        · intro V' hV; obtain ⟨y0, y1, y2, y3, y4, y5, y6, y7, y8⟩ := HL.out V' hV; exact exec_load_brain rfl y2
                        simp only [Act.put, List.setIfInBounds_toArray, List.set_cons_zero, List.set_cons_succ]
                        refine takeP (i := 13) (v := ?_) rfl (by kernel_rfl) (by kernel_rfl) (by kernel_rfl) (by kernel_rfl) (fun _ _ _ h => h) (by rfl) ?_ (fun _ => HB_1.out) ?_
                        rotate_left
                        · intro V'; go_simp <;> with_reducible rfl
                        simp only [Act.put, List.setIfInBounds_toArray, List.set_cons_zero, List.set_cons_succ]
                        refine takeP (i := 14) (v := ?_) rfl (by kernel_rfl) (by kernel_rfl) (by kernel_rfl) (by kernel_rfl) (fun _ _ _ h => h) (by rfl) ?_ (fun _ => HB_1.out) ?_
                        rotate_left
                        · intro V'; go_simp <;> with_reducible rfl
                        simp only [Act.put, List.setIfInBounds_toArray, List.set_cons_zero, List.set_cons_succ]
                        refine takeT (i := 15) (v := ?_) rfl (by kernel_rfl) (by kernel_rfl) (by kernel_rfl) (by kernel_rfl) (fun _ _ _ h => h) (by rfl) ?_ HB_1.out ?_
                        rotate_left
                        · intro V' hV; obtain ⟨y0, y1, y2, y3, y4, y5, y6, y7, y8⟩ := HL.out V' hV; go_simp <;> with_reducible rfl
                        simp only [Act.put, List.setIfInBounds_toArray, List.set_cons_zero, List.set_cons_succ]
                        refine oneT (i := 12) rfl (by kernel_rfl) (by rfl) (fun K hK => ?_)
                        go_simp
                        refine (HC.out.ver (caB p v) a2 W8_1 (NE.out.under HB_1.out)).mono ?_
                        rintro e W8_2 ⟨rfl, hb_⟩
                        rw [ver_cancel]
                        have HB_2 := Lib.hid (show Below W8.heap.size W8 W8_2 from HB_1.out.trans (hb_.mono HB_1.out.size))
                        clear hb_ HB_1
                        refine hK.out _ _ (fun _ => HB_2.out) ?_
                        clear hK K
                        refine takeT (i := 16) (v := .bool true) rfl (by kernel_rfl) (by kernel_rfl) (by kernel_rfl) (by kernel_rfl) (fun _ _ _ h => h) (by rfl) ?_ HB_2.out ?_
                        · intro V' hV; obtain ⟨y0, y1, y2, y3, y4, y5, y6, y7, y8⟩ := HL.out V' hV; go_simp
                        simp only [Act.put, List.setIfInBounds_toArray, List.set_cons_zero, List.set_cons_succ]
                        refine takeP (i := 17) (v := ?_) rfl (by kernel_rfl) (by kernel_rfl) (by kernel_rfl) (by kernel_rfl) (fun _ _ _ h => h) (by rfl) ?_ (fun _ => HB_2.out) ?_
                        rotate_left
                        · intro V'; go_simp <;> with_reducible rfl
                        simp only [Act.put, List.setIfInBounds_toArray, List.set_cons_zero, List.set_cons_succ]
                        refine takeP (i := 18) (v := ?_) rfl (by kernel_rfl) (by kernel_rfl) (by kernel_rfl) (by kernel_rfl) (fun _ _ _ h => h) (by rfl) ?_ (fun _ => HB_2.out) ?_
                        rotate_left
                        · intro V'; go_simp <;> with_reducible rfl
                        simp only [Act.put, List.setIfInBounds_toArray, List.set_cons_zero, List.set_cons_succ]
                        refine takeP (i := 19) (v := ?_) rfl (by kernel_rfl) (by kernel_rfl) (by kernel_rfl) (by kernel_rfl) (fun _ _ _ h => h) (by rfl) ?_ (fun _ => HB_2.out) ?_
                        rotate_left
                        · intro V'; go_simp <;> with_reducible rfl
                        simp only [Act.put, List.setIfInBounds_toArray, List.set_cons_zero, List.set_cons_succ]
                        refine takeT (i := 20) (v := ?_) rfl (by kernel_rfl) (by kernel_rfl) (by kernel_rfl) (by kernel_rfl) (fun _ _ _ h => h) (by rfl) ?_ HB_2.out ?_
                        rotate_left
                        · intro V' hV; obtain ⟨y0, y1, y2, y3, y4, y5, y6, y7, y8⟩ := HL.out V' hV; go_simp <;> with_reducible rfl
                        simp only [Act.put, List.setIfInBounds_toArray, List.set_cons_zero, List.set_cons_succ]
                        refine takeP (i := 21) (v := ?_) rfl (by kernel_rfl) (by kernel_rfl) (by kernel_rfl) (by kernel_rfl) (fun _ _ _ h => h) (by rfl) ?_ (fun _ => HB_2.out) ?_
                        rotate_left
                        · intro V'; go_simp <;> with_reducible rfl
                        simp only [Act.put, List.setIfInBounds_toArray, List.set_cons_zero, List.set_cons_succ]
                        refine takeP (i := 22) (v := ?_) rfl (by kernel_rfl) (by kernel_rfl) (by kernel_rfl) (by kernel_rfl) (fun _ _ _ h => h) (by rfl) ?_ (fun _ => HB_2.out) ?_
                        rotate_left
                        · intro V'; go_simp <;> with_reducible rfl
                        simp only [Act.put, List.setIfInBounds_toArray, List.set_cons_zero, List.set_cons_succ]
                        refine takeT (i := 23) (v := ?_) rfl (by kernel_rfl) (by kernel_rfl) (by kernel_rfl) (by kernel_rfl) (fun _ _ _ h => h) (by rfl) ?_ HB_2.out ?_
                        rotate_left
                        · intro V' hV; obtain ⟨y0, y1, y2, y3, y4, y5, y6, y7, y8⟩ := HL.out V' hV; go_simp <;> with_reducible rfl
                        simp only [Act.put, List.setIfInBounds_toArray, List.set_cons_zero, List.set_cons_succ]
                        refine takeT (i := 24) (v := .bool true) rfl (by kernel_rfl) (by kernel_rfl) (by kernel_rfl) (by kernel_rfl) (fun _ _ _ h => h) (by rfl) ?_ HB_2.out ?_
                        · intro V' hV; obtain ⟨y0, y1, y2, y3, y4, y5, y6, y7, y8⟩ := HL.out V' hV; go_simp
                        simp only [Act.put, List.setIfInBounds_toArray, List.set_cons_zero, List.set_cons_succ]
                        refine takeP (i := 25) (v := ?_) rfl (by kernel_rfl) (by kernel_rfl) (by kernel_rfl) (by kernel_rfl) (fun _ _ _ h => h) (by rfl) ?_ (fun _ => HB_2.out) ?_
                        rotate_left
                        · intro V'; go_simp <;> with_reducible rfl
                        simp only [Act.put, List.setIfInBounds_toArray, List.set_cons_zero, List.set_cons_succ]
                        refine takeP (i := 26) (v := ?_) rfl (by kernel_rfl) (by kernel_rfl) (by kernel_rfl) (by kernel_rfl) (fun _ _ _ h => h) (by rfl) ?_ (fun _ => HB_2.out) ?_
                        rotate_left
                        · intro V'; go_simp <;> with_reducible rfl
                        simp only [Act.put, List.setIfInBounds_toArray, List.set_cons_zero, List.set_cons_succ]
                        refine takeP (i := 27) (v := ?_) rfl (by kernel_rfl) (by kernel_rfl) (by kernel_rfl) (by kernel_rfl) (fun _ _ _ h => h) (by rfl) ?_ (fun _ => HB_2.out) ?_
                        rotate_left
                        · intro V'; go_simp <;> with_reducible rfl
                        simp only [Act.put, List.setIfInBounds_toArray, List.set_cons_zero, List.set_cons_succ]
                        refine takeT (i := 28) (v := ?_) rfl (by kernel_rfl) (by kernel_rfl) (by kernel_rfl) (by kernel_rfl) (fun _ _ _ h => h) (by rfl) ?_ HB_2.out ?_
                        rotate_left
                        · intro V' hV; obtain ⟨y0, y1, y2, y3, y4, y5, y6, y7, y8⟩ := HL.out V' hV; go_simp <;> with_reducible rfl
                        simp only [Act.put, List.setIfInBounds_toArray, List.set_cons_zero, List.set_cons_succ]
                        refine takeT (i := 29) (v := brV p a) rfl (by kernel_rfl) (by kernel_rfl) (by kernel_rfl) (by kernel_rfl) (fun _ _ _ h => h) (by rfl) ?_ HB_2.out ?_
                        · intro V' hV; obtain ⟨y0, y1, y2, y3, y4, y5, y6, y7, y8⟩ := HL.out V' hV; exact exec_load_brain rfl y0
                        simp only [Act.put, List.setIfInBounds_toArray, List.set_cons_zero, List.set_cons_succ]
                        refine oneT (i := 30) rfl (by kernel_rfl) (by rfl) (fun K hK => ?_)
                        go_simp
                        refine (HC.out.of p a W8_2 (NU.out.under HB_2.out)).mono ?_
                        rintro e W8_3 ⟨rfl, hb_⟩
                        rw [HC0.out]
                        have HB_3 := Lib.hid (show Below W8.heap.size W8 W8_3 from HB_2.out.trans (hb_.mono HB_2.out.size))
                        clear hb_ HB_2
                        refine hK.out _ _ (fun _ => HB_3.out) ?_
                        clear hK K
                        refine takeT (i := 31) (v := .int .i64 (oo : Int)) rfl (by kernel_rfl) (by kernel_rfl) (by kernel_rfl) (by kernel_rfl) (fun _ _ _ h => h) (by rfl) ?_ HB_3.out ?_
                        · intro V' hV; obtain ⟨y0, y1, y2, y3, y4, y5, y6, y7, y8⟩ := HL.out V' hV; have h9 := G4.out; simp only [Cn.v]; go_simp <;> first | rfl | kernel_rfl
                        simp only [Act.put, List.setIfInBounds_toArray, List.set_cons_zero, List.set_cons_succ]
                        refine takeT (i := 32) (v := .bool true) rfl (by kernel_rfl) (by kernel_rfl) (by kernel_rfl) (by kernel_rfl) (fun _ _ _ h => h) (by rfl) ?_ HB_3.out ?_
                        · intro V' hV; obtain ⟨y0, y1, y2, y3, y4, y5, y6, y7, y8⟩ := HL.out V' hV; go_simp
                        simp only [Act.put, List.setIfInBounds_toArray, List.set_cons_zero, List.set_cons_succ]
                        refine takeP (i := 33) (v := ?_) rfl (by kernel_rfl) (by kernel_rfl) (by kernel_rfl) (by kernel_rfl) (fun _ _ _ h => h) (by rfl) ?_ (fun _ => HB_3.out) ?_
                        rotate_left
                        · intro V'; go_simp <;> with_reducible rfl
                        simp only [Act.put, List.setIfInBounds_toArray, List.set_cons_zero, List.set_cons_succ]
                        refine takeP (i := 34) (v := ?_) rfl (by kernel_rfl) (by kernel_rfl) (by kernel_rfl) (by kernel_rfl) (fun _ _ _ h => h) (by rfl) ?_ (fun _ => HB_3.out) ?_
                        rotate_left
                        · intro V'; go_simp <;> with_reducible rfl
                        simp only [Act.put, List.setIfInBounds_toArray, List.set_cons_zero, List.set_cons_succ]
                        refine takeP (i := 35) (v := ?_) rfl (by kernel_rfl) (by kernel_rfl) (by kernel_rfl) (by kernel_rfl) (fun _ _ _ h => h) (by rfl) ?_ (fun _ => HB_3.out) ?_
                        rotate_left
                        · intro V'; go_simp <;> with_reducible rfl
                        simp only [Act.put, List.setIfInBounds_toArray, List.set_cons_zero, List.set_cons_succ]
                        refine takeT (i := 36) (v := .bool false) rfl (by kernel_rfl) (by kernel_rfl) (by kernel_rfl) (by kernel_rfl) (fun _ _ _ h => h) (by rfl) ?_ HB_3.out ?_
                        · intro V' hV; obtain ⟨y0, y1, y2, y3, y4, y5, y6, y7, y8⟩ := HL.out V' hV; go_simp
                        simp only [Act.put, List.setIfInBounds_toArray, List.set_cons_zero, List.set_cons_succ]
                        refine takeP (i := 37) (v := ?_) rfl (by kernel_rfl) (by kernel_rfl) (by kernel_rfl) (by kernel_rfl) (fun _ _ _ h => h) (by rfl) ?_ (fun _ => HB_3.out) ?_
                        rotate_left
                        · intro V'; go_simp <;> with_reducible rfl
                        simp only [Act.put, List.setIfInBounds_toArray, List.set_cons_zero, List.set_cons_succ]
                        refine takeP (i := 38) (v := ?_) rfl (by kernel_rfl) (by kernel_rfl) (by kernel_rfl) (by kernel_rfl) (fun _ _ _ h => h) (by rfl) ?_ (fun _ => HB_3.out) ?_
                        rotate_left
                        · intro V'; go_simp <;> with_reducible rfl
                        simp only [Act.put, List.setIfInBounds_toArray, List.set_cons_zero, List.set_cons_succ]
                        refine takeT (i := 39) (v := ?_) rfl (by kernel_rfl) (by kernel_rfl) (by kernel_rfl) (by kernel_rfl) (fun _ _ _ h => h) (by rfl) ?_ HB_3.out ?_
                        rotate_left
                        · intro V' hV; obtain ⟨y0, y1, y2, y3, y4, y5, y6, y7, y8⟩ := HL.out V' hV; go_simp <;> with_reducible rfl
                        simp only [Act.put, List.setIfInBounds_toArray, List.set_cons_zero, List.set_cons_succ]
                        refine takeP (i := 40) (v := ?_) rfl (by kernel_rfl) (by kernel_rfl) (by kernel_rfl) (by kernel_rfl) (fun _ _ _ h => h) (by rfl) ?_ (fun _ => HB_3.out) ?_
                        rotate_left
                        · intro V'; go_simp <;> with_reducible rfl
                        simp only [Act.put, List.setIfInBounds_toArray, List.set_cons_zero, List.set_cons_succ]
                        refine takeP (i := 41) (v := ?_) rfl (by kernel_rfl) (by kernel_rfl) (by kernel_rfl) (by kernel_rfl) (fun _ _ _ h => h) (by rfl) ?_ (fun _ => HB_3.out) ?_
                        rotate_left
                        · intro V'; go_simp <;> with_reducible rfl
                        simp only [Act.put, List.setIfInBounds_toArray, List.set_cons_zero, List.set_cons_succ]
                        refine takeT (i := 42) (v := ?_) rfl (by kernel_rfl) (by kernel_rfl) (by kernel_rfl) (by kernel_rfl) (fun _ _ _ h => h) (by rfl) ?_ HB_3.out ?_
                        rotate_left
                        · intro V' hV; obtain ⟨y0, y1, y2, y3, y4, y5, y6, y7, y8⟩ := HL.out V' hV; go_simp <;> with_reducible rfl
                        simp only [Act.put, List.setIfInBounds_toArray, List.set_cons_zero, List.set_cons_succ]
                        refine takeT (i := 43) (v := .bool true) rfl (by kernel_rfl) (by kernel_rfl) (by kernel_rfl) (by kernel_rfl) (fun _ _ _ h => h) (by rfl) ?_ HB_3.out ?_
                        · intro V' hV; obtain ⟨y0, y1, y2, y3, y4, y5, y6, y7, y8⟩ := HL.out V' hV; go_simp
                        simp only [Act.put, List.setIfInBounds_toArray, List.set_cons_zero, List.set_cons_succ]
                        refine takeP (i := 44) (v := ?_) rfl (by kernel_rfl) (by kernel_rfl) (by kernel_rfl) (by kernel_rfl) (fun _ _ _ h => h) (by rfl) ?_ (fun _ => HB_3.out) ?_
                        rotate_left
                        · intro V'; go_simp <;> with_reducible rfl
                        simp only [Act.put, List.setIfInBounds_toArray, List.set_cons_zero, List.set_cons_succ]
                        refine takeP (i := 45) (v := ?_) rfl (by kernel_rfl) (by kernel_rfl) (by kernel_rfl) (by kernel_rfl) (fun _ _ _ h => h) (by rfl) ?_ (fun _ => HB_3.out) ?_
                        rotate_left
                        · intro V'; go_simp <;> with_reducible rfl
                        simp only [Act.put, List.setIfInBounds_toArray, List.set_cons_zero, List.set_cons_succ]
                        refine takeP (i := 46) (v := ?_) rfl (by kernel_rfl) (by kernel_rfl) (by kernel_rfl) (by kernel_rfl) (fun _ _ _ h => h) (by rfl) ?_ (fun _ => HB_3.out) ?_
                        rotate_left
                        · intro V'; go_simp <;> with_reducible rfl
                        simp only [Act.put, List.setIfInBounds_toArray, List.set_cons_zero, List.set_cons_succ]
                        refine oneT (i := 47) rfl (by kernel_rfl) (by rfl) (fun K hK => ?_)
                        go_simp
                        refine (wakes15_any HC.out W8_3 (T1.out.under HB_3.out)).mono ?_
                        rintro e W8_4 ⟨rfl, hb_⟩
                        have HB_4 := Lib.hid (show Below W8.heap.size W8 W8_4 from HB_3.out.trans (hb_.mono HB_3.out.size))
                        clear hb_ HB_3
                        refine hK.out _ _ (fun _ => HB_4.out) ?_
                        clear hK K
                        refine takeP (i := 48) (v := ?_) rfl (by kernel_rfl) (by kernel_rfl) (by kernel_rfl) (by kernel_rfl) (fun _ _ _ h => h) (by rfl) ?_ (fun _ => HB_4.out) ?_
                        rotate_left
                        · intro V'; go_simp <;> with_reducible rfl
                        simp only [Act.put, List.setIfInBounds_toArray, List.set_cons_zero, List.set_cons_succ]
                        refine oneT (i := 49) rfl (by kernel_rfl) (by rfl) (fun K hK => ?_)
                        go_simp
                        refine hK.out _ _ (fun _ => HB_4.out) ?_
                        clear hK K
                        refine doneT (by kernel_rfl) ?_ _
                        have HBx := Lib.hid (HBU5.out.trans (HB_4.out.mono HBU5.out.size))
                        go_wp2_with fail
                        go_ret
                        exact ⟨rfl, HBx.out⟩
                      · have Hq := Lib.hid (show (0 : Int) < (q : Int) by omega)
                        clear hq0
                        have HL : Hid (∀ V', Below W8.heap.size W8 V' → Whole V' w.heap.size 30 (brC p a) ∧ Whole V' U1.heap.size 30 (brC (stB p v) a1) ∧ Whole V' U3.heap.size 30 (brC (caB p v) a2) ∧ V'.cell? ⟨w.heap.size, 3, none⟩ = some (.int .i64 p.cf.f0) ∧ V'.cell? ⟨w.heap.size, 15, none⟩ = some (.int .i64 p.cf.f12) ∧ V'.cell? ⟨b1, 1, none⟩ = some (.int .i64 ((q : Int) : Int)) ∧ V'.cell? ⟨b1, 6, none⟩ = some (.int .i64 c1.want) ∧ V'.cell? ⟨b2, 1, none⟩ = some (.int .i64 (oo : Int)) ∧ V'.cell? ⟨b2, 6, none⟩ = some (.int .i64 p.cf.f0)) := Lib.hid (fun V' hV => ⟨X0.out.under hV, D5.out.under hV, E6.out.under hV, (X0.out.under hV).cell 3, (X0.out.under hV).cell 15, by have h9 := (Z1.out.under hV).cell 1; rw [← G1.out]; exact h9, (Z1.out.under hV).cell 6, by have h9 := (Z2.out.under hV).cell 1; rw [← G2.out]; exact h9, by have h9 := (Z2.out.under hV).cell 6; rw [← G3.out]; exact h9⟩)
                        have HBd := Lib.hid (show Below W8.heap.size W8 W8.drew from below_drewB (Below.refl _ _) 1)
                        refine wp_region_T (ls := []) (T := (fun V' => Below W8.heap.size W8 V')) (by kernel_rfl) ?_
                        refine takeT (i := 0) (v := brV (stB p v) a1) rfl (by kernel_rfl) (by kernel_rfl) (by kernel_rfl) (by kernel_rfl) (fun _ _ _ h => h) (by rfl) ?_ HBd.out ?_
                        · intro V' hV; obtain ⟨y0, y1, y2, y3, y4, y5, y6, y7, y8⟩ := HL.out V' hV; exact exec_load_brain rfl y1
                        simp only [Act.put, List.setIfInBounds_toArray, List.set_cons_zero, List.set_cons_succ]
                        refine takeP (i := 2) (v := ?_) rfl (by kernel_rfl) (by kernel_rfl) (by kernel_rfl) (by kernel_rfl) (fun _ _ _ h => h) (by rfl) ?_ (fun _ => HBd.out) ?_
                        rotate_left
                        · intro V'; go_simp <;> with_reducible rfl
                        simp only [Act.put, List.setIfInBounds_toArray, List.set_cons_zero, List.set_cons_succ]
                        refine oneT (i := 1) rfl (by kernel_rfl) (by rfl) (fun K hK => ?_)
                        go_simp
                        refine (HC.out.ver (stB p v) a1 W8.drew (ND.out.under HBd.out)).mono ?_
                        rintro e W8_1 ⟨rfl, hb_⟩
                        rw [ver_start]
                        have HB_1 := Lib.hid (show Below W8.heap.size W8 W8_1 from HBd.out.trans (hb_.mono HBd.out.size))
                        clear hb_ HBd
                        refine hK.out _ _ (fun _ => HB_1.out) ?_
                        clear hK K
                        refine takeT (i := 3) (v := .bool true) rfl (by kernel_rfl) (by kernel_rfl) (by kernel_rfl) (by kernel_rfl) (fun _ _ _ h => h) (by rfl) ?_ HB_1.out ?_
                        · intro V' hV; obtain ⟨y0, y1, y2, y3, y4, y5, y6, y7, y8⟩ := HL.out V' hV; go_simp
                        simp only [Act.put, List.setIfInBounds_toArray, List.set_cons_zero, List.set_cons_succ]
                        refine takeP (i := 4) (v := ?_) rfl (by kernel_rfl) (by kernel_rfl) (by kernel_rfl) (by kernel_rfl) (fun _ _ _ h => h) (by rfl) ?_ (fun _ => HB_1.out) ?_
                        rotate_left
                        · intro V'; go_simp <;> with_reducible rfl
                        simp only [Act.put, List.setIfInBounds_toArray, List.set_cons_zero, List.set_cons_succ]
                        refine takeP (i := 5) (v := ?_) rfl (by kernel_rfl) (by kernel_rfl) (by kernel_rfl) (by kernel_rfl) (fun _ _ _ h => h) (by rfl) ?_ (fun _ => HB_1.out) ?_
                        rotate_left
                        · intro V'; go_simp <;> with_reducible rfl
                        simp only [Act.put, List.setIfInBounds_toArray, List.set_cons_zero, List.set_cons_succ]
                        refine takeT (i := 6) (v := ?_) rfl (by kernel_rfl) (by kernel_rfl) (by kernel_rfl) (by kernel_rfl) (fun _ _ _ h => h) (by rfl) ?_ HB_1.out ?_
                        rotate_left
                        · intro V' hV; obtain ⟨y0, y1, y2, y3, y4, y5, y6, y7, y8⟩ := HL.out V' hV; go_simp <;> with_reducible rfl
                        simp only [Act.put, List.setIfInBounds_toArray, List.set_cons_zero, List.set_cons_succ]
                        refine takeP (i := 7) (v := ?_) rfl (by kernel_rfl) (by kernel_rfl) (by kernel_rfl) (by kernel_rfl) (fun _ _ _ h => h) (by rfl) ?_ (fun _ => HB_1.out) ?_
                        rotate_left
                        · intro V'; go_simp <;> with_reducible rfl
                        simp only [Act.put, List.setIfInBounds_toArray, List.set_cons_zero, List.set_cons_succ]
                        refine takeT (i := 8) (v := .bool true) rfl (by kernel_rfl) (by kernel_rfl) (by kernel_rfl) (by kernel_rfl) (fun _ _ _ h => h) (by rfl) ?_ HB_1.out ?_
                        · intro V' hV; obtain ⟨y0, y1, y2, y3, y4, y5, y6, y7, y8⟩ := HL.out V' hV; go_simp
                        simp only [Act.put, List.setIfInBounds_toArray, List.set_cons_zero, List.set_cons_succ]
                        refine takeP (i := 9) (v := ?_) rfl (by kernel_rfl) (by kernel_rfl) (by kernel_rfl) (by kernel_rfl) (fun _ _ _ h => h) (by rfl) ?_ (fun _ => HB_1.out) ?_
                        rotate_left
                        · intro V'; go_simp <;> with_reducible rfl
                        simp only [Act.put, List.setIfInBounds_toArray, List.set_cons_zero, List.set_cons_succ]
                        refine takeP (i := 10) (v := ?_) rfl (by kernel_rfl) (by kernel_rfl) (by kernel_rfl) (by kernel_rfl) (fun _ _ _ h => h) (by rfl) ?_ (fun _ => HB_1.out) ?_
                        rotate_left
                        · intro V'; go_simp <;> with_reducible rfl
                        simp only [Act.put, List.setIfInBounds_toArray, List.set_cons_zero, List.set_cons_succ]
                        refine takeT (i := 11) (v := brV (caB p v) a2) rfl (by kernel_rfl) (by kernel_rfl) (by kernel_rfl) (by kernel_rfl) (fun _ _ _ h => h) (by rfl) ?_ HB_1.out ?_
                        · intro V' hV; obtain ⟨y0, y1, y2, y3, y4, y5, y6, y7, y8⟩ := HL.out V' hV; exact exec_load_brain rfl y2
                        simp only [Act.put, List.setIfInBounds_toArray, List.set_cons_zero, List.set_cons_succ]
                        refine takeP (i := 13) (v := ?_) rfl (by kernel_rfl) (by kernel_rfl) (by kernel_rfl) (by kernel_rfl) (fun _ _ _ h => h) (by rfl) ?_ (fun _ => HB_1.out) ?_
                        rotate_left
                        · intro V'; go_simp <;> with_reducible rfl
                        simp only [Act.put, List.setIfInBounds_toArray, List.set_cons_zero, List.set_cons_succ]
                        refine takeP (i := 14) (v := ?_) rfl (by kernel_rfl) (by kernel_rfl) (by kernel_rfl) (by kernel_rfl) (fun _ _ _ h => h) (by rfl) ?_ (fun _ => HB_1.out) ?_
                        rotate_left
                        · intro V'; go_simp <;> with_reducible rfl
                        simp only [Act.put, List.setIfInBounds_toArray, List.set_cons_zero, List.set_cons_succ]
                        refine takeT (i := 15) (v := ?_) rfl (by kernel_rfl) (by kernel_rfl) (by kernel_rfl) (by kernel_rfl) (fun _ _ _ h => h) (by rfl) ?_ HB_1.out ?_
                        rotate_left
                        · intro V' hV; obtain ⟨y0, y1, y2, y3, y4, y5, y6, y7, y8⟩ := HL.out V' hV; go_simp <;> with_reducible rfl
                        simp only [Act.put, List.setIfInBounds_toArray, List.set_cons_zero, List.set_cons_succ]
                        refine oneT (i := 12) rfl (by kernel_rfl) (by rfl) (fun K hK => ?_)
                        go_simp
                        refine (HC.out.ver (caB p v) a2 W8_1 (NE.out.under HB_1.out)).mono ?_
                        rintro e W8_2 ⟨rfl, hb_⟩
                        rw [ver_cancel]
                        have HB_2 := Lib.hid (show Below W8.heap.size W8 W8_2 from HB_1.out.trans (hb_.mono HB_1.out.size))
                        clear hb_ HB_1
                        refine hK.out _ _ (fun _ => HB_2.out) ?_
                        clear hK K
                        refine takeT (i := 16) (v := .bool true) rfl (by kernel_rfl) (by kernel_rfl) (by kernel_rfl) (by kernel_rfl) (fun _ _ _ h => h) (by rfl) ?_ HB_2.out ?_
                        · intro V' hV; obtain ⟨y0, y1, y2, y3, y4, y5, y6, y7, y8⟩ := HL.out V' hV; go_simp
                        simp only [Act.put, List.setIfInBounds_toArray, List.set_cons_zero, List.set_cons_succ]
                        refine takeP (i := 17) (v := ?_) rfl (by kernel_rfl) (by kernel_rfl) (by kernel_rfl) (by kernel_rfl) (fun _ _ _ h => h) (by rfl) ?_ (fun _ => HB_2.out) ?_
                        rotate_left
                        · intro V'; go_simp <;> with_reducible rfl
                        simp only [Act.put, List.setIfInBounds_toArray, List.set_cons_zero, List.set_cons_succ]
                        refine takeP (i := 18) (v := ?_) rfl (by kernel_rfl) (by kernel_rfl) (by kernel_rfl) (by kernel_rfl) (fun _ _ _ h => h) (by rfl) ?_ (fun _ => HB_2.out) ?_
                        rotate_left
                        · intro V'; go_simp <;> with_reducible rfl
                        simp only [Act.put, List.setIfInBounds_toArray, List.set_cons_zero, List.set_cons_succ]
                        refine takeP (i := 19) (v := ?_) rfl (by kernel_rfl) (by kernel_rfl) (by kernel_rfl) (by kernel_rfl) (fun _ _ _ h => h) (by rfl) ?_ (fun _ => HB_2.out) ?_
                        rotate_left
                        · intro V'; go_simp <;> with_reducible rfl
                        simp only [Act.put, List.setIfInBounds_toArray, List.set_cons_zero, List.set_cons_succ]
                        refine takeT (i := 20) (v := ?_) rfl (by kernel_rfl) (by kernel_rfl) (by kernel_rfl) (by kernel_rfl) (fun _ _ _ h => h) (by rfl) ?_ HB_2.out ?_
                        rotate_left
                        · intro V' hV; obtain ⟨y0, y1, y2, y3, y4, y5, y6, y7, y8⟩ := HL.out V' hV; go_simp <;> with_reducible rfl
                        simp only [Act.put, List.setIfInBounds_toArray, List.set_cons_zero, List.set_cons_succ]
                        refine takeP (i := 21) (v := ?_) rfl (by kernel_rfl) (by kernel_rfl) (by kernel_rfl) (by kernel_rfl) (fun _ _ _ h => h) (by rfl) ?_ (fun _ => HB_2.out) ?_
                        rotate_left
                        · intro V'; go_simp <;> with_reducible rfl
                        simp only [Act.put, List.setIfInBounds_toArray, List.set_cons_zero, List.set_cons_succ]
                        refine takeP (i := 22) (v := ?_) rfl (by kernel_rfl) (by kernel_rfl) (by kernel_rfl) (by kernel_rfl) (fun _ _ _ h => h) (by rfl) ?_ (fun _ => HB_2.out) ?_
                        rotate_left
                        · intro V'; go_simp <;> with_reducible rfl
                        simp only [Act.put, List.setIfInBounds_toArray, List.set_cons_zero, List.set_cons_succ]
                        refine takeT (i := 23) (v := ?_) rfl (by kernel_rfl) (by kernel_rfl) (by kernel_rfl) (by kernel_rfl) (fun _ _ _ h => h) (by rfl) ?_ HB_2.out ?_
                        rotate_left
                        · intro V' hV; obtain ⟨y0, y1, y2, y3, y4, y5, y6, y7, y8⟩ := HL.out V' hV; go_simp <;> with_reducible rfl
                        simp only [Act.put, List.setIfInBounds_toArray, List.set_cons_zero, List.set_cons_succ]
                        refine takeT (i := 24) (v := .bool true) rfl (by kernel_rfl) (by kernel_rfl) (by kernel_rfl) (by kernel_rfl) (fun _ _ _ h => h) (by rfl) ?_ HB_2.out ?_
                        · intro V' hV; obtain ⟨y0, y1, y2, y3, y4, y5, y6, y7, y8⟩ := HL.out V' hV; go_simp
                        simp only [Act.put, List.setIfInBounds_toArray, List.set_cons_zero, List.set_cons_succ]
                        refine takeP (i := 25) (v := ?_) rfl (by kernel_rfl) (by kernel_rfl) (by kernel_rfl) (by kernel_rfl) (fun _ _ _ h => h) (by rfl) ?_ (fun _ => HB_2.out) ?_
                        rotate_left
                        · intro V'; go_simp <;> with_reducible rfl
                        simp only [Act.put, List.setIfInBounds_toArray, List.set_cons_zero, List.set_cons_succ]
                        refine takeP (i := 26) (v := ?_) rfl (by kernel_rfl) (by kernel_rfl) (by kernel_rfl) (by kernel_rfl) (fun _ _ _ h => h) (by rfl) ?_ (fun _ => HB_2.out) ?_
                        rotate_left
                        · intro V'; go_simp <;> with_reducible rfl
                        simp only [Act.put, List.setIfInBounds_toArray, List.set_cons_zero, List.set_cons_succ]
                        refine takeP (i := 27) (v := ?_) rfl (by kernel_rfl) (by kernel_rfl) (by kernel_rfl) (by kernel_rfl) (fun _ _ _ h => h) (by rfl) ?_ (fun _ => HB_2.out) ?_
                        rotate_left
                        · intro V'; go_simp <;> with_reducible rfl
                        simp only [Act.put, List.setIfInBounds_toArray, List.set_cons_zero, List.set_cons_succ]
                        refine takeT (i := 28) (v := ?_) rfl (by kernel_rfl) (by kernel_rfl) (by kernel_rfl) (by kernel_rfl) (fun _ _ _ h => h) (by rfl) ?_ HB_2.out ?_
                        rotate_left
                        · intro V' hV; obtain ⟨y0, y1, y2, y3, y4, y5, y6, y7, y8⟩ := HL.out V' hV; go_simp <;> with_reducible rfl
                        simp only [Act.put, List.setIfInBounds_toArray, List.set_cons_zero, List.set_cons_succ]
                        refine takeT (i := 29) (v := brV p a) rfl (by kernel_rfl) (by kernel_rfl) (by kernel_rfl) (by kernel_rfl) (fun _ _ _ h => h) (by rfl) ?_ HB_2.out ?_
                        · intro V' hV; obtain ⟨y0, y1, y2, y3, y4, y5, y6, y7, y8⟩ := HL.out V' hV; exact exec_load_brain rfl y0
                        simp only [Act.put, List.setIfInBounds_toArray, List.set_cons_zero, List.set_cons_succ]
                        refine oneT (i := 30) rfl (by kernel_rfl) (by rfl) (fun K hK => ?_)
                        go_simp
                        refine (HC.out.of p a W8_2 (NU.out.under HB_2.out)).mono ?_
                        rintro e W8_3 ⟨rfl, hb_⟩
                        rw [HC0.out]
                        have HB_3 := Lib.hid (show Below W8.heap.size W8 W8_3 from HB_2.out.trans (hb_.mono HB_2.out.size))
                        clear hb_ HB_2
                        refine hK.out _ _ (fun _ => HB_3.out) ?_
                        clear hK K
                        refine takeT (i := 31) (v := .int .i64 (oo : Int)) rfl (by kernel_rfl) (by kernel_rfl) (by kernel_rfl) (by kernel_rfl) (fun _ _ _ h => h) (by rfl) ?_ HB_3.out ?_
                        · intro V' hV; obtain ⟨y0, y1, y2, y3, y4, y5, y6, y7, y8⟩ := HL.out V' hV; have h9 := G4.out; simp only [Cn.v]; go_simp <;> first | rfl | kernel_rfl
                        simp only [Act.put, List.setIfInBounds_toArray, List.set_cons_zero, List.set_cons_succ]
                        refine takeT (i := 32) (v := .bool true) rfl (by kernel_rfl) (by kernel_rfl) (by kernel_rfl) (by kernel_rfl) (fun _ _ _ h => h) (by rfl) ?_ HB_3.out ?_
                        · intro V' hV; obtain ⟨y0, y1, y2, y3, y4, y5, y6, y7, y8⟩ := HL.out V' hV; go_simp
                        simp only [Act.put, List.setIfInBounds_toArray, List.set_cons_zero, List.set_cons_succ]
                        refine takeP (i := 33) (v := ?_) rfl (by kernel_rfl) (by kernel_rfl) (by kernel_rfl) (by kernel_rfl) (fun _ _ _ h => h) (by rfl) ?_ (fun _ => HB_3.out) ?_
                        rotate_left
                        · intro V'; go_simp <;> with_reducible rfl
                        simp only [Act.put, List.setIfInBounds_toArray, List.set_cons_zero, List.set_cons_succ]
                        refine takeP (i := 34) (v := ?_) rfl (by kernel_rfl) (by kernel_rfl) (by kernel_rfl) (by kernel_rfl) (fun _ _ _ h => h) (by rfl) ?_ (fun _ => HB_3.out) ?_
                        rotate_left
                        · intro V'; go_simp <;> with_reducible rfl
                        simp only [Act.put, List.setIfInBounds_toArray, List.set_cons_zero, List.set_cons_succ]
                        refine takeP (i := 35) (v := ?_) rfl (by kernel_rfl) (by kernel_rfl) (by kernel_rfl) (by kernel_rfl) (fun _ _ _ h => h) (by rfl) ?_ (fun _ => HB_3.out) ?_
                        rotate_left
                        · intro V'; go_simp <;> with_reducible rfl
                        simp only [Act.put, List.setIfInBounds_toArray, List.set_cons_zero, List.set_cons_succ]
                        refine takeT (i := 36) (v := .bool true) rfl (by kernel_rfl) (by kernel_rfl) (by kernel_rfl) (by kernel_rfl) (fun _ _ _ h => h) (by rfl) ?_ HB_3.out ?_
                        · intro V' hV; obtain ⟨y0, y1, y2, y3, y4, y5, y6, y7, y8⟩ := HL.out V' hV; have h9 := Hq.out; go_simp <;> omega
                        simp only [Act.put, List.setIfInBounds_toArray, List.set_cons_zero, List.set_cons_succ]
                        refine takeP (i := 37) (v := ?_) rfl (by kernel_rfl) (by kernel_rfl) (by kernel_rfl) (by kernel_rfl) (fun _ _ _ h => h) (by rfl) ?_ (fun _ => HB_3.out) ?_
                        rotate_left
                        · intro V'; go_simp <;> with_reducible rfl
                        simp only [Act.put, List.setIfInBounds_toArray, List.set_cons_zero, List.set_cons_succ]
                        refine skipT (i := 38) rfl (by kernel_rfl) (by kernel_rfl) (by kernel_rfl) (by kernel_rfl) (fun _ _ _ h => h) (by rfl) (fun _ => HB_3.out) ?_
                        simp only [Act.put, List.setIfInBounds_toArray, List.set_cons_zero, List.set_cons_succ]
                        refine skipT (i := 39) rfl (by kernel_rfl) (by kernel_rfl) (by kernel_rfl) (by kernel_rfl) (fun _ _ _ h => h) (by rfl) (fun _ => HB_3.out) ?_
                        simp only [Act.put, List.setIfInBounds_toArray, List.set_cons_zero, List.set_cons_succ]
                        refine skipT (i := 40) rfl (by kernel_rfl) (by kernel_rfl) (by kernel_rfl) (by kernel_rfl) (fun _ _ _ h => h) (by rfl) (fun _ => HB_3.out) ?_
                        simp only [Act.put, List.setIfInBounds_toArray, List.set_cons_zero, List.set_cons_succ]
                        refine skipT (i := 41) rfl (by kernel_rfl) (by kernel_rfl) (by kernel_rfl) (by kernel_rfl) (fun _ _ _ h => h) (by rfl) (fun _ => HB_3.out) ?_
                        simp only [Act.put, List.setIfInBounds_toArray, List.set_cons_zero, List.set_cons_succ]
                        refine skipT (i := 42) rfl (by kernel_rfl) (by kernel_rfl) (by kernel_rfl) (by kernel_rfl) (fun _ _ _ h => h) (by rfl) (fun _ => HB_3.out) ?_
                        simp only [Act.put, List.setIfInBounds_toArray, List.set_cons_zero, List.set_cons_succ]
                        refine skipT (i := 43) rfl (by kernel_rfl) (by kernel_rfl) (by kernel_rfl) (by kernel_rfl) (fun _ _ _ h => h) (by rfl) (fun _ => HB_3.out) ?_
                        simp only [Act.put, List.setIfInBounds_toArray, List.set_cons_zero, List.set_cons_succ]
                        refine takeP (i := 44) (v := ?_) rfl (by kernel_rfl) (by kernel_rfl) (by kernel_rfl) (by kernel_rfl) (fun _ _ _ h => h) (by rfl) ?_ (fun _ => HB_3.out) ?_
                        rotate_left
                        · intro V'; go_simp <;> with_reducible rfl
                        simp only [Act.put, List.setIfInBounds_toArray, List.set_cons_zero, List.set_cons_succ]
                        refine takeP (i := 45) (v := ?_) rfl (by kernel_rfl) (by kernel_rfl) (by kernel_rfl) (by kernel_rfl) (fun _ _ _ h => h) (by rfl) ?_ (fun _ => HB_3.out) ?_
                        rotate_left
                        · intro V'; go_simp <;> with_reducible rfl
                        simp only [Act.put, List.setIfInBounds_toArray, List.set_cons_zero, List.set_cons_succ]
                        refine takeP (i := 46) (v := ?_) rfl (by kernel_rfl) (by kernel_rfl) (by kernel_rfl) (by kernel_rfl) (fun _ _ _ h => h) (by rfl) ?_ (fun _ => HB_3.out) ?_
                        rotate_left
                        · intro V'; go_simp <;> with_reducible rfl
                        simp only [Act.put, List.setIfInBounds_toArray, List.set_cons_zero, List.set_cons_succ]
                        refine oneT (i := 47) rfl (by kernel_rfl) (by rfl) (fun K hK => ?_)
                        go_simp
                        refine (wakes15_any HC.out W8_3 (T1.out.under HB_3.out)).mono ?_
                        rintro e W8_4 ⟨rfl, hb_⟩
                        have HB_4 := Lib.hid (show Below W8.heap.size W8 W8_4 from HB_3.out.trans (hb_.mono HB_3.out.size))
                        clear hb_ HB_3
                        refine hK.out _ _ (fun _ => HB_4.out) ?_
                        clear hK K
                        refine takeP (i := 48) (v := ?_) rfl (by kernel_rfl) (by kernel_rfl) (by kernel_rfl) (by kernel_rfl) (fun _ _ _ h => h) (by rfl) ?_ (fun _ => HB_4.out) ?_
                        rotate_left
                        · intro V'; go_simp <;> with_reducible rfl
                        simp only [Act.put, List.setIfInBounds_toArray, List.set_cons_zero, List.set_cons_succ]
                        refine oneT (i := 49) rfl (by kernel_rfl) (by rfl) (fun K hK => ?_)
                        go_simp
                        refine hK.out _ _ (fun _ => HB_4.out) ?_
                        clear hK K
                        refine doneT (by kernel_rfl) ?_ _
                        have HBx := Lib.hid (HBU5.out.trans (HB_4.out.mono HBU5.out.size))
                        go_wp2_with fail
                        go_ret
                        exact ⟨rfl, HBx.out⟩
                  
              

end Go.Proofs.YtplejbgecihnpaaDoor
