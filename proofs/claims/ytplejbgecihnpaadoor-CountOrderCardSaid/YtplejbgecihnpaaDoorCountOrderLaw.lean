/-
  The walk of the statement CountOrder, over what package count's functions tell. Conditions: those that the theorem names.
-/
import Derived.Test.YtplejbgecihnpaaDoorK6
import Derived.Test.YtplejbgecihnpaaDoorK11
import Derived.Test.YtplejbgecihnpaaDoorK12
import Derived.Test.YtplejbgecihnpaaDoorK19
import Derived.Test.YtplejbgecihnpaaDoorK22

namespace Go.Proofs.YtplejbgecihnpaaDoor
open Go.RowKit Go.Shelf

/-- The first i launches, and the first j instances, are the other way round. -/
def ordB (p : Br) (i j : Nat) : Br := { p with its := halfway p.its i, kps := halfway p.kps j }
theorem ord_zero (p : Br) : ordB p 0 0 = p := by simp [ordB, half_zero]
theorem ord_all (p : Br) : ordB p p.its.length p.kps.length = revB p := by simp [ordB, half_all, revB]
theorem brV_rev (p : Br) (a : Ad) : brV p a = brV (revB p) a := by simp [brV, revB]
structure OrAt (B G : Nat) (p : Br) (a2 : Ad) (W0 : World) (i j : Nat) (W : World) : Prop where
  bx : Whole W G 30 (brC p a2)
  ow : OwB B W (ordB p i j) a2
  below : Below B W0 W
  sz : B ≤ W.heap.size
section
variable {B G i j : Nat} {p : Br} {a2 : Ad} {W0 W W' : World}
theorem OrAt.under (h : OrAt B G p a2 W0 i j W) (hb : Below W.heap.size W W') : OrAt B G p a2 W0 i j W' := ⟨h.bx.under hb, h.ow.under hb, h.below.trans (hb.mono h.sz), Nat.le_trans h.sz hb.size⟩
theorem OrAt.stepK (h : OrAt B G p a2 W0 i j W) (hj : j < p.kps.length) {x : Kp} (hx : p.kps[p.kps.length - 1 - j]? = some x) :
    ∃ g cs, a2.B = some ⟨g, 0, none⟩ ∧ Whole W g 32 (List.toArray cs) ∧ j * 8 + x.vs.length ≤ cs.length ∧ OrAt B G p a2 W0 i (j + 1) (W.setRow g (cs.take (j * 8) ++ x.vs ++ cs.drop (j * 8 + x.vs.length)).toArray) := by
  have hl : (ordB p i j).kps.length = p.kps.length := half_len _ (by omega)
  have hl2 : (ordB p i (j + 1)).kps.length = p.kps.length := half_len _ (by omega)
  have hk := h.ow.kps
  unfold KpsAt at hk
  obtain ⟨g, cs, e, hb, hW, hfit, ho⟩ := row_set (f := Kp.vs) (size := 8) Kp.vs_len hk rfl (j := j) (by rw [hl]; exact hj) x
  have k := Only.row hW (cs.take (j * 8) ++ x.vs ++ cs.drop (j * 8 + x.vs.length)).toArray
  refine ⟨g, cs, e, hW, hfit, ⟨k.far h.bx (whole_ne h.bx hW (by decide)), ⟨k.own h.ow.ms hW (by decide), k.own h.ow.its hW (by decide), ?_⟩, k.bel h.below hb, by rw [setRow_size]; exact h.sz⟩⟩
  unfold KpsAt
  rw [hl] at ho
  rw [hl2]
  rw [show (ordB p i j).kps.set j x = (ordB p i (j + 1)).kps from half_next _ hj hx] at ho
  exact ho
theorem OrAt.stepI (h : OrAt B G p a2 W0 i j W) (hj : i < p.its.length) {x : It} (hx : p.its[p.its.length - 1 - i]? = some x) :
    ∃ g cs, a2.A = some ⟨g, 0, none⟩ ∧ Whole W g 34 (List.toArray cs) ∧ i * 4 + x.vs.length ≤ cs.length ∧ OrAt B G p a2 W0 (i + 1) j (W.setRow g (cs.take (i * 4) ++ x.vs ++ cs.drop (i * 4 + x.vs.length)).toArray) := by
  have hl : (ordB p i j).its.length = p.its.length := half_len _ (by omega)
  have hl2 : (ordB p (i + 1) j).its.length = p.its.length := half_len _ (by omega)
  have hk := h.ow.its
  unfold ItsAt at hk
  obtain ⟨g, cs, e, hb, hW, hfit, ho⟩ := row_set (f := It.vs) (size := 4) It.vs_len hk rfl (j := i) (by rw [hl]; exact hj) x
  have k := Only.row hW (cs.take (i * 4) ++ x.vs ++ cs.drop (i * 4 + x.vs.length)).toArray
  refine ⟨g, cs, e, hW, hfit, ⟨k.far h.bx (whole_ne h.bx hW (by decide)), ⟨k.own h.ow.ms hW (by decide), ?_, k.own h.ow.kps hW (by decide)⟩, k.bel h.below hb, by rw [setRow_size]; exact h.sz⟩⟩
  unfold ItsAt
  rw [hl] at ho
  rw [hl2]
  rw [show (ordB p i j).its.set i x = (ordB p (i + 1) j).its from half_next _ hj hx] at ho
  exact ho
end
theorem exec_load_cf {W : World} {g : Nat} {p : Br} {a : Ad} {ρ : Operand → Value} {x : Operand} {dst : Option Tmp} {ty : TypeId} {pos : String} {after : Array Edge} {gd : Option (Nat × Bool)} (hx : ρ x = .pointer (some ⟨g, 3, none⟩)) (h : Whole W g 30 (brC p a)) : (execOp ρ { dst := dst, op := .load 24 x, type := ty, pos := pos, after := after, guard := gd }).run Tryd.prog W = .ok (.value (cfM p a).v) W := by
  unfold execOp
  have hl := run_loadAt_mid (P := Tryd.prog) W g 3 24 (cfM p a).cells.toList _ (cf_range h) Tryd.underlying24 rfl (by kernel_rfl)
  simp only [hx, Sem.run_bind, Sem.run_pure, Result.andThen_ok, hl]

theorem exec_load_ct {W : World} {g : Nat} {c : Cn} {ρ : Operand → Value} {x : Operand} {dst : Option Tmp} {ty : TypeId} {pos : String} {after : Array Edge} {gd : Option (Nat × Bool)} (hx : ρ x = .pointer (some ⟨g, 0, none⟩)) (h : Whole W g 38 c.cells) : (execOp ρ { dst := dst, op := .load 38 x, type := ty, pos := pos, after := after, guard := gd }).run Tryd.prog W = .ok (.value c.v) W := by
  unfold execOp
  simp only [hx, Instr.loadAt, Instr.sureAddr, Sem.run_bind, Sem.run_pure, Result.andThen_ok, run_loadVar_row (P := Tryd.prog) W g 38 38 c.cells (0, 0) _ h Tryd.underlying38 rfl (by kernel_rfl)]
  try rfl
/-- What the record of a launch that is made an instance lies in. -/
def MadeIs (zs : List Int) (f : Nat → Value) (v : Value) (w : World) : Prop := ∃ bs, v = f bs ∧ Rd w w.heap.size (some ⟨bs, 0, none⟩) 3 (iv zs)
theorem MadeIs.under {zs : List Int} {f : Nat → Value} {v : Value} {w w' : World} (hb : Below w.heap.size w w') (h : MadeIs zs f v w) : MadeIs zs f v w' := by
  obtain ⟨bs, h1, h2⟩ := h
  exact ⟨bs, h1, (h2.below hb).more hb.size⟩
def ApIs (lo : Nat) (q : Br) (v : Value) (w : World) : Prop := ∃ a3, v = brV q a3 ∧ OwB lo w q a3
theorem ApIs.under {lo : Nat} {q : Br} {v : Value} {w w' : World} (hb : Below w.heap.size w w') (h : ApIs lo q v w) : ApIs lo q v w' := by
  obtain ⟨a3, h1, h2⟩ := h
  exact ⟨a3, h1, h2.under hb⟩

set_option maxRecDepth 100000 in
set_option maxHeartbeats 8000000 in
theorem countOrder_any (C : CountOk) (p : Br) (a : Ad) (z : Int) (w : World) (hb0 : BrAny w p a) (hT : Tab w) :
    Calls Tryd.prog 6 #[brV p a, .int .i64 z] w (TruePost w) := by
  obtain ⟨V, hV⟩ : ∃ V, w.alloc (.cells (brC p a) 30) = V := ⟨_, rfl⟩
  have w0 : Whole V w.heap.size 30 (brC p a) := by rw [← hV]; exact Whole.new _ _ _
  have hb : Below w.heap.size w V := by rw [← hV]; exact (Below.refl _ _).alloc (Nat.le_refl _) _
  have HB := Lib.hid hb
  have HV := Lib.hid hV
  have W0 := Lib.hid w0
  have HT := Lib.hid (hT.under hb)
  have HC := Lib.hid C
  have HA := Lib.hid hb0
  have HT0 := Lib.hid hT
  clear hb w0 hV hT C hb0
  obtain ⟨bg, hbg⟩ : ∃ b, gB p = b := ⟨_, rfl⟩
  obtain ⟨br, hbr⟩ : ∃ b, rightBb p = b := ⟨_, rfl⟩
  have HG := Lib.hid hbg
  have HR := Lib.hid hbr
  clear hbg hbr
  go_enter Tryd.func6, Tryd.ntmps6
  go_upto_region 1 with fail
  refine wpV (fun V2 hV2 => ?_)
  obtain rfl : V = V2 := HV.out.symm.trans hV2
  clear HV hV2
  go_wp2_with (refine wpList_loadB (by rfl) _ rfl w.heap.size p a (by rfl) W0.out ?_)
  refine (greatB_any p a V).mono ?_
  rintro e U ⟨rfl, hb1⟩
  rw [HG.out]
  have HBU := Lib.hid (HB.out.trans (hb1.mono HB.out.size))
  have T1 := Lib.hid (HT.out.under hb1)
  have X0 := Lib.hid (W0.out.under hb1)
  clear hb1 W0 HT HB
  cases bg with
  | true =>
    go_wp2_with fail
    refine (wakes15_any HC.out U T1.out).mono ?_
    rintro e w7 ⟨rfl, hb7⟩
    have HB7 := Lib.hid (HBU.out.trans (hb7.mono HBU.out.size))
    clear hb7
    go_wp2_with fail
    go_ret
    exact ⟨rfl, HB7.out⟩
  | false =>
    have N0 := Lib.hid (ctNow HA.out HT0.out HG.out)
    have NU := Lib.hid (N0.out.under HBU.out)
    have HN := Lib.hid (gB_no HG.out)
    go_wp2_with (refine wpList_loadB (by rfl) _ rfl w.heap.size p a (by rfl) X0.out ?_)
    refine (rrightB_any p a U.heap.size U NU.out.rd (Nat.le_refl _) NU.out.ms NU.out.its NU.out.kps).mono ?_
    rintro e U0 ⟨rfl, hb1⟩
    rw [HR.out]
    have X0_ := Lib.hid (X0.out.under hb1)
    clear X0
    have X0 := X0_
    clear X0_
    have T1_ := Lib.hid (T1.out.under hb1)
    clear T1
    have T1 := T1_
    clear T1_
    have NU_ := Lib.hid (NU.out.under hb1)
    clear NU
    have NU := NU_
    clear NU_
    have HBU0 := Lib.hid (HBU.out.trans (hb1.mono HBU.out.size))
    clear hb1 HBU
    cases br with
    | false =>
      go_wp2_with fail
      refine (wakes15_any HC.out U0 T1.out).mono ?_
      rintro e w7 ⟨rfl, hb7⟩
      have HB7 := Lib.hid (HBU0.out.trans (hb7.mono HBU0.out.size))
      clear hb7
      go_wp2_with fail
      go_ret
      exact ⟨rfl, HB7.out⟩
    | true =>
      obtain ⟨c1, hc1⟩ : ∃ c, countB p = c := ⟨_, rfl⟩
      have HC1 := Lib.hid hc1
      clear hc1
      go_upto_region 3 with fail
      go_wp2_with (refine wpList_loadB (by rfl) _ rfl w.heap.size p a (by rfl) X0.out ?_)
      refine (HC.out.of p a U0 NU.out).mono ?_
      rintro e U1 ⟨rfl, hb1⟩
      rw [HC1.out]
      have X0_ := Lib.hid (X0.out.under hb1)
      clear X0
      have X0 := X0_
      clear X0_
      have T1_ := Lib.hid (T1.out.under hb1)
      clear T1
      have T1 := T1_
      clear T1_
      have NU_ := Lib.hid (NU.out.under hb1)
      clear NU
      have NU := NU_
      clear NU_
      have HBU1 := Lib.hid (HBU0.out.trans (hb1.mono HBU0.out.size))
      clear hb1 HBU0
      go_upto_region 4 with fail
      refine wpV (fun U2 hU2 => ?_)
      have hb2 : Below U1.heap.size U1 U2 := by rw [← hU2]; exact (Below.refl _ _).alloc (Nat.le_refl _) _
      have Y5 := Lib.hid (show Whole U2 U1.heap.size 38 c1.cells by rw [← hU2]; exact Whole.new _ _ _)
      have X0_ := Lib.hid (X0.out.under hb2)
      clear X0
      have X0 := X0_
      clear X0_
      have T1_ := Lib.hid (T1.out.under hb2)
      clear T1
      have T1 := T1_
      clear T1_
      have NU_ := Lib.hid (NU.out.under hb2)
      clear NU
      have NU := NU_
      clear NU_
      have HBU2 := Lib.hid (HBU1.out.trans (hb2.mono HBU1.out.size))
      have HS12 := Lib.hid (show U1.heap.size < U2.heap.size by rw [← hU2, World.size_alloc]; omega)
      clear hb2 HBU1 hU2
      go_wp2_with (refine wpList_loadB (by rfl) _ rfl w.heap.size p a (by rfl) X0.out ?_)
      refine (rownB_any p a U2.heap.size U2 NU.out.rd (Nat.le_refl _) NU.out.ms NU.out.its NU.out.kps).mono ?_
      rintro e U3 ⟨a2, rfl, ho3, hb3⟩
      have HBU3 := Lib.hid (HBU2.out.trans (hb3.mono HBU2.out.size))
      have HB3 := Lib.hid hb3
      have hb4 : Below U3.heap.size U3 (U3.alloc (.cells (brC br0 ad0) 30)) := (Below.refl _ _).alloc (Nat.le_refl _) _
      have HX4 : Hid (Whole (U3.alloc (.cells (brC br0 ad0) 30)) U3.heap.size 30 (brC br0 ad0)) := Lib.hid (Whole.new _ _ _)
      have HO4 := Lib.hid (ho3.under hb4)
      have HB4 := Lib.hid hb4
      clear hb3 hb4 ho3
      go_upto_region 5 with (refine wpList_storeB rfl _ _ rfl U3.heap.size p a2 _ rfl (by rfl) (by rfl) HX4.out ?_; intro U5 hU5)
      simp only [Act.put]
      have X6 : Whole U5 U3.heap.size 30 (brC p a2) := by rw [hU5]; exact setRow_heap _ _ _ _ _ _ HX4.out
      have O6 : OwB U2.heap.size U5 p a2 := by rw [hU5]; exact HO4.out.rowset HX4.out (by decide) (by decide) (by decide) _
      have hb5 : Below U3.heap.size U3 U5 := by rw [hU5]; exact below_rowsetB HB4.out (Nat.le_refl _) _
      have hb6 : Below U2.heap.size U2 U5 := HB3.out.trans (hb5.mono HB3.out.size)
      have HOr := Lib.hid (show OrAt U2.heap.size U3.heap.size p a2 U2 0 0 U5 from ⟨X6, by rw [ord_zero]; exact O6, hb6, hb6.size⟩)
      have HLe := Lib.hid (show w.heap.size ≤ U2.heap.size from HBU2.out.size)
      have HX := Lib.hid (show ∀ W, Below U2.heap.size U2 W → Whole W w.heap.size 30 (brC p a) ∧ Whole W U1.heap.size 38 c1.cells ∧ Below w.heap.size w W ∧ BrNow p a W from fun W hW => ⟨X0.out.under hW, Y5.out.under hW, HBU2.out.trans (hW.mono HBU2.out.size), N0.out.under (HBU2.out.trans (hW.mono HBU2.out.size))⟩)
      clear hb5 hb6 X6 O6 hU5 HX4 HO4 HB4 HB3 HBU3 X0 T1 NU Y5 HBU2
      go_wp2_with fail
      go_loopw [7] (fun s wr => ∃ j : Nat, s = .int .i64 (j : Int) ∧ j ≤ p.kps.length ∧ OrAt U2.heap.size U3.heap.size p a2 U2 0 j wr) (fun s _ => p.kps.length - (intOf s).toNat)
      case atStart => exact ⟨0, rfl, Nat.zero_le _, HOr.out⟩
      case round =>
        obtain ⟨j, rfl, hj, hor⟩ := hrel
        have HOr2 := Lib.hid hor
        clear hor
        have c19 : wr.cell? ⟨U3.heap.size, 19, none⟩ = some (.slice a2.B p.kps.length a2.d) := HOr2.out.bx.cell 19
        have HN9 := HN.out
        by_cases hlt : j < p.kps.length
        · obtain ⟨m, hm⟩ : ∃ m, p.kps.length = m + 1 + j := ⟨p.kps.length - 1 - j, by omega⟩
          obtain ⟨y, hy⟩ : ∃ y, p.kps[m]? = some y := ⟨_, List.getElem?_eq_getElem (by omega)⟩
          have hI : (j : Int) < (p.kps.length : Int) := by omega
          have hI2 : (m : Int) < (p.kps.length : Int) := by omega
          go_upto_region 8 with fail
          obtain ⟨Xb0, _, _, hnb⟩ := HX.out wr HOr2.out.below
          have Xb := Lib.hid Xb0
          obtain ⟨b1, off1, h1, hb1, hc⟩ := RdK.at_ hnb.rd.kps (by omega)
          have HCy := Lib.hid (hc m y hy)
          have HBl := Lib.hid hb1
          have hdr : Below wr.heap.size wr wr.drew := below_drewB (Below.refl _ _) 1
          obtain ⟨g, cs, h2, hWg, hfit, hst⟩ := (HOr2.out.under hdr).stepK hlt (x := y) (by rw [show p.kps.length - 1 - j = m from by omega]; exact hy)
          have HE1 := Lib.hid h2
          have HE2 := Lib.hid h1
          have HWg := Lib.hid hWg
          have HFit := Lib.hid hfit
          have HSt := Lib.hid hst
          have HOrB := Lib.hid HOr2.out.below
          have hw8 : IntKind.i64.wrap ((p.kps.length : Int) - 1) = (p.kps.length : Int) - 1 := wrapS (by omega) (by omega)
          have hw10 : IntKind.i64.wrap ((p.kps.length : Int) - 1 - (j : Int)) = (m : Int) := by rw [show (p.kps.length : Int) - 1 - (j : Int) = (m : Int) by omega]; exact wrapS (by omega) (by omega)
          clear c19 Xb0 hnb h1 hb1 hc h2 hWg hfit hst hdr hy hm HN9 hj hlt
          have HL : Hid (∀ V', Below wr.heap.size wr V' → V'.cell? ⟨U3.heap.size, 19, none⟩ = some (.slice (some ⟨g, 0, none⟩) p.kps.length a2.d) ∧ V'.cell? ⟨w.heap.size, 19, none⟩ = some (.slice (some ⟨b1, off1, none⟩) p.kps.length a.d) ∧ V'.cell? ⟨b1, off1 + m * 8, none⟩ = some (.int .i64 y.id) ∧ V'.cell? ⟨b1, off1 + m * 8 + 1, none⟩ = some (.int .i64 y.tok) ∧ V'.cell? ⟨b1, off1 + m * 8 + 2, none⟩ = some (.int .i64 y.ver) ∧ V'.cell? ⟨b1, off1 + m * 8 + 3, none⟩ = some (.int .i64 y.zone) ∧ V'.cell? ⟨b1, off1 + m * 8 + 4, none⟩ = some (.int .u8 y.phase) ∧ V'.cell? ⟨b1, off1 + m * 8 + 5, none⟩ = some (.int .i64 y.since) ∧ V'.cell? ⟨b1, off1 + m * 8 + 6, none⟩ = some (.bool y.guard) ∧ V'.cell? ⟨b1, off1 + m * 8 + 7, none⟩ = some (.bool y.done)) := Lib.hid (fun V' hV => ⟨by rw [← HE1.out]; exact (HOr2.out.bx.under hV).cell 19, by rw [← HE2.out]; exact (Xb.out.under hV).cell 19, (hV.cell (p := ⟨b1, off1 + m * 8, none⟩) HBl.out).trans HCy.out.c0, (hV.cell (p := ⟨b1, off1 + m * 8 + 1, none⟩) HBl.out).trans HCy.out.c1, (hV.cell (p := ⟨b1, off1 + m * 8 + 2, none⟩) HBl.out).trans HCy.out.c2, (hV.cell (p := ⟨b1, off1 + m * 8 + 3, none⟩) HBl.out).trans HCy.out.c3, (hV.cell (p := ⟨b1, off1 + m * 8 + 4, none⟩) HBl.out).trans HCy.out.c4, (hV.cell (p := ⟨b1, off1 + m * 8 + 5, none⟩) HBl.out).trans HCy.out.c5, (hV.cell (p := ⟨b1, off1 + m * 8 + 6, none⟩) HBl.out).trans HCy.out.c6, (hV.cell (p := ⟨b1, off1 + m * 8 + 7, none⟩) HBl.out).trans HCy.out.c7⟩)
          have HBd := Lib.hid (show Below wr.heap.size wr wr.drew from below_drewB (Below.refl _ _) 1)
          refine wp_region_T (ls := [14]) (T := (fun V' => Below wr.heap.size wr V')) (by kernel_rfl) ?_
          refine takeP (i := 0) (v := ?_) rfl (by kernel_rfl) (by kernel_rfl) (by kernel_rfl) (by kernel_rfl) (fun _ _ _ h => h) (by rfl) ?_ (fun _ => HBd.out) ?_
          rotate_left
          · intro V'; go_simp <;> with_reducible rfl
          simp only [Act.put, List.setIfInBounds_toArray, List.set_cons_zero, List.set_cons_succ]
          refine takeT (i := 1) (v := ?_) rfl (by kernel_rfl) (by kernel_rfl) (by kernel_rfl) (by kernel_rfl) (fun _ _ _ h => h) (by rfl) ?_ HBd.out ?_
          rotate_left
          · intro V' hV; obtain ⟨y0, y1, y2, y3, y4, y5, y6, y7, y8, y9⟩ := HL.out V' hV; go_simp <;> with_reducible rfl
          simp only [Act.put, List.setIfInBounds_toArray, List.set_cons_zero, List.set_cons_succ]
          refine takeP (i := 2) (v := ?_) rfl (by kernel_rfl) (by kernel_rfl) (by kernel_rfl) (by kernel_rfl) (fun _ _ _ h => h) (by rfl) ?_ (fun _ => HBd.out) ?_
          rotate_left
          · intro V'; go_simp <;> with_reducible rfl
          simp only [Act.put, List.setIfInBounds_toArray, List.set_cons_zero, List.set_cons_succ]
          refine takeP (i := 3) (v := ?_) rfl (by kernel_rfl) (by kernel_rfl) (by kernel_rfl) (by kernel_rfl) (fun _ _ _ h => h) (by rfl) ?_ (fun _ => HBd.out) ?_
          rotate_left
          · intro V'; go_simp <;> with_reducible rfl
          simp only [Act.put, List.setIfInBounds_toArray, List.set_cons_zero, List.set_cons_succ]
          refine takeT (i := 4) (v := ?_) rfl (by kernel_rfl) (by kernel_rfl) (by kernel_rfl) (by kernel_rfl) (fun _ _ _ h => h) (by rfl) ?_ HBd.out ?_
          rotate_left
          · intro V' hV; obtain ⟨y0, y1, y2, y3, y4, y5, y6, y7, y8, y9⟩ := HL.out V' hV; go_simp <;> with_reducible rfl
          simp only [Act.put, List.setIfInBounds_toArray, List.set_cons_zero, List.set_cons_succ]
          refine takeP (i := 5) (v := ?_) rfl (by kernel_rfl) (by kernel_rfl) (by kernel_rfl) (by kernel_rfl) (fun _ _ _ h => h) (by rfl) ?_ (fun _ => HBd.out) ?_
          rotate_left
          · intro V'; go_simp <;> with_reducible rfl
          simp only [Act.put, List.setIfInBounds_toArray, List.set_cons_zero, List.set_cons_succ]
          refine takeT (i := 6) (v := ?_) rfl (by kernel_rfl) (by kernel_rfl) (by kernel_rfl) (by kernel_rfl) (fun _ _ _ h => h) (by rfl) ?_ HBd.out ?_
          rotate_left
          · intro V' hV; obtain ⟨y0, y1, y2, y3, y4, y5, y6, y7, y8, y9⟩ := HL.out V' hV; go_simp <;> with_reducible rfl
          simp only [Act.put, List.setIfInBounds_toArray, List.set_cons_zero, List.set_cons_succ]
          refine takeP (i := 7) (v := ?_) rfl (by kernel_rfl) (by kernel_rfl) (by kernel_rfl) (by kernel_rfl) (fun _ _ _ h => h) (by rfl) ?_ (fun _ => HBd.out) ?_
          rotate_left
          · intro V'; go_simp <;> with_reducible rfl
          simp only [Act.put, List.setIfInBounds_toArray, List.set_cons_zero, List.set_cons_succ]
          refine takeP (i := 8) (v := ?_) rfl (by kernel_rfl) (by kernel_rfl) (by kernel_rfl) (by kernel_rfl) (fun _ _ _ h => h) (by rfl) ?_ (fun _ => HBd.out) ?_
          rotate_left
          · intro V'; go_simp <;> with_reducible rfl
          simp only [Act.put, List.setIfInBounds_toArray, List.set_cons_zero, List.set_cons_succ]
          refine takeP (i := 9) (v := ?_) rfl (by kernel_rfl) (by kernel_rfl) (by kernel_rfl) (by kernel_rfl) (fun _ _ _ h => h) (by rfl) ?_ (fun _ => HBd.out) ?_
          rotate_left
          · intro V'; go_simp <;> with_reducible rfl
          simp only [Act.put, List.setIfInBounds_toArray, List.set_cons_zero, List.set_cons_succ]
          refine takeT (i := 10) (v := .int .i64 (m : Int)) rfl (by kernel_rfl) (by kernel_rfl) (by kernel_rfl) (by kernel_rfl) (fun _ _ _ h => h) (by rfl) ?_ HBd.out ?_
          · intro V' hV; obtain ⟨y0, y1, y2, y3, y4, y5, y6, y7, y8, y9⟩ := HL.out V' hV; go_simp <;> (try rfl)
          simp only [Act.put, List.setIfInBounds_toArray, List.set_cons_zero, List.set_cons_succ]
          refine takeT (i := 11) (v := ?_) rfl (by kernel_rfl) (by kernel_rfl) (by kernel_rfl) (by kernel_rfl) (fun _ _ _ h => h) (by rfl) ?_ HBd.out ?_
          rotate_left
          · intro V' hV; obtain ⟨y0, y1, y2, y3, y4, y5, y6, y7, y8, y9⟩ := HL.out V' hV; go_simp <;> with_reducible rfl
          simp only [Act.put, List.setIfInBounds_toArray, List.set_cons_zero, List.set_cons_succ]
          refine takeT (i := 12) (v := y.v) rfl (by kernel_rfl) (by kernel_rfl) (by kernel_rfl) (by kernel_rfl) (fun _ _ _ h => h) (by rfl) ?_ HBd.out ?_
          · intro V' hV; obtain ⟨y0, y1, y2, y3, y4, y5, y6, y7, y8, y9⟩ := HL.out V' hV; go_simp <;> (try rfl)
          simp only [Act.put, List.setIfInBounds_toArray, List.set_cons_zero, List.set_cons_succ]
          refine takeT (i := 13) (v := ?_) rfl (by kernel_rfl) (by kernel_rfl) (by kernel_rfl) (by kernel_rfl) (fun _ _ _ h => h) (by rfl) ?_ HBd.out ?_
          rotate_left
          · intro V' hV; obtain ⟨y0, y1, y2, y3, y4, y5, y6, y7, y8, y9⟩ := HL.out V' hV; go_simp <;> with_reducible rfl
          simp only [Act.put, List.setIfInBounds_toArray, List.set_cons_zero, List.set_cons_succ]
          refine oneL (i := 14) (by kernel_rfl) rfl (by kernel_rfl) (by rfl) (fun K hK => ?_)
          refine wp_store_at 32 _ _ rfl g (j * 8) y.vs.toArray (by rfl) (by rfl) 32 (List.toArray cs) HWg.out (by kernel_rfl) (by simpa using HFit.out) (by simp [Kp.vs, Value.oneCell']) ?_
          refine hK.out _ _ ?_
          clear hK K
          refine doneT (by kernel_rfl) ?_ _
          have HSt2 : Hid (OrAt U2.heap.size U3.heap.size p a2 U2 0 (j + 1) (wr.drew.setRow g (List.take (j * 8) cs ++ y.vs ++ List.drop (j * 8 + y.vs.length) cs).toArray)) := HSt
          clear HSt
          have hw1 : IntKind.i64.wrap ((j : Int) + 1) = (j : Int) + 1 := wrapS (by omega) (by have h9 := HN.out; omega)
          go_wp2_with fail
          go_roundw
          case rel => exact ⟨j + 1, by go_num, by omega, by simpa using HSt2.out⟩
          case measure => simp [intOf]; omega
        · have hjn : j = p.kps.length := by omega
          subst hjn
          have HOr3 := HOr2
          clear HOr HOr2
          have hge : ¬ ((p.kps.length : Int) < (p.kps.length : Int)) := by omega
          go_wp2_with fail
          clear c19 hge HN9 hj hlt
          go_loopw [8] (fun s wr => ∃ j : Nat, s = .int .i64 (j : Int) ∧ j ≤ p.its.length ∧ OrAt U2.heap.size U3.heap.size p a2 U2 j p.kps.length wr) (fun s _ => p.its.length - (intOf s).toNat)
          case atStart => exact ⟨0, rfl, Nat.zero_le _, HOr3.out⟩
          case round =>
            obtain ⟨j, rfl, hj, hor⟩ := hrel
            have HOr2 := Lib.hid hor
            clear hor
            have c19 : wr.cell? ⟨U3.heap.size, 18, none⟩ = some (.slice a2.A p.its.length a2.c) := HOr2.out.bx.cell 18
            have HN9 := HN.out
            by_cases hlt : j < p.its.length
            · obtain ⟨m, hm⟩ : ∃ m, p.its.length = m + 1 + j := ⟨p.its.length - 1 - j, by omega⟩
              obtain ⟨y, hy⟩ : ∃ y, p.its[m]? = some y := ⟨_, List.getElem?_eq_getElem (by omega)⟩
              have hI : (j : Int) < (p.its.length : Int) := by omega
              have hI2 : (m : Int) < (p.its.length : Int) := by omega
              go_upto_region 12 with fail
              obtain ⟨Xb0, _, _, hnb⟩ := HX.out wr HOr2.out.below
              have Xb := Lib.hid Xb0
              obtain ⟨b1, off1, h1, hb1, hc⟩ := RdI.at_ hnb.rd.its (by omega)
              have HCy := Lib.hid (hc m y hy)
              have HBl := Lib.hid hb1
              have hdr : Below wr.heap.size wr wr.drew := below_drewB (Below.refl _ _) 1
              obtain ⟨g, cs, h2, hWg, hfit, hst⟩ := (HOr2.out.under hdr).stepI hlt (x := y) (by rw [show p.its.length - 1 - j = m from by omega]; exact hy)
              have HE1 := Lib.hid h2
              have HE2 := Lib.hid h1
              have HWg := Lib.hid hWg
              have HFit := Lib.hid hfit
              have HSt := Lib.hid hst
              have HOrB := Lib.hid HOr2.out.below
              have hw8 : IntKind.i64.wrap ((p.its.length : Int) - 1) = (p.its.length : Int) - 1 := wrapS (by omega) (by omega)
              have hw10 : IntKind.i64.wrap ((p.its.length : Int) - 1 - (j : Int)) = (m : Int) := by rw [show (p.its.length : Int) - 1 - (j : Int) = (m : Int) by omega]; exact wrapS (by omega) (by omega)
              clear c19 Xb0 hnb h1 hb1 hc h2 hWg hfit hst hdr hy hm HN9 hj hlt
              have HL : Hid (∀ V', Below wr.heap.size wr V' → V'.cell? ⟨U3.heap.size, 18, none⟩ = some (.slice (some ⟨g, 0, none⟩) p.its.length a2.c) ∧ V'.cell? ⟨w.heap.size, 18, none⟩ = some (.slice (some ⟨b1, off1, none⟩) p.its.length a.c) ∧ V'.cell? ⟨b1, off1 + m * 4, none⟩ = some (.int .i64 y.tok) ∧ V'.cell? ⟨b1, off1 + m * 4 + 1, none⟩ = some (.int .i64 y.ver) ∧ V'.cell? ⟨b1, off1 + m * 4 + 2, none⟩ = some (.int .i64 y.zone) ∧ V'.cell? ⟨b1, off1 + m * 4 + 3, none⟩ = some (.bool y.warm)) := Lib.hid (fun V' hV => ⟨by rw [← HE1.out]; exact (HOr2.out.bx.under hV).cell 18, by rw [← HE2.out]; exact (Xb.out.under hV).cell 18, (hV.cell (p := ⟨b1, off1 + m * 4, none⟩) HBl.out).trans HCy.out.c0, (hV.cell (p := ⟨b1, off1 + m * 4 + 1, none⟩) HBl.out).trans HCy.out.c1, (hV.cell (p := ⟨b1, off1 + m * 4 + 2, none⟩) HBl.out).trans HCy.out.c2, (hV.cell (p := ⟨b1, off1 + m * 4 + 3, none⟩) HBl.out).trans HCy.out.c3⟩)
              have HBd := Lib.hid (show Below wr.heap.size wr wr.drew from below_drewB (Below.refl _ _) 1)
              refine wp_region_T (ls := [14]) (T := (fun V' => Below wr.heap.size wr V')) (by kernel_rfl) ?_
              refine takeP (i := 0) (v := ?_) rfl (by kernel_rfl) (by kernel_rfl) (by kernel_rfl) (by kernel_rfl) (fun _ _ _ h => h) (by rfl) ?_ (fun _ => HBd.out) ?_
              rotate_left
              · intro V'; go_simp <;> with_reducible rfl
              simp only [Act.put, List.setIfInBounds_toArray, List.set_cons_zero, List.set_cons_succ]
              refine takeT (i := 1) (v := ?_) rfl (by kernel_rfl) (by kernel_rfl) (by kernel_rfl) (by kernel_rfl) (fun _ _ _ h => h) (by rfl) ?_ HBd.out ?_
              rotate_left
              · intro V' hV; obtain ⟨y0, y1, y2, y3, y4, y5⟩ := HL.out V' hV; go_simp <;> with_reducible rfl
              simp only [Act.put, List.setIfInBounds_toArray, List.set_cons_zero, List.set_cons_succ]
              refine takeP (i := 2) (v := ?_) rfl (by kernel_rfl) (by kernel_rfl) (by kernel_rfl) (by kernel_rfl) (fun _ _ _ h => h) (by rfl) ?_ (fun _ => HBd.out) ?_
              rotate_left
              · intro V'; go_simp <;> with_reducible rfl
              simp only [Act.put, List.setIfInBounds_toArray, List.set_cons_zero, List.set_cons_succ]
              refine takeP (i := 3) (v := ?_) rfl (by kernel_rfl) (by kernel_rfl) (by kernel_rfl) (by kernel_rfl) (fun _ _ _ h => h) (by rfl) ?_ (fun _ => HBd.out) ?_
              rotate_left
              · intro V'; go_simp <;> with_reducible rfl
              simp only [Act.put, List.setIfInBounds_toArray, List.set_cons_zero, List.set_cons_succ]
              refine takeT (i := 4) (v := ?_) rfl (by kernel_rfl) (by kernel_rfl) (by kernel_rfl) (by kernel_rfl) (fun _ _ _ h => h) (by rfl) ?_ HBd.out ?_
              rotate_left
              · intro V' hV; obtain ⟨y0, y1, y2, y3, y4, y5⟩ := HL.out V' hV; go_simp <;> with_reducible rfl
              simp only [Act.put, List.setIfInBounds_toArray, List.set_cons_zero, List.set_cons_succ]
              refine takeP (i := 5) (v := ?_) rfl (by kernel_rfl) (by kernel_rfl) (by kernel_rfl) (by kernel_rfl) (fun _ _ _ h => h) (by rfl) ?_ (fun _ => HBd.out) ?_
              rotate_left
              · intro V'; go_simp <;> with_reducible rfl
              simp only [Act.put, List.setIfInBounds_toArray, List.set_cons_zero, List.set_cons_succ]
              refine takeT (i := 6) (v := ?_) rfl (by kernel_rfl) (by kernel_rfl) (by kernel_rfl) (by kernel_rfl) (fun _ _ _ h => h) (by rfl) ?_ HBd.out ?_
              rotate_left
              · intro V' hV; obtain ⟨y0, y1, y2, y3, y4, y5⟩ := HL.out V' hV; go_simp <;> with_reducible rfl
              simp only [Act.put, List.setIfInBounds_toArray, List.set_cons_zero, List.set_cons_succ]
              refine takeP (i := 7) (v := ?_) rfl (by kernel_rfl) (by kernel_rfl) (by kernel_rfl) (by kernel_rfl) (fun _ _ _ h => h) (by rfl) ?_ (fun _ => HBd.out) ?_
              rotate_left
              · intro V'; go_simp <;> with_reducible rfl
              simp only [Act.put, List.setIfInBounds_toArray, List.set_cons_zero, List.set_cons_succ]
              refine takeP (i := 8) (v := ?_) rfl (by kernel_rfl) (by kernel_rfl) (by kernel_rfl) (by kernel_rfl) (fun _ _ _ h => h) (by rfl) ?_ (fun _ => HBd.out) ?_
              rotate_left
              · intro V'; go_simp <;> with_reducible rfl
              simp only [Act.put, List.setIfInBounds_toArray, List.set_cons_zero, List.set_cons_succ]
              refine takeP (i := 9) (v := ?_) rfl (by kernel_rfl) (by kernel_rfl) (by kernel_rfl) (by kernel_rfl) (fun _ _ _ h => h) (by rfl) ?_ (fun _ => HBd.out) ?_
              rotate_left
              · intro V'; go_simp <;> with_reducible rfl
              simp only [Act.put, List.setIfInBounds_toArray, List.set_cons_zero, List.set_cons_succ]
              refine takeT (i := 10) (v := .int .i64 (m : Int)) rfl (by kernel_rfl) (by kernel_rfl) (by kernel_rfl) (by kernel_rfl) (fun _ _ _ h => h) (by rfl) ?_ HBd.out ?_
              · intro V' hV; obtain ⟨y0, y1, y2, y3, y4, y5⟩ := HL.out V' hV; go_simp <;> (try rfl)
              simp only [Act.put, List.setIfInBounds_toArray, List.set_cons_zero, List.set_cons_succ]
              refine takeT (i := 11) (v := ?_) rfl (by kernel_rfl) (by kernel_rfl) (by kernel_rfl) (by kernel_rfl) (fun _ _ _ h => h) (by rfl) ?_ HBd.out ?_
              rotate_left
              · intro V' hV; obtain ⟨y0, y1, y2, y3, y4, y5⟩ := HL.out V' hV; go_simp <;> with_reducible rfl
              simp only [Act.put, List.setIfInBounds_toArray, List.set_cons_zero, List.set_cons_succ]
              refine takeT (i := 12) (v := .agg #[.int .i64 y.tok, .int .i64 y.ver, .int .i64 y.zone, .bool y.warm]) rfl (by kernel_rfl) (by kernel_rfl) (by kernel_rfl) (by kernel_rfl) (fun _ _ _ h => h) (by rfl) ?_ HBd.out ?_
              · intro V' hV; obtain ⟨y0, y1, y2, y3, y4, y5⟩ := HL.out V' hV; go_simp <;> (try rfl)
              simp only [Act.put, List.setIfInBounds_toArray, List.set_cons_zero, List.set_cons_succ]
              refine takeT (i := 13) (v := ?_) rfl (by kernel_rfl) (by kernel_rfl) (by kernel_rfl) (by kernel_rfl) (fun _ _ _ h => h) (by rfl) ?_ HBd.out ?_
              rotate_left
              · intro V' hV; obtain ⟨y0, y1, y2, y3, y4, y5⟩ := HL.out V' hV; go_simp <;> with_reducible rfl
              simp only [Act.put, List.setIfInBounds_toArray, List.set_cons_zero, List.set_cons_succ]
              refine oneL (i := 14) (by kernel_rfl) rfl (by kernel_rfl) (by rfl) (fun K hK => ?_)
              refine wp_store_at 34 _ _ rfl g (j * 4) y.vs.toArray (by rfl) (by rfl) 34 (List.toArray cs) HWg.out (by kernel_rfl) (by simpa using HFit.out) (by simp [It.vs, Value.oneCell']) ?_
              refine hK.out _ _ ?_
              clear hK K
              refine doneT (by kernel_rfl) ?_ _
              have HSt2 : Hid (OrAt U2.heap.size U3.heap.size p a2 U2 (j + 1) p.kps.length (wr.drew.setRow g (List.take (j * 4) cs ++ y.vs ++ List.drop (j * 4 + y.vs.length) cs).toArray)) := HSt
              clear HSt
              have hw1 : IntKind.i64.wrap ((j : Int) + 1) = (j : Int) + 1 := wrapS (by omega) (by have h9 := HN.out; omega)
              go_wp2_with fail
              go_roundw
              case rel => exact ⟨j + 1, by go_num, by omega, by simpa using HSt2.out⟩
              case measure => simp [intOf]; omega
            · have hjn : j = p.its.length := by omega
              subst hjn
              have HOr4 := Lib.hid (show OrAt U2.heap.size U3.heap.size p a2 U2 p.its.length p.kps.length wr from HOr2.out)
              clear HOr3 HOr2
              have hge : ¬ ((p.its.length : Int) < (p.its.length : Int)) := by omega
              go_upto_region 13 with fail
              clear c19 hge HN9 hj hlt
              obtain ⟨Xb0, Yc0, HBc0, hnb⟩ := HX.out wr HOr4.out.below
              have Xb := Lib.hid Xb0
              have Yc := Lib.hid Yc0
              have HBc := Lib.hid HBc0
              have NB := Lib.hid hnb
              have HOrB := Lib.hid HOr4.out.below
              have how := HOr4.out.ow
              rw [ord_all] at how
              have hli : (revB p).its.length = p.its.length := by simp [revB]
              have hlk : (revB p).kps.length = p.kps.length := by simp [revB]
              have NO := Lib.hid (show BrNow (revB p) a2 wr from ⟨how.reads, hnb.tab, by rw [hli]; exact hnb.its, by rw [hlk]; exact hnb.kps, hnb.ms⟩)
              have HCo := Lib.hid (show ∀ W, BrNow (revB p) a2 W → Calls Tryd.prog 10 #[brV p a2] W (fun e w' => e = .returned c1.v ∧ Below W.heap.size W w') from fun W h => by
                have h9 := HC.out.of (revB p) a2 W h
                rw [← brV_rev, count_rev, HC1.out] at h9
                exact h9)
              clear Xb0 Yc0 HBc0 hnb how hli hlk HX
              have HL : Hid (∀ V', Below wr.heap.size wr V' → Whole V' U3.heap.size 30 (brC p a2) ∧ Whole V' U1.heap.size 38 c1.cells) := Lib.hid (fun V' hV => ⟨HOr4.out.bx.under hV, Yc.out.under hV⟩)
              have HBd := Lib.hid (show Below wr.heap.size wr wr.drew from below_drewB (Below.refl _ _) 1)
              refine wp_region_T (ls := []) (T := (fun V' => Below wr.heap.size wr V')) (by kernel_rfl) ?_
              refine takeT (i := 0) (v := brV p a2) rfl (by kernel_rfl) (by kernel_rfl) (by kernel_rfl) (by kernel_rfl) (fun _ _ _ h => h) (by rfl) ?_ HBd.out ?_
              · intro V' hV; obtain ⟨y0, y1⟩ := HL.out V' hV; exact exec_load_brain rfl y0
              simp only [Act.put, List.setIfInBounds_toArray, List.set_cons_zero, List.set_cons_succ]
              refine takeT (i := 2) (v := c1.v) rfl (by kernel_rfl) (by kernel_rfl) (by kernel_rfl) (by kernel_rfl) (fun _ _ _ h => h) (by rfl) ?_ HBd.out ?_
              · intro V' hV; obtain ⟨y0, y1⟩ := HL.out V' hV; exact exec_load_ct rfl y1
              simp only [Act.put, List.setIfInBounds_toArray, List.set_cons_zero, List.set_cons_succ]
              refine oneT (i := 1) rfl (by kernel_rfl) (by rfl) (fun K hK => ?_)
              go_simp
              refine (HCo.out wr.drew (NO.out.under HBd.out)).mono ?_
              rintro e wr_1 ⟨rfl, hb_⟩
              have HB_1 := Lib.hid (show Below wr.heap.size wr wr_1 from HBd.out.trans (hb_.mono HBd.out.size))
              clear hb_ HBd
              refine hK.out _ _ (fun _ => HB_1.out) ?_
              clear hK K
              refine takeT (i := 3) (v := .bool false) rfl (by kernel_rfl) (by kernel_rfl) (by kernel_rfl) (by kernel_rfl) (fun _ _ _ h => h) (by rfl) ?_ HB_1.out ?_
              · intro V' hV; obtain ⟨y0, y1⟩ := HL.out V' hV; go_simp
              simp only [Act.put, List.setIfInBounds_toArray, List.set_cons_zero, List.set_cons_succ]
              refine doneT (by kernel_rfl) ?_ _
              obtain ⟨Wc, hWc⟩ : ∃ W, wr_1 = W := ⟨_, rfl⟩
              have hbc := HB_1.out
              rw [hWc] at hbc ⊢
              have Xc := Lib.hid (Xb.out.under hbc)
              have Yd := Lib.hid (Yc.out.under hbc)
              have ND := Lib.hid (NB.out.under hbc)
              have HBd2 := Lib.hid (HBc.out.trans (hbc.mono HBc.out.size))
              clear hbc hWc HB_1 HL HOrB HOr4 NO HCo Xb Yc NB HBc
              go_wp2_with fail
              go_loopw [9] (fun s wr => ∃ j : Nat, s = .int .i64 (j : Int) ∧ j ≤ p.its.length ∧ Below Wc.heap.size Wc wr) (fun s _ => p.its.length - (intOf s).toNat)
              case atStart => exact ⟨0, rfl, Nat.zero_le _, Below.refl _ _⟩
              case round =>
                obtain ⟨j, rfl, hj, hbr⟩ := hrel
                have HBr := Lib.hid hbr
                clear hbr
                have c18 : wr.cell? ⟨w.heap.size, 18, none⟩ = some (.slice a.A p.its.length a.c) := (Xc.out.under HBr.out).cell 18
                by_cases hlt : j < p.its.length
                · have hI : (j : Int) < (p.its.length : Int) := by omega
                  obtain ⟨b1, off1, h1, hb1, hc⟩ := RdI.at_ ND.out.rd.its (by omega)
                  obtain ⟨y, hy⟩ : ∃ y, p.its[j]? = some y := ⟨_, List.getElem?_eq_getElem hlt⟩
                  have HCy := Lib.hid (hc j y hy)
                  have HBl := Lib.hid hb1
                  have HE := Lib.hid h1
                  obtain ⟨q, hq⟩ : ∃ q, applyB p 4 [y.tok, z, 5] = q := ⟨_, rfl⟩
                  have HQ := Lib.hid hq
                  have HRr := Lib.hid (ND.out.under HBr.out)
                  have hgd : Good 800 p := ⟨by have := HN.out; omega, HA.out.ep, HA.out.sq, HA.out.ph⟩
                  have HGd := Lib.hid hgd
                  have Xr := Lib.hid (Xc.out.under HBr.out)
                  go_upto_region 18 with fail
                  clear hc hy hq hgd h1 hb1 c18
                  refine region_grow (by kernel_rfl) (by kernel_rfl) 12 [77, 78, 79, 80, 81, 82, 83, 84, 85, 86, 87, 10] (by kernel_rfl) (by simp)
                    (fun i v w' => match i with | 0 => v = brV p a | 1 => v = .pointer (some ⟨w.heap.size, 18, none⟩) | 2 => v = .slice (some ⟨b1, off1, none⟩) p.its.length a.c | 3 => v = .int .i64 (j : Int) | 4 => v = .pointer (some ⟨b1, off1 + j * 4, none⟩) | 5 => v = .pointer (some ⟨b1, off1 + j * 4, none⟩) | 6 => v = .int .i64 y.tok | 7 => v = .int .i64 z | 8 => MadeIs [y.tok, z, 5] (fun bs => .slice (some ⟨bs, 0, none⟩) 3 3) v w' | 9 => MadeIs [y.tok, z, 5] (fun bs => .agg #[.int .u8 4, .slice (some ⟨bs, 0, none⟩) 3 3]) v w' | 10 => ApIs wr.heap.size q v w' | 11 => BoxIs wr.heap.size v w' | _ => True) ?_ ?_ ?_
                  · intro i v w1 w2 hb h
                    match i, h with
                    | 0, h => exact h
                    | 1, h => exact h
                    | 2, h => exact h
                    | 3, h => exact h
                    | 4, h => exact h
                    | 5, h => exact h
                    | 6, h => exact h
                    | 7, h => exact h
                    | 8, h => exact MadeIs.under hb h
                    | 9, h => exact MadeIs.under hb h
                    | 10, h => exact ApIs.under hb h
                    | 11, h => exact BoxIs.under hb h
                    | n + 12, h => trivial
                  · intro i o d a' w' hi ho hd hag hbel hgot K hK
                    have g2 : a'.eval (.tmp 2) = .pointer (some ⟨w.heap.size, 0, none⟩) := hag.eval (t := 2) (by decide)
                    have t2 : a'.tmps[2]?.getD undef = .pointer (some ⟨w.heap.size, 0, none⟩) := by rw [← Array.getD_eq_getD_getElem?]; exact g2
                    have g1 : a'.eval (.tmp 1) = .int .i64 z := hag.eval (t := 1) (by decide)
                    have t1 : a'.tmps[1]?.getD undef = .int .i64 z := by rw [← Array.getD_eq_getD_getElem?]; exact g1
                    have g9 : a'.eval (.tmp 9) = .int .i64 (j : Int) := hag.eval (t := 9) (by decide)
                    have t9 : a'.tmps[9]?.getD undef = .int .i64 (j : Int) := by rw [← Array.getD_eq_getD_getElem?]; exact g9
                    clear g1 g9
                    have HWb := Lib.hid (Xr.out.under hbel)
                    rcases (by omega : i = 0 ∨ i = 1 ∨ i = 2 ∨ i = 3 ∨ i = 4 ∨ i = 5 ∨ i = 6 ∨ i = 7 ∨ i = 8 ∨ i = 9 ∨ i = 10 ∨ i = 11) with rfl | rfl | rfl | rfl | rfl | rfl | rfl | rfl | rfl | rfl | rfl | rfl
                    all_goals
                      simp only [List.getElem?_toArray, List.getElem?_cons_zero, List.getElem?_cons_succ, Option.some.injEq] at ho
                      subst ho
                      injection hd with hd
                      subst hd
                    · exact opB_load g2 HWb.out (hK _ _ (Below.refl _ _) rfl)
                    · clear g2
                      refine opQ (.pointer (some ⟨w.heap.size, 18, none⟩)) ?_ (hK _ _ (Below.refl _ _) rfl)
                      go_simp <;> with_reducible rfl
                    · clear g2
                      have g78 : a'.eval (.tmp 78) = .pointer (some ⟨w.heap.size, 18, none⟩) := hgot 1 78 (by kernel_rfl) rfl
                      have e78 : a'.tmps[78]?.getD undef = .pointer (some ⟨w.heap.size, 18, none⟩) := by rw [← Array.getD_eq_getD_getElem?]; exact g78
                      clear g78
                      have c18 : w'.cell? ⟨w.heap.size, 18, none⟩ = some (.slice (some ⟨b1, off1, none⟩) p.its.length a.c) := by rw [← HE.out]; exact HWb.out.cell 18
                      refine opQ (.slice (some ⟨b1, off1, none⟩) p.its.length a.c) ?_ (hK _ _ (Below.refl _ _) rfl)
                      go_simp <;> with_reducible rfl
                    · clear g2
                      refine opQ (.int .i64 (j : Int)) ?_ (hK _ _ (Below.refl _ _) rfl)
                      go_simp <;> with_reducible rfl
                    · clear g2
                      have g79 : a'.eval (.tmp 79) = .slice (some ⟨b1, off1, none⟩) p.its.length a.c := hgot 2 79 (by kernel_rfl) rfl
                      have e79 : a'.tmps[79]?.getD undef = .slice (some ⟨b1, off1, none⟩) p.its.length a.c := by rw [← Array.getD_eq_getD_getElem?]; exact g79
                      clear g79
                      have g80 : a'.eval (.tmp 80) = .int .i64 (j : Int) := hgot 3 80 (by kernel_rfl) rfl
                      have e80 : a'.tmps[80]?.getD undef = .int .i64 (j : Int) := by rw [← Array.getD_eq_getD_getElem?]; exact g80
                      clear g80
                      refine opQ (.pointer (some ⟨b1, off1 + j * 4, none⟩)) ?_ (hK _ _ (Below.refl _ _) rfl)
                      go_simp <;> with_reducible rfl
                    · clear g2
                      have g81 : a'.eval (.tmp 81) = .pointer (some ⟨b1, off1 + j * 4, none⟩) := hgot 4 81 (by kernel_rfl) rfl
                      have e81 : a'.tmps[81]?.getD undef = .pointer (some ⟨b1, off1 + j * 4, none⟩) := by rw [← Array.getD_eq_getD_getElem?]; exact g81
                      clear g81
                      refine opQ (.pointer (some ⟨b1, off1 + j * 4, none⟩)) ?_ (hK _ _ (Below.refl _ _) rfl)
                      go_simp <;> with_reducible rfl
                    · clear g2
                      have g82 : a'.eval (.tmp 82) = .pointer (some ⟨b1, off1 + j * 4, none⟩) := hgot 5 82 (by kernel_rfl) rfl
                      have e82 : a'.tmps[82]?.getD undef = .pointer (some ⟨b1, off1 + j * 4, none⟩) := by rw [← Array.getD_eq_getD_getElem?]; exact g82
                      clear g82
                      have ci : w'.cell? ⟨b1, off1 + j * 4, none⟩ = some (.int .i64 y.tok) := (((HBr.out.trans (hbel.mono HBr.out.size)).cell (p := ⟨b1, off1 + j * 4, none⟩) HBl.out)).trans HCy.out.c0
                      refine opQ (.int .i64 y.tok) ?_ (hK _ _ (Below.refl _ _) rfl)
                      go_simp <;> with_reducible rfl
                    · clear g2
                      refine opQ (.int .i64 z) ?_ (hK _ _ (Below.refl _ _) rfl)
                      go_simp <;> with_reducible rfl
                    · clear g2
                      have g83 : a'.eval (.tmp 83) = .int .i64 y.tok := hgot 6 83 (by kernel_rfl) rfl
                      have e83 : a'.tmps[83]?.getD undef = .int .i64 y.tok := by rw [← Array.getD_eq_getD_getElem?]; exact g83
                      clear g83
                      have g84 : a'.eval (.tmp 84) = .int .i64 z := hgot 7 84 (by kernel_rfl) rfl
                      have e84 : a'.tmps[84]?.getD undef = .int .i64 z := by rw [← Array.getD_eq_getD_getElem?]; exact g84
                      clear g84
                      have hw9 : Below w'.heap.size w' (w'.alloc (.cells #[.int .i64 y.tok, .int .i64 z, .int .i64 5] 3)) := (Below.refl _ _).alloc (Nat.le_refl _) _
                      have hrow : Rd (w'.alloc (.cells #[.int .i64 y.tok, .int .i64 z, .int .i64 5] 3)) (w'.alloc (.cells #[.int .i64 y.tok, .int .i64 z, .int .i64 5] 3)).heap.size (some ⟨w'.heap.size, 0, none⟩) 3 (iv [y.tok, z, 5]) := by
                        rw [World.size_alloc]
                        exact rd_lit w' [.int .i64 y.tok, .int .i64 z, .int .i64 5] 3 3 rfl
                      have HW9 := Lib.hid hw9
                      have HRow := Lib.hid hrow
                      clear hw9 hrow
                      unfold Oper.wp execOp
                      go_simp
                      exact hK _ _ HW9.out ⟨_, rfl, HRow.out⟩
                    · clear g2
                      obtain ⟨bs, g85, hrd⟩ := hgot 8 85 (by kernel_rfl) rfl
                      have e85 : a'.tmps[85]?.getD undef = .slice (some ⟨bs, 0, none⟩) 3 3 := by rw [← Array.getD_eq_getD_getElem?]; exact g85
                      clear g85
                      refine opQ (.agg #[.int .u8 4, .slice (some ⟨bs, 0, none⟩) 3 3]) ?_ (hK _ _ (Below.refl _ _) ⟨bs, rfl, hrd⟩)
                      go_simp <;> with_reducible rfl
                    · clear g2
                      have g77 : a'.eval (.tmp 77) = brV p a := hgot 0 77 (by kernel_rfl) rfl
                      have e77 : a'.tmps[77]?.getD undef = brV p a := by rw [← Array.getD_eq_getD_getElem?]; exact g77
                      clear g77
                      obtain ⟨bs, g86, hrd⟩ := hgot 9 86 (by kernel_rfl) rfl
                      have e86 : a'.tmps[86]?.getD undef = .agg #[.int .u8 4, .slice (some ⟨bs, 0, none⟩) 3 3] := by rw [← Array.getD_eq_getD_getElem?]; exact g86
                      have hcon := rapply_any p a ⟨4, some ⟨bs, 0, none⟩, 3, 3, [y.tok, z, 5]⟩ w' (HRr.out.under hbel).rd ⟨show 4 < 256 by decide, hrd, Nat.le_refl _, show 3 ≤ maxLen by decide⟩ (show 3 ≤ 1000 by decide) HRr.out.ms HGd.out
                      rw [show applyB p (((4 : Nat) : Int)) [y.tok, z, 5] = q from HQ.out] at hcon
                      have HCon := Lib.hid hcon
                      clear g86 hcon hrd
                      go_simp
                      refine HCon.out.mono ?_
                      rintro e w2 ⟨a3, rfl, ho9, hb2⟩
                      exact hK _ _ hb2 ⟨a3, rfl, ho9.weaker hbel.size⟩
                    · clear g2
                      exact opB_alloc hbel.size (fun v w2 hb h => hK _ _ hb h)
                  intro o a' w1_ ho hag hbel hgot K hK
                  simp only [List.getElem?_toArray, List.getElem?_cons_zero, List.getElem?_cons_succ, Option.some.injEq] at ho
                  subst ho
                  obtain ⟨b3, e10, hlo3, hw3⟩ := hgot 11 10 (by decide) rfl
                  obtain ⟨a3, e87, ho3⟩ := hgot 10 87 (by decide) rfl
                  refine wp_storeB _ _ rfl b3 q a3 _ rfl (by first | exact e10 | rfl) (by first | exact e87 | rfl) hw3 (fun U6 hU6 => hK _ _ ?_)
                  have HM := Lib.hid (show Whole U6 b3 30 (brC q a3) from by rw [hU6]; exact setRow_heap _ _ _ _ _ _ hw3)
                  have HOq := Lib.hid (show OwB wr.heap.size U6 q a3 from by rw [hU6]; exact ho3.rowset hw3 (by decide) (by decide) (by decide) _)
                  have hb6 : Below wr.heap.size wr U6 := by rw [hU6]; exact below_rowsetB hbel hlo3 _
                  have HB6 := Lib.hid (HBr.out.trans (hb6.mono HBr.out.size))
                  have HLo3 := Lib.hid hlo3
                  have NQ := Lib.hid (show BrNow q a3 U6 from ⟨HOq.out.reads, HRr.out.tab.under hb6, by rw [← HQ.out]; have h9 := (good_apply (m := 800) HGd.out 4 [y.tok, z, 5]).len; omega, by rw [← HQ.out]; have h9 := (good_apply (m := 800) HGd.out 4 [y.tok, z, 5]).len; omega, by rw [← HQ.out]; exact ms_apply HRr.out.ms⟩)
                  obtain ⟨σ, hσ⟩ : ∃ σ : Nat → Value, (fun d => a'.eval (.tmp d)) = σ := ⟨_, rfl⟩
                  have ha := hag.lay (by simp)
                  rw [hσ] at ha
                  have s_ : σ 10 = .pointer (some ⟨b3, 0, none⟩) := by rw [← hσ]; exact e10
                  clear hσ hag hgot hK hbel e10 e87 hw3 hlo3 hU6 hb6 ho3 HBr
                  subst ha
                  simp only [lay, List.foldl_cons, List.foldl_nil, Act.put, List.setIfInBounds_toArray, List.set_cons_zero, List.set_cons_succ, s_]
                  clear s_
                  obtain ⟨v77, hv77⟩ : ∃ u, σ 77 = u := ⟨_, rfl⟩
                  rw [hv77]
                  clear hv77
                  obtain ⟨v78, hv78⟩ : ∃ u, σ 78 = u := ⟨_, rfl⟩
                  rw [hv78]
                  clear hv78
                  obtain ⟨v79, hv79⟩ : ∃ u, σ 79 = u := ⟨_, rfl⟩
                  rw [hv79]
                  clear hv79
                  obtain ⟨v80, hv80⟩ : ∃ u, σ 80 = u := ⟨_, rfl⟩
                  rw [hv80]
                  clear hv80
                  obtain ⟨v81, hv81⟩ : ∃ u, σ 81 = u := ⟨_, rfl⟩
                  rw [hv81]
                  clear hv81
                  obtain ⟨v82, hv82⟩ : ∃ u, σ 82 = u := ⟨_, rfl⟩
                  rw [hv82]
                  clear hv82
                  obtain ⟨v83, hv83⟩ : ∃ u, σ 83 = u := ⟨_, rfl⟩
                  rw [hv83]
                  clear hv83
                  obtain ⟨v84, hv84⟩ : ∃ u, σ 84 = u := ⟨_, rfl⟩
                  rw [hv84]
                  clear hv84
                  obtain ⟨v85, hv85⟩ : ∃ u, σ 85 = u := ⟨_, rfl⟩
                  rw [hv85]
                  clear hv85
                  obtain ⟨v86, hv86⟩ : ∃ u, σ 86 = u := ⟨_, rfl⟩
                  rw [hv86]
                  clear hv86
                  obtain ⟨v87, hv87⟩ : ∃ u, σ 87 = u := ⟨_, rfl⟩
                  rw [hv87]
                  clear hv87
                  clear σ
                  go_wp2_with (refine wpList_loadB (by rfl) _ rfl b3 q a3 (by rfl) HM.out ?_)
                  obtain ⟨c2, hc2⟩ : ∃ c, countB q = c := ⟨_, rfl⟩
                  have HC2 := Lib.hid hc2
                  clear hc2
                  refine (HC.out.of q a3 U6 NQ.out).mono ?_
                  rintro e U7 ⟨rfl, hb7⟩
                  rw [HC2.out]
                  have HM7 := Lib.hid (HM.out.under hb7)
                  have HB7 := Lib.hid (HB6.out.trans (hb7.mono HB6.out.size))
                  clear hb7 HM HB6 NQ HOq
                  go_upto_region 20 with fail
                  refine wpV (fun U8 hU8 => ?_)
                  have hb8 : Below U7.heap.size U7 U8 := by rw [← hU8]; exact (Below.refl _ _).alloc (Nat.le_refl _) _
                  have Y8 := Lib.hid (show Whole U8 U7.heap.size 38 c2.cells by rw [← hU8]; exact Whole.new _ _ _)
                  have HM8 := Lib.hid (HM7.out.under hb8)
                  have HB8 := Lib.hid (HB7.out.trans (hb8.mono HB7.out.size))
                  clear hb8 hU8 HM7 HB7
                  go_cut [131] (fun s wx => s = .bool false ∧ wx = U8)
                  case first =>
                    have m18 : U8.cell? ⟨b3, 18, none⟩ = some (.slice a3.A q.its.length a3.c) := HM8.out.cell 18
                    have b18 : U8.cell? ⟨w.heap.size, 18, none⟩ = some (.slice a.A p.its.length a.c) := (Xc.out.under HB8.out).cell 18
                    by_cases hl : q.its.length < p.its.length
                    · have hli : (q.its.length : Int) < (p.its.length : Int) := by omega
                      have hmade := count_made (b := p) (t := y.tok) (id := z) (by rw [HQ.out]; exact hl)
                      rw [HQ.out, HC2.out, HC1.out] at hmade
                      obtain ⟨f1, f2, f3, f4, f5⟩ := hmade
                      have p4 : U8.cell? ⟨U1.heap.size, 4, none⟩ = some (.int .i64 (c1.all : Int)) := (Yd.out.under HB8.out).cell 4
                      have r4 : U8.cell? ⟨U7.heap.size, 4, none⟩ = some (.int .i64 (c1.all : Int)) := by rw [← f1]; exact Y8.out.cell 4
                      have p2 : U8.cell? ⟨U1.heap.size, 2, none⟩ = some (.int .i64 (c1.st : Int)) := (Yd.out.under HB8.out).cell 2
                      have r2 : U8.cell? ⟨U7.heap.size, 2, none⟩ = some (.int .i64 (c1.st : Int)) := by rw [← f2]; exact Y8.out.cell 2
                      have p3 : U8.cell? ⟨U1.heap.size, 3, none⟩ = some (.int .i64 (c1.warm : Int)) := (Yd.out.under HB8.out).cell 3
                      have r3 : U8.cell? ⟨U7.heap.size, 3, none⟩ = some (.int .i64 (c1.warm : Int)) := by rw [← f3]; exact Y8.out.cell 3
                      have p1 : U8.cell? ⟨U1.heap.size, 1, none⟩ = some (.int .i64 (c1.old : Int)) := (Yd.out.under HB8.out).cell 1
                      have r1 : U8.cell? ⟨U7.heap.size, 1, none⟩ = some (.int .i64 (c1.old : Int)) := by rw [← f4]; exact Y8.out.cell 1
                      have p6 : U8.cell? ⟨U1.heap.size, 6, none⟩ = some (.int .i64 c1.want) := (Yd.out.under HB8.out).cell 6
                      have r6 : U8.cell? ⟨U7.heap.size, 6, none⟩ = some (.int .i64 c1.want) := by rw [← f5]; exact Y8.out.cell 6
                      clear f1 f2 f3 f4 f5 hl
                      go_wp2_with fail
                      go_meet
                      exact ⟨rfl, rfl⟩
                    · have hli : ¬ (q.its.length : Int) < (p.its.length : Int) := by omega
                      clear hl
                      go_wp2_with fail
                      go_meet
                      exact ⟨rfl, rfl⟩
                  case rest =>
                    obtain ⟨rfl, hwx⟩ := hcut
                    have hwy := hwx.symm
                    subst hwy
                    clear hwx
                    have hw1 : IntKind.i64.wrap ((j : Int) + 1) = (j : Int) + 1 := wrapS (by omega) (by have h9 := HN.out; omega)
                    go_wp2_with fail
                    go_roundw
                    case rel => exact ⟨j + 1, by go_num, by omega, HB8.out⟩
                    case measure => simp [intOf]; omega
                · have hge : ¬ ((j : Int) < (p.its.length : Int)) := by omega
                  go_upto_region 22 with fail
                  clear c18 hge hlt
                  have Xe := Lib.hid (Xc.out.under HBr.out)
                  have Ye := Lib.hid (Yd.out.under HBr.out)
                  have NE := Lib.hid (ND.out.under HBr.out)
                  have HBe := Lib.hid (HBd2.out.trans (HBr.out.mono HBd2.out.size))
                  have hbd : c1.bd = boundOf p.cf := by rw [← HC1.out]; rfl
                  have HBd9 := Lib.hid hbd
                  clear hbd
                  have HL : Hid (∀ V', Below wr.heap.size wr V' → Whole V' w.heap.size 30 (brC p a) ∧ V'.cell? ⟨U1.heap.size, 8, none⟩ = some (.int .i64 (boundOf p.cf))) := Lib.hid (fun V' hV => ⟨Xe.out.under hV, by rw [← HBd9.out]; exact (Ye.out.under hV).cell 8⟩)
                  have HBd := Lib.hid (show Below wr.heap.size wr wr.drew from below_drewB (Below.refl _ _) 1)
                  refine wp_region_T (ls := []) (T := (fun V' => Below wr.heap.size wr V')) (by kernel_rfl) ?_
                  refine takeP (i := 0) (v := ?_) rfl (by kernel_rfl) (by kernel_rfl) (by kernel_rfl) (by kernel_rfl) (fun _ _ _ h => h) (by rfl) ?_ (fun _ => HBd.out) ?_
                  rotate_left
                  · intro V'; go_simp <;> with_reducible rfl
                  simp only [Act.put, List.setIfInBounds_toArray, List.set_cons_zero, List.set_cons_succ]
                  refine takeT (i := 1) (v := (cfM p a).v) rfl (by kernel_rfl) (by kernel_rfl) (by kernel_rfl) (by kernel_rfl) (fun _ _ _ h => h) (by rfl) ?_ HBd.out ?_
                  · intro V' hV; obtain ⟨y0, y1⟩ := HL.out V' hV; exact exec_load_cf rfl y0
                  simp only [Act.put, List.setIfInBounds_toArray, List.set_cons_zero, List.set_cons_succ]
                  refine takeP (i := 3) (v := ?_) rfl (by kernel_rfl) (by kernel_rfl) (by kernel_rfl) (by kernel_rfl) (fun _ _ _ h => h) (by rfl) ?_ (fun _ => HBd.out) ?_
                  rotate_left
                  · intro V'; go_simp <;> with_reducible rfl
                  simp only [Act.put, List.setIfInBounds_toArray, List.set_cons_zero, List.set_cons_succ]
                  refine takeT (i := 4) (v := ?_) rfl (by kernel_rfl) (by kernel_rfl) (by kernel_rfl) (by kernel_rfl) (fun _ _ _ h => h) (by rfl) ?_ HBd.out ?_
                  rotate_left
                  · intro V' hV; obtain ⟨y0, y1⟩ := HL.out V' hV; go_simp <;> with_reducible rfl
                  simp only [Act.put, List.setIfInBounds_toArray, List.set_cons_zero, List.set_cons_succ]
                  refine oneT (i := 2) rfl (by kernel_rfl) (by rfl) (fun K hK => ?_)
                  go_simp
                  refine (refBoundC_any (cfM p a) wr.drew (NE.out.under HBd.out).rd.lies NE.out.ms).mono ?_
                  rintro e wr_1 ⟨rfl, hb_⟩
                  have HB_1 := Lib.hid (show Below wr.heap.size wr wr_1 from HBd.out.trans (hb_.mono HBd.out.size))
                  clear hb_ HBd
                  refine hK.out _ _ (fun _ => HB_1.out) ?_
                  clear hK K
                  refine takeT (i := 5) (v := .bool true) rfl (by kernel_rfl) (by kernel_rfl) (by kernel_rfl) (by kernel_rfl) (fun _ _ _ h => h) (by rfl) ?_ HB_1.out ?_
                  · intro V' hV; obtain ⟨y0, y1⟩ := HL.out V' hV; go_simp; try rfl
                  simp only [Act.put, List.setIfInBounds_toArray, List.set_cons_zero, List.set_cons_succ]
                  refine takeP (i := 6) (v := ?_) rfl (by kernel_rfl) (by kernel_rfl) (by kernel_rfl) (by kernel_rfl) (fun _ _ _ h => h) (by rfl) ?_ (fun _ => HB_1.out) ?_
                  rotate_left
                  · intro V'; go_simp <;> with_reducible rfl
                  simp only [Act.put, List.setIfInBounds_toArray, List.set_cons_zero, List.set_cons_succ]
                  refine oneT (i := 7) rfl (by kernel_rfl) (by rfl) (fun K hK => ?_)
                  go_simp
                  refine (wakes15_any HC.out wr_1 (NE.out.under HB_1.out).tab).mono ?_
                  rintro e wr_2 ⟨rfl, hb_⟩
                  have HB_2 := Lib.hid (show Below wr.heap.size wr wr_2 from HB_1.out.trans (hb_.mono HB_1.out.size))
                  clear hb_ HB_1
                  refine hK.out _ _ (fun _ => HB_2.out) ?_
                  clear hK K
                  refine takeP (i := 8) (v := ?_) rfl (by kernel_rfl) (by kernel_rfl) (by kernel_rfl) (by kernel_rfl) (fun _ _ _ h => h) (by rfl) ?_ (fun _ => HB_2.out) ?_
                  rotate_left
                  · intro V'; go_simp <;> with_reducible rfl
                  simp only [Act.put, List.setIfInBounds_toArray, List.set_cons_zero, List.set_cons_succ]
                  refine oneT (i := 9) rfl (by kernel_rfl) (by rfl) (fun K hK => ?_)
                  go_simp
                  refine hK.out _ _ (fun _ => HB_2.out) ?_
                  clear hK K
                  refine doneT (by kernel_rfl) ?_ _
                  have HBx := Lib.hid (HBe.out.trans (HB_2.out.mono HBe.out.size))
                  go_wp2_with fail
                  go_ret
                  exact ⟨rfl, HBx.out⟩

end Go.Proofs.YtplejbgecihnpaaDoor
