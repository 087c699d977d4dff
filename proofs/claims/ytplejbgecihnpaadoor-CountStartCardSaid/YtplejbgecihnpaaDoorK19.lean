/-
  Texts that the walk of a statement over brains leans on, joined (BrRApply, RegStayT). Conditions: those that each theorem names.
-/
import Derived.Test.YtplejbgecihnpaaDoorK12
import Derived.Test.YtplejbgecihnpaaDoorK17
import Derived.Test.YtplejbgecihnpaaDoorK18

namespace Go.Proofs.YtplejbgecihnpaaDoor
open Go.RowKit Go.Shelf

/-- Where the walk stands: the brain, the record, the box of what is told. -/
structure Rq (w : World) (z : RE) (p : Br) (a : Ad) (W : World) : Prop where
  in_ : BrIn w.heap.size w.heap.size W p a
  rc : Whole W (w.heap.size + 1) 50 #[.int .u8 (z.k : Int), .slice z.A z.n z.c]
  res : Whole W (w.heap.size + 1 + 1) 30 (brC br0 ad0)
  stp : Stp w.heap.size w W
section
variable {w W W' : World} {z : RE} {p : Br} {a : Ad}
set_option maxRecDepth 100000 in
theorem Rq.under (h : Rq w z p a W) (hb : Below W.heap.size W W') : Rq w z p a W' :=
  ⟨h.in_.under hb, h.rc.under hb, h.res.under hb, h.stp.trans (Stp.of_below hb (Nat.le_of_lt h.in_.lt))⟩
set_option maxRecDepth 100000 in
theorem Rq.set (h : Rq w z p a W) {p' : Br} (i : Nat) (v : Value) (he : (brC p a).setIfInBounds i v = brC p' a) (h1 : p'.cf.ms = p.cf.ms) (h2 : p'.its = p.its) (h3 : p'.kps = p.kps) : Rq w z p' a (W.setCell ⟨w.heap.size, i, none⟩ v) :=
  ⟨h.in_.set i v he h1 h2 h3, (Only.set W w.heap.size i v).far h.rc (by omega), (Only.set W w.heap.size i v).far h.res (by omega), h.stp.trans (Stp.set h.in_.box (by decide) h.in_.ge i v)⟩
set_option maxRecDepth 100000 in
theorem Rq.told {W2 W3 : World} {q : Br} {a2 : Ad} {cs2 : Array Value} (h : Rq w z p a W) (hs2 : Stp w.heap.size W W2) (hc2 : Whole W2 (w.heap.size + 1 + 1) 30 cs2) (hz2 : cs2.size = 27) (ho2 : OwB w.heap.size W2 q a2) (hW : W3 = W2.setRow (w.heap.size + 1 + 1) (brC q a2)) :
    Whole W3 (w.heap.size + 1 + 1) 30 (brC q a2) ∧ OwB w.heap.size W3 q a2 ∧ Stp w.heap.size w W3 := by
  rw [hW]
  exact ⟨setRow_heap _ _ _ _ _ _ hc2, ho2.rowset hc2 (by decide) (by decide) (by decide) _, (h.stp.trans hs2).trans (stp_row hc2 (by rw [hz2]; rfl) (by omega))⟩
set_option maxRecDepth 100000 in
theorem Rq.tell (h : Rq w z p a W) {W2 : World} (hW : W2 = W.setRow (w.heap.size + 1 + 1) (brC p a)) : Whole W2 (w.heap.size + 1 + 1) 30 (brC p a) ∧ OwB w.heap.size W2 p a ∧ Stp w.heap.size w W2 :=
  h.told (Stp.refl _ _) h.res rfl h.in_.own hW
set_option maxRecDepth 100000 in
/-- Another group. -/
theorem Rq.setCf (h : Rq w z p a W) (y : Cf) (hyn : y.n = y.ms.length) (hown : W.ownsRow w.heap.size 3 1 (.slice y.A y.n y.c) y.n (iv y.ms)) :
    Rq w z { p with cf := y.pl } ⟨y.A, y.c, a.A, a.c, a.B, a.d⟩ (W.setRow w.heap.size ((brC p a).toList.take 3 ++ y.cells.toList ++ (brC p a).toList.drop (3 + y.cells.size)).toArray) := by
  have e : ((brC p a).toList.take 3 ++ y.cells.toList ++ (brC p a).toList.drop (3 + y.cells.size)).toArray = brC { p with cf := y.pl } ⟨y.A, y.c, a.A, a.c, a.B, a.d⟩ := by
    simp only [Cf.cells, hyn]
    rfl
  rw [e]
  have ho := h.in_.own
  have h3 := own_rowsetB hown (own_apart_F (by decide) hown h.in_.box) (brC { p with cf := y.pl } ⟨y.A, y.c, a.A, a.c, a.B, a.d⟩)
  rw [hyn] at h3
  exact ⟨⟨setRow_heap _ _ _ _ _ _ h.in_.box, ⟨h3, own_rowsetB ho.its (own_apart_F (by decide) ho.its h.in_.box) _, own_rowsetB ho.kps (own_apart_F (by decide) ho.kps h.in_.box) _⟩, h.in_.ge⟩, (setRow_other W _ _ _ (by omega)).trans h.rc, (setRow_other W _ _ _ (by omega)).trans h.res, h.stp.trans (stp_row h.in_.box rfl h.in_.ge)⟩
set_option maxRecDepth 100000 in
/-- One number of a group's box is laid anew. -/
theorem Rq.pastC {b : Nat} {cs : Array Value} {v : Value} {i : Nat} (h : Rq w z p a W) (hb : Whole W b 24 cs) (hge : w.heap.size ≤ b) : Rq w z p a (W.setCell ⟨b, i, none⟩ v) := by
  have k := Only.set W b i v
  refine ⟨⟨k.far h.in_.box (whole_ne h.in_.box hb (by decide)), ⟨k.own h.in_.own.ms hb (by decide), h.in_.own.its.only k hb (by decide), h.in_.own.kps.only k hb (by decide)⟩, h.in_.ge⟩, k.far h.rc (whole_ne h.rc hb (by decide)), k.far h.res (whole_ne h.res hb (by decide)), ⟨h.stp.below.setCell (p := ⟨b, i, none⟩) hge v, fun j o_ ho hs => ?_, fun j cs1 hj => ?_⟩⟩
  · have hj : j < w.heap.size := (Array.getElem?_eq_some_iff.1 ho).1
    exact (Below.heap_setCell W ⟨b, i, none⟩ v j (by show j ≠ b; omega)).trans (h.stp.keeps j o_ ho hs)
  · have hj2 : j < w.heap.size := hj.lt
    obtain ⟨cs2, h2, h3⟩ := h.stp.brn j cs1 hj
    exact ⟨cs2, (Below.heap_setCell W ⟨b, i, none⟩ v j (by show j ≠ b; omega)).trans h2, h3⟩
set_option maxRecDepth 100000 in
/-- One more that is meant. -/
theorem Rq.its_app (h : Rq w z p a W) {A' : Option Addr} {c' : Nat} {l' : List It} (hg : W.grownBy W' (Value.slice a.A p.its.length a.c).ownBlock) (h4 : ∀ b t cs, Whole W b t cs → 34 ≠ t → Whole W' b t cs) (ho : ItsAt w.heap.size W' (.slice A' l'.length c') l') :
    W'.cell? ⟨w.heap.size, 18, none⟩ = some (.slice a.A p.its.length a.c) ∧ W'.frozen? ⟨w.heap.size, 18, none⟩ = false ∧ Rq w z { p with its := l' } ⟨a.C, a.e, A', c', a.B, a.d⟩ (W'.setCell ⟨w.heap.size, 18, none⟩ (.slice A' l'.length c')) := by
  have hb := h4 _ _ _ h.in_.box (by decide)
  have hr := h4 _ _ _ h.rc (by decide)
  have hs := h4 _ _ _ h.res (by decide)
  have k := Only.set W' w.heap.size 18 (.slice A' l'.length c')
  have hi := h.in_.own.its
  unfold ItsAt at hi
  have hkp := h.in_.own.kps
  unfold KpsAt at hkp
  have hms := own_kept_F (by decide) hi h.in_.own.ms hg
  have hkp' := own_kept_F (by decide) hi hkp hg
  have hst := Stp.own hi (by decide) (Nat.le_of_lt h.in_.lt) hg
  exact ⟨hb.cell 18, hb.frozen 18, ⟨set18M hb l' A' c', ⟨k.own hms hb (by decide), ho.only k hb (by decide), KpsAt.only (show KpsAt w.heap.size W' _ _ from hkp') k hb (by decide)⟩, Nat.le_refl _⟩, k.far hr (by omega), k.far hs (by omega), (h.stp.trans hst).trans (Stp.set hb (by decide) (Nat.le_refl _) 18 _)⟩
end
set_option maxRecDepth 100000 in
theorem rdI_whole {W : World} {b : Nat} {x : It} (h : Whole W b 34 #[.int .i64 x.tok, .int .i64 x.ver, .int .i64 x.zone, .bool x.warm]) : RdI W (b + 1) (some ⟨b, 0, none⟩) 1 [x] := by
  refine ⟨rfl, fun _ => ⟨b, 0, rfl, by omega, ?_⟩⟩
  rintro (_ | j) y hy i hi
  · simp only [List.getElem?_cons_zero, Option.some.injEq] at hy
    subst hy
    match i, hi with
    | 0, _ => exact h.cell 0
    | 1, _ => exact h.cell 1
    | 2, _ => exact h.cell 2
    | 3, _ => exact h.cell 3
  · simp at hy
set_option maxRecDepth 100000 in
theorem manyO (k : Int) (W : World) {m : Int} (e : manyB k = m) : Calls Tryd.prog 41 #[.int .u8 k] W fun e w' => e = .returned (.int .i64 m) ∧ Below W.heap.size W w' := by
  subst e
  refine (rmany_any k W).mono ?_
  rintro e w' ⟨h1, h2⟩
  exact ⟨h1, by rw [h2]; exact Below.refl _ _⟩
set_option maxRecDepth 100000 in
theorem fit_ref {p : Br} {k x0 x1 x2 x3 x4 : Int} (h1 : k ≠ 1) (h3 : k ≠ 3) (h4 : k ≠ 4) (h6 : k ≠ 6) (h7 : k ≠ 7) (h8 : k ≠ 8) (h9 : k ≠ 9) (h10 : k ≠ 10) : fitB p k x0 x1 x2 x3 x4 = rfrB p k x0 x1 := by
  unfold fitB rfrB
  rw [if_neg h1, if_neg h3, if_neg h4, if_neg h6, if_neg h7, if_neg h8, if_neg h9, if_neg h10]
set_option maxRecDepth 100000 in
theorem many_kinds {k : Nat} (h : 0 ≤ manyB (k : Int)) : 1 ≤ k ∧ k ≤ 16 := by
  by_cases hh : 1 ≤ k ∧ k ≤ 16
  · exact hh
  · unfold manyB at h
    rw [if_neg (by omega), if_neg (by omega), if_neg (by omega), if_neg (by omega), if_neg (by omega)] at h
    omega

set_option maxRecDepth 100000 in
set_option maxHeartbeats 8000000 in
theorem rapply_any (p : Br) (a : Ad) (z : RE) (w : World) (hr : RdB_ w w.heap.size p a) (hz : ReOk w z) (hzn : z.n ≤ 1000) (hm : p.cf.ms.length ≤ 1000) (hg : Good 800 p) :
    Calls Tryd.prog 27 #[brV p a, .agg #[.int .u8 (z.k : Int), .slice z.A z.n z.c]] w (ApPost (applyB p (z.k : Int) z.zs) w) := by
  obtain ⟨hb0, w0, w1, w2⟩ := three_new w 30 50 30 (brC p a) #[.int .u8 (z.k : Int), .slice z.A z.n z.c] (brC br0 ad0)
  obtain ⟨V, hV⟩ : ∃ V, ((w.alloc (.cells (brC p a) 30)).alloc (.cells #[.int .u8 (z.k : Int), .slice z.A z.n z.c] 50)).alloc (.cells (brC br0 ad0) 30) = V := ⟨_, rfl⟩
  rw [hV] at hb0 w0 w1 w2
  have HV := Lib.hid hV
  have hlen := hg.len
  have HOw := Lib.hid (rownB_any p a V.heap.size V (hr.up hb0) (Nat.le_refl _) hm (by omega) (by omega))
  have X0 := Lib.hid w0
  have X1 := Lib.hid w1
  have X2 := Lib.hid w2
  have HB := Lib.hid hb0
  have HIt := Lib.hid (show p.its.length ≤ 900 by omega)
  have HKp := Lib.hid (show p.kps.length ≤ 900 by omega)
  have HEp := Lib.hid hg.ep
  have HSq := Lib.hid hg.sq
  have HZ := Lib.hid hz
  have HZn := Lib.hid hzn
  have HZl := Lib.hid (show z.zs.length = z.n by have := hz.2.1.1; rwa [iv_length] at this)
  obtain ⟨q, hq⟩ : ∃ q, applyB p (z.k : Int) z.zs = q := ⟨_, rfl⟩
  rw [hq]
  have HQ := Lib.hid hq
  clear hV hb0 w0 w1 w2 hr hz hzn hm hg hq hlen
  go_enter Tryd.func27, Tryd.ntmps27
  go_upto_region 1 with fail
  refine wpV (fun V2 hV2 => ?_)
  obtain rfl : V = V2 := HV.out.symm.trans hV2
  clear HV hV2
  go_wp2_with (refine wpList_loadB (by rfl) _ rfl w.heap.size p a (by rfl) X0.out ?_)
  refine HOw.out.mono ?_
  rintro e W1 ⟨a1, rfl, ho, hb⟩
  have HO1 := Lib.hid (ho.weaker HB.out.size)
  have X01 := Lib.hid (X0.out.under hb)
  have X11 := Lib.hid (X1.out.under hb)
  have X21 := Lib.hid (X2.out.under hb)
  have HB1 := Lib.hid (HB.out.trans (hb.mono HB.out.size))
  clear ho hb HOw X0 X1 X2 HB
  go_upto_region 2 with (refine wpList_storeB rfl _ _ rfl w.heap.size p a1 _ (by rfl) (by rfl) (by rfl) X01.out ?_; intro W2 hW2)
  simp only [Act.put]
  have HR := Lib.hid (show Rq w z p a1 W2 by
    rw [hW2]
    exact ⟨⟨setRow_heap _ _ _ _ _ _ X01.out, HO1.out.rowset X01.out (by decide) (by decide) (by decide) _, Nat.le_refl _⟩, (setRow_other W1 _ _ _ (by omega)).trans X11.out, (setRow_other W1 _ _ _ (by omega)).trans X21.out, (Stp.of_below HB1.out (Nat.le_refl _)).trans (stp_row X01.out rfl (Nat.le_refl _))⟩)
  clear hW2 X01 X11 X21 HO1 HB1
  have HRd := Lib.hid (show Rd W2 w.heap.size z.A z.n (iv z.zs) from HZ.out.2.1.below HR.out.stp.below)
  have hle := Nat.le_of_lt HR.out.in_.lt
  have HNm := Lib.hid (rnumbersB_any z.A z.n z.c z.zs w.heap.size W2 HRd.out HZn.out)
  obtain ⟨nb, hnb⟩ : ∃ nb, numsB z.zs = nb := ⟨_, rfl⟩
  rw [hnb] at HNm
  have r1 := HR.out.rc.cell 1
  have r0 := HR.out.rc.cell 0
  simp only [List.getElem?_toArray, List.getElem?_cons_zero, List.getElem?_cons_succ] at r1 r0
  go_wp2_with fail
  refine HNm.out.mono ?_
  rintro e W3 ⟨rfl, hW3⟩
  have e3 := hW3.symm
  subst e3
  clear hW3 HNm
  cases nb with
  | false =>
    have hP : p = q := by rw [← HQ.out]; exact (not_nums hnb).symm
    subst hP
    clear hnb r0 r1
    go_wp2_with (first | (refine wpList_loadB (by rfl) _ rfl w.heap.size p a1 (by rfl) HR.out.in_.box ?_) | (refine wpList_storeB rfl _ _ rfl (w.heap.size + 1 + 1) p a1 _ (by rfl) (by rfl) (by rfl) HR.out.res ?_; intro W9 hW9))
    obtain ⟨t1, t2, t3⟩ := HR.out.tell hW9
    subst hW9
    exact brain_end (k := 4) rfl (by rfl) t1 rfl ⟨_, rfl, t2, t3.below⟩
  | true =>
  have HNb := Lib.hid hnb
  clear hnb
  by_cases k2 : z.k = 2
  · have d2 : ((z.k : Int) == 2) = true := by simp; omega
    have hqc : confB p z.zs = q := by rw [← HQ.out]; unfold applyB; rw [if_pos HNb.out, if_pos (by omega)]
    have HQc := Lib.hid hqc
    have HOf := Lib.hid (refOf_any z.A z.n z.c z.zs W2.heap.size W2 (HRd.out.more hle) (Nat.le_refl _) HZ.out.2.2.1 HZ.out.2.2.2 HZn.out)
    clear k2 hqc
    go_wp2_with fail
    refine HOf.out.mono ?_
    rintro e W3 ⟨y, rfl, hok, hb⟩
    have HOk := Lib.hid hok
    have HR3 := Lib.hid (HR.out.under hb)
    have HB3 := Lib.hid hb
    clear hok hb HOf r0 r1
    go_upto_region 6 with (refine wpList_store_at (by rfl) 24 _ _ rfl W3.heap.size 0 y.cells (by rfl) (by rfl) 24 _ (Whole.new _ _ _) (by kernel_rfl) (by simp) (by simp [Value.oneCell']) ?_)
    refine wpV (fun W4 hW4 => ?_)
    have b4 : Below W3.heap.size W3 W4 := by rw [← hW4]; exact below_rowsetB ((Below.refl _ _).alloc (Nat.le_refl _) _) (Nat.le_refl _) _
    have x4 : Whole W4 W3.heap.size 24 y.cells := by rw [← hW4]; exact setRow_heap _ _ _ _ _ _ (Whole.new _ _ _)
    have HR4 := Lib.hid (HR3.out.under b4)
    have XC := Lib.hid x4
    have HB4 := Lib.hid b4
    have he := er_ok (isRow z.zs)
    clear hW4 b4 x4 HR3
    cases hrow : isRow z.zs with
    | false =>
      have hP : p = q := by rw [← HQc.out]; unfold confB; rw [if_neg (by rw [hrow]; decide)]
      subst hP
      rw [hrow] at he
      clear hrow
      go_wp2_with (first | (refine wpList_loadB (by rfl) _ rfl w.heap.size p a1 (by rfl) HR4.out.in_.box ?_) | (refine wpList_storeB rfl _ _ rfl (w.heap.size + 1 + 1) p a1 _ (by rfl) (by rfl) (by rfl) HR4.out.res ?_; intro W9 hW9))
      obtain ⟨t1, t2, t3⟩ := HR4.out.tell hW9
      subst hW9
      exact brain_end (k := 4) rfl (by rfl) t1 rfl ⟨_, rfl, t2, t3.below⟩
    | true =>
      rw [hrow] at he
      obtain ⟨hy, hown⟩ := HOk.out.1 hrow
      have hyn : y.n = y.ms.length := by have := hown.1; rw [iv_length] at this; omega
      have HYn := Lib.hid hyn
      have HOwn := Lib.hid (own_weaker (own_under hown HB4.out) hle)
      have hcb := confB_yes (p := p) hrow
      have HCb := Lib.hid (HQc.out.symm.trans hcb)
      have HYp := Lib.hid (show y.pl = ofRow z.zs none 0 0 by rw [hy]; rfl)
      have c2 := HR4.out.in_.box.cell 2
      simp only [List.getElem?_toArray, List.getElem?_cons_zero, List.getElem?_cons_succ] at c2
      clear hy hown hyn hcb hrow
      cases hs : p.set with
      | false =>
        rw [hs] at c2
        have hq2 := HCb.out
        rw [hs] at hq2
        simp only [Bool.false_eq_true, if_false] at hq2
        have HQ2 := Lib.hid hq2
        clear hs hq2
        go_upto_region 10 with (first | (refine wpList_load_row (by rfl) 24 _ rfl W3.heap.size (by rfl) 24 _ (0, 0) _ XC.out Tryd.underlying24 rfl (by kernel_rfl) ?_) | (refine wpList_store_at (by rfl) 24 _ _ rfl w.heap.size 3 (y).cells (by rfl) (by rfl) 30 _ HR4.out.in_.box (by kernel_rfl) (by simp) (by simp [Value.oneCell']) ?_))
        simp only [Act.put]
        refine wpV (fun W6 hW6 => ?_)
        have r6 := HR4.out.setCf (y) HYn.out HOwn.out
        replace r6 : Rq w z { p with cf := (y).pl } ⟨y.A, y.c, a1.A, a1.c, a1.B, a1.d⟩ W6 := by rw [← hW6]; exact r6
        have HR6 := Lib.hid r6
        have c2 := HR6.out.in_.box.cell 2
        have f2 := HR6.out.in_.box.frozen 2
        simp only [List.getElem?_toArray, List.getElem?_cons_zero, List.getElem?_cons_succ] at c2
        clear r6 hW6 HR4 XC HOwn
        go_upto_region 11 with fail
        refine wpV (fun W7 hW7 => ?_)
        have r7 := HR6.out.set (p' := { p with cf := (y).pl, set := true }) 2 (.bool true) rfl rfl rfl rfl
        rw [hW7] at r7
        have HR7 := Lib.hid r7
        have hP : { p with cf := (y).pl, set := true } = q := by rw [HQ2.out, ← HYp.out]
        subst hP
        clear r7 hW7 c2 f2 HR6
        go_wp2_with (first | (refine wpList_loadB (by rfl) _ rfl w.heap.size { p with cf := (y).pl, set := true } ⟨y.A, y.c, a1.A, a1.c, a1.B, a1.d⟩ (by rfl) HR7.out.in_.box ?_) | (refine wpList_storeB rfl _ _ rfl (w.heap.size + 1 + 1) { p with cf := (y).pl, set := true } ⟨y.A, y.c, a1.A, a1.c, a1.B, a1.d⟩ _ (by rfl) (by rfl) (by rfl) HR7.out.res ?_; intro W9 hW9))
        obtain ⟨t1, t2, t3⟩ := HR7.out.tell hW9
        subst hW9
        exact brain_end (k := 4) rfl (by rfl) t1 rfl ⟨_, rfl, t2, t3.below⟩
      | true =>
        rw [hs] at c2
        have hq2 := HCb.out
        rw [hs] at hq2
        simp only [if_true] at hq2
        have HQ2 := Lib.hid hq2
        clear hs hq2
        have c15 := HR4.out.in_.box.cell 15
        have d12 := XC.out.cell 12
        have e12 := XC.out.frozen 12
        simp only [List.getElem?_toArray, List.getElem?_cons_zero, List.getElem?_cons_succ] at c15 d12
        go_upto_region 9 with fail
        refine wpV (fun W5 hW5 => ?_)
        have k5 := Only.set W4 W3.heap.size 12 (.int .i64 p.cf.f12)
        have x5 : Whole W5 W3.heap.size 24 ({ y with f12 := p.cf.f12 } : Cf).cells := by
          rw [← hW5]
          have h := XC.out.set 12 (.int .i64 p.cf.f12)
          simp only [List.setIfInBounds_toArray, List.set_cons_zero, List.set_cons_succ] at h
          exact h
        have r5 : Rq w z p a1 W5 := by rw [← hW5]; exact HR4.out.pastC XC.out (Nat.le_trans hle HB3.out.size)
        have o5 : W5.ownsRow w.heap.size 3 1 (.slice y.A y.n y.c) y.n (iv y.ms) := by rw [← hW5]; exact k5.own HOwn.out XC.out (by decide)
        have HR4_ := Lib.hid r5
        have XC_ := Lib.hid x5
        have HOwn_ := Lib.hid o5
        clear c15 d12 e12 hW5 k5 x5 r5 o5 HR4 XC HOwn c2
        have HR4 := HR4_
        have XC := XC_
        have HOwn := HOwn_
        clear HR4_ XC_ HOwn_
        go_upto_region 10 with (first | (refine wpList_load_row (by rfl) 24 _ rfl W3.heap.size (by rfl) 24 _ (0, 0) _ XC.out Tryd.underlying24 rfl (by kernel_rfl) ?_) | (refine wpList_store_at (by rfl) 24 _ _ rfl w.heap.size 3 ({ y with f12 := p.cf.f12 } : Cf).cells (by rfl) (by rfl) 30 _ HR4.out.in_.box (by kernel_rfl) (by simp) (by simp [Value.oneCell']) ?_))
        simp only [Act.put]
        refine wpV (fun W6 hW6 => ?_)
        have r6 := HR4.out.setCf ({ y with f12 := p.cf.f12 } : Cf) HYn.out HOwn.out
        replace r6 : Rq w z { p with cf := ({ y with f12 := p.cf.f12 } : Cf).pl } ⟨y.A, y.c, a1.A, a1.c, a1.B, a1.d⟩ W6 := by rw [← hW6]; exact r6
        have HR6 := Lib.hid r6
        have c2 := HR6.out.in_.box.cell 2
        have f2 := HR6.out.in_.box.frozen 2
        simp only [List.getElem?_toArray, List.getElem?_cons_zero, List.getElem?_cons_succ] at c2
        clear r6 hW6 HR4 XC HOwn
        go_upto_region 11 with fail
        refine wpV (fun W7 hW7 => ?_)
        have r7 := HR6.out.set (p' := { p with cf := ({ y with f12 := p.cf.f12 } : Cf).pl, set := true }) 2 (.bool true) rfl rfl rfl rfl
        rw [hW7] at r7
        have HR7 := Lib.hid r7
        have hP : { p with cf := ({ y with f12 := p.cf.f12 } : Cf).pl, set := true } = q := by rw [HQ2.out, show ({ y with f12 := p.cf.f12 } : Cf).pl = { ofRow z.zs none 0 0 with f12 := p.cf.f12 } by rw [← HYp.out]; rfl]
        subst hP
        clear r7 hW7 c2 f2 HR6
        go_wp2_with (first | (refine wpList_loadB (by rfl) _ rfl w.heap.size { p with cf := ({ y with f12 := p.cf.f12 } : Cf).pl, set := true } ⟨y.A, y.c, a1.A, a1.c, a1.B, a1.d⟩ (by rfl) HR7.out.in_.box ?_) | (refine wpList_storeB rfl _ _ rfl (w.heap.size + 1 + 1) { p with cf := ({ y with f12 := p.cf.f12 } : Cf).pl, set := true } ⟨y.A, y.c, a1.A, a1.c, a1.B, a1.d⟩ _ (by rfl) (by rfl) (by rfl) HR7.out.res ?_; intro W9 hW9))
        obtain ⟨t1, t2, t3⟩ := HR7.out.tell hW9
        subst hW9
        exact brain_end (k := 4) rfl (by rfl) t1 rfl ⟨_, rfl, t2, t3.below⟩
  · have d2 : ((z.k : Int) == 2) = false := by simp; omega
    have K2 := Lib.hid (show (z.k : Int) ≠ 2 by omega)
    clear k2
    obtain ⟨mv, hmv⟩ : ∃ mv, manyB (z.k : Int) = mv := ⟨_, rfl⟩
    have HMv := Lib.hid hmv
    go_upto_region 12 with fail
    clear r0 r1
    by_cases hmn : mv = (z.n : Int)
    rotate_left
    · have dm : (mv != (z.n : Int)) = true := by simpa using hmn
      have hP : p = q := by rw [← HQ.out]; exact (not_len K2.out (by rw [hmv, HZl.out]; exact hmn)).symm
      subst hP
      clear hmn hmv
      have HL : Hid (∀ V', Below W2.heap.size W2 V' → V'.cell? ⟨w.heap.size + 1, 0, none⟩ = some (.int .u8 (z.k : Int)) ∧ V'.cell? ⟨w.heap.size + 1, 1, none⟩ = some (.slice z.A z.n z.c)) := Lib.hid (fun V' hV => ⟨(HR.out.under hV).rc.cell 0, (HR.out.under hV).rc.cell 1⟩)
      have HBd := Lib.hid (show Below W2.heap.size W2 W2.drew from below_drewB (Below.refl _ _) 1)
      refine wp_region_T (ls := []) (T := (fun V' => Below W2.heap.size W2 V')) (by kernel_rfl) ?_
      refine takeP (i := 0) (v := ?_) rfl (by kernel_rfl) (by kernel_rfl) (by kernel_rfl) (by kernel_rfl) (fun _ _ _ h => h) (by rfl) ?_ (fun _ => HBd.out) ?_
      rotate_left
      · intro V'; go_simp <;> with_reducible rfl
      simp only [Act.put, List.setIfInBounds_toArray, List.set_cons_zero, List.set_cons_succ]
      refine takeT (i := 1) (v := ?_) rfl (by kernel_rfl) (by kernel_rfl) (by kernel_rfl) (by kernel_rfl) (fun _ _ _ h => h) (by rfl) ?_ HBd.out ?_
      rotate_left
      · intro V' hV; obtain ⟨y0, y1⟩ := HL.out V' hV; go_simp <;> with_reducible rfl
      simp only [Act.put, List.setIfInBounds_toArray, List.set_cons_zero, List.set_cons_succ]
      refine takeP (i := 3) (v := ?_) rfl (by kernel_rfl) (by kernel_rfl) (by kernel_rfl) (by kernel_rfl) (fun _ _ _ h => h) (by rfl) ?_ (fun _ => HBd.out) ?_
      rotate_left
      · intro V'; go_simp <;> with_reducible rfl
      simp only [Act.put, List.setIfInBounds_toArray, List.set_cons_zero, List.set_cons_succ]
      refine takeT (i := 4) (v := ?_) rfl (by kernel_rfl) (by kernel_rfl) (by kernel_rfl) (by kernel_rfl) (fun _ _ _ h => h) (by rfl) ?_ HBd.out ?_
      rotate_left
      · intro V' hV; obtain ⟨y0, y1⟩ := HL.out V' hV; go_simp <;> with_reducible rfl
      simp only [Act.put, List.setIfInBounds_toArray, List.set_cons_zero, List.set_cons_succ]
      refine takeP (i := 5) (v := ?_) rfl (by kernel_rfl) (by kernel_rfl) (by kernel_rfl) (by kernel_rfl) (fun _ _ _ h => h) (by rfl) ?_ (fun _ => HBd.out) ?_
      rotate_left
      · intro V'; go_simp <;> with_reducible rfl
      simp only [Act.put, List.setIfInBounds_toArray, List.set_cons_zero, List.set_cons_succ]
      refine oneT (i := 2) rfl (by kernel_rfl) (by rfl) (fun K hK => ?_)
      go_simp
      refine (manyO (z.k : Int) W2.drew HMv.out).mono ?_
      rintro e W2_1 ⟨rfl, hb_⟩
      have HB_1 := Lib.hid (show Below W2.heap.size W2 W2_1 from HBd.out.trans (hb_.mono HBd.out.size))
      clear hb_ HBd
      refine hK.out _ _ (fun _ => HB_1.out) ?_
      clear hK K
      refine takeP (i := 6) (v := ?_) rfl (by kernel_rfl) (by kernel_rfl) (by kernel_rfl) (by kernel_rfl) (fun _ _ _ h => h) (by rfl) ?_ (fun _ => HB_1.out) ?_
      rotate_left
      · intro V'; go_simp <;> with_reducible rfl
      simp only [Act.put, List.setIfInBounds_toArray, List.set_cons_zero, List.set_cons_succ]
      refine doneT (by kernel_rfl) ?_ _
      have HR5 := Lib.hid (HR.out.under HB_1.out)
      clear HL HB_1 HR
      go_wp2_with (first | (refine wpList_loadB (by rfl) _ rfl w.heap.size p a1 (by rfl) HR5.out.in_.box ?_) | (refine wpList_storeB rfl _ _ rfl (w.heap.size + 1 + 1) p a1 _ (by rfl) (by rfl) (by rfl) HR5.out.res ?_; intro W9 hW9))
      obtain ⟨t1, t2, t3⟩ := HR5.out.tell hW9
      subst hW9
      exact brain_end (k := 4) rfl (by rfl) t1 rfl ⟨_, rfl, t2, t3.below⟩
    have dm : (mv != (z.n : Int)) = false := by simpa using hmn
    have HMn := Lib.hid (show manyB (z.k : Int) = (z.n : Int) by rw [hmv]; exact hmn)
    have hqf : fitB p (z.k : Int) (z.zs.getD 0 0) (z.zs.getD 1 0) (z.zs.getD 2 0) (z.zs.getD 3 0) (z.zs.getD 4 0) = q := by rw [← HQ.out]; unfold applyB; rw [if_pos HNb.out, if_neg K2.out, if_pos (by rw [HMn.out, HZl.out])]
    have HQf := Lib.hid hqf
    clear hmn hmv hqf
    have HL : Hid (∀ V', Below W2.heap.size W2 V' → V'.cell? ⟨w.heap.size + 1, 0, none⟩ = some (.int .u8 (z.k : Int)) ∧ V'.cell? ⟨w.heap.size + 1, 1, none⟩ = some (.slice z.A z.n z.c)) := Lib.hid (fun V' hV => ⟨(HR.out.under hV).rc.cell 0, (HR.out.under hV).rc.cell 1⟩)
    have HBd := Lib.hid (show Below W2.heap.size W2 W2.drew from below_drewB (Below.refl _ _) 1)
    refine wp_region_T (ls := []) (T := (fun V' => Below W2.heap.size W2 V')) (by kernel_rfl) ?_
    refine takeP (i := 0) (v := ?_) rfl (by kernel_rfl) (by kernel_rfl) (by kernel_rfl) (by kernel_rfl) (fun _ _ _ h => h) (by rfl) ?_ (fun _ => HBd.out) ?_
    rotate_left
    · intro V'; go_simp <;> with_reducible rfl
    simp only [Act.put, List.setIfInBounds_toArray, List.set_cons_zero, List.set_cons_succ]
    refine takeT (i := 1) (v := ?_) rfl (by kernel_rfl) (by kernel_rfl) (by kernel_rfl) (by kernel_rfl) (fun _ _ _ h => h) (by rfl) ?_ HBd.out ?_
    rotate_left
    · intro V' hV; obtain ⟨y0, y1⟩ := HL.out V' hV; go_simp <;> with_reducible rfl
    simp only [Act.put, List.setIfInBounds_toArray, List.set_cons_zero, List.set_cons_succ]
    refine takeP (i := 3) (v := ?_) rfl (by kernel_rfl) (by kernel_rfl) (by kernel_rfl) (by kernel_rfl) (fun _ _ _ h => h) (by rfl) ?_ (fun _ => HBd.out) ?_
    rotate_left
    · intro V'; go_simp <;> with_reducible rfl
    simp only [Act.put, List.setIfInBounds_toArray, List.set_cons_zero, List.set_cons_succ]
    refine takeT (i := 4) (v := ?_) rfl (by kernel_rfl) (by kernel_rfl) (by kernel_rfl) (by kernel_rfl) (fun _ _ _ h => h) (by rfl) ?_ HBd.out ?_
    rotate_left
    · intro V' hV; obtain ⟨y0, y1⟩ := HL.out V' hV; go_simp <;> with_reducible rfl
    simp only [Act.put, List.setIfInBounds_toArray, List.set_cons_zero, List.set_cons_succ]
    refine takeP (i := 5) (v := ?_) rfl (by kernel_rfl) (by kernel_rfl) (by kernel_rfl) (by kernel_rfl) (fun _ _ _ h => h) (by rfl) ?_ (fun _ => HBd.out) ?_
    rotate_left
    · intro V'; go_simp <;> with_reducible rfl
    simp only [Act.put, List.setIfInBounds_toArray, List.set_cons_zero, List.set_cons_succ]
    refine oneT (i := 2) rfl (by kernel_rfl) (by rfl) (fun K hK => ?_)
    go_simp
    refine (manyO (z.k : Int) W2.drew HMv.out).mono ?_
    rintro e W2_1 ⟨rfl, hb_⟩
    have HB_1 := Lib.hid (show Below W2.heap.size W2 W2_1 from HBd.out.trans (hb_.mono HBd.out.size))
    clear hb_ HBd
    refine hK.out _ _ (fun _ => HB_1.out) ?_
    clear hK K
    refine takeP (i := 6) (v := ?_) rfl (by kernel_rfl) (by kernel_rfl) (by kernel_rfl) (by kernel_rfl) (fun _ _ _ h => h) (by rfl) ?_ (fun _ => HB_1.out) ?_
    rotate_left
    · intro V'; go_simp <;> with_reducible rfl
    simp only [Act.put, List.setIfInBounds_toArray, List.set_cons_zero, List.set_cons_succ]
    refine doneT (by kernel_rfl) ?_ _
    have HR5 := Lib.hid (HR.out.under HB_1.out)
    clear HL HB_1 HR
    clear dm
    have HRd5 := Lib.hid (show Rd W2_1 w.heap.size z.A z.n (iv z.zs) from HZ.out.2.1.below HR5.out.stp.below)
    have hk16 := many_kinds (k := z.k) (by rw [HMn.out]; omega)
    have r0 := HR5.out.rc.cell 0
    simp only [List.getElem?_toArray, List.getElem?_cons_zero] at r0
    by_cases k1 : z.k = 1
    · have e1 : ((z.k : Int) == 1) = true := by simp; omega
      have c0 := HR5.out.in_.box.cell 0
      have f0 := HR5.out.in_.box.frozen 0
      simp only [List.getElem?_toArray, List.getElem?_cons_zero] at c0
      have hqb : bootB p = q := by rw [← HQf.out, k1]; rfl
      by_cases hlt : p.ep < brMax
      · have dl : decide (p.ep < 1099511627776) = true := decide_eq_true (by unfold brMax at hlt; exact hlt)
        have hw1 : wrap64 (p.ep + 1) = p.ep + 1 := by have := HEp.out; unfold brMax at hlt; unfold wrap64; omega
        have hw2 : IntKind.i64.wrap (p.ep + 1) = p.ep + 1 := by have := HEp.out; unfold brMax at hlt; rw [IntKind.wrap_i64]; omega
        have hP : { p with ep := p.ep + 1 } = q := by rw [← hqb]; unfold bootB; rw [if_pos hlt]
        subst hP
        clear hlt hqb k1 hk16
        go_upto_region 31 with fail
        refine wpV (fun W6 hW6 => ?_)
        have r6 := HR5.out.set (p' := { p with ep := p.ep + 1 }) 0 (.int .i64 (p.ep + 1)) rfl rfl rfl rfl
        rw [hW6] at r6
        have HR6 := Lib.hid r6
        clear r6 hW6 c0 f0 HR5 r0 hw1 hw2
        go_wp2_with (first | (refine wpList_loadB (by rfl) _ rfl w.heap.size { p with ep := p.ep + 1 } a1 (by rfl) HR6.out.in_.box ?_) | (refine wpList_storeB rfl _ _ rfl (w.heap.size + 1 + 1) { p with ep := p.ep + 1 } a1 _ (by rfl) (by rfl) (by rfl) HR6.out.res ?_; intro W9 hW9))
        obtain ⟨t1, t2, t3⟩ := HR6.out.tell hW9
        subst hW9
        exact brain_end (k := 4) rfl (by rfl) t1 rfl ⟨_, rfl, t2, t3.below⟩
      · have dl : decide (p.ep < 1099511627776) = false := decide_eq_false (by unfold brMax at hlt; exact hlt)
        have hP : p = q := by rw [← hqb]; unfold bootB; rw [if_neg hlt]
        subst hP
        clear hlt hqb k1 hk16
        go_upto_region 31 with fail
        go_wp2_with (first | (refine wpList_loadB (by rfl) _ rfl w.heap.size p a1 (by rfl) HR5.out.in_.box ?_) | (refine wpList_storeB rfl _ _ rfl (w.heap.size + 1 + 1) p a1 _ (by rfl) (by rfl) (by rfl) HR5.out.res ?_; intro W9 hW9))
        obtain ⟨t1, t2, t3⟩ := HR5.out.tell hW9
        subst hW9
        exact brain_end (k := 4) rfl (by rfl) t1 rfl ⟨_, rfl, t2, t3.below⟩
    have e1 : ((z.k : Int) == 1) = false := by simp; omega
    by_cases k3 : z.k = 3
    · have e3 : ((z.k : Int) == 3) = true := by simp; omega
      have hn3 : z.n = 3 := by have h := HMn.out; rw [k3] at h; unfold manyB at h; simp at h; omega
      obtain ⟨x0, hx0⟩ : ∃ x0, z.zs.getD 0 0 = x0 := ⟨_, rfl⟩
      obtain ⟨x1, hx1⟩ : ∃ x1, z.zs.getD 1 0 = x1 := ⟨_, rfl⟩
      obtain ⟨x2, hx2⟩ : ∃ x2, z.zs.getD 2 0 = x2 := ⟨_, rfl⟩
      have hqi : intentB p x0 x1 x2 = q := by rw [← HQf.out, k3, ← hx0, ← hx1, ← hx2]; rfl
      obtain ⟨b, off, ez, hbl, hy0⟩ := at_of (k := 0) HRd5.out (by omega)
      have hy1 : W2_1.cell? ⟨b, off + 1, none⟩ = some (.int .i64 x1) := by
        obtain ⟨b', off', e, _, h⟩ := at_of (k := 1) HRd5.out (by omega)
        rw [ez] at e
        injection e with e; injection e with e1 e2; subst e1; subst e2
        rw [hx1] at h; exact h
      have hy2 : W2_1.cell? ⟨b, off + 2, none⟩ = some (.int .i64 x2) := by
        obtain ⟨b', off', e, _, h⟩ := at_of (k := 2) HRd5.out (by omega)
        rw [ez] at e
        injection e with e; injection e with e1 e2; subst e1; subst e2
        rw [hx2] at h; exact h
      have y0 : W2_1.cell? ⟨b, off, none⟩ = some (.int .i64 x0) := by rw [hx0] at hy0; exact hy0
      have Y0 := Lib.hid y0
      have Y1 := Lib.hid hy1
      have Y2 := Lib.hid hy2
      have HBl := Lib.hid hbl
      have r1 := HR5.out.rc.cell 1
      have c2 := HR5.out.in_.box.cell 2
      have c1 := HR5.out.in_.box.cell 1
      have f1 := HR5.out.in_.box.frozen 1
      simp only [List.getElem?_toArray, List.getElem?_cons_zero, List.getElem?_cons_succ] at r1 c2 c1
      rw [ez, hn3] at r1
      have R1 := Lib.hid r1
      have hQi := Lib.hid hqi
      have HHk := Lib.hid hk16
      clear hx0 hx1 hx2 hbl hy0 k3 hqi hk16
      cases hs : p.set with
      | false =>
        rw [hs] at c2
        have hP : p = q := by rw [← hQi.out]; unfold intentB; rw [if_neg (fun h => by rw [hs] at h; exact absurd h.1 (by decide))]
        subst hP
        clear hs
        go_upto_region 31 with fail
        go_wp2_with (first | (refine wpList_loadB (by rfl) _ rfl w.heap.size p a1 (by rfl) HR5.out.in_.box ?_) | (refine wpList_storeB rfl _ _ rfl (w.heap.size + 1 + 1) p a1 _ (by rfl) (by rfl) (by rfl) HR5.out.res ?_; intro W9 hW9))
        obtain ⟨t1, t2, t3⟩ := HR5.out.tell hW9
        subst hW9
        exact brain_end (k := 4) rfl (by rfl) t1 rfl ⟨_, rfl, t2, t3.below⟩
      | true =>
      rw [hs] at c2
      by_cases hx0 : 1 ≤ x0
      rotate_left
      · have hP : p = q := by rw [← hQi.out]; unfold intentB; rw [if_neg (fun h => hx0 h.2.1)]
        have d0 : decide (1 ≤ x0) = false := by simpa using hx0
        subst hP
        clear hs hx0
        go_upto_region 31 with fail
        go_wp2_with (first | (refine wpList_loadB (by rfl) _ rfl w.heap.size p a1 (by rfl) HR5.out.in_.box ?_) | (refine wpList_storeB rfl _ _ rfl (w.heap.size + 1 + 1) p a1 _ (by rfl) (by rfl) (by rfl) HR5.out.res ?_; intro W9 hW9))
        obtain ⟨t1, t2, t3⟩ := HR5.out.tell hW9
        subst hW9
        exact brain_end (k := 4) rfl (by rfl) t1 rfl ⟨_, rfl, t2, t3.below⟩
      have d0 : decide (1 ≤ x0) = true := by simpa using hx0
      by_cases hx1 : x1 < 4
      rotate_left
      · have hP : p = q := by rw [← hQi.out]; unfold intentB; rw [if_neg (fun h => hx1 h.2.2.1)]
        have d1 : decide (x1 < 4) = false := by simpa using hx1
        subst hP
        clear hs hx0 hx1
        go_upto_region 31 with fail
        go_wp2_with (first | (refine wpList_loadB (by rfl) _ rfl w.heap.size p a1 (by rfl) HR5.out.in_.box ?_) | (refine wpList_storeB rfl _ _ rfl (w.heap.size + 1 + 1) p a1 _ (by rfl) (by rfl) (by rfl) HR5.out.res ?_; intro W9 hW9))
        obtain ⟨t1, t2, t3⟩ := HR5.out.tell hW9
        subst hW9
        exact brain_end (k := 4) rfl (by rfl) t1 rfl ⟨_, rfl, t2, t3.below⟩
      have d1 : decide (x1 < 4) = true := by simpa using hx1
      by_cases hx2 : x2 < 2
      rotate_left
      · have hP : p = q := by rw [← hQi.out]; unfold intentB; rw [if_neg (fun h => hx2 h.2.2.2.1)]
        have d3 : decide (x2 < 2) = false := by simpa using hx2
        subst hP
        clear hs hx0 hx1 hx2
        go_upto_region 31 with fail
        go_wp2_with (first | (refine wpList_loadB (by rfl) _ rfl w.heap.size p a1 (by rfl) HR5.out.in_.box ?_) | (refine wpList_storeB rfl _ _ rfl (w.heap.size + 1 + 1) p a1 _ (by rfl) (by rfl) (by rfl) HR5.out.res ?_; intro W9 hW9))
        obtain ⟨t1, t2, t3⟩ := HR5.out.tell hW9
        subst hW9
        exact brain_end (k := 4) rfl (by rfl) t1 rfl ⟨_, rfl, t2, t3.below⟩
      have d3 : decide (x2 < 2) = true := by simpa using hx2
      by_cases hsq : p.sq < brMax
      rotate_left
      · have hP : p = q := by rw [← hQi.out]; unfold intentB; rw [if_neg (fun h => hsq h.2.2.2.2)]
        have d4 : decide (p.sq < 1099511627776) = false := decide_eq_false (by unfold brMax at hsq; exact hsq)
        subst hP
        clear hs hx0 hx1 hx2 hsq
        go_upto_region 31 with fail
        go_wp2_with (first | (refine wpList_loadB (by rfl) _ rfl w.heap.size p a1 (by rfl) HR5.out.in_.box ?_) | (refine wpList_storeB rfl _ _ rfl (w.heap.size + 1 + 1) p a1 _ (by rfl) (by rfl) (by rfl) HR5.out.res ?_; intro W9 hW9))
        obtain ⟨t1, t2, t3⟩ := HR5.out.tell hW9
        subst hW9
        exact brain_end (k := 4) rfl (by rfl) t1 rfl ⟨_, rfl, t2, t3.below⟩
      have d4 : decide (p.sq < 1099511627776) = true := decide_eq_true (by unfold brMax at hsq; exact hsq)
      obtain ⟨wv, hwv⟩ : ∃ wv, decide (x2 = 1) = wv := ⟨_, rfl⟩
      have hwv2 : (x2 == 1) = wv := by rw [← hwv]; exact beq_dec x2 1
      have hw1 : wrap64 (p.sq + 1) = p.sq + 1 := by have := HSq.out; unfold brMax at hsq; unfold wrap64; omega
      have hw2 : IntKind.i64.wrap (p.sq + 1) = p.sq + 1 := by have := HSq.out; unfold brMax at hsq; rw [IntKind.wrap_i64]; omega
      obtain ⟨L, hL⟩ : ∃ L, p.its ++ [⟨p.sq + 1, x0, x1, wv⟩] = L := ⟨_, rfl⟩
      have hP : { p with sq := p.sq + 1, its := L } = q := by rw [← hQi.out]; unfold intentB; rw [if_pos ⟨hs, hx0, hx1, hx2, hsq⟩, hwv, hL]
      subst hP
      have HLL := Lib.hid hL
      clear hs hx0 hx1 hx2 hsq hwv hL
      go_upto_region 22 with fail
      refine wpV (fun W6 hW6 => ?_)
      have r6 := HR5.out.set (p' := { p with sq := p.sq + 1 }) 1 (.int .i64 (p.sq + 1)) rfl rfl rfl rfl
      rw [hW6] at r6
      have HR6 := Lib.hid r6
      have ky : ∀ o_ : Nat, W6.cell? ⟨b, o_, none⟩ = W2_1.cell? ⟨b, o_, none⟩ := fun o_ => by
        rw [← hW6]
        exact ((Below.refl w.heap.size W2_1).setCell (p := ⟨w.heap.size, 1, none⟩) (Nat.le_refl _) _).cell (p := ⟨b, o_, none⟩) HBl.out
      have Z0 := Lib.hid ((ky off).trans Y0.out)
      have Z1 := Lib.hid ((ky (off + 1)).trans Y1.out)
      have Z2 := Lib.hid ((ky (off + 2)).trans Y2.out)
      have HBv := Lib.hid (Nat.lt_trans HBl.out HR6.out.in_.lt)
      have S1 := Lib.hid (show W6.cell? ⟨w.heap.size + 1, 1, none⟩ = some (.slice (some ⟨b, off, none⟩) 3 z.c) by have h := HR6.out.rc.cell 1; simp only [List.getElem?_toArray, List.getElem?_cons_zero, List.getElem?_cons_succ] at h; rw [ez, hn3] at h; exact h)
      have HLr := Lib.hid (show w.heap.size + 1 < W6.heap.size from HR6.out.rc.lt)
      clear r6 hW6 c1 c2 f1 HR5 r0 r1 y0 hy1 hy2 Y0 Y1 Y2 ky hw1 hw2 d0 d1 d3 d4
      have HL : Hid (∀ V', Below W6.heap.size W6 V' → V'.cell? ⟨w.heap.size, 18, none⟩ = some (.slice a1.A p.its.length a1.c) ∧ V'.cell? ⟨w.heap.size, 1, none⟩ = some (.int .i64 (p.sq + 1)) ∧ V'.cell? ⟨w.heap.size + 1, 1, none⟩ = some (.slice (some ⟨b, off, none⟩) 3 z.c) ∧ V'.cell? ⟨b, off, none⟩ = some (.int .i64 x0) ∧ V'.cell? ⟨b, off + 1, none⟩ = some (.int .i64 x1) ∧ V'.cell? ⟨b, off + 2, none⟩ = some (.int .i64 x2)) := Lib.hid (fun V' hV => ⟨(HR6.out.under hV).in_.box.cell 18, (HR6.out.under hV).in_.box.cell 1, (hV.cell (p := ⟨w.heap.size + 1, 1, none⟩) HLr.out).trans S1.out, (hV.cell (p := ⟨b, off, none⟩) HBv.out).trans Z0.out, (hV.cell (p := ⟨b, off + 1, none⟩) HBv.out).trans Z1.out, (hV.cell (p := ⟨b, off + 2, none⟩) HBv.out).trans Z2.out⟩)
      have HBd := Lib.hid (show Below W6.heap.size W6 W6.drew from below_drewB (Below.refl _ _) 1)
      refine wp_region_T (ls := [19, 20, 21]) (T := (fun V' => Below W6.heap.size W6 V')) (by kernel_rfl) ?_
      refine takeP (i := 0) (v := ?_) rfl (by kernel_rfl) (by kernel_rfl) (by kernel_rfl) (by kernel_rfl) (fun _ _ _ h => h) (by rfl) ?_ (fun _ => HBd.out) ?_
      rotate_left
      · intro V'; go_simp <;> with_reducible rfl
      simp only [Act.put, List.setIfInBounds_toArray, List.set_cons_zero, List.set_cons_succ]
      refine takeT (i := 1) (v := ?_) rfl (by kernel_rfl) (by kernel_rfl) (by kernel_rfl) (by kernel_rfl) (fun _ _ _ h => h) (by rfl) ?_ HBd.out ?_
      rotate_left
      · intro V' hV; obtain ⟨y0, y1, y2, y3, y4, y5⟩ := HL.out V' hV; go_simp <;> with_reducible rfl
      simp only [Act.put, List.setIfInBounds_toArray, List.set_cons_zero, List.set_cons_succ]
      refine takeP (i := 2) (v := ?_) rfl (by kernel_rfl) (by kernel_rfl) (by kernel_rfl) (by kernel_rfl) (fun _ _ _ h => h) (by rfl) ?_ (fun _ => HBd.out) ?_
      rotate_left
      · intro V'; go_simp <;> with_reducible rfl
      simp only [Act.put, List.setIfInBounds_toArray, List.set_cons_zero, List.set_cons_succ]
      refine takeT (i := 3) (v := ?_) rfl (by kernel_rfl) (by kernel_rfl) (by kernel_rfl) (by kernel_rfl) (fun _ _ _ h => h) (by rfl) ?_ HBd.out ?_
      rotate_left
      · intro V' hV; obtain ⟨y0, y1, y2, y3, y4, y5⟩ := HL.out V' hV; go_simp <;> with_reducible rfl
      simp only [Act.put, List.setIfInBounds_toArray, List.set_cons_zero, List.set_cons_succ]
      refine takeP (i := 4) (v := ?_) rfl (by kernel_rfl) (by kernel_rfl) (by kernel_rfl) (by kernel_rfl) (fun _ _ _ h => h) (by rfl) ?_ (fun _ => HBd.out) ?_
      rotate_left
      · intro V'; go_simp <;> with_reducible rfl
      simp only [Act.put, List.setIfInBounds_toArray, List.set_cons_zero, List.set_cons_succ]
      refine takeT (i := 5) (v := ?_) rfl (by kernel_rfl) (by kernel_rfl) (by kernel_rfl) (by kernel_rfl) (fun _ _ _ h => h) (by rfl) ?_ HBd.out ?_
      rotate_left
      · intro V' hV; obtain ⟨y0, y1, y2, y3, y4, y5⟩ := HL.out V' hV; go_simp <;> with_reducible rfl
      simp only [Act.put, List.setIfInBounds_toArray, List.set_cons_zero, List.set_cons_succ]
      refine takeP (i := 6) (v := ?_) rfl (by kernel_rfl) (by kernel_rfl) (by kernel_rfl) (by kernel_rfl) (fun _ _ _ h => h) (by rfl) ?_ (fun _ => HBd.out) ?_
      rotate_left
      · intro V'; go_simp <;> with_reducible rfl
      simp only [Act.put, List.setIfInBounds_toArray, List.set_cons_zero, List.set_cons_succ]
      refine takeT (i := 7) (v := ?_) rfl (by kernel_rfl) (by kernel_rfl) (by kernel_rfl) (by kernel_rfl) (fun _ _ _ h => h) (by rfl) ?_ HBd.out ?_
      rotate_left
      · intro V' hV; obtain ⟨y0, y1, y2, y3, y4, y5⟩ := HL.out V' hV; go_simp <;> with_reducible rfl
      simp only [Act.put, List.setIfInBounds_toArray, List.set_cons_zero, List.set_cons_succ]
      refine takeP (i := 8) (v := ?_) rfl (by kernel_rfl) (by kernel_rfl) (by kernel_rfl) (by kernel_rfl) (fun _ _ _ h => h) (by rfl) ?_ (fun _ => HBd.out) ?_
      rotate_left
      · intro V'; go_simp <;> with_reducible rfl
      simp only [Act.put, List.setIfInBounds_toArray, List.set_cons_zero, List.set_cons_succ]
      refine takeT (i := 9) (v := ?_) rfl (by kernel_rfl) (by kernel_rfl) (by kernel_rfl) (by kernel_rfl) (fun _ _ _ h => h) (by rfl) ?_ HBd.out ?_
      rotate_left
      · intro V' hV; obtain ⟨y0, y1, y2, y3, y4, y5⟩ := HL.out V' hV; go_simp <;> with_reducible rfl
      simp only [Act.put, List.setIfInBounds_toArray, List.set_cons_zero, List.set_cons_succ]
      refine takeP (i := 10) (v := ?_) rfl (by kernel_rfl) (by kernel_rfl) (by kernel_rfl) (by kernel_rfl) (fun _ _ _ h => h) (by rfl) ?_ (fun _ => HBd.out) ?_
      rotate_left
      · intro V'; go_simp <;> with_reducible rfl
      simp only [Act.put, List.setIfInBounds_toArray, List.set_cons_zero, List.set_cons_succ]
      refine takeT (i := 11) (v := ?_) rfl (by kernel_rfl) (by kernel_rfl) (by kernel_rfl) (by kernel_rfl) (fun _ _ _ h => h) (by rfl) ?_ HBd.out ?_
      rotate_left
      · intro V' hV; obtain ⟨y0, y1, y2, y3, y4, y5⟩ := HL.out V' hV; go_simp <;> with_reducible rfl
      simp only [Act.put, List.setIfInBounds_toArray, List.set_cons_zero, List.set_cons_succ]
      refine takeP (i := 12) (v := ?_) rfl (by kernel_rfl) (by kernel_rfl) (by kernel_rfl) (by kernel_rfl) (fun _ _ _ h => h) (by rfl) ?_ (fun _ => HBd.out) ?_
      rotate_left
      · intro V'; go_simp <;> with_reducible rfl
      simp only [Act.put, List.setIfInBounds_toArray, List.set_cons_zero, List.set_cons_succ]
      refine takeT (i := 13) (v := ?_) rfl (by kernel_rfl) (by kernel_rfl) (by kernel_rfl) (by kernel_rfl) (fun _ _ _ h => h) (by rfl) ?_ HBd.out ?_
      rotate_left
      · intro V' hV; obtain ⟨y0, y1, y2, y3, y4, y5⟩ := HL.out V' hV; go_simp <;> with_reducible rfl
      simp only [Act.put, List.setIfInBounds_toArray, List.set_cons_zero, List.set_cons_succ]
      refine takeP (i := 14) (v := ?_) rfl (by kernel_rfl) (by kernel_rfl) (by kernel_rfl) (by kernel_rfl) (fun _ _ _ h => h) (by rfl) ?_ (fun _ => HBd.out) ?_
      rotate_left
      · intro V'; go_simp <;> with_reducible rfl
      simp only [Act.put, List.setIfInBounds_toArray, List.set_cons_zero, List.set_cons_succ]
      refine takeT (i := 15) (v := ?_) rfl (by kernel_rfl) (by kernel_rfl) (by kernel_rfl) (by kernel_rfl) (fun _ _ _ h => h) (by rfl) ?_ HBd.out ?_
      rotate_left
      · intro V' hV; obtain ⟨y0, y1, y2, y3, y4, y5⟩ := HL.out V' hV; go_simp <;> with_reducible rfl
      simp only [Act.put, List.setIfInBounds_toArray, List.set_cons_zero, List.set_cons_succ]
      refine takeP (i := 16) (v := ?_) rfl (by kernel_rfl) (by kernel_rfl) (by kernel_rfl) (by kernel_rfl) (fun _ _ _ h => h) (by rfl) ?_ (fun _ => HBd.out) ?_
      rotate_left
      · intro V'; go_simp <;> with_reducible rfl
      simp only [Act.put, List.setIfInBounds_toArray, List.set_cons_zero, List.set_cons_succ]
      refine takeP (i := 17) (v := ?_) rfl (by kernel_rfl) (by kernel_rfl) (by kernel_rfl) (by kernel_rfl) (fun _ _ _ h => h) (by rfl) ?_ (fun _ => HBd.out) ?_
      rotate_left
      · intro V'; go_simp <;> with_reducible rfl
      simp only [Act.put, List.setIfInBounds_toArray, List.set_cons_zero, List.set_cons_succ]
      refine oneT (i := 18) rfl (by kernel_rfl) (by rfl) (fun K hK => ?_)
      obtain ⟨W7, hW⟩ : ∃ W, W6.drew.alloc (.cells #[.int .i64 (p.sq + 1), .int .i64 x0, .int .i64 x1, .bool wv] 34) = W := ⟨_, rfl⟩
      have b_ : Below W6.drew.heap.size W6.drew W7 := by rw [← hW]; exact (Below.refl _ _).alloc (Nat.le_refl _) _
      have r_ : Whole W7 W6.drew.heap.size 34 #[.int .i64 (p.sq + 1), .int .i64 x0, .int .i64 x1, .bool wv] := by rw [← hW]; exact Whole.new _ _ _
      go_simp
      clear hW
      have HU := Lib.hid (HBd.out.trans (b_.mono HBd.out.size))
      have R0 := Lib.hid r_
      clear b_ r_
      refine hK.out _ _ (fun _ => HU.out) ?_
      clear hK K
      have HR7 := Lib.hid (HR6.out.under HU.out)
      obtain ⟨A9, c9, W8, hrun, ho, hg, h4⟩ := its_app W7 w.heap.size (.slice a1.A p.its.length a1.c) p.its HR7.out.in_.own.its (W6.drew.heap.size + 1) (some ⟨W6.drew.heap.size, 0, none⟩) 1 1 [⟨p.sq + 1, x0, x1, wv⟩] (rdI_whole R0.out) (by have := HIt.out; omega) (Nat.le_of_lt HR7.out.in_.lt)
      have hLn : p.its.length + 1 = L.length := by rw [← HLL.out]; simp
      rw [hLn] at hrun ho
      rw [HLL.out] at ho
      obtain ⟨e18, f18, r9⟩ := HR7.out.its_app hg h4 ho
      have HRun := Lib.hid hrun
      clear hrun hg h4 ho
      refine oneL (i := 19) (by kernel_rfl) rfl (by kernel_rfl) (by rfl) (fun K hK => ?_)
      refine wp_appendH (by rfl) (by rfl) HRun.out ?_
      simp only [Act.put, List.setIfInBounds_toArray, List.set_cons_zero, List.set_cons_succ]
      refine hK.out _ _ ?_
      clear hK K
      refine oneL (i := 20) (by kernel_rfl) rfl (by kernel_rfl) (by rfl) (fun K hK => ?_)
      go_simp
      refine hK.out _ _ ?_
      clear hK K
      refine oneL (i := 21) (by kernel_rfl) rfl (by kernel_rfl) (by rfl) (fun K hK => ?_)
      go_simp
      refine hK.out _ _ ?_
      clear hK K
      refine doneT (by kernel_rfl) ?_ _
      go_upto_region 31 with fail
      refine wpV (fun W9_ hW9_ => ?_)
      replace r9 : Rq w z { p with sq := p.sq + 1, its := L } ⟨a1.C, a1.e, A9, c9, a1.B, a1.d⟩ W9_ := by rw [← hW9_]; exact r9
      have HR9 := Lib.hid r9
      clear e18 f18 r9 hW9_ HL HBd HU R0 HR7 HR6 HRun hLn
      go_wp2_with (first | (refine wpList_loadB (by rfl) _ rfl w.heap.size { p with sq := p.sq + 1, its := L } ⟨a1.C, a1.e, A9, c9, a1.B, a1.d⟩ (by rfl) HR9.out.in_.box ?_) | (refine wpList_storeB rfl _ _ rfl (w.heap.size + 1 + 1) { p with sq := p.sq + 1, its := L } ⟨a1.C, a1.e, A9, c9, a1.B, a1.d⟩ _ (by rfl) (by rfl) (by rfl) HR9.out.res ?_; intro W9 hW9))
      obtain ⟨t1, t2, t3⟩ := HR9.out.tell hW9
      subst hW9
      exact brain_end (k := 4) rfl (by rfl) t1 rfl ⟨_, rfl, t2, t3.below⟩
    have e3 : ((z.k : Int) == 3) = false := by simp; omega
    by_cases k4 : z.k = 4
    · have e4 : ((z.k : Int) == 4) = true := by simp; omega
      have hn3 : z.n = 3 := by have h := HMn.out; rw [k4] at h; unfold manyB at h; simp at h; omega
      have hP : madeB p (z.zs.getD 0 0) (z.zs.getD 1 0) (z.zs.getD 2 0) = q := by rw [← HQf.out, k4]; rfl
      subst hP
      have HN3 := Lib.hid hn3
      clear k4 hk16 hn3
      go_upto_region 24 with fail
      clear r0
      have HKs := Lib.hid (rmade_any p a1 z.A z.n z.c z.zs w.heap.size W2_1 HR5.out.in_.own (Nat.le_of_lt HR5.out.in_.lt) HRd5.out HN3.out HKp.out HIt.out)
      have r1 := HR5.out.rc.cell 1
      have r0 := HR5.out.rc.cell 0
      simp only [List.getElem?_toArray, List.getElem?_cons_zero, List.getElem?_cons_succ] at r1 r0
      go_wp2_with (refine wpList_loadB (by rfl) _ rfl w.heap.size p a1 (by rfl) HR5.out.in_.box ?_)
      refine HKs.out.mono ?_
      rintro e V3 ⟨a2, rfl, ho2, hs2⟩
      obtain ⟨cs2, hc2, hz2⟩ := hs2.brn _ _ HR5.out.res
      have hz3 : cs2.size = 27 := by rw [hz2]; rfl
      have HZa := Lib.hid hc2
      have HT := fun W3 hW => HR5.out.told (W3 := W3) hs2 hc2 hz3 ho2 hW
      clear HKs hz2 ho2 hs2 hc2 r1 r0
      have HTT := Lib.hid HT
      clear HT
      go_wp2_with (refine wpList_storeB rfl _ _ rfl (w.heap.size + 1 + 1) (madeB p (z.zs.getD 0 0) (z.zs.getD 1 0) (z.zs.getD 2 0)) a2 cs2 hz3 (by rfl) (by rfl) HZa.out ?_; intro W11 hW11)
      obtain ⟨t1, t2, t3⟩ := HTT.out W11 hW11
      subst hW11
      exact brain_end (k := 4) rfl (by rfl) t1 rfl ⟨_, rfl, t2, t3.below⟩
    have e4 : ((z.k : Int) == 4) = false := by simp; omega
    by_cases k6 : z.k = 6
    · have e6 : ((z.k : Int) == 6) = true := by simp; omega
      have hP : fitB p (z.k : Int) (z.zs.getD 0 0) (z.zs.getD 1 0) (z.zs.getD 2 0) (z.zs.getD 3 0) (z.zs.getD 4 0) = q := HQf.out
      subst hP
      have HKk := Lib.hid (show z.k = 6 ∨ z.k = 7 ∨ z.k = 8 ∨ z.k = 9 ∨ z.k = 10 by omega)
      clear k6 hk16
      go_upto_region 30 with fail
      clear r0
      have HKs := Lib.hid (rinst_any p a1 z.k z.A z.n z.c z.zs w.heap.size W2_1 HR5.out.in_.own (Nat.le_of_lt HR5.out.in_.lt) HRd5.out HMn.out HNb.out HKp.out HKk.out)
      have r1 := HR5.out.rc.cell 1
      have r0 := HR5.out.rc.cell 0
      simp only [List.getElem?_toArray, List.getElem?_cons_zero, List.getElem?_cons_succ] at r1 r0
      go_wp2_with (refine wpList_loadB (by rfl) _ rfl w.heap.size p a1 (by rfl) HR5.out.in_.box ?_)
      refine HKs.out.mono ?_
      rintro e V3 ⟨a2, rfl, ho2, hs2⟩
      obtain ⟨cs2, hc2, hz2⟩ := hs2.brn _ _ HR5.out.res
      have hz3 : cs2.size = 27 := by rw [hz2]; rfl
      have HZa := Lib.hid hc2
      have HT := fun W3 hW => HR5.out.told (W3 := W3) hs2 hc2 hz3 ho2 hW
      clear HKs hz2 ho2 hs2 hc2 r1 r0
      have HTT := Lib.hid HT
      clear HT
      go_wp2_with (refine wpList_storeB rfl _ _ rfl (w.heap.size + 1 + 1) (fitB p (z.k : Int) (z.zs.getD 0 0) (z.zs.getD 1 0) (z.zs.getD 2 0) (z.zs.getD 3 0) (z.zs.getD 4 0)) a2 cs2 hz3 (by rfl) (by rfl) HZa.out ?_; intro W11 hW11)
      obtain ⟨t1, t2, t3⟩ := HTT.out W11 hW11
      subst hW11
      exact brain_end (k := 4) rfl (by rfl) t1 rfl ⟨_, rfl, t2, t3.below⟩
    have e6 : ((z.k : Int) == 6) = false := by simp; omega
    by_cases k7 : z.k = 7
    · have e7 : ((z.k : Int) == 7) = true := by simp; omega
      have hP : fitB p (z.k : Int) (z.zs.getD 0 0) (z.zs.getD 1 0) (z.zs.getD 2 0) (z.zs.getD 3 0) (z.zs.getD 4 0) = q := HQf.out
      subst hP
      have HKk := Lib.hid (show z.k = 6 ∨ z.k = 7 ∨ z.k = 8 ∨ z.k = 9 ∨ z.k = 10 by omega)
      clear k7 hk16
      go_upto_region 30 with fail
      clear r0
      have HKs := Lib.hid (rinst_any p a1 z.k z.A z.n z.c z.zs w.heap.size W2_1 HR5.out.in_.own (Nat.le_of_lt HR5.out.in_.lt) HRd5.out HMn.out HNb.out HKp.out HKk.out)
      have r1 := HR5.out.rc.cell 1
      have r0 := HR5.out.rc.cell 0
      simp only [List.getElem?_toArray, List.getElem?_cons_zero, List.getElem?_cons_succ] at r1 r0
      go_wp2_with (refine wpList_loadB (by rfl) _ rfl w.heap.size p a1 (by rfl) HR5.out.in_.box ?_)
      refine HKs.out.mono ?_
      rintro e V3 ⟨a2, rfl, ho2, hs2⟩
      obtain ⟨cs2, hc2, hz2⟩ := hs2.brn _ _ HR5.out.res
      have hz3 : cs2.size = 27 := by rw [hz2]; rfl
      have HZa := Lib.hid hc2
      have HT := fun W3 hW => HR5.out.told (W3 := W3) hs2 hc2 hz3 ho2 hW
      clear HKs hz2 ho2 hs2 hc2 r1 r0
      have HTT := Lib.hid HT
      clear HT
      go_wp2_with (refine wpList_storeB rfl _ _ rfl (w.heap.size + 1 + 1) (fitB p (z.k : Int) (z.zs.getD 0 0) (z.zs.getD 1 0) (z.zs.getD 2 0) (z.zs.getD 3 0) (z.zs.getD 4 0)) a2 cs2 hz3 (by rfl) (by rfl) HZa.out ?_; intro W11 hW11)
      obtain ⟨t1, t2, t3⟩ := HTT.out W11 hW11
      subst hW11
      exact brain_end (k := 4) rfl (by rfl) t1 rfl ⟨_, rfl, t2, t3.below⟩
    have e7 : ((z.k : Int) == 7) = false := by simp; omega
    by_cases k8 : z.k = 8
    · have e8 : ((z.k : Int) == 8) = true := by simp; omega
      have hP : fitB p (z.k : Int) (z.zs.getD 0 0) (z.zs.getD 1 0) (z.zs.getD 2 0) (z.zs.getD 3 0) (z.zs.getD 4 0) = q := HQf.out
      subst hP
      have HKk := Lib.hid (show z.k = 6 ∨ z.k = 7 ∨ z.k = 8 ∨ z.k = 9 ∨ z.k = 10 by omega)
      clear k8 hk16
      go_upto_region 30 with fail
      clear r0
      have HKs := Lib.hid (rinst_any p a1 z.k z.A z.n z.c z.zs w.heap.size W2_1 HR5.out.in_.own (Nat.le_of_lt HR5.out.in_.lt) HRd5.out HMn.out HNb.out HKp.out HKk.out)
      have r1 := HR5.out.rc.cell 1
      have r0 := HR5.out.rc.cell 0
      simp only [List.getElem?_toArray, List.getElem?_cons_zero, List.getElem?_cons_succ] at r1 r0
      go_wp2_with (refine wpList_loadB (by rfl) _ rfl w.heap.size p a1 (by rfl) HR5.out.in_.box ?_)
      refine HKs.out.mono ?_
      rintro e V3 ⟨a2, rfl, ho2, hs2⟩
      obtain ⟨cs2, hc2, hz2⟩ := hs2.brn _ _ HR5.out.res
      have hz3 : cs2.size = 27 := by rw [hz2]; rfl
      have HZa := Lib.hid hc2
      have HT := fun W3 hW => HR5.out.told (W3 := W3) hs2 hc2 hz3 ho2 hW
      clear HKs hz2 ho2 hs2 hc2 r1 r0
      have HTT := Lib.hid HT
      clear HT
      go_wp2_with (refine wpList_storeB rfl _ _ rfl (w.heap.size + 1 + 1) (fitB p (z.k : Int) (z.zs.getD 0 0) (z.zs.getD 1 0) (z.zs.getD 2 0) (z.zs.getD 3 0) (z.zs.getD 4 0)) a2 cs2 hz3 (by rfl) (by rfl) HZa.out ?_; intro W11 hW11)
      obtain ⟨t1, t2, t3⟩ := HTT.out W11 hW11
      subst hW11
      exact brain_end (k := 4) rfl (by rfl) t1 rfl ⟨_, rfl, t2, t3.below⟩
    have e8 : ((z.k : Int) == 8) = false := by simp; omega
    by_cases k9 : z.k = 9
    · have e9 : ((z.k : Int) == 9) = true := by simp; omega
      have hP : fitB p (z.k : Int) (z.zs.getD 0 0) (z.zs.getD 1 0) (z.zs.getD 2 0) (z.zs.getD 3 0) (z.zs.getD 4 0) = q := HQf.out
      subst hP
      have HKk := Lib.hid (show z.k = 6 ∨ z.k = 7 ∨ z.k = 8 ∨ z.k = 9 ∨ z.k = 10 by omega)
      clear k9 hk16
      go_upto_region 30 with fail
      clear r0
      have HKs := Lib.hid (rinst_any p a1 z.k z.A z.n z.c z.zs w.heap.size W2_1 HR5.out.in_.own (Nat.le_of_lt HR5.out.in_.lt) HRd5.out HMn.out HNb.out HKp.out HKk.out)
      have r1 := HR5.out.rc.cell 1
      have r0 := HR5.out.rc.cell 0
      simp only [List.getElem?_toArray, List.getElem?_cons_zero, List.getElem?_cons_succ] at r1 r0
      go_wp2_with (refine wpList_loadB (by rfl) _ rfl w.heap.size p a1 (by rfl) HR5.out.in_.box ?_)
      refine HKs.out.mono ?_
      rintro e V3 ⟨a2, rfl, ho2, hs2⟩
      obtain ⟨cs2, hc2, hz2⟩ := hs2.brn _ _ HR5.out.res
      have hz3 : cs2.size = 27 := by rw [hz2]; rfl
      have HZa := Lib.hid hc2
      have HT := fun W3 hW => HR5.out.told (W3 := W3) hs2 hc2 hz3 ho2 hW
      clear HKs hz2 ho2 hs2 hc2 r1 r0
      have HTT := Lib.hid HT
      clear HT
      go_wp2_with (refine wpList_storeB rfl _ _ rfl (w.heap.size + 1 + 1) (fitB p (z.k : Int) (z.zs.getD 0 0) (z.zs.getD 1 0) (z.zs.getD 2 0) (z.zs.getD 3 0) (z.zs.getD 4 0)) a2 cs2 hz3 (by rfl) (by rfl) HZa.out ?_; intro W11 hW11)
      obtain ⟨t1, t2, t3⟩ := HTT.out W11 hW11
      subst hW11
      exact brain_end (k := 4) rfl (by rfl) t1 rfl ⟨_, rfl, t2, t3.below⟩
    have e9 : ((z.k : Int) == 9) = false := by simp; omega
    by_cases k10 : z.k = 10
    · have e10 : ((z.k : Int) == 10) = true := by simp; omega
      have hP : fitB p (z.k : Int) (z.zs.getD 0 0) (z.zs.getD 1 0) (z.zs.getD 2 0) (z.zs.getD 3 0) (z.zs.getD 4 0) = q := HQf.out
      subst hP
      have HKk := Lib.hid (show z.k = 6 ∨ z.k = 7 ∨ z.k = 8 ∨ z.k = 9 ∨ z.k = 10 by omega)
      clear k10 hk16
      go_upto_region 30 with fail
      clear r0
      have HKs := Lib.hid (rinst_any p a1 z.k z.A z.n z.c z.zs w.heap.size W2_1 HR5.out.in_.own (Nat.le_of_lt HR5.out.in_.lt) HRd5.out HMn.out HNb.out HKp.out HKk.out)
      have r1 := HR5.out.rc.cell 1
      have r0 := HR5.out.rc.cell 0
      simp only [List.getElem?_toArray, List.getElem?_cons_zero, List.getElem?_cons_succ] at r1 r0
      go_wp2_with (refine wpList_loadB (by rfl) _ rfl w.heap.size p a1 (by rfl) HR5.out.in_.box ?_)
      refine HKs.out.mono ?_
      rintro e V3 ⟨a2, rfl, ho2, hs2⟩
      obtain ⟨cs2, hc2, hz2⟩ := hs2.brn _ _ HR5.out.res
      have hz3 : cs2.size = 27 := by rw [hz2]; rfl
      have HZa := Lib.hid hc2
      have HT := fun W3 hW => HR5.out.told (W3 := W3) hs2 hc2 hz3 ho2 hW
      clear HKs hz2 ho2 hs2 hc2 r1 r0
      have HTT := Lib.hid HT
      clear HT
      go_wp2_with (refine wpList_storeB rfl _ _ rfl (w.heap.size + 1 + 1) (fitB p (z.k : Int) (z.zs.getD 0 0) (z.zs.getD 1 0) (z.zs.getD 2 0) (z.zs.getD 3 0) (z.zs.getD 4 0)) a2 cs2 hz3 (by rfl) (by rfl) HZa.out ?_; intro W11 hW11)
      obtain ⟨t1, t2, t3⟩ := HTT.out W11 hW11
      subst hW11
      exact brain_end (k := 4) rfl (by rfl) t1 rfl ⟨_, rfl, t2, t3.below⟩
    have e10 : ((z.k : Int) == 10) = false := by simp; omega
    have hkk : z.k = 5 ∨ z.k = 11 ∨ z.k = 12 ∨ z.k = 13 ∨ z.k = 14 ∨ z.k = 15 ∨ z.k = 16 := by have := K2.out; omega
    have hP : rfrB p (z.k : Int) (z.zs.getD 0 0) (z.zs.getD 1 0) = q := by rw [← HQf.out]; exact (fit_ref (by omega) (by omega) (by omega) (by omega) (by omega) (by omega) (by omega) (by omega)).symm
    subst hP
    have HKk := Lib.hid hkk
    clear hkk hk16 k1 k3 k4 k6 k7 k8 k9 k10
    go_upto_region 15 with fail
    clear r0
    have HKs := Lib.hid (rrefresh_any p a1 z.k z.A z.n z.c z.zs w.heap.size W2_1 HR5.out.in_.own (Nat.le_of_lt HR5.out.in_.lt) (HRd5.out.more (Nat.le_of_lt HR5.out.in_.lt)) HMn.out HKk.out)
    have r1 := HR5.out.rc.cell 1
    have r0 := HR5.out.rc.cell 0
    simp only [List.getElem?_toArray, List.getElem?_cons_zero, List.getElem?_cons_succ] at r1 r0
    go_wp2_with (refine wpList_loadB (by rfl) _ rfl w.heap.size p a1 (by rfl) HR5.out.in_.box ?_)
    refine HKs.out.mono ?_
    rintro e V3 ⟨a2, rfl, ho2, hs2⟩
    obtain ⟨cs2, hc2, hz2⟩ := hs2.brn _ _ HR5.out.res
    have hz3 : cs2.size = 27 := by rw [hz2]; rfl
    have HZa := Lib.hid hc2
    have HT := fun W3 hW => HR5.out.told (W3 := W3) hs2 hc2 hz3 ho2 hW
    clear HKs hz2 ho2 hs2 hc2 r1 r0
    have HTT := Lib.hid HT
    clear HT
    go_wp2_with (refine wpList_storeB rfl _ _ rfl (w.heap.size + 1 + 1) (rfrB p (z.k : Int) (z.zs.getD 0 0) (z.zs.getD 1 0)) a2 cs2 hz3 (by rfl) (by rfl) HZa.out ?_; intro W11 hW11)
    obtain ⟨t1, t2, t3⟩ := HTT.out W11 hW11
    subst hW11
    exact brain_end (k := 4) rfl (by rfl) t1 rfl ⟨_, rfl, t2, t3.below⟩

end Go.Proofs.YtplejbgecihnpaaDoor

namespace Go.Proofs.YtplejbgecihnpaaDoor
open Go.RowKit Go.Shelf

section
variable {P : Program} {ops : Array Oper} {Q : Exit → Act → World → Prop}
end

end Go.Proofs.YtplejbgecihnpaaDoor
