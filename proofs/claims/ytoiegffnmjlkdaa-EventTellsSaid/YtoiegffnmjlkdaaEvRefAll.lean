/-
  The walk of the document's own All (layer 10). Conditions: those that the theorem names.
-/
import Derived.Test.YtoiegffnmjlkdaaEvRefDo
import Derived.Test.YtoiegffnmjlkdaaCdRegKit
import Derived.Test.YtoiegffnmjlkdaaEvPlain
import Derived.Deep.DeepCutAuto
namespace Go.Proofs.Ytoiegffnmjlkdaa
open Go.RowKit Go.Shelf

theorem evC_len (x : Cw) (e : Ev) : (evC x e).l.length ≤ x.l.length + 1 := by
  cases h : right x with
  | true => exact (evd_len (evd h e)).2
  | false => rw [evC_out h]; omega
theorem evsC_len (x : Cw) (l : List Ev) : (evsC x l).l.length ≤ x.l.length + l.length := by
  unfold evsC
  induction l generalizing x with
  | nil => simp
  | cons e l ih =>
    rw [List.foldl_cons, List.length_cons]
    have h1 := ih (evC x e)
    have h2 := evC_len x e
    omega

set_option maxRecDepth 100000 in
set_option maxHeartbeats 4000000 in
theorem refAll_any {n c nl cl : Nat} {A Al : Option Addr} {x : Cw} {l : List Ev} {w : World} (hr : RdX w w.heap.size A n x.l) (hn : n ≤ 100) (hl : RdE w w.heap.size Al nl l) (hnl : nl ≤ 100) :
    Calls Try.prog 13 #[.agg #[.slice A n c, .int .i64 x.fl, .int .i64 x.dr, .int .i64 x.nw, .bool x.tg], .slice Al nl cl] w (CwPost (evsC x l) w) := by
  obtain ⟨V, hV, hX, hres, hsV, hbV, hrV⟩ := all_start (c := c) hr
  have HX := Lib.hid hX
  have HRes := Lib.hid hres
  have HBV := Lib.hid hbV
  have HRV := Lib.hid (hrV.more hbV.size)
  have HL := Lib.hid (hl.below hbV)
  have HL0 := Lib.hid hl
  have HVe := Lib.hid hV
  have HNn := Lib.hid (And.intro hn hnl)
  have HXl := Lib.hid hrV.len
  clear hX hres hsV hbV hrV hr hV hl
  go_enter Try.func13, Try.ntmps13
  go_upto_region 1 with fail
  rw [HVe.out]
  clear HVe
  have d0 := HX.out.cell 0
  have d1 := HX.out.cell 1
  have d2 := HX.out.cell 2
  have d3 := HX.out.cell 3
  have d4 := HX.out.cell 4
  simp only [List.getElem?_toArray, List.getElem?_cons_zero, List.getElem?_cons_succ] at d0 d1 d2 d3 d4
  have f0 := HX.out.frozen 0
  have f1 := HX.out.frozen 1
  have f2 := HX.out.frozen 2
  have f3 := HX.out.frozen 3
  have f4 := HX.out.frozen 4
  go_wp2_with fail
  refine (refOwn_any A n c x V.heap.size V HRV.out (Nat.le_refl _) (by omega)).mono ?_
  rintro e2 V2 ⟨A2, c2, rfl, o2, bb2⟩
  unfold cwV
  clear d0 d1 d2 d3 d4 f0 f1 f2 f3 f4
  have hX2 := HX.out.under bb2
  have kp := kept5 hX2 (.slice A2 n c2) (.int .i64 x.fl) (.int .i64 x.dr) (.int .i64 x.nw) (.bool x.tg)
  have hR2 := kp.2.far _ _ _ (by omega) (HRes.out.under bb2)
  have hB2 := kp.2.bel _ _ (Nat.le_refl _) (HBV.out.trans (bb2.mono HBV.out.size))
  have ho2 := own_other (own_other (own_other (own_other (own_other o2 hX2 0 (.slice A2 n c2)) (hX2.set 0 _) 1 (.int .i64 x.fl)) ((hX2.set 0 _).set 1 _) 2 (.int .i64 x.dr)) (((hX2.set 0 _).set 1 _).set 2 _) 3 (.int .i64 x.nw)) ((((hX2.set 0 _).set 1 _).set 2 _).set 3 _) 4 (.bool x.tg)
  have HO2 := Lib.hid (own_weaker (base := w.heap.size) ho2 HBV.out.size)
  have HC2 := Lib.hid kp.1
  have HR2 := Lib.hid hR2
  have HB2 := Lib.hid hB2
  clear kp hR2 hB2 ho2
  have d0 := hX2.cell 0
  have d1 := hX2.cell 1
  have d2 := hX2.cell 2
  have d3 := hX2.cell 3
  have d4 := hX2.cell 4
  simp only [List.getElem?_toArray, List.getElem?_cons_zero, List.getElem?_cons_succ] at d0 d1 d2 d3 d4
  have f0 := hX2.frozen 0
  have f1 := hX2.frozen 1
  have f2 := hX2.frozen 2
  have f3 := hX2.frozen 3
  have f4 := hX2.frozen 4
  clear hX2 o2 bb2 HX HRes HRV HBV HL
  go_wp2_with fail
  clear d0 d1 d2 d3 d4 f0 f1 f2 f3 f4
  go_loopw [5] (fun i wr => ∃ (k N : Nat) (A' : Option Addr) (c' : Nat) (y : Cw), i = .int .i64 (k : Int) ∧ k ≤ nl ∧ evsC x (l.take k) = y ∧ N ≤ 1000 ∧ Whole wr w.heap.size 24 #[.slice A' N c', .int .i64 y.fl, .int .i64 y.dr, .int .i64 y.nw, .bool y.tg] ∧ Whole wr (w.heap.size + 1) 24 #[.slice none 0 0, .int .i64 0, .int .i64 0, .int .i64 0, .bool false] ∧ wr.ownsRow w.heap.size 36 11 (.slice A' N c') N (flat y.l) ∧ Below w.heap.size w wr) (fun i _ => nl - (intOf i).toNat)
  case atStart => exact ⟨0, n, A2, c2, x, rfl, Nat.zero_le _, rfl, by omega, HC2.out, HR2.out, HO2.out, HB2.out⟩
  case round =>
    clear HC2 HR2 HO2 HB2
    obtain ⟨k, N, A', c', y, rfl, hk, hy, hN, hC, hR, hO, hB⟩ := hrel
    have HC := Lib.hid hC
    have HR := Lib.hid hR
    have HO := Lib.hid hO
    have HB := Lib.hid hB
    have HY := Lib.hid hy
    rcases Nat.lt_or_eq_of_le hk with hlt | hkn
    · have hki : (k : Int) < (nl : Int) := by omega
      have hk1 : (k : Int) ≤ 100 := by omega
      obtain ⟨e, he⟩ : ∃ e, l[k]? = some e := ⟨_, List.getElem?_eq_getElem (by rw [HL0.out.len]; exact hlt)⟩
      obtain ⟨bb, off, e3, hbl, hc⟩ := (HL0.out.below hB).2 (by omega)
      obtain ⟨v0, v1, v2⟩ := hc k e he
      subst e3
      obtain ⟨z, hz⟩ : ∃ z, evC y e = z := ⟨_, rfl⟩
      have HZ : Hid (evsC x (l.take (k + 1)) = z) := Lib.hid (by rw [evsC_take he, hy, hz])
      have HDo := Lib.hid (refDo_any (x := y) (e := e) (w := wr.drew) (A := A') (n := N) (c := c') ((RdX.of_own (own_under hO (Below.refl _ _).drew)) : RdX wr.drew wr.drew.heap.size A' N y.l) hN)
      rw [hz] at HDo
      have HLt := Lib.hid hlt
      have d0 := hC.cell 0
      have d1 := hC.cell 1
      have d2 := hC.cell 2
      have d3 := hC.cell 3
      have d4 := hC.cell 4
      simp only [List.getElem?_toArray, List.getElem?_cons_zero, List.getElem?_cons_succ] at d0 d1 d2 d3 d4
      clear hC hR hO hB hy hz he hc hlt hk hbl
      go_upto_region 5 with fail
      have d0' : wr.drew.cell? ⟨w.heap.size, 0, none⟩ = some (.slice A' N c') := d0
      have d1' : wr.drew.cell? ⟨w.heap.size, 1, none⟩ = some (.int .i64 y.fl) := d1
      have d2' : wr.drew.cell? ⟨w.heap.size, 2, none⟩ = some (.int .i64 y.dr) := d2
      have d3' : wr.drew.cell? ⟨w.heap.size, 3, none⟩ = some (.int .i64 y.nw) := d3
      have d4' : wr.drew.cell? ⟨w.heap.size, 4, none⟩ = some (.bool y.tg) := d4
      have v0' : wr.drew.cell? ⟨bb, off + k * 3, none⟩ = some (.int .u8 e.kind) := v0
      have v1' : wr.drew.cell? ⟨bb, off + k * 3 + 1, none⟩ = some (.int .i64 e.a) := v1
      have v2' : wr.drew.cell? ⟨bb, off + k * 3 + 2, none⟩ = some (.int .i64 e.b) := v2
      refine wp_region_held_drew (S := fun V => True) (by kernel_rfl) trivial (fun _ => ?_)
      refine takeH (i := 1) (v := ?_) rfl (by kernel_rfl) (by kernel_rfl) (by kernel_rfl) (fun _ _ _ h => h) (by rfl) ?_ trivial ?_
      rotate_left
      · intro V _; go_simp <;> with_reducible rfl
      simp only [Act.put, List.setIfInBounds_toArray, List.set_cons_zero, List.set_cons_succ]
      refine takeH (i := 2) (v := ?_) rfl (by kernel_rfl) (by kernel_rfl) (by kernel_rfl) (fun _ _ _ h => h) (by rfl) ?_ trivial ?_
      rotate_left
      · intro V _; go_simp <;> with_reducible rfl
      simp only [Act.put, List.setIfInBounds_toArray, List.set_cons_zero, List.set_cons_succ]
      refine takeH (i := 3) (v := ?_) rfl (by kernel_rfl) (by kernel_rfl) (by kernel_rfl) (fun _ _ _ h => h) (by rfl) ?_ trivial ?_
      rotate_left
      · intro V _; go_simp <;> with_reducible rfl
      simp only [Act.put, List.setIfInBounds_toArray, List.set_cons_zero, List.set_cons_succ]
      refine twoH (i := 0) (j := 4) rfl rfl (by kernel_rfl) (by rfl) (by rfl) (fun K hK => ?_) (fun K hK => ?_)
      ·
        go_simp
        refine hK.out _ _ trivial (fun _ => ?_)
        clear hK K
        refine oneH (i := 4) rfl (by kernel_rfl) (by rfl) (fun K hK => ?_)
        go_simp
        refine hK.out _ _ trivial (fun _ => ?_)
        clear hK K
        refine oneH (i := 5) rfl (by kernel_rfl) (by rfl) (fun K hK => ?_)
        go_simp
        refine HDo.out.mono ?_
        rintro e7 w3 ⟨A3, n3, c3, rfl, o3, b3⟩
        have b4 := (Below.refl wr.heap.size wr).drew.trans b3
        have hC3 := HC.out.under b4
        have kp := kept5 hC3 (.slice A3 n3 c3) (.int .i64 z.fl) (.int .i64 z.dr) (.int .i64 z.nw) (.bool z.tg)
        have hz60 : n3 ≤ 1000 := by have h1 := (RdX.of_own o3).len; have h2 := evsC_len x (l.take (k + 1)); rw [HZ.out] at h2; have h3 := List.length_take_le (k + 1) l; have := HXl.out; have := HNn.out; omega
        have HR3 := Lib.hid (kp.2.far _ _ _ (by omega) (HR.out.under b4))
        have HB3 := Lib.hid (kp.2.bel _ _ (Nat.le_refl _) (HB.out.trans (b4.mono HB.out.size)))
        have HO3 := Lib.hid (own_weaker (base := w.heap.size) (own_other (own_other (own_other (own_other (own_other o3 hC3 0 (.slice A3 n3 c3)) (hC3.set 0 _) 1 (.int .i64 z.fl)) ((hC3.set 0 _).set 1 _) 2 (.int .i64 z.dr)) (((hC3.set 0 _).set 1 _).set 2 _) 3 (.int .i64 z.nw)) ((((hC3.set 0 _).set 1 _).set 2 _).set 3 _) 4 (.bool z.tg)) HB.out.size)
        have HC3 := Lib.hid kp.1
        have k0 := hC3.cell 0
        have k1 := hC3.cell 1
        have k2 := hC3.cell 2
        have k3 := hC3.cell 3
        have k4 := hC3.cell 4
        simp only [List.getElem?_toArray, List.getElem?_cons_zero, List.getElem?_cons_succ] at k0 k1 k2 k3 k4
        have f0 := hC3.frozen 0
        have f1 := hC3.frozen 1
        have f2 := hC3.frozen 2
        have f3 := hC3.frozen 3
        have f4 := hC3.frozen 4
        clear kp hC3 o3 b3 b4 HDo HC HR HO HB
        refine hK.out _ _ trivial (fun _ => ?_)
        clear hK K
        refine oneH (i := 6) rfl (by kernel_rfl) (by rfl) (fun K hK => ?_)
        go_simp
        refine hK.out _ _ trivial (fun _ => ?_)
        clear hK K
        refine wpAnyH_done (by kernel_rfl) ?_ _
        clear k0 k1 k2 k3 k4 f0 f1 f2 f3 f4 d0 d1 d2 d3 d4 d0' d1' d2' d3' d4' v0 v1 v2 v0' v1' v2'
        go_wp2_with fail
        go_roundw
        case rel => exact ⟨k + 1, n3, A3, c3, z, by go_num, HLt.out, HZ.out, hz60, HC3.out, HR3.out, HO3.out, HB3.out⟩
        case measure => have := HLt.out; simp [intOf]; omega
      ·
        go_simp
        refine hK.out _ _ trivial (fun _ => ?_)
        clear hK K
        refine oneH (i := 0) rfl (by kernel_rfl) (by rfl) (fun K hK => ?_)
        go_simp
        refine hK.out _ _ trivial (fun _ => ?_)
        clear hK K
        refine oneH (i := 5) rfl (by kernel_rfl) (by rfl) (fun K hK => ?_)
        go_simp
        refine HDo.out.mono ?_
        rintro e7 w3 ⟨A3, n3, c3, rfl, o3, b3⟩
        have b4 := (Below.refl wr.heap.size wr).drew.trans b3
        have hC3 := HC.out.under b4
        have kp := kept5 hC3 (.slice A3 n3 c3) (.int .i64 z.fl) (.int .i64 z.dr) (.int .i64 z.nw) (.bool z.tg)
        have hz60 : n3 ≤ 1000 := by have h1 := (RdX.of_own o3).len; have h2 := evsC_len x (l.take (k + 1)); rw [HZ.out] at h2; have h3 := List.length_take_le (k + 1) l; have := HXl.out; have := HNn.out; omega
        have HR3 := Lib.hid (kp.2.far _ _ _ (by omega) (HR.out.under b4))
        have HB3 := Lib.hid (kp.2.bel _ _ (Nat.le_refl _) (HB.out.trans (b4.mono HB.out.size)))
        have HO3 := Lib.hid (own_weaker (base := w.heap.size) (own_other (own_other (own_other (own_other (own_other o3 hC3 0 (.slice A3 n3 c3)) (hC3.set 0 _) 1 (.int .i64 z.fl)) ((hC3.set 0 _).set 1 _) 2 (.int .i64 z.dr)) (((hC3.set 0 _).set 1 _).set 2 _) 3 (.int .i64 z.nw)) ((((hC3.set 0 _).set 1 _).set 2 _).set 3 _) 4 (.bool z.tg)) HB.out.size)
        have HC3 := Lib.hid kp.1
        have k0 := hC3.cell 0
        have k1 := hC3.cell 1
        have k2 := hC3.cell 2
        have k3 := hC3.cell 3
        have k4 := hC3.cell 4
        simp only [List.getElem?_toArray, List.getElem?_cons_zero, List.getElem?_cons_succ] at k0 k1 k2 k3 k4
        have f0 := hC3.frozen 0
        have f1 := hC3.frozen 1
        have f2 := hC3.frozen 2
        have f3 := hC3.frozen 3
        have f4 := hC3.frozen 4
        clear kp hC3 o3 b3 b4 HDo HC HR HO HB
        refine hK.out _ _ trivial (fun _ => ?_)
        clear hK K
        refine oneH (i := 6) rfl (by kernel_rfl) (by rfl) (fun K hK => ?_)
        go_simp
        refine hK.out _ _ trivial (fun _ => ?_)
        clear hK K
        refine wpAnyH_done (by kernel_rfl) ?_ _
        clear k0 k1 k2 k3 k4 f0 f1 f2 f3 f4 d0 d1 d2 d3 d4 d0' d1' d2' d3' d4' v0 v1 v2 v0' v1' v2'
        go_wp2_with fail
        go_roundw
        case rel => exact ⟨k + 1, n3, A3, c3, z, by go_num, HLt.out, HZ.out, hz60, HC3.out, HR3.out, HO3.out, HB3.out⟩
        case measure => have := HLt.out; simp [intOf]; omega
    · subst hkn
      have e9 : y = evsC x l := by rw [← hy, List.take_of_length_le (by rw [HL0.out.len]; exact Nat.le_refl _)]
      subst e9
      clear hC hR hO hB hy hk
      have d0 := HC.out.cell 0
      have d1 := HC.out.cell 1
      have d2 := HC.out.cell 2
      have d3 := HC.out.cell 3
      have d4 := HC.out.cell 4
      simp only [List.getElem?_toArray, List.getElem?_cons_zero, List.getElem?_cons_succ] at d0 d1 d2 d3 d4
      have k0 := HR.out.cell 0
      have k1 := HR.out.cell 1
      have k2 := HR.out.cell 2
      have k3 := HR.out.cell 3
      have k4 := HR.out.cell 4
      simp only [List.getElem?_toArray, List.getElem?_cons_zero, List.getElem?_cons_succ] at k0 k1 k2 k3 k4
      have z0 := HR.out.frozen 0
      have z1 := HR.out.frozen 1
      have z2 := HR.out.frozen 2
      have z3 := HR.out.frozen 3
      have z4 := HR.out.frozen 4
      go_wp2_with fail
      obtain ⟨Z, hZ, q1, q2, q3⟩ := fin5 (A := A') (n := N) (c := c') (x := evsC x l) (base := w.heap.size) HR.out HO.out HB.out (by omega)
      rw [hZ]
      have j0 := q1.cell 0
      have j1 := q1.cell 1
      have j2 := q1.cell 2
      have j3 := q1.cell 3
      have j4 := q1.cell 4
      simp only [List.getElem?_toArray, List.getElem?_cons_zero, List.getElem?_cons_succ] at j0 j1 j2 j3 j4
      refine bodyPost_ret (v := .agg #[.slice A' N c', .int .i64 (evsC x l).fl, .int .i64 (evsC x l).dr, .int .i64 (evsC x l).nw, .bool (evsC x l).tg]) (by simp [results, Try.results13, go_sem, j0, j1, j2, j3, j4]) rfl ?_
      exact ⟨_, _, _, rfl, q2, q3⟩

end Go.Proofs.Ytoiegffnmjlkdaa
