/-
  The walk of the document's own 'Same' of ways. Conditions: those that each theorem names.
-/
import Derived.Test.YtcbbjloojngoiaaNtSame
import Derived.Test.YtcbbjloojngoiaaRegT
namespace Go.Proofs.Ytcbbjloojngoiaa
open Go.RowKit Go.Shelf

set_option maxRecDepth 100000 in
set_option maxHeartbeats 4000000 in
theorem refSame_any (A : Option Addr) (n c : Nat) (A' : Option Addr) (n' c' : Nat) (s : Nt) (B : Option Addr) (m d : Nat) (B' : Option Addr) (m' d' : Nat) (s' : Nt) (w : World) (hr : NtR w A n A' n' s) (hr' : NtR w B m B' m' s') :
    Calls Try.prog 14 #[.agg #[.slice A n c, .slice A' n' c'], .agg #[.slice B m d, .slice B' m' d']] w (BoolPost (decide (s = s')) w) := by
  rw [nt_eq]
  obtain ⟨r, hres⟩ : ∃ r, (decide (s.ks = s'.ks) && decide (s.ts = s'.ts)) = r := ⟨_, rfl⟩
  rw [hres]
  obtain ⟨hb, h1, h2⟩ := two_new w 25 25 #[.slice A n c, .slice A' n' c'] #[.slice B m d, .slice B' m' d']
  obtain ⟨V, hV⟩ : ∃ V, (w.alloc (.cells #[.slice A n c, .slice A' n' c'] 25)).alloc (.cells #[.slice B m d, .slice B' m' d'] 25) = V := ⟨_, rfl⟩
  rw [hV] at hb h1 h2
  have hn := hr.lk
  have hn' := hr.lt
  have hm := hr'.lk
  have hm' := hr'.lt
  have hn1 : n ≤ 100 := by have := hr.few.ks; omega
  have hn2 : n' ≤ 100 := by have := hr.few.ts; omega
  have HK := Lib.hid (hr.ks.below hb)
  have HK' := Lib.hid (hr'.ks.below hb)
  obtain ⟨es, e1, e2⟩ := hr.tsr
  obtain ⟨es', e1', e2'⟩ := hr'.tsr
  have HRes := Lib.hid hres
  have HV := Lib.hid hV
  have HB := Lib.hid hb
  have H1 := Lib.hid h1
  have H2 := Lib.hid h2
  have E1 := Lib.hid e1
  have E2 := Lib.hid e2
  have E1' := Lib.hid e1'
  have E2' := Lib.hid e2'
  have L1 := Lib.hid hn
  have L2 := Lib.hid hn'
  have M1 := Lib.hid hm
  have M2 := Lib.hid hm'
  obtain ⟨c0, c1⟩ := cells2 h1
  obtain ⟨d0, d1⟩ := cells2 h2
  clear hres hV hb h1 h2 hr hr' e1 e2 e1' e2' hn hn' hm hm'
  by_cases hnm : n = m
  rotate_left
  · have e1 : ((n : Int) != (m : Int)) = true := by simp; omega
    have hr0 : r = false := by
      rw [← HRes.out, Bool.and_eq_false_iff]
      left
      rw [decide_eq_false_iff_not]
      intro e; have := congrArg List.length e; rw [L1.out, M1.out] at this; exact hnm this
    subst hr0
    clear hnm
    go_enter Try.func14, Try.ntmps14
    go_upto_region 1 with fail
    rw [HV.out]
    clear HV
    go_wp2_with fail
    go_ret
    exact ⟨rfl, HB.out⟩
  subst hnm
  have e1 : ((n : Int) != (n : Int)) = false := by simp
  by_cases hnm' : n' = m'
  rotate_left
  · have e2 : ((n' : Int) != (m' : Int)) = true := by simp; omega
    have hr0 : r = false := by
      rw [← HRes.out, Bool.and_eq_false_iff]
      right
      rw [decide_eq_false_iff_not]
      intro e; have := congrArg List.length e; rw [L2.out, M2.out] at this; exact hnm' this
    subst hr0
    clear hnm'
    go_enter Try.func14, Try.ntmps14
    go_upto_region 1 with fail
    rw [HV.out]
    clear HV
    go_wp2_with fail
    go_ret
    exact ⟨rfl, HB.out⟩
  subst hnm'
  have e2 : ((n' : Int) != (n' : Int)) = false := by simp
  go_enter Try.func14, Try.ntmps14
  go_upto_region 1 with fail
  rw [HV.out]
  clear HV
  go_wp2_with fail
  go_loopw [5] (fun i wr => ∃ j : Nat, i = .int .i64 (j : Int) ∧ j ≤ n ∧ s.ks.take j = s'.ks.take j ∧ ∃ k, wr = V.drewN k) (fun i _ => n - (intOf i).toNat)
  case atStart => exact ⟨0, rfl, Nat.zero_le _, rfl, 0, rfl⟩
  case round =>
    obtain ⟨j, rfl, hj, hT, k, rfl⟩ := hrel
    have HT := Lib.hid hT
    clear hT
    by_cases hlt : j < n
    · obtain ⟨b, off, rfl, _, hc⟩ := HK.out.2 (by omega)
      obtain ⟨b', off', rfl, _, hc'⟩ := HK'.out.2 (by omega)
      obtain ⟨x, hx⟩ : ∃ x, s.ks[j]? = some x := ⟨_, List.getElem?_eq_getElem (by rw [L1.out]; exact hlt)⟩
      obtain ⟨y, hy⟩ : ∃ y, s'.ks[j]? = some y := ⟨_, List.getElem?_eq_getElem (by rw [M1.out]; exact hlt)⟩
      obtain ⟨x0, x1, x2, x3, x4, x5⟩ := hc j x hx
      obtain ⟨y0, y1, y2, y3, y4, y5⟩ := hc' j y hy
      have hI : (j : Int) < (n : Int) := by omega
      have HX := Lib.hid hx
      have HY := Lib.hid hy
      clear hc hc' hx hy
      by_cases hxy : x = y
      · subst hxy
        go_wp2_with fail
        go_quiet (fail)
        go_wp2_with fail
        go_roundw
        case rel => exact ⟨j + 1, by go_num, by omega, take_growF HT.out HX.out HY.out, _, rfl⟩
        case measure => simp [intOf]; omega
      · have hq := fun W => (run_neqAk W x y).trans (by rw [decide_eq_false hxy, Bool.not_false])
        have hr0 : r = false := by
          rw [← HRes.out, Bool.and_eq_false_iff]
          left
          rw [decide_eq_false_iff_not]
          intro e; have h3 := HX.out; rw [e, HY.out] at h3; exact hxy (Option.some.inj h3).symm
        subst hr0
        clear hxy
        go_wp2_with fail
        go_quiet (fail)
        go_wp2_with fail
        go_ret
        exact ⟨rfl, drewN_below (drewN_below HB.out _) _⟩
    · have HQ := Lib.hid (show s.ks = s'.ks by
        have h1 := HT.out
        rwa [List.take_of_length_le (by have := L1.out; omega), List.take_of_length_le (by have := M1.out; omega)] at h1)
      go_wp2_with fail
      go_loopw [6] (fun i wr => ∃ j : Nat, i = .int .i64 (j : Int) ∧ j ≤ n' ∧ (es.take j).map TE.t = (es'.take j).map TE.t ∧ Below V.heap.size V wr) (fun i _ => n' - (intOf i).toNat)
      case atStart => exact ⟨0, rfl, Nat.zero_le _, rfl, drewN_below (Below.refl _ _) _⟩
      case round =>
        obtain ⟨j2, rfl, hj2, hT2, hb⟩ := hrel
        have HT2 := Lib.hid hT2
        have HB2 := Lib.hid hb
        clear hT2
        by_cases hlt2 : j2 < n'
        · obtain ⟨b, off, rfl, hbl, hc⟩ := E2.out.rd.1.2 (by omega)
          obtain ⟨b', off', rfl, hbl', hc'⟩ := E2'.out.rd.1.2 (by omega)
          obtain ⟨x, hx⟩ : ∃ x, es[j2]? = some x := ⟨_, List.getElem?_eq_getElem (by rw [E2.out.rd.len]; exact hlt2)⟩
          obtain ⟨y, hy⟩ : ∃ y, es'[j2]? = some y := ⟨_, List.getElem?_eq_getElem (by rw [E2'.out.rd.len]; exact hlt2)⟩
          have HTB : Hid (∀ W, Below V.heap.size V W → (fun V' => (V'.cell? ⟨w.heap.size, 1, none⟩ = some (.slice (some ⟨b, off, none⟩) n' c') ∧ V'.cell? ⟨w.heap.size + 1, 1, none⟩ = some (.slice (some ⟨b', off', none⟩) n' d')) ∧ (V'.cell? ⟨b, off + j2 * 6, none⟩ = some (.int .i64 x.call) ∧ V'.cell? ⟨b, off + j2 * 6 + 1, none⟩ = some (.int .u8 x.kind) ∧ V'.cell? ⟨b, off + j2 * 6 + 2, none⟩ = some (.int .u8 x.code) ∧ V'.cell? ⟨b, off + j2 * 6 + 3, none⟩ = some (.int .i64 x.id) ∧ V'.cell? ⟨b, off + j2 * 6 + 4, none⟩ = some (.slice x.A x.n x.c) ∧ V'.cell? ⟨b, off + j2 * 6 + 5, none⟩ = some (.bool x.more)) ∧ V'.cell? ⟨b', off' + j2 * 6, none⟩ = some (.int .i64 y.call) ∧ V'.cell? ⟨b', off' + j2 * 6 + 1, none⟩ = some (.int .u8 y.kind) ∧ V'.cell? ⟨b', off' + j2 * 6 + 2, none⟩ = some (.int .u8 y.code) ∧ V'.cell? ⟨b', off' + j2 * 6 + 3, none⟩ = some (.int .i64 y.id) ∧ V'.cell? ⟨b', off' + j2 * 6 + 4, none⟩ = some (.slice y.A y.n y.c) ∧ V'.cell? ⟨b', off' + j2 * 6 + 5, none⟩ = some (.bool y.more)) W) := Lib.hid (fun W hW => by
            have hw := HB.out.trans (hW.mono HB.out.size)
            obtain ⟨p0, p1⟩ := cells2 (H1.out.under hW)
            obtain ⟨q0, q1⟩ := cells2 (H2.out.under hW)
            obtain ⟨g0, g1, g2, g3, g4, g5⟩ := tlAt_of (w := W) (b := b) (o := off + j2 * 6) (x := x) (fun i hi => (hw.cell (p := ⟨b, off + j2 * 6 + i, none⟩) hbl).trans (hc j2 x hx i hi))
            obtain ⟨t0, t1, t2, t3, t4, t5⟩ := tlAt_of (w := W) (b := b') (o := off' + j2 * 6) (x := y) (fun i hi => (hw.cell (p := ⟨b', off' + j2 * 6 + i, none⟩) hbl').trans (hc' j2 y hy i hi))
            exact ⟨⟨p1, q1⟩, ⟨g0, g1, g2, g3, g4, g5⟩, t0, t1, t2, t3, t4, t5⟩)
          have HT0 : Hid ((fun V' => (V'.cell? ⟨w.heap.size, 1, none⟩ = some (.slice (some ⟨b, off, none⟩) n' c') ∧ V'.cell? ⟨w.heap.size + 1, 1, none⟩ = some (.slice (some ⟨b', off', none⟩) n' d')) ∧ (V'.cell? ⟨b, off + j2 * 6, none⟩ = some (.int .i64 x.call) ∧ V'.cell? ⟨b, off + j2 * 6 + 1, none⟩ = some (.int .u8 x.kind) ∧ V'.cell? ⟨b, off + j2 * 6 + 2, none⟩ = some (.int .u8 x.code) ∧ V'.cell? ⟨b, off + j2 * 6 + 3, none⟩ = some (.int .i64 x.id) ∧ V'.cell? ⟨b, off + j2 * 6 + 4, none⟩ = some (.slice x.A x.n x.c) ∧ V'.cell? ⟨b, off + j2 * 6 + 5, none⟩ = some (.bool x.more)) ∧ V'.cell? ⟨b', off' + j2 * 6, none⟩ = some (.int .i64 y.call) ∧ V'.cell? ⟨b', off' + j2 * 6 + 1, none⟩ = some (.int .u8 y.kind) ∧ V'.cell? ⟨b', off' + j2 * 6 + 2, none⟩ = some (.int .u8 y.code) ∧ V'.cell? ⟨b', off' + j2 * 6 + 3, none⟩ = some (.int .i64 y.id) ∧ V'.cell? ⟨b', off' + j2 * 6 + 4, none⟩ = some (.slice y.A y.n y.c) ∧ V'.cell? ⟨b', off' + j2 * 6 + 5, none⟩ = some (.bool y.more)) wr.drew) := Lib.hid (HTB.out wr.drew hb.drew)
          have hI : (j2 : Int) < (n' : Int) := by omega
          have hbw : Below w.heap.size w wr.drew := HB.out.trans (hb.drew.mono HB.out.size)
          have HC := Lib.hid (told_any x y wr.drew ((E2.out.te hx).up hbw) ((E2'.out.te hy).up hbw))
          have HX := Lib.hid hx
          have HY := Lib.hid hy
          obtain ⟨y0, y1⟩ := cells2 (H1.out.under hb)
          obtain ⟨v0, v1⟩ := cells2 (H2.out.under hb)
          by_cases hxy : x.t = y.t
          · rw [decide_eq_true hxy] at HC
            have HG := Lib.hid (map_take_grow HT2.out HX.out HY.out hxy)
            clear hc hc' hx hy hb hbw hxy
            go_wp2_with fail
            clear y0 y1 v0 v1
            refine wp_region_T (ls := []) (T := (fun V' => (V'.cell? ⟨w.heap.size, 1, none⟩ = some (.slice (some ⟨b, off, none⟩) n' c') ∧ V'.cell? ⟨w.heap.size + 1, 1, none⟩ = some (.slice (some ⟨b', off', none⟩) n' d')) ∧ (V'.cell? ⟨b, off + j2 * 6, none⟩ = some (.int .i64 x.call) ∧ V'.cell? ⟨b, off + j2 * 6 + 1, none⟩ = some (.int .u8 x.kind) ∧ V'.cell? ⟨b, off + j2 * 6 + 2, none⟩ = some (.int .u8 x.code) ∧ V'.cell? ⟨b, off + j2 * 6 + 3, none⟩ = some (.int .i64 x.id) ∧ V'.cell? ⟨b, off + j2 * 6 + 4, none⟩ = some (.slice x.A x.n x.c) ∧ V'.cell? ⟨b, off + j2 * 6 + 5, none⟩ = some (.bool x.more)) ∧ V'.cell? ⟨b', off' + j2 * 6, none⟩ = some (.int .i64 y.call) ∧ V'.cell? ⟨b', off' + j2 * 6 + 1, none⟩ = some (.int .u8 y.kind) ∧ V'.cell? ⟨b', off' + j2 * 6 + 2, none⟩ = some (.int .u8 y.code) ∧ V'.cell? ⟨b', off' + j2 * 6 + 3, none⟩ = some (.int .i64 y.id) ∧ V'.cell? ⟨b', off' + j2 * 6 + 4, none⟩ = some (.slice y.A y.n y.c) ∧ V'.cell? ⟨b', off' + j2 * 6 + 5, none⟩ = some (.bool y.more))) (by kernel_rfl) ?_
            refine takeT (i := 0) (v := ?_) rfl (by kernel_rfl) (by kernel_rfl) (by kernel_rfl) (by kernel_rfl) (fun _ _ _ h => h) (by rfl) ?_ HT0.out ?_
            rotate_left
            · intro V' hV; obtain ⟨⟨y0, y1⟩, ⟨z0, z1, z2, z3, z4, z5⟩, v0, v1, v2, v3, v4, v5⟩ := hV; go_simp <;> with_reducible rfl
            simp only [Act.put, List.setIfInBounds_toArray, List.set_cons_zero, List.set_cons_succ]
            refine takeT (i := 1) (v := ?_) rfl (by kernel_rfl) (by kernel_rfl) (by kernel_rfl) (by kernel_rfl) (fun _ _ _ h => h) (by rfl) ?_ HT0.out ?_
            rotate_left
            · intro V' hV; obtain ⟨⟨y0, y1⟩, ⟨z0, z1, z2, z3, z4, z5⟩, v0, v1, v2, v3, v4, v5⟩ := hV; go_simp <;> with_reducible rfl
            simp only [Act.put, List.setIfInBounds_toArray, List.set_cons_zero, List.set_cons_succ]
            refine takeT (i := 2) (v := ?_) rfl (by kernel_rfl) (by kernel_rfl) (by kernel_rfl) (by kernel_rfl) (fun _ _ _ h => h) (by rfl) ?_ HT0.out ?_
            rotate_left
            · intro V' hV; obtain ⟨⟨y0, y1⟩, ⟨z0, z1, z2, z3, z4, z5⟩, v0, v1, v2, v3, v4, v5⟩ := hV; go_simp <;> with_reducible rfl
            simp only [Act.put, List.setIfInBounds_toArray, List.set_cons_zero, List.set_cons_succ]
            refine takeT (i := 3) (v := ?_) rfl (by kernel_rfl) (by kernel_rfl) (by kernel_rfl) (by kernel_rfl) (fun _ _ _ h => h) (by rfl) ?_ HT0.out ?_
            rotate_left
            · intro V' hV; obtain ⟨⟨y0, y1⟩, ⟨z0, z1, z2, z3, z4, z5⟩, v0, v1, v2, v3, v4, v5⟩ := hV; go_simp <;> with_reducible rfl
            simp only [Act.put, List.setIfInBounds_toArray, List.set_cons_zero, List.set_cons_succ]
            refine takeT (i := 4) (v := ?_) rfl (by kernel_rfl) (by kernel_rfl) (by kernel_rfl) (by kernel_rfl) (fun _ _ _ h => h) (by rfl) ?_ HT0.out ?_
            rotate_left
            · intro V' hV; obtain ⟨⟨y0, y1⟩, ⟨z0, z1, z2, z3, z4, z5⟩, v0, v1, v2, v3, v4, v5⟩ := hV; go_simp <;> with_reducible rfl
            simp only [Act.put, List.setIfInBounds_toArray, List.set_cons_zero, List.set_cons_succ]
            refine takeT (i := 5) (v := ?_) rfl (by kernel_rfl) (by kernel_rfl) (by kernel_rfl) (by kernel_rfl) (fun _ _ _ h => h) (by rfl) ?_ HT0.out ?_
            rotate_left
            · intro V' hV; obtain ⟨⟨y0, y1⟩, ⟨z0, z1, z2, z3, z4, z5⟩, v0, v1, v2, v3, v4, v5⟩ := hV; go_simp <;> with_reducible rfl
            simp only [Act.put, List.setIfInBounds_toArray, List.set_cons_zero, List.set_cons_succ]
            refine takeT (i := 6) (v := ?_) rfl (by kernel_rfl) (by kernel_rfl) (by kernel_rfl) (by kernel_rfl) (fun _ _ _ h => h) (by rfl) ?_ HT0.out ?_
            rotate_left
            · intro V' hV; obtain ⟨⟨y0, y1⟩, ⟨z0, z1, z2, z3, z4, z5⟩, v0, v1, v2, v3, v4, v5⟩ := hV; go_simp <;> with_reducible rfl
            simp only [Act.put, List.setIfInBounds_toArray, List.set_cons_zero, List.set_cons_succ]
            refine takeT (i := 7) (v := ?_) rfl (by kernel_rfl) (by kernel_rfl) (by kernel_rfl) (by kernel_rfl) (fun _ _ _ h => h) (by rfl) ?_ HT0.out ?_
            rotate_left
            · intro V' hV; obtain ⟨⟨y0, y1⟩, ⟨z0, z1, z2, z3, z4, z5⟩, v0, v1, v2, v3, v4, v5⟩ := hV; go_simp <;> with_reducible rfl
            simp only [Act.put, List.setIfInBounds_toArray, List.set_cons_zero, List.set_cons_succ]
            refine takeT (i := 8) (v := ?_) rfl (by kernel_rfl) (by kernel_rfl) (by kernel_rfl) (by kernel_rfl) (fun _ _ _ h => h) (by rfl) ?_ HT0.out ?_
            rotate_left
            · intro V' hV; obtain ⟨⟨y0, y1⟩, ⟨z0, z1, z2, z3, z4, z5⟩, v0, v1, v2, v3, v4, v5⟩ := hV; go_simp <;> with_reducible rfl
            simp only [Act.put, List.setIfInBounds_toArray, List.set_cons_zero, List.set_cons_succ]
            refine takeT (i := 9) (v := ?_) rfl (by kernel_rfl) (by kernel_rfl) (by kernel_rfl) (by kernel_rfl) (fun _ _ _ h => h) (by rfl) ?_ HT0.out ?_
            rotate_left
            · intro V' hV; obtain ⟨⟨y0, y1⟩, ⟨z0, z1, z2, z3, z4, z5⟩, v0, v1, v2, v3, v4, v5⟩ := hV; go_simp <;> with_reducible rfl
            simp only [Act.put, List.setIfInBounds_toArray, List.set_cons_zero, List.set_cons_succ]
            refine oneT (i := 10) rfl (by kernel_rfl) (by rfl) (fun K hK => ?_)
            go_simp
            go_at_call 21
            refine HC.out.mono ?_
            rintro e w2 ⟨rfl, q2⟩
            have HQ2 := Lib.hid (HB2.out.drew.trans (q2.mono HB2.out.size))
            have HT3 : Hid ((fun V' => (V'.cell? ⟨w.heap.size, 1, none⟩ = some (.slice (some ⟨b, off, none⟩) n' c') ∧ V'.cell? ⟨w.heap.size + 1, 1, none⟩ = some (.slice (some ⟨b', off', none⟩) n' d')) ∧ (V'.cell? ⟨b, off + j2 * 6, none⟩ = some (.int .i64 x.call) ∧ V'.cell? ⟨b, off + j2 * 6 + 1, none⟩ = some (.int .u8 x.kind) ∧ V'.cell? ⟨b, off + j2 * 6 + 2, none⟩ = some (.int .u8 x.code) ∧ V'.cell? ⟨b, off + j2 * 6 + 3, none⟩ = some (.int .i64 x.id) ∧ V'.cell? ⟨b, off + j2 * 6 + 4, none⟩ = some (.slice x.A x.n x.c) ∧ V'.cell? ⟨b, off + j2 * 6 + 5, none⟩ = some (.bool x.more)) ∧ V'.cell? ⟨b', off' + j2 * 6, none⟩ = some (.int .i64 y.call) ∧ V'.cell? ⟨b', off' + j2 * 6 + 1, none⟩ = some (.int .u8 y.kind) ∧ V'.cell? ⟨b', off' + j2 * 6 + 2, none⟩ = some (.int .u8 y.code) ∧ V'.cell? ⟨b', off' + j2 * 6 + 3, none⟩ = some (.int .i64 y.id) ∧ V'.cell? ⟨b', off' + j2 * 6 + 4, none⟩ = some (.slice y.A y.n y.c) ∧ V'.cell? ⟨b', off' + j2 * 6 + 5, none⟩ = some (.bool y.more)) w2) := Lib.hid (HTB.out w2 HQ2.out)
            clear q2
            refine hK.out _ _ (fun _ => HT3.out) ?_
            clear hK K
            refine takeP (i := 11) (v := ?_) rfl (by kernel_rfl) (by kernel_rfl) (by kernel_rfl) (by kernel_rfl) (fun _ _ _ h => h) (by rfl) ?_ (fun _ => HT3.out) ?_
            rotate_left
            · intro V'; go_simp <;> with_reducible rfl
            simp only [Act.put, List.setIfInBounds_toArray, List.set_cons_zero, List.set_cons_succ]
            refine doneT (by kernel_rfl) ?_ _
            go_wp2_with fail
            go_roundw
            case rel => exact ⟨j2 + 1, by go_num, by omega, HG.out, HQ2.out⟩
            case measure => simp [intOf]; omega
          · rw [decide_eq_false hxy] at HC
            have hr0 : r = false := by
              rw [← HRes.out, Bool.and_eq_false_iff]
              right
              rw [decide_eq_false_iff_not, ← E1.out, ← E1'.out]
              intro e
              have h3 := congrArg (fun l => l[j2]?) e
              simp only [List.getElem?_map, HX.out, HY.out, Option.map_some, Option.some.injEq] at h3
              exact hxy h3
            subst hr0
            clear hc hc' hx hy hb hbw hxy
            go_wp2_with fail
            clear y0 y1 v0 v1
            refine wp_region_T (ls := []) (T := (fun V' => (V'.cell? ⟨w.heap.size, 1, none⟩ = some (.slice (some ⟨b, off, none⟩) n' c') ∧ V'.cell? ⟨w.heap.size + 1, 1, none⟩ = some (.slice (some ⟨b', off', none⟩) n' d')) ∧ (V'.cell? ⟨b, off + j2 * 6, none⟩ = some (.int .i64 x.call) ∧ V'.cell? ⟨b, off + j2 * 6 + 1, none⟩ = some (.int .u8 x.kind) ∧ V'.cell? ⟨b, off + j2 * 6 + 2, none⟩ = some (.int .u8 x.code) ∧ V'.cell? ⟨b, off + j2 * 6 + 3, none⟩ = some (.int .i64 x.id) ∧ V'.cell? ⟨b, off + j2 * 6 + 4, none⟩ = some (.slice x.A x.n x.c) ∧ V'.cell? ⟨b, off + j2 * 6 + 5, none⟩ = some (.bool x.more)) ∧ V'.cell? ⟨b', off' + j2 * 6, none⟩ = some (.int .i64 y.call) ∧ V'.cell? ⟨b', off' + j2 * 6 + 1, none⟩ = some (.int .u8 y.kind) ∧ V'.cell? ⟨b', off' + j2 * 6 + 2, none⟩ = some (.int .u8 y.code) ∧ V'.cell? ⟨b', off' + j2 * 6 + 3, none⟩ = some (.int .i64 y.id) ∧ V'.cell? ⟨b', off' + j2 * 6 + 4, none⟩ = some (.slice y.A y.n y.c) ∧ V'.cell? ⟨b', off' + j2 * 6 + 5, none⟩ = some (.bool y.more))) (by kernel_rfl) ?_
            refine takeT (i := 0) (v := ?_) rfl (by kernel_rfl) (by kernel_rfl) (by kernel_rfl) (by kernel_rfl) (fun _ _ _ h => h) (by rfl) ?_ HT0.out ?_
            rotate_left
            · intro V' hV; obtain ⟨⟨y0, y1⟩, ⟨z0, z1, z2, z3, z4, z5⟩, v0, v1, v2, v3, v4, v5⟩ := hV; go_simp <;> with_reducible rfl
            simp only [Act.put, List.setIfInBounds_toArray, List.set_cons_zero, List.set_cons_succ]
            refine takeT (i := 1) (v := ?_) rfl (by kernel_rfl) (by kernel_rfl) (by kernel_rfl) (by kernel_rfl) (fun _ _ _ h => h) (by rfl) ?_ HT0.out ?_
            rotate_left
            · intro V' hV; obtain ⟨⟨y0, y1⟩, ⟨z0, z1, z2, z3, z4, z5⟩, v0, v1, v2, v3, v4, v5⟩ := hV; go_simp <;> with_reducible rfl
            simp only [Act.put, List.setIfInBounds_toArray, List.set_cons_zero, List.set_cons_succ]
            refine takeT (i := 2) (v := ?_) rfl (by kernel_rfl) (by kernel_rfl) (by kernel_rfl) (by kernel_rfl) (fun _ _ _ h => h) (by rfl) ?_ HT0.out ?_
            rotate_left
            · intro V' hV; obtain ⟨⟨y0, y1⟩, ⟨z0, z1, z2, z3, z4, z5⟩, v0, v1, v2, v3, v4, v5⟩ := hV; go_simp <;> with_reducible rfl
            simp only [Act.put, List.setIfInBounds_toArray, List.set_cons_zero, List.set_cons_succ]
            refine takeT (i := 3) (v := ?_) rfl (by kernel_rfl) (by kernel_rfl) (by kernel_rfl) (by kernel_rfl) (fun _ _ _ h => h) (by rfl) ?_ HT0.out ?_
            rotate_left
            · intro V' hV; obtain ⟨⟨y0, y1⟩, ⟨z0, z1, z2, z3, z4, z5⟩, v0, v1, v2, v3, v4, v5⟩ := hV; go_simp <;> with_reducible rfl
            simp only [Act.put, List.setIfInBounds_toArray, List.set_cons_zero, List.set_cons_succ]
            refine takeT (i := 4) (v := ?_) rfl (by kernel_rfl) (by kernel_rfl) (by kernel_rfl) (by kernel_rfl) (fun _ _ _ h => h) (by rfl) ?_ HT0.out ?_
            rotate_left
            · intro V' hV; obtain ⟨⟨y0, y1⟩, ⟨z0, z1, z2, z3, z4, z5⟩, v0, v1, v2, v3, v4, v5⟩ := hV; go_simp <;> with_reducible rfl
            simp only [Act.put, List.setIfInBounds_toArray, List.set_cons_zero, List.set_cons_succ]
            refine takeT (i := 5) (v := ?_) rfl (by kernel_rfl) (by kernel_rfl) (by kernel_rfl) (by kernel_rfl) (fun _ _ _ h => h) (by rfl) ?_ HT0.out ?_
            rotate_left
            · intro V' hV; obtain ⟨⟨y0, y1⟩, ⟨z0, z1, z2, z3, z4, z5⟩, v0, v1, v2, v3, v4, v5⟩ := hV; go_simp <;> with_reducible rfl
            simp only [Act.put, List.setIfInBounds_toArray, List.set_cons_zero, List.set_cons_succ]
            refine takeT (i := 6) (v := ?_) rfl (by kernel_rfl) (by kernel_rfl) (by kernel_rfl) (by kernel_rfl) (fun _ _ _ h => h) (by rfl) ?_ HT0.out ?_
            rotate_left
            · intro V' hV; obtain ⟨⟨y0, y1⟩, ⟨z0, z1, z2, z3, z4, z5⟩, v0, v1, v2, v3, v4, v5⟩ := hV; go_simp <;> with_reducible rfl
            simp only [Act.put, List.setIfInBounds_toArray, List.set_cons_zero, List.set_cons_succ]
            refine takeT (i := 7) (v := ?_) rfl (by kernel_rfl) (by kernel_rfl) (by kernel_rfl) (by kernel_rfl) (fun _ _ _ h => h) (by rfl) ?_ HT0.out ?_
            rotate_left
            · intro V' hV; obtain ⟨⟨y0, y1⟩, ⟨z0, z1, z2, z3, z4, z5⟩, v0, v1, v2, v3, v4, v5⟩ := hV; go_simp <;> with_reducible rfl
            simp only [Act.put, List.setIfInBounds_toArray, List.set_cons_zero, List.set_cons_succ]
            refine takeT (i := 8) (v := ?_) rfl (by kernel_rfl) (by kernel_rfl) (by kernel_rfl) (by kernel_rfl) (fun _ _ _ h => h) (by rfl) ?_ HT0.out ?_
            rotate_left
            · intro V' hV; obtain ⟨⟨y0, y1⟩, ⟨z0, z1, z2, z3, z4, z5⟩, v0, v1, v2, v3, v4, v5⟩ := hV; go_simp <;> with_reducible rfl
            simp only [Act.put, List.setIfInBounds_toArray, List.set_cons_zero, List.set_cons_succ]
            refine takeT (i := 9) (v := ?_) rfl (by kernel_rfl) (by kernel_rfl) (by kernel_rfl) (by kernel_rfl) (fun _ _ _ h => h) (by rfl) ?_ HT0.out ?_
            rotate_left
            · intro V' hV; obtain ⟨⟨y0, y1⟩, ⟨z0, z1, z2, z3, z4, z5⟩, v0, v1, v2, v3, v4, v5⟩ := hV; go_simp <;> with_reducible rfl
            simp only [Act.put, List.setIfInBounds_toArray, List.set_cons_zero, List.set_cons_succ]
            refine oneT (i := 10) rfl (by kernel_rfl) (by rfl) (fun K hK => ?_)
            go_simp
            go_at_call 21
            refine HC.out.mono ?_
            rintro e w2 ⟨rfl, q2⟩
            have HQ2 := Lib.hid (HB2.out.drew.trans (q2.mono HB2.out.size))
            have HT3 : Hid ((fun V' => (V'.cell? ⟨w.heap.size, 1, none⟩ = some (.slice (some ⟨b, off, none⟩) n' c') ∧ V'.cell? ⟨w.heap.size + 1, 1, none⟩ = some (.slice (some ⟨b', off', none⟩) n' d')) ∧ (V'.cell? ⟨b, off + j2 * 6, none⟩ = some (.int .i64 x.call) ∧ V'.cell? ⟨b, off + j2 * 6 + 1, none⟩ = some (.int .u8 x.kind) ∧ V'.cell? ⟨b, off + j2 * 6 + 2, none⟩ = some (.int .u8 x.code) ∧ V'.cell? ⟨b, off + j2 * 6 + 3, none⟩ = some (.int .i64 x.id) ∧ V'.cell? ⟨b, off + j2 * 6 + 4, none⟩ = some (.slice x.A x.n x.c) ∧ V'.cell? ⟨b, off + j2 * 6 + 5, none⟩ = some (.bool x.more)) ∧ V'.cell? ⟨b', off' + j2 * 6, none⟩ = some (.int .i64 y.call) ∧ V'.cell? ⟨b', off' + j2 * 6 + 1, none⟩ = some (.int .u8 y.kind) ∧ V'.cell? ⟨b', off' + j2 * 6 + 2, none⟩ = some (.int .u8 y.code) ∧ V'.cell? ⟨b', off' + j2 * 6 + 3, none⟩ = some (.int .i64 y.id) ∧ V'.cell? ⟨b', off' + j2 * 6 + 4, none⟩ = some (.slice y.A y.n y.c) ∧ V'.cell? ⟨b', off' + j2 * 6 + 5, none⟩ = some (.bool y.more)) w2) := Lib.hid (HTB.out w2 HQ2.out)
            clear q2
            refine hK.out _ _ (fun _ => HT3.out) ?_
            clear hK K
            refine takeP (i := 11) (v := ?_) rfl (by kernel_rfl) (by kernel_rfl) (by kernel_rfl) (by kernel_rfl) (fun _ _ _ h => h) (by rfl) ?_ (fun _ => HT3.out) ?_
            rotate_left
            · intro V'; go_simp <;> with_reducible rfl
            simp only [Act.put, List.setIfInBounds_toArray, List.set_cons_zero, List.set_cons_succ]
            refine doneT (by kernel_rfl) ?_ _
            go_wp2_with fail
            go_ret
            exact ⟨rfl, HB.out.trans (HQ2.out.mono HB.out.size)⟩
        · have hr1 : r = true := by
            rw [← HRes.out, HQ.out, ← E1.out, ← E1'.out]
            have h1 := HT2.out
            rw [List.take_of_length_le (by have := E2.out.rd.len; omega), List.take_of_length_le (by have := E2'.out.rd.len; omega)] at h1
            simp [h1]
          subst hr1
          obtain ⟨y0, y1⟩ := cells2 (H1.out.under hb)
          clear hb
          go_wp2_with fail
          go_ret
          exact ⟨rfl, HB.out.trans (HB2.out.mono HB.out.size)⟩

end Go.Proofs.Ytcbbjloojngoiaa
