/-
  The walk of 'again' of package net at tells: one more of what stands at a place. Conditions: those that each theorem names.
-/
import Derived.Test.YtcbbjloojngoiaaNtSend
import Derived.Test.YtcbbjloojngoiaaNtPost
namespace Go.Proofs.Ytcbbjloojngoiaa
open Go.RowKit Go.Shelf

set_option maxRecDepth 100000 in
set_option maxHeartbeats 2000000 in
theorem againT_any (A : Option Addr) (n c : Nat) (A' : Option Addr) (n' c' : Nat) (s : Nt) (z : Int) (w : World) (hr : NtR w A n A' n' s) :
    Calls Try.prog 38 #[.agg #[.slice A n c, .slice A' n' c'], .slice A' n' c', .int .i64 z, .func (.func 12) #[] #[]] w (SendPost (twiceN s z true) (twiceE s true) w) := by
  obtain ⟨hb, h1, h2⟩ := two_new w 25 25 #[.slice A n c, .slice A' n' c'] #[.slice none 0 0, .slice none 0 0]
  obtain ⟨V, hV⟩ : ∃ V, (w.alloc (.cells #[.slice A n c, .slice A' n' c'] 25)).alloc (.cells #[.slice none 0 0, .slice none 0 0] 25) = V := ⟨_, rfl⟩
  have hs : V.heap.size = w.heap.size + 1 + 1 := by rw [← hV]; simp
  rw [hV] at hb h1 h2
  have HV := Lib.hid hV
  have HB := Lib.hid hb
  have H1 := Lib.hid h1
  have H2 := Lib.hid h2
  have HS := Lib.hid hs
  clear hV hb h1 h2 hs
  rcases Nat.eq_zero_or_pos n' with h0 | hpos
  · subst h0
    have hnil : s.ts = [] := List.eq_nil_of_length_eq_zero (by have := hr.lt; omega)
    have hs' : twiceN s z true = s := by simp [twiceN, tellT, hnil]
    have he' : twiceE s true = 0 := by simp [twiceE, hnil, fullE]
    rw [hs', he']
    have HR := Lib.hid (hr.up HB.out)
    clear hr hs' he' hnil
    go_enter Try.func38, Try.ntmps38
    go_wp2_with fail
    rw [HV.out]
    clear HV
    refine wp_scope_fwd 0 (fun a' w' => w' = V ∧ ∃ u13 u14 u15 u16 u17 u18 u19 u20 u21 u22 u23 u24 u5 u6 u7 u10 u11 u12, a' = { tmps := #[.agg #[.slice A n c, .slice A' 0 c'], .slice A' 0 c', .int .i64 z, .func (.func 12) #[] #[], .pointer (some ⟨w.heap.size, 0, none⟩), u5, u6, u7, .pointer (some ⟨w.heap.size + 1, 0, none⟩), .int .i64 0, u10, u11, u12, u13, u14, u15, u16, u17, u18, u19, u20, u21, u22, u23, u24, undef, undef], defers := [] }) rfl ?first ?tail
    case first =>
      go_wp2_with fail
      refine wp_goto ?_
      exact ⟨rfl, rfl, _, _, _, _, _, _, _, _, _, _, _, _, _, _, _, _, _, _, rfl⟩
    case tail =>
      rintro a' w' ⟨hw', u13, u14, u15, u16, u17, u18, u19, u20, u21, u22, u23, u24, u5, u6, u7, u10, u11, u12, rfl⟩
      have hw' := hw'.symm
      subst hw'
      obtain ⟨n0, n1⟩ := cells2 H1.out
      go_wp2_with fail
      refine (ownN_any _ _ _ _ _ _ s _ HR.out).mono ?_
      rintro e w1 ⟨A1, c1, A2, c2, rfl, o1, b1⟩
      have i2 := H2.out.under b1
      obtain ⟨r0, r1⟩ := cells2 i2
      have p0 := i2.frozen 0
      have p1 := i2.frozen 1
      have I2 := Lib.hid i2
      have O1 := Lib.hid o1
      have B1 := Lib.hid b1
      clear i2 o1 b1 n0 n1
      go_wp2_with fail
      simp only [Exit.jump]
      obtain ⟨e5, k5⟩ := put2 I2.out (.slice A1 s.ks.length c1) (.slice A2 s.ts.length c2)
      obtain ⟨x0, x1⟩ := cells2 e5
      refine bodyPost_ret (v := .tuple #[.agg #[.slice A1 s.ks.length c1, .slice A2 s.ts.length c2], .int .i64 0]) (by simp [results, Try.results38, go_sem, x0, x1]) rfl ⟨A1, c1, A2, c2, rfl, ?_, k5.bel (HB.out.trans (B1.out.mono HB.out.size)) (by omega)⟩
      exact (O1.out.only k5 I2.out (by decide) (by decide) (by decide)).weaker (by have := HS.out; omega)
  · have hn100 : n' ≤ 100 := by have := hr.lt; have := hr.few.ts; omega
    obtain ⟨k, hkz⟩ : ∃ k, placeN z n' = k := ⟨_, rfl⟩
    have hk : k < n' := by rw [← hkz]; exact placeN_lt hpos z
    obtain ⟨es, hes, hrt⟩ := hr.ts
    obtain ⟨b, off, rfl, hbl, hcell⟩ := hrt.1.2 hpos
    obtain ⟨q, hq⟩ : ∃ q, es[k]? = some q := ⟨_, List.getElem?_eq_getElem (by rw [hrt.len]; exact hk)⟩
    obtain ⟨c0, c1_, c2_, c3_, c4_, c5_⟩ := tlAt_of (hcell k q hq)
    have hqm : q ∈ es := List.mem_of_getElem? hq
    have hte : TeR w q := ⟨hrt.2 q hqm, by have := hr.few.sn q.t (by rw [← hes]; exact List.mem_map_of_mem hqm); have h2 := (hrt.2 q hqm).len; simp only [TE.t] at this; omega⟩
    have hqt : s.ts[k]? = some q.t := by rw [← hes, List.getElem?_map, hq]; rfl
    have hs' : twiceN s z true = postN s q.t := by simp [twiceN, tellT, hr.lt, hkz, hqt]
    have he' : twiceE s true = fullE s.ts.length := by simp [twiceE]
    have HTE := Lib.hid hte
    rw [hs', he']
    have hki : (k : Int) < (n' : Int) := by omega
    have hn0 : ((n' : Int) == 0) = false := by simp; omega
    have HKZ := Lib.hid hkz
    have HP := Lib.hid hpos
    have HN := Lib.hid hn100
    have HR := Lib.hid hr
    have HC := Lib.hid (show b < w.heap.size ∧ (w.cell? ⟨b, off + k * 6, none⟩ = some (.int .i64 q.call) ∧ w.cell? ⟨b, off + k * 6 + 1, none⟩ = some (.int .u8 q.kind) ∧ w.cell? ⟨b, off + k * 6 + 2, none⟩ = some (.int .u8 q.code) ∧ w.cell? ⟨b, off + k * 6 + 3, none⟩ = some (.int .i64 q.id) ∧ w.cell? ⟨b, off + k * 6 + 4, none⟩ = some (.slice q.A q.n q.c) ∧ w.cell? ⟨b, off + k * 6 + 5, none⟩ = some (.bool q.more)) from ⟨hbl, c0, c1_, c2_, c3_, c4_, c5_⟩)
    clear hs' he' hkz hk hr hq hcell hbl c0 c1_ c2_ c3_ c4_ c5_ hpos hn100 hes hrt hqm hte hqt
    go_enter Try.func38, Try.ntmps38
    go_wp2_with fail
    rw [HV.out]
    clear HV
    refine wp_scope_fwd 0 (fun a' w' => False) rfl ?first (fun a' w' h => h.elim)
    go_wp2_with fail
    have HT0 : Hid ((fun V' => Whole V' w.heap.size 25 #[.slice A n c, .slice (some ⟨b, off, none⟩) n' c'] ∧ (V'.cell? ⟨b, off + k * 6, none⟩ = some (.int .i64 q.call) ∧ V'.cell? ⟨b, off + k * 6 + 1, none⟩ = some (.int .u8 q.kind) ∧ V'.cell? ⟨b, off + k * 6 + 2, none⟩ = some (.int .u8 q.code) ∧ V'.cell? ⟨b, off + k * 6 + 3, none⟩ = some (.int .i64 q.id) ∧ V'.cell? ⟨b, off + k * 6 + 4, none⟩ = some (.slice q.A q.n q.c) ∧ V'.cell? ⟨b, off + k * 6 + 5, none⟩ = some (.bool q.more))) V.drew) := Lib.hid (by
      obtain ⟨hbl, c0, c1_, c2_, c3_, c4_, c5_⟩ := HC.out
      have hb := HB.out.drew
      exact ⟨H1.out, (hb.cell (p := ⟨b, off + k * 6, none⟩) hbl).trans c0, (hb.cell (p := ⟨b, off + k * 6 + 1, none⟩) hbl).trans c1_, (hb.cell (p := ⟨b, off + k * 6 + 2, none⟩) hbl).trans c2_, (hb.cell (p := ⟨b, off + k * 6 + 3, none⟩) hbl).trans c3_, (hb.cell (p := ⟨b, off + k * 6 + 4, none⟩) hbl).trans c4_, (hb.cell (p := ⟨b, off + k * 6 + 5, none⟩) hbl).trans c5_⟩)
    have HL : Hid (∀ V', (fun V' => Whole V' w.heap.size 25 #[.slice A n c, .slice (some ⟨b, off, none⟩) n' c'] ∧ (V'.cell? ⟨b, off + k * 6, none⟩ = some (.int .i64 q.call) ∧ V'.cell? ⟨b, off + k * 6 + 1, none⟩ = some (.int .u8 q.kind) ∧ V'.cell? ⟨b, off + k * 6 + 2, none⟩ = some (.int .u8 q.code) ∧ V'.cell? ⟨b, off + k * 6 + 3, none⟩ = some (.int .i64 q.id) ∧ V'.cell? ⟨b, off + k * 6 + 4, none⟩ = some (.slice q.A q.n q.c) ∧ V'.cell? ⟨b, off + k * 6 + 5, none⟩ = some (.bool q.more))) V' → (V'.cell? ⟨w.heap.size, 0, none⟩ = some (.slice A n c) ∧ V'.cell? ⟨w.heap.size, 1, none⟩ = some (.slice (some ⟨b, off, none⟩) n' c')) ∧ V'.cell? ⟨b, off + k * 6, none⟩ = some (.int .i64 q.call) ∧ V'.cell? ⟨b, off + k * 6 + 1, none⟩ = some (.int .u8 q.kind) ∧ V'.cell? ⟨b, off + k * 6 + 2, none⟩ = some (.int .u8 q.code) ∧ V'.cell? ⟨b, off + k * 6 + 3, none⟩ = some (.int .i64 q.id) ∧ V'.cell? ⟨b, off + k * 6 + 4, none⟩ = some (.slice q.A q.n q.c) ∧ V'.cell? ⟨b, off + k * 6 + 5, none⟩ = some (.bool q.more)) := Lib.hid (fun V' h => ⟨cells2 h.1, h.2⟩)
    refine wp_region_T (ls := []) (T := (fun V' => Whole V' w.heap.size 25 #[.slice A n c, .slice (some ⟨b, off, none⟩) n' c'] ∧ (V'.cell? ⟨b, off + k * 6, none⟩ = some (.int .i64 q.call) ∧ V'.cell? ⟨b, off + k * 6 + 1, none⟩ = some (.int .u8 q.kind) ∧ V'.cell? ⟨b, off + k * 6 + 2, none⟩ = some (.int .u8 q.code) ∧ V'.cell? ⟨b, off + k * 6 + 3, none⟩ = some (.int .i64 q.id) ∧ V'.cell? ⟨b, off + k * 6 + 4, none⟩ = some (.slice q.A q.n q.c) ∧ V'.cell? ⟨b, off + k * 6 + 5, none⟩ = some (.bool q.more)))) (by kernel_rfl) ?_
    refine takeP (i := 0) (v := ?_) rfl (by kernel_rfl) (by kernel_rfl) (by kernel_rfl) (by kernel_rfl) (fun _ _ _ h => h) (by rfl) ?_ (fun _ => HT0.out) ?_
    rotate_left
    · intro V'; go_simp <;> with_reducible rfl
    simp only [Act.put, List.setIfInBounds_toArray, List.set_cons_zero, List.set_cons_succ]
    refine takeT (i := 1) (v := ?_) rfl (by kernel_rfl) (by kernel_rfl) (by kernel_rfl) (by kernel_rfl) (fun _ _ _ h => h) (by rfl) ?_ HT0.out ?_
    rotate_left
    · intro V' hV; obtain ⟨⟨y0, y1⟩, z0, z1, z2, z3, z4, z5⟩ := HL.out V' hV; go_simp <;> with_reducible rfl
    simp only [Act.put, List.setIfInBounds_toArray, List.set_cons_zero, List.set_cons_succ]
    refine takeP (i := 2) (v := ?_) rfl (by kernel_rfl) (by kernel_rfl) (by kernel_rfl) (by kernel_rfl) (fun _ _ _ h => h) (by rfl) ?_ (fun _ => HT0.out) ?_
    rotate_left
    · intro V'; go_simp <;> with_reducible rfl
    simp only [Act.put, List.setIfInBounds_toArray, List.set_cons_zero, List.set_cons_succ]
    refine takeP (i := 3) (v := ?_) rfl (by kernel_rfl) (by kernel_rfl) (by kernel_rfl) (by kernel_rfl) (fun _ _ _ h => h) (by rfl) ?_ (fun _ => HT0.out) ?_
    rotate_left
    · intro V'; go_simp <;> with_reducible rfl
    simp only [Act.put, List.setIfInBounds_toArray, List.set_cons_zero, List.set_cons_succ]
    refine takeP (i := 4) (v := ?_) rfl (by kernel_rfl) (by kernel_rfl) (by kernel_rfl) (by kernel_rfl) (fun _ _ _ h => h) (by rfl) ?_ (fun _ => HT0.out) ?_
    rotate_left
    · intro V'; go_simp <;> with_reducible rfl
    simp only [Act.put, List.setIfInBounds_toArray, List.set_cons_zero, List.set_cons_succ]
    refine takeP (i := 5) (v := ?_) rfl (by kernel_rfl) (by kernel_rfl) (by kernel_rfl) (by kernel_rfl) (fun _ _ _ h => h) (by rfl) ?_ (fun _ => HT0.out) ?_
    rotate_left
    · intro V'; go_simp <;> with_reducible rfl
    simp only [Act.put, List.setIfInBounds_toArray, List.set_cons_zero, List.set_cons_succ]
    refine oneT (i := 6) rfl (by kernel_rfl) (by rfl) (fun K hK => ?_)
    go_simp
    go_at_call 43
    refine (place_any z n' HP.out (by have := HN.out; omega) _).mono ?_
    rintro e y1 ⟨rfl, hy1⟩
    have hy1 := hy1.symm
    subst hy1
    rw [HKZ.out]
    refine hK.out _ _ (fun _ => HT0.out) ?_
    clear hK K
    refine takeP (i := 7) (v := ?_) rfl (by kernel_rfl) (by kernel_rfl) (by kernel_rfl) (by kernel_rfl) (fun _ _ _ h => h) (by rfl) ?_ (fun _ => HT0.out) ?_
    rotate_left
    · intro V'; go_simp <;> with_reducible rfl
    simp only [Act.put, List.setIfInBounds_toArray, List.set_cons_zero, List.set_cons_succ]
    refine takeT (i := 8) (v := ?_) rfl (by kernel_rfl) (by kernel_rfl) (by kernel_rfl) (by kernel_rfl) (fun _ _ _ h => h) (by rfl) ?_ HT0.out ?_
    rotate_left
    · intro V' hV; obtain ⟨⟨y0, y1⟩, z0, z1, z2, z3, z4, z5⟩ := HL.out V' hV; go_simp <;> with_reducible rfl
    simp only [Act.put, List.setIfInBounds_toArray, List.set_cons_zero, List.set_cons_succ]
    refine oneT (i := 9) rfl (by kernel_rfl) (by rfl) (fun K hK => ?_)
    go_simp
    go_at_call 12
    have BX : Hid (Below w.heap.size w V.drew) := Lib.hid HB.out.drew
    have HRX := Lib.hid (HR.out.up BX.out)
    refine (post_any _ _ _ _ _ _ s q _ HRX.out (HTE.out.up BX.out)).mono ?_
    rintro e w2 ⟨A3, c3, A4, c4, rfl, o3, b3⟩
    have hb3 : Below V.heap.size V w2 := (Below.refl V.heap.size V).drew.trans b3
    have hT2 : (fun V' => Whole V' w.heap.size 25 #[.slice A n c, .slice (some ⟨b, off, none⟩) n' c'] ∧ (V'.cell? ⟨b, off + k * 6, none⟩ = some (.int .i64 q.call) ∧ V'.cell? ⟨b, off + k * 6 + 1, none⟩ = some (.int .u8 q.kind) ∧ V'.cell? ⟨b, off + k * 6 + 2, none⟩ = some (.int .u8 q.code) ∧ V'.cell? ⟨b, off + k * 6 + 3, none⟩ = some (.int .i64 q.id) ∧ V'.cell? ⟨b, off + k * 6 + 4, none⟩ = some (.slice q.A q.n q.c) ∧ V'.cell? ⟨b, off + k * 6 + 5, none⟩ = some (.bool q.more))) w2 := by
      obtain ⟨t1, t2, t3, t4, t5, t6, t7⟩ := HT0.out
      have hbl : b < V.drew.heap.size := Nat.lt_of_lt_of_le HC.out.1 BX.out.size
      exact ⟨t1.under b3, (b3.cell (p := ⟨b, off + k * 6, none⟩) hbl).trans t2, (b3.cell (p := ⟨b, off + k * 6 + 1, none⟩) hbl).trans t3, (b3.cell (p := ⟨b, off + k * 6 + 2, none⟩) hbl).trans t4, (b3.cell (p := ⟨b, off + k * 6 + 3, none⟩) hbl).trans t5, (b3.cell (p := ⟨b, off + k * 6 + 4, none⟩) hbl).trans t6, (b3.cell (p := ⟨b, off + k * 6 + 5, none⟩) hbl).trans t7⟩
    have HT2 := Lib.hid hT2
    have i2 := H2.out.under hb3
    obtain ⟨r0, r1⟩ := cells2 i2
    have p0 := i2.frozen 0
    have p1 := i2.frozen 1
    have I2 := Lib.hid i2
    have O3 := Lib.hid o3
    have B3 := Lib.hid hb3
    refine hK.out _ _ (fun _ => HT2.out) ?_
    clear hK K i2 o3 b3 hb3 hT2
    obtain ⟨s', hs'⟩ : ∃ s', postN s q.t = s' := ⟨_, rfl⟩
    rw [hs'] at O3
    rw [hs']
    obtain ⟨e5, k5⟩ := put2 I2.out (.slice A3 s'.ks.length c3) (.slice A4 s'.ts.length c4)
    have HE5 := Lib.hid e5
    have HK5 := Lib.hid k5
    have HT3 : Hid ((fun V' => Whole V' w.heap.size 25 #[.slice A n c, .slice (some ⟨b, off, none⟩) n' c'] ∧ (V'.cell? ⟨b, off + k * 6, none⟩ = some (.int .i64 q.call) ∧ V'.cell? ⟨b, off + k * 6 + 1, none⟩ = some (.int .u8 q.kind) ∧ V'.cell? ⟨b, off + k * 6 + 2, none⟩ = some (.int .u8 q.code) ∧ V'.cell? ⟨b, off + k * 6 + 3, none⟩ = some (.int .i64 q.id) ∧ V'.cell? ⟨b, off + k * 6 + 4, none⟩ = some (.slice q.A q.n q.c) ∧ V'.cell? ⟨b, off + k * 6 + 5, none⟩ = some (.bool q.more))) ((w2.setCell ⟨w.heap.size + 1, 0, none⟩ (.slice A3 s'.ks.length c3)).setCell ⟨w.heap.size + 1, 1, none⟩ (.slice A4 s'.ts.length c4))) := Lib.hid (by
      obtain ⟨t1, t2, t3, t4, t5, t6, t7⟩ := HT2.out
      have hbb := k5.bel (B := w.heap.size) (w0 := w2) (Below.refl _ _) (by omega)
      have hbl := HC.out.1
      exact ⟨k5.far t1 (by omega), (hbb.cell (p := ⟨b, off + k * 6, none⟩) hbl).trans t2, (hbb.cell (p := ⟨b, off + k * 6 + 1, none⟩) hbl).trans t3, (hbb.cell (p := ⟨b, off + k * 6 + 2, none⟩) hbl).trans t4, (hbb.cell (p := ⟨b, off + k * 6 + 3, none⟩) hbl).trans t5, (hbb.cell (p := ⟨b, off + k * 6 + 4, none⟩) hbl).trans t6, (hbb.cell (p := ⟨b, off + k * 6 + 5, none⟩) hbl).trans t7⟩)
    clear e5 k5
    refine takeP (i := 10) (v := ?_) rfl (by kernel_rfl) (by kernel_rfl) (by kernel_rfl) (by kernel_rfl) (fun _ _ _ h => h) (by rfl) ?_ (fun _ => HT2.out) ?_
    rotate_left
    · intro V'; go_simp <;> with_reducible rfl
    simp only [Act.put, List.setIfInBounds_toArray, List.set_cons_zero, List.set_cons_succ]
    refine takeP (i := 11) (v := ?_) rfl (by kernel_rfl) (by kernel_rfl) (by kernel_rfl) (by kernel_rfl) (fun _ _ _ h => h) (by rfl) ?_ (fun _ => HT2.out) ?_
    rotate_left
    · intro V'; go_simp <;> with_reducible rfl
    simp only [Act.put, List.setIfInBounds_toArray, List.set_cons_zero, List.set_cons_succ]
    refine oneT (i := 12) rfl (by kernel_rfl) (by rfl) (fun K hK => ?_)
    go_simp
    refine hK.out _ _ (fun _ => HT3.out) ?_
    clear hK K
    refine oneT (i := 13) rfl (by kernel_rfl) (by rfl) (fun K hK => ?_)
    go_simp
    refine hK.out _ _ (fun _ => HT3.out) ?_
    clear hK K
    refine doneT (by kernel_rfl) ?_ _
    go_wp2_with fail
    simp only [Exit.jump]
    obtain ⟨x0, x1⟩ := cells2 HE5.out
    refine bodyPost_ret (v := .tuple #[.agg #[.slice A3 s'.ks.length c3, .slice A4 s'.ts.length c4], .int .i64 (fullE s.ts.length)]) (by simp [results, Try.results38, go_sem, x0, x1]) rfl ⟨A3, c3, A4, c4, rfl, ?_, HK5.out.bel (HB.out.trans (B3.out.mono HB.out.size)) (by omega)⟩
    exact (O3.out.only HK5.out I2.out (by decide) (by decide) (by decide)).weaker (by have := HS.out; have : V.drew.heap.size = V.heap.size := rfl; omega)

end Go.Proofs.Ytcbbjloojngoiaa
