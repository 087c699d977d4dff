/-
  The walk of 'Post' of package net. Conditions: those that each theorem names.
-/
import Derived.Test.YtcbbjloojngoiaaNtSend
import Derived.Test.YtcbbjloojngoiaaRegT
namespace Go.Proofs.Ytcbbjloojngoiaa
open Go.RowKit Go.Shelf

set_option maxRecDepth 100000 in
set_option maxHeartbeats 2000000 in
theorem post_any (A : Option Addr) (n c : Nat) (A' : Option Addr) (n' c' : Nat) (s : Nt) (x : TE) (w : World) (hr : NtR w A n A' n' s) (hx : TeR w x) :
    Calls Try.prog 12 #[.agg #[.slice A n c, .slice A' n' c'], .agg #[.int .i64 x.call, .int .u8 x.kind, .int .u8 x.code, .int .i64 x.id, .slice x.A x.n x.c, .bool x.more]] w (SendPost (postN s x.t) (fullE s.ts.length) w) := by
  obtain ⟨hb, h1, h2, h3⟩ := three_new w 25 30 25 #[.slice A n c, .slice A' n' c'] #[.int .i64 x.call, .int .u8 x.kind, .int .u8 x.code, .int .i64 x.id, .slice x.A x.n x.c, .bool x.more] #[.slice none 0 0, .slice none 0 0]
  obtain ⟨V, hV⟩ : ∃ V, ((w.alloc (.cells #[.slice A n c, .slice A' n' c'] 25)).alloc (.cells #[.int .i64 x.call, .int .u8 x.kind, .int .u8 x.code, .int .i64 x.id, .slice x.A x.n x.c, .bool x.more] 30)).alloc (.cells #[.slice none 0 0, .slice none 0 0] 25) = V := ⟨_, rfl⟩
  have hs : V.heap.size = w.heap.size + 1 + 1 + 1 := by rw [← hV]; simp
  rw [hV] at hb h1 h2 h3
  have HV := Lib.hid hV
  have HR := Lib.hid (hr.up hb)
  have HX := Lib.hid hx
  have HB := Lib.hid hb
  have H1 := Lib.hid h1
  have H2 := Lib.hid h2
  have H3 := Lib.hid h3
  have HS := Lib.hid hs
  clear hV hr hb h1 h2 h3 hs hx
  obtain ⟨s', hs'⟩ : ∃ s', postN s x.t = s' := ⟨_, rfl⟩
  obtain ⟨er, he'⟩ : ∃ er, fullE s.ts.length = er := ⟨_, rfl⟩
  rw [hs', he']
  have HS' := Lib.hid hs'
  have HE' := Lib.hid he'
  clear hs' he'
  go_enter Try.func12, Try.ntmps12
  go_wp2_with fail
  rw [HV.out]
  clear HV
  refine (ownN_any A n c A' n' c' s V HR.out).mono ?_
  rintro e w1 ⟨A1, c1, A2, c2, rfl, o1, b1⟩
  have i1 := H1.out.under b1
  have i2 := H2.out.under b1
  have i3 := H3.out.under b1
  obtain ⟨n0, n1⟩ := cells2 i1
  have p0 := i1.frozen 0
  have p1 := i1.frozen 1
  have I1 := Lib.hid i1
  have I2 := Lib.hid i2
  have I3 := Lib.hid i3
  have O1 := Lib.hid o1
  have B1 := Lib.hid b1
  clear i1 i2 i3 o1 b1 H1 H2 H3
  go_wp2_with fail
  obtain ⟨e2, k2⟩ := put2 I1.out (.slice A1 s.ks.length c1) (.slice A2 s.ts.length c2)
  obtain ⟨X, hX⟩ : ∃ X, (w1.setCell ⟨w.heap.size, 0, none⟩ (.slice A1 s.ks.length c1)).setCell ⟨w.heap.size, 1, none⟩ (.slice A2 s.ts.length c2) = X := ⟨_, rfl⟩
  rw [hX] at e2 k2 ⊢
  clear hX n0 n1 p0 p1
  have o2 := O1.out.only k2 I1.out (by decide) (by decide) (by decide)
  have x2 := k2.far I2.out (by omega)
  have x3 := k2.far I3.out (by omega)
  have bX : Below w.heap.size w X := k2.bel (HB.out.trans (B1.out.mono HB.out.size)) (Nat.le_refl _)
  have sX : w.heap.size + 1 + 1 + 1 ≤ X.heap.size := by rw [k2.size]; have := B1.out.size; have := HS.out; omega
  have hxX : TeR X x := ⟨(HX.out.rd.below bX).more bX.size, HX.out.few⟩
  have E2 := Lib.hid e2
  have X2 := Lib.hid x2
  have O2 := Lib.hid o2
  have X3 := Lib.hid x3
  have BX := Lib.hid bX
  have SX := Lib.hid sX
  have HXX := Lib.hid hxX
  have HT0 : Hid ((fun V' => Whole V' w.heap.size 25 #[.slice A1 s.ks.length c1, .slice A2 s.ts.length c2] ∧ Whole V' (w.heap.size + 1) 30 #[.int .i64 x.call, .int .u8 x.kind, .int .u8 x.code, .int .i64 x.id, .slice x.A x.n x.c, .bool x.more]) X.drew) := Lib.hid ⟨e2, x2⟩
  have HL : Hid (∀ V', (fun V' => Whole V' w.heap.size 25 #[.slice A1 s.ks.length c1, .slice A2 s.ts.length c2] ∧ Whole V' (w.heap.size + 1) 30 #[.int .i64 x.call, .int .u8 x.kind, .int .u8 x.code, .int .i64 x.id, .slice x.A x.n x.c, .bool x.more]) V' → (V'.cell? ⟨w.heap.size, 0, none⟩ = some (.slice A1 s.ks.length c1) ∧ V'.cell? ⟨w.heap.size, 1, none⟩ = some (.slice A2 s.ts.length c2)) ∧ V'.cell? ⟨w.heap.size + 1, 0, none⟩ = some (.int .i64 x.call) ∧ V'.cell? ⟨w.heap.size + 1, 1, none⟩ = some (.int .u8 x.kind) ∧ V'.cell? ⟨w.heap.size + 1, 2, none⟩ = some (.int .u8 x.code) ∧ V'.cell? ⟨w.heap.size + 1, 3, none⟩ = some (.int .i64 x.id) ∧ V'.cell? ⟨w.heap.size + 1, 4, none⟩ = some (.slice x.A x.n x.c) ∧ V'.cell? ⟨w.heap.size + 1, 5, none⟩ = some (.bool x.more)) := Lib.hid (fun V' h => ⟨cells2 h.1, cellsW6 h.2⟩)
  clear e2 k2 o2 x2 x3 bX sX I1 I2 I3 O1 B1 hxX HX
  refine wp_region_T (ls := [9]) (T := (fun V' => Whole V' w.heap.size 25 #[.slice A1 s.ks.length c1, .slice A2 s.ts.length c2] ∧ Whole V' (w.heap.size + 1) 30 #[.int .i64 x.call, .int .u8 x.kind, .int .u8 x.code, .int .i64 x.id, .slice x.A x.n x.c, .bool x.more])) (by kernel_rfl) ?_
  refine takeT (i := 0) (v := ?_) rfl (by kernel_rfl) (by kernel_rfl) (by kernel_rfl) (by kernel_rfl) (fun _ _ _ h => h) (by rfl) ?_ HT0.out ?_
  rotate_left
  · intro V' hV; obtain ⟨⟨y0, y1⟩, z0, z1, z2, z3, z4, z5⟩ := HL.out V' hV; go_simp <;> with_reducible rfl
  simp only [Act.put, List.setIfInBounds_toArray, List.set_cons_zero, List.set_cons_succ]
  refine takeT (i := 1) (v := ?_) rfl (by kernel_rfl) (by kernel_rfl) (by kernel_rfl) (by kernel_rfl) (fun _ _ _ h => h) (by rfl) ?_ HT0.out ?_
  rotate_left
  · intro V' hV; obtain ⟨⟨y0, y1⟩, z0, z1, z2, z3, z4, z5⟩ := HL.out V' hV; go_simp <;> with_reducible rfl
  simp only [Act.put, List.setIfInBounds_toArray, List.set_cons_zero, List.set_cons_succ]
  refine takeT (i := 2) (v := ?_) rfl (by kernel_rfl) (by kernel_rfl) (by kernel_rfl) (by kernel_rfl) (fun _ _ _ h => h) (by rfl) ?_ HT0.out ?_
  rotate_left
  · intro V' hV; obtain ⟨⟨y0, y1⟩, z0, z1, z2, z3, z4, z5⟩ := HL.out V' hV; go_simp <;> with_reducible rfl
  simp only [Act.put, List.setIfInBounds_toArray, List.set_cons_zero, List.set_cons_succ]
  refine oneT (i := 3) rfl (by kernel_rfl) (by rfl) (fun K hK => ?_)
  go_simp
  go_at_call 28
  refine (ownT_any x _ (HXX.out.up (Below.refl _ _).drew)).mono ?_
  rintro e y1 ⟨A5, c5, rfl, ho5, hb5⟩
  have hb5' : Below X.heap.size X y1 := (Below.refl X.heap.size X).drew.trans hb5
  have HT1 : Hid ((fun V' => Whole V' w.heap.size 25 #[.slice A1 s.ks.length c1, .slice A2 s.ts.length c2] ∧ Whole V' (w.heap.size + 1) 30 #[.int .i64 x.call, .int .u8 x.kind, .int .u8 x.code, .int .i64 x.id, .slice x.A x.n x.c, .bool x.more]) y1) := Lib.hid ⟨HT0.out.1.under hb5, HT0.out.2.under hb5⟩
  have HO5 := Lib.hid ho5
  have HB5 := Lib.hid hb5'
  have HO3 := Lib.hid (O2.out.under hb5')
  have HX3 := Lib.hid (X3.out.under hb5')
  clear ho5 hb5 hb5' HT0
  refine hK.out _ _ (fun _ => HT1.out) ?_
  clear hK K
  rcases Nat.lt_or_ge s.ts.length 60 with hlt | hge
  · obtain rfl := (postN_more hlt).symm.trans HS'.out
    obtain rfl := (fullE_no hlt).symm.trans HE'.out
    refine oneT (i := 4) rfl (by kernel_rfl) (by rfl) (fun K hK => ?_)
    go_simp
    go_at_call 27
    refine (putT_more V.heap.size A2 c2 s.ts { x with A := A5, c := c5 } y1 HO3.out.ts (own_weaker HO5.out (by have := SX.out; have := HS.out; simpa using (by omega : V.heap.size ≤ X.heap.size))) hlt (by have := HB5.out.size; have := SX.out; have := HS.out; omega)).mono ?_
    rintro e w2 ⟨A3, c3, rfl, o3, b3, h3, t3⟩
    have HT2 : Hid ((fun V' => Whole V' w.heap.size 25 #[.slice A1 s.ks.length c1, .slice A2 s.ts.length c2] ∧ Whole V' (w.heap.size + 1) 30 #[.int .i64 x.call, .int .u8 x.kind, .int .u8 x.code, .int .i64 x.id, .slice x.A x.n x.c, .bool x.more]) w2) := Lib.hid ⟨h3 _ _ _ HT1.out.1 (by decide), HT1.out.2.below b3 (by have := HS.out; omega)⟩
    have j3 := h3 _ _ _ HX3.out (by decide)
    have T3 := Lib.hid (t3 _ _ _ HO3.out.ks)
    have J3 := Lib.hid j3
    have O3 := Lib.hid o3
    have B3 := Lib.hid b3
    refine hK.out _ _ (fun _ => HT2.out) ?_
    clear hK K
    obtain ⟨⟨y0, y1⟩, z0, z1, z2, z3, z4, z5⟩ := HL.out _ HT2.out
    have p1 := HT2.out.1.frozen 1
    obtain ⟨r0, r1⟩ := cells2 j3
    have q0 := j3.frozen 0
    have q1 := j3.frozen 1
    clear j3 o3 b3 h3 t3
    refine takeP (i := 5) (v := ?_) rfl (by kernel_rfl) (by kernel_rfl) (by kernel_rfl) (by kernel_rfl) (fun _ _ _ h => h) (by rfl) ?_ (fun _ => HT2.out) ?_
    rotate_left
    · intro V'; go_simp <;> with_reducible rfl
    simp only [Act.put, List.setIfInBounds_toArray, List.set_cons_zero, List.set_cons_succ]
    refine takeP (i := 6) (v := ?_) rfl (by kernel_rfl) (by kernel_rfl) (by kernel_rfl) (by kernel_rfl) (fun _ _ _ h => h) (by rfl) ?_ (fun _ => HT2.out) ?_
    rotate_left
    · intro V'; go_simp <;> with_reducible rfl
    simp only [Act.put, List.setIfInBounds_toArray, List.set_cons_zero, List.set_cons_succ]
    refine takeP (i := 7) (v := ?_) rfl (by kernel_rfl) (by kernel_rfl) (by kernel_rfl) (by kernel_rfl) (fun _ _ _ h => h) (by rfl) ?_ (fun _ => HT2.out) ?_
    rotate_left
    · intro V'; go_simp <;> with_reducible rfl
    simp only [Act.put, List.setIfInBounds_toArray, List.set_cons_zero, List.set_cons_succ]
    refine oneT (i := 8) rfl (by kernel_rfl) (by rfl) (fun K hK => ?_)
    go_simp
    refine hK.out _ _ (fun _ => HT2.out) ?_
    clear hK K
    refine oneL (i := 9) (by kernel_rfl) rfl (by kernel_rfl) (by rfl) (fun K hK => ?_)
    go_simp
    refine hK.out _ _ ?_
    clear hK K
    refine oneT (i := 10) rfl (by kernel_rfl) (by rfl) (fun K hK => ?_)
    go_simp
    refine hK.out _ _ (fun h => (by cases h)) ?_
    clear hK K
    refine doneT (by kernel_rfl) ?_ _
    go_wp2_with fail
    have k4 := Only.set w2 w.heap.size 1 (.slice A3 (s.ts.length + 1) c3)
    have J4 := k4.far J3.out (by omega)
    obtain ⟨e5, k5⟩ := put2 J4 (.slice A1 s.ks.length c1) (.slice A3 (s.ts.length + 1) c3)
    obtain ⟨x0, x1⟩ := cells2 e5
    have h5 : Below w.heap.size w w2 := BX.out.trans ((HB5.out.mono BX.out.size).trans (B3.out.mono (by have := HS.out; omega)))
    refine bodyPost_ret (v := .tuple #[.agg #[.slice A1 s.ks.length c1, .slice A3 (s.ts.length + 1) c3], .int .i64 0]) (by simp [results, Try.results12, go_sem, x0, x1]) rfl ⟨A1, c1, A3, c3, by simp, ⟨?_, ?_⟩, k5.bel (k4.bel h5 (Nat.le_refl _)) (by omega)⟩
    · exact ((T3.out.only k4 HT2.out.1 (by decide)).only k5 J4 (by decide)).weaker (by have := HS.out; omega)
    · simp only [List.length_append, List.length_cons, List.length_nil, Nat.zero_add]
      exact ((O3.out.only k4 HT2.out.1 (by decide) (by decide)).only k5 J4 (by decide) (by decide)).weaker (by have := HS.out; omega)
  · obtain rfl := (postN_full hge).symm.trans HS'.out
    obtain rfl := (fullE_yes hge).symm.trans HE'.out
    refine oneT (i := 4) rfl (by kernel_rfl) (by rfl) (fun K hK => ?_)
    go_simp
    go_at_call 27
    refine (putT_full A2 s.ts.length c2 { x with A := A5, c := c5 } y1 hge).mono ?_
    rintro e w2 ⟨rfl, rfl⟩
    have bA := (Below.refl y1.heap.size y1).alloc (Nat.le_refl _) (.cells #[.int .i64 x.call, .int .u8 x.kind, .int .u8 x.code, .int .i64 x.id, .slice A5 x.n c5, .bool x.more] 30)
    obtain ⟨w2, hY⟩ : ∃ w2, y1.alloc (.cells #[.int .i64 x.call, .int .u8 x.kind, .int .u8 x.code, .int .i64 x.id, .slice A5 x.n c5, .bool x.more] 30) = w2 := ⟨_, rfl⟩
    rw [hY] at bA
    rw [hY]
    clear hY
    have HT2 : Hid ((fun V' => Whole V' w.heap.size 25 #[.slice A1 s.ks.length c1, .slice A2 s.ts.length c2] ∧ Whole V' (w.heap.size + 1) 30 #[.int .i64 x.call, .int .u8 x.kind, .int .u8 x.code, .int .i64 x.id, .slice x.A x.n x.c, .bool x.more]) w2) := Lib.hid ⟨HT1.out.1.under bA, HT1.out.2.under bA⟩
    have j3 := HX3.out.under bA
    have J3 := Lib.hid j3
    have BA := Lib.hid bA
    have O3 := Lib.hid (HO3.out.under bA)
    refine hK.out _ _ (fun _ => HT2.out) ?_
    clear hK K
    obtain ⟨⟨y0, y1⟩, z0, z1, z2, z3, z4, z5⟩ := HL.out _ HT2.out
    have p1 := HT2.out.1.frozen 1
    obtain ⟨r0, r1⟩ := cells2 j3
    have q0 := j3.frozen 0
    have q1 := j3.frozen 1
    clear j3 bA
    refine takeP (i := 5) (v := ?_) rfl (by kernel_rfl) (by kernel_rfl) (by kernel_rfl) (by kernel_rfl) (fun _ _ _ h => h) (by rfl) ?_ (fun _ => HT2.out) ?_
    rotate_left
    · intro V'; go_simp <;> with_reducible rfl
    simp only [Act.put, List.setIfInBounds_toArray, List.set_cons_zero, List.set_cons_succ]
    refine takeP (i := 6) (v := ?_) rfl (by kernel_rfl) (by kernel_rfl) (by kernel_rfl) (by kernel_rfl) (fun _ _ _ h => h) (by rfl) ?_ (fun _ => HT2.out) ?_
    rotate_left
    · intro V'; go_simp <;> with_reducible rfl
    simp only [Act.put, List.setIfInBounds_toArray, List.set_cons_zero, List.set_cons_succ]
    refine takeP (i := 7) (v := ?_) rfl (by kernel_rfl) (by kernel_rfl) (by kernel_rfl) (by kernel_rfl) (fun _ _ _ h => h) (by rfl) ?_ (fun _ => HT2.out) ?_
    rotate_left
    · intro V'; go_simp <;> with_reducible rfl
    simp only [Act.put, List.setIfInBounds_toArray, List.set_cons_zero, List.set_cons_succ]
    refine oneT (i := 8) rfl (by kernel_rfl) (by rfl) (fun K hK => ?_)
    go_simp
    refine hK.out _ _ (fun _ => HT2.out) ?_
    clear hK K
    refine oneL (i := 9) (by kernel_rfl) rfl (by kernel_rfl) (by rfl) (fun K hK => ?_)
    go_simp
    refine hK.out _ _ ?_
    clear hK K
    refine oneT (i := 10) rfl (by kernel_rfl) (by rfl) (fun K hK => ?_)
    go_simp
    refine hK.out _ _ (fun h => (by cases h)) ?_
    clear hK K
    refine doneT (by kernel_rfl) ?_ _
    go_wp2_with fail
    have k4 := Only.set w2 w.heap.size 1 (.slice A2 s.ts.length c2)
    have J4 := k4.far J3.out (by omega)
    obtain ⟨e5, k5⟩ := put2 J4 (.slice A1 s.ks.length c1) (.slice A2 s.ts.length c2)
    obtain ⟨x0, x1⟩ := cells2 e5
    have h5 : Below w.heap.size w w2 := BX.out.trans ((HB5.out.mono BX.out.size).trans (BA.out.mono (by have := HB5.out.size; have := BX.out.size; omega)))
    refine bodyPost_ret (v := .tuple #[.agg #[.slice A1 s.ks.length c1, .slice A2 s.ts.length c2], .int .i64 110]) (by simp [results, Try.results12, go_sem, x0, x1]) rfl ⟨A1, c1, A2, c2, rfl, ?_, k5.bel (k4.bel h5 (Nat.le_refl _)) (by omega)⟩
    exact ((O3.out.only k4 HT2.out.1 (by decide) (by decide) (by decide)).only k5 J4 (by decide) (by decide) (by decide)).weaker (by have := HS.out; omega)

end Go.Proofs.Ytcbbjloojngoiaa
