/-
  The walks of the document's own 'Send' and 'Post' of ways. Conditions: those that each theorem names.
-/
import Derived.Test.YtcbbjloojngoiaaNtRefOwn
import Derived.Test.YtcbbjloojngoiaaNtSend
namespace Go.Proofs.Ytcbbjloojngoiaa
open Go.RowKit Go.Shelf

set_option maxRecDepth 100000 in
set_option maxHeartbeats 2000000 in
theorem refSend_any (A : Option Addr) (n c : Nat) (A' : Option Addr) (n' c' : Nat) (s : Nt) (q : Ak) (w : World) (hr : NtR w A n A' n' s) :
    Calls Try.prog 11 #[.agg #[.slice A n c, .slice A' n' c'], .agg #[.int .u8 q.kind, .int .i64 q.call, .int .i64 q.a, .int .i64 q.b, .int .i64 q.c, .int .i64 q.d]] w (SendPost (sendN s q) (fullE s.ks.length) w) := by
  obtain ⟨hb, h1, h2, h3⟩ := three_new w 25 27 25 #[.slice A n c, .slice A' n' c'] #[.int .u8 q.kind, .int .i64 q.call, .int .i64 q.a, .int .i64 q.b, .int .i64 q.c, .int .i64 q.d] #[.slice none 0 0, .slice none 0 0]
  obtain ⟨V, hV⟩ : ∃ V, ((w.alloc (.cells #[.slice A n c, .slice A' n' c'] 25)).alloc (.cells #[.int .u8 q.kind, .int .i64 q.call, .int .i64 q.a, .int .i64 q.b, .int .i64 q.c, .int .i64 q.d] 27)).alloc (.cells #[.slice none 0 0, .slice none 0 0] 25) = V := ⟨_, rfl⟩
  have hs : V.heap.size = w.heap.size + 1 + 1 + 1 := by rw [← hV]; simp
  rw [hV] at hb h1 h2 h3
  have HV := Lib.hid hV
  have HR := Lib.hid (hr.up hb)
  have HB := Lib.hid hb
  have H1 := Lib.hid h1
  have H2 := Lib.hid h2
  have H3 := Lib.hid h3
  have HS := Lib.hid hs
  clear hV hr hb h1 h2 h3 hs
  obtain ⟨s', hs'⟩ : ∃ s', sendN s q = s' := ⟨_, rfl⟩
  obtain ⟨er, he'⟩ : ∃ er, fullE s.ks.length = er := ⟨_, rfl⟩
  rw [hs', he']
  have HS' := Lib.hid hs'
  have HE' := Lib.hid he'
  clear hs' he'
  go_enter Try.func11, Try.ntmps11
  go_wp2_with fail
  rw [HV.out]
  clear HV
  refine (refOwn_any A n c A' n' c' s V HR.out).mono ?_
  rintro e w1 ⟨A1, c1, A2, c2, rfl, o1, b1⟩
  have i1 := H1.out.under b1
  have i2 := H2.out.under b1
  have i3 := H3.out.under b1
  obtain ⟨n0, n1⟩ := cells2 i1
  have p0 := i1.frozen 0
  have p1 := i1.frozen 1
  have I1 := Lib.hid i1
  have I2 := Lib.hid i2
  have I3 := Lib.hid i3
  have O1 := Lib.hid o1
  have B1 := Lib.hid b1
  clear i1 i2 i3 o1 b1 H1 H2 H3
  go_upto_region 2 with fail
  obtain ⟨e2, k2⟩ := put2 I1.out (.slice A1 s.ks.length c1) (.slice A2 s.ts.length c2)
  obtain ⟨X, hX⟩ : ∃ X, (w1.setCell ⟨w.heap.size, 0, none⟩ (.slice A1 s.ks.length c1)).setCell ⟨w.heap.size, 1, none⟩ (.slice A2 s.ts.length c2) = X := ⟨_, rfl⟩
  rw [hX] at e2 k2 ⊢
  clear hX n0 n1 p0 p1
  have o2 := O1.out.only k2 I1.out (by decide) (by decide) (by decide)
  have x2 := k2.far I2.out (by omega)
  have x3 := k2.far I3.out (by omega)
  have bX : Below w.heap.size w X := k2.bel (HB.out.trans (B1.out.mono HB.out.size)) (Nat.le_refl _)
  have sX : w.heap.size + 1 + 1 + 1 ≤ X.heap.size := by rw [k2.size]; have := B1.out.size; have := HS.out; omega
  obtain ⟨n0, n1⟩ := cells2 e2
  have E2 := Lib.hid e2
  have X2 := Lib.hid x2
  have O2 := Lib.hid o2
  have X3 := Lib.hid x3
  have BX := Lib.hid bX
  have SX := Lib.hid sX
  clear e2 k2 o2 x2 x3 bX sX I1 I2 I3 O1 B1
  rcases Nat.lt_or_ge s.ks.length 60 with hlt | hge
  · obtain rfl := (sendN_more hlt).symm.trans HS'.out
    obtain rfl := (fullE_no hlt).symm.trans HE'.out
    have dle : decide ((60 : Int) ≤ (s.ks.length : Int)) = false := by simp; omega
    have bA := (Below.refl X.heap.size X)
    obtain ⟨A3, c3, w2, hrun, o3, b3, _, h3, t3⟩ := asks_put X V.heap.size _ _ O2.out.ks q (by omega) (by have := SX.out; have := HS.out; omega) X.heap.size rfl
    have j1 := h3 _ _ _ E2.out (by decide)
    have j3 := h3 _ _ _ X3.out (by decide)
    have k4 := Only.set w2 w.heap.size 0 (.slice A3 (s.ks.length + 1) c3)
    have e4 := j1.set 0 (.slice A3 (s.ks.length + 1) c3)
    simp only [List.setIfInBounds_toArray, List.set_cons_zero] at e4
    have o4 : NtO V.heap.size (w2.setCell ⟨w.heap.size, 0, none⟩ (.slice A3 (s.ks.length + 1) c3)) A3 c3 A2 c2 ⟨s.ks ++ [q], s.ts⟩ := ⟨by simp only [List.length_append, List.length_cons, List.length_nil, Nat.zero_add]; exact o3.only k4 j1 (by decide), (t3 _ _ _ O2.out.ts).only k4 j1 (by decide) (by decide)⟩
    have j4 := k4.far j3 (by omega)
    obtain ⟨a0, a1, a2, a3, a4, a5⟩ := cellsW6 X2.out
    obtain ⟨r0, r1⟩ := cells2 j3
    obtain ⟨q0, q1⟩ := cells2 j1
    have f0 := j1.frozen 0
    have g0 := j3.frozen 0
    have g1 := j3.frozen 1
    have HRun := Lib.hid hrun
    have J4 := Lib.hid j4
    have O4 := Lib.hid o4
    have B4 := Lib.hid (k4.bel (BX.out.trans (b3.mono (by have := HS.out; omega))) (Nat.le_refl _))
    clear bA hrun o3 b3 h3 t3 j1 j3 k4 e4 o4 j4
    go_wp2_with (refine wpList_app (by rfl) _ _ 22 rfl _ _ _ w2 (by rfl) (by rfl) HRun.out ?_)
    obtain ⟨e5, k5⟩ := put2 J4.out (.slice A3 (s.ks.length + 1) c3) (.slice A2 s.ts.length c2)
    obtain ⟨y0, y1⟩ := cells2 e5
    refine bodyPost_ret (v := .tuple #[.agg #[.slice A3 (s.ks.length + 1) c3, .slice A2 s.ts.length c2], .int .i64 0]) (by simp [results, Try.results11, go_sem, y0, y1]) rfl ⟨A3, c3, A2, c2, by simp, ?_, k5.bel B4.out (by omega)⟩
    exact (O4.out.only k5 J4.out (by decide) (by decide) (by decide)).weaker (by have := HS.out; omega)
  · obtain rfl := (sendN_full hge).symm.trans HS'.out
    obtain rfl := (fullE_yes hge).symm.trans HE'.out
    have dle : decide ((60 : Int) ≤ (s.ks.length : Int)) = true := by simp; omega
    obtain ⟨r0, r1⟩ := cells2 X3.out
    have g0 := X3.out.frozen 0
    have g1 := X3.out.frozen 1
    have J4 := X3
    have O4 := O2
    have B4 := BX
    go_wp2_with fail
    obtain ⟨e5, k5⟩ := put2 J4.out (.slice A1 s.ks.length c1) (.slice A2 s.ts.length c2)
    obtain ⟨y0, y1⟩ := cells2 e5
    refine bodyPost_ret (v := .tuple #[.agg #[.slice A1 s.ks.length c1, .slice A2 s.ts.length c2], .int .i64 110]) (by simp [results, Try.results11, go_sem, y0, y1]) rfl ⟨A1, c1, A2, c2, by simp, ?_, k5.bel B4.out (by omega)⟩
    exact (O4.out.only k5 J4.out (by decide) (by decide) (by decide)).weaker (by have := HS.out; omega)

set_option maxRecDepth 100000 in
set_option maxHeartbeats 2000000 in
theorem refPost_any (A : Option Addr) (n c : Nat) (A' : Option Addr) (n' c' : Nat) (s : Nt) (x : TE) (w : World) (hr : NtR w A n A' n' s) (hx : TeR w x) :
    Calls Try.prog 13 #[.agg #[.slice A n c, .slice A' n' c'], .agg #[.int .i64 x.call, .int .u8 x.kind, .int .u8 x.code, .int .i64 x.id, .slice x.A x.n x.c, .bool x.more]] w (SendPost (postN s x.t) (fullE s.ts.length) w) := by
  obtain ⟨hb, h1, h2, h3⟩ := three_new w 25 30 25 #[.slice A n c, .slice A' n' c'] #[.int .i64 x.call, .int .u8 x.kind, .int .u8 x.code, .int .i64 x.id, .slice x.A x.n x.c, .bool x.more] #[.slice none 0 0, .slice none 0 0]
  obtain ⟨V, hV⟩ : ∃ V, ((w.alloc (.cells #[.slice A n c, .slice A' n' c'] 25)).alloc (.cells #[.int .i64 x.call, .int .u8 x.kind, .int .u8 x.code, .int .i64 x.id, .slice x.A x.n x.c, .bool x.more] 30)).alloc (.cells #[.slice none 0 0, .slice none 0 0] 25) = V := ⟨_, rfl⟩
  have hs : V.heap.size = w.heap.size + 1 + 1 + 1 := by rw [← hV]; simp
  rw [hV] at hb h1 h2 h3
  have HV := Lib.hid hV
  have HR := Lib.hid (hr.up hb)
  have HB := Lib.hid hb
  have H1 := Lib.hid h1
  have H2 := Lib.hid h2
  have H3 := Lib.hid h3
  have HS := Lib.hid hs
  have HX := Lib.hid hx
  clear hV hr hb h1 h2 h3 hs hx
  obtain ⟨s', hs'⟩ : ∃ s', postN s x.t = s' := ⟨_, rfl⟩
  obtain ⟨er, he'⟩ : ∃ er, fullE s.ts.length = er := ⟨_, rfl⟩
  rw [hs', he']
  have HS' := Lib.hid hs'
  have HE' := Lib.hid he'
  clear hs' he'
  go_enter Try.func13, Try.ntmps13
  go_wp2_with fail
  rw [HV.out]
  clear HV
  refine (refOwn_any A n c A' n' c' s V HR.out).mono ?_
  rintro e w1 ⟨A1, c1, A2, c2, rfl, o1, b1⟩
  have i1 := H1.out.under b1
  have i2 := H2.out.under b1
  have i3 := H3.out.under b1
  obtain ⟨n0, n1⟩ := cells2 i1
  have p0 := i1.frozen 0
  have p1 := i1.frozen 1
  have I1 := Lib.hid i1
  have I2 := Lib.hid i2
  have I3 := Lib.hid i3
  have O1 := Lib.hid o1
  have B1 := Lib.hid b1
  clear i1 i2 i3 o1 b1 H1 H2 H3
  go_upto_region 2 with fail
  obtain ⟨e2, k2⟩ := put2 I1.out (.slice A1 s.ks.length c1) (.slice A2 s.ts.length c2)
  obtain ⟨X, hX⟩ : ∃ X, (w1.setCell ⟨w.heap.size, 0, none⟩ (.slice A1 s.ks.length c1)).setCell ⟨w.heap.size, 1, none⟩ (.slice A2 s.ts.length c2) = X := ⟨_, rfl⟩
  rw [hX] at e2 k2 ⊢
  clear hX n0 n1 p0 p1
  have o2 := O1.out.only k2 I1.out (by decide) (by decide) (by decide)
  have x2 := k2.far I2.out (by omega)
  have x3 := k2.far I3.out (by omega)
  have bX : Below w.heap.size w X := k2.bel (HB.out.trans (B1.out.mono HB.out.size)) (Nat.le_refl _)
  have sX : w.heap.size + 1 + 1 + 1 ≤ X.heap.size := by rw [k2.size]; have := B1.out.size; have := HS.out; omega
  have hxX : TeR X x := ⟨(HX.out.rd.below bX).more bX.size, HX.out.few⟩
  have HXX := Lib.hid hxX
  obtain ⟨n0, n1⟩ := cells2 e2
  have E2 := Lib.hid e2
  have X2 := Lib.hid x2
  have O2 := Lib.hid o2
  have X3 := Lib.hid x3
  have BX := Lib.hid bX
  have SX := Lib.hid sX
  clear e2 k2 o2 x2 x3 bX sX I1 I2 I3 O1 B1 hxX HX
  rcases Nat.lt_or_ge s.ts.length 60 with hlt | hge
  · obtain rfl := (postN_more hlt).symm.trans HS'.out
    obtain rfl := (fullE_no hlt).symm.trans HE'.out
    have dle : decide ((60 : Int) ≤ (s.ts.length : Int)) = false := by simp; omega
    have HT0 : Hid ((fun V' => Whole V' w.heap.size 25 #[.slice A1 s.ks.length c1, .slice A2 s.ts.length c2] ∧ Whole V' (w.heap.size + 1) 30 #[.int .i64 x.call, .int .u8 x.kind, .int .u8 x.code, .int .i64 x.id, .slice x.A x.n x.c, .bool x.more]) X.drew) := Lib.hid ⟨E2.out, X2.out⟩
    have HL : Hid (∀ V', (fun V' => Whole V' w.heap.size 25 #[.slice A1 s.ks.length c1, .slice A2 s.ts.length c2] ∧ Whole V' (w.heap.size + 1) 30 #[.int .i64 x.call, .int .u8 x.kind, .int .u8 x.code, .int .i64 x.id, .slice x.A x.n x.c, .bool x.more]) V' → (V'.cell? ⟨w.heap.size, 0, none⟩ = some (.slice A1 s.ks.length c1) ∧ V'.cell? ⟨w.heap.size, 1, none⟩ = some (.slice A2 s.ts.length c2)) ∧ V'.cell? ⟨w.heap.size + 1, 0, none⟩ = some (.int .i64 x.call) ∧ V'.cell? ⟨w.heap.size + 1, 1, none⟩ = some (.int .u8 x.kind) ∧ V'.cell? ⟨w.heap.size + 1, 2, none⟩ = some (.int .u8 x.code) ∧ V'.cell? ⟨w.heap.size + 1, 3, none⟩ = some (.int .i64 x.id) ∧ V'.cell? ⟨w.heap.size + 1, 4, none⟩ = some (.slice x.A x.n x.c) ∧ V'.cell? ⟨w.heap.size + 1, 5, none⟩ = some (.bool x.more)) := Lib.hid (fun V' h => ⟨cells2 h.1, cellsW6 h.2⟩)
    go_wp2_with fail
    clear n0 n1
    refine wp_region_T (ls := [7]) (T := (fun V' => Whole V' w.heap.size 25 #[.slice A1 s.ks.length c1, .slice A2 s.ts.length c2] ∧ Whole V' (w.heap.size + 1) 30 #[.int .i64 x.call, .int .u8 x.kind, .int .u8 x.code, .int .i64 x.id, .slice x.A x.n x.c, .bool x.more])) (by kernel_rfl) ?_
    refine takeT (i := 0) (v := ?_) rfl (by kernel_rfl) (by kernel_rfl) (by kernel_rfl) (by kernel_rfl) (fun _ _ _ h => h) (by rfl) ?_ HT0.out ?_
    rotate_left
    · intro V' hV; obtain ⟨⟨y0, y1⟩, z0, z1, z2, z3, z4, z5⟩ := HL.out V' hV; go_simp <;> with_reducible rfl
    simp only [Act.put, List.setIfInBounds_toArray, List.set_cons_zero, List.set_cons_succ]
    refine takeT (i := 1) (v := ?_) rfl (by kernel_rfl) (by kernel_rfl) (by kernel_rfl) (by kernel_rfl) (fun _ _ _ h => h) (by rfl) ?_ HT0.out ?_
    rotate_left
    · intro V' hV; obtain ⟨⟨y0, y1⟩, z0, z1, z2, z3, z4, z5⟩ := HL.out V' hV; go_simp <;> with_reducible rfl
    simp only [Act.put, List.setIfInBounds_toArray, List.set_cons_zero, List.set_cons_succ]
    refine takeT (i := 2) (v := ?_) rfl (by kernel_rfl) (by kernel_rfl) (by kernel_rfl) (by kernel_rfl) (fun _ _ _ h => h) (by rfl) ?_ HT0.out ?_
    rotate_left
    · intro V' hV; obtain ⟨⟨y0, y1⟩, z0, z1, z2, z3, z4, z5⟩ := HL.out V' hV; go_simp <;> with_reducible rfl
    simp only [Act.put, List.setIfInBounds_toArray, List.set_cons_zero, List.set_cons_succ]
    refine oneT (i := 3) rfl (by kernel_rfl) (by rfl) (fun K hK => ?_)
    go_simp
    go_at_call 29
    refine (tellT_any x _ (HXX.out.up (Below.refl _ _).drew)).mono ?_
    rintro e y1 ⟨A5, c5, rfl, ho5, hb5⟩
    have hb5' : Below X.heap.size X y1 := (Below.refl X.heap.size X).drew.trans hb5
    have HT1 : Hid ((fun V' => Whole V' w.heap.size 25 #[.slice A1 s.ks.length c1, .slice A2 s.ts.length c2] ∧ Whole V' (w.heap.size + 1) 30 #[.int .i64 x.call, .int .u8 x.kind, .int .u8 x.code, .int .i64 x.id, .slice x.A x.n x.c, .bool x.more]) y1) := Lib.hid ⟨HT0.out.1.under hb5, HT0.out.2.under hb5⟩
    have HO5 := Lib.hid ho5
    have HB5 := Lib.hid hb5'
    have HO3 := Lib.hid (O2.out.under hb5')
    have HX3 := Lib.hid (X3.out.under hb5')
    clear ho5 hb5 hb5' HT0
    refine hK.out _ _ (fun _ => HT1.out) ?_
    clear hK K
    refine oneT (i := 4) rfl (by kernel_rfl) (by rfl) (fun K hK => ?_)
    go_simp
    have bA := (Below.refl y1.heap.size y1).alloc (Nat.le_refl _) (.cells #[.int .i64 x.call, .int .u8 x.kind, .int .u8 x.code, .int .i64 x.id, .slice A5 x.n c5, .bool x.more] 30)
    refine hK.out _ _ (fun _ => ⟨HT1.out.1.under bA, HT1.out.2.under bA⟩) ?_
    clear hK K bA
    obtain ⟨A3, c3, w2, hrun, o3, b3, _, h3, t3⟩ := tells_put y1 V.heap.size _ _ HO3.out.ts { x with A := A5, c := c5 } (own_weaker HO5.out (by have := SX.out; have := HS.out; simpa using (by omega : V.heap.size ≤ X.heap.size))) (by omega) (by have := HB5.out.size; have := SX.out; have := HS.out; omega) y1.heap.size rfl
    have j1 := h3 _ _ _ HT1.out.1 (.inl (by decide))
    have j3 := h3 _ _ _ HX3.out (.inl (by decide))
    have HT2 : Hid ((fun V' => Whole V' w.heap.size 25 #[.slice A1 s.ks.length c1, .slice A2 s.ts.length c2] ∧ Whole V' (w.heap.size + 1) 30 #[.int .i64 x.call, .int .u8 x.kind, .int .u8 x.code, .int .i64 x.id, .slice x.A x.n x.c, .bool x.more]) w2) := Lib.hid ⟨j1, HT1.out.2.below b3 (by have := HS.out; omega)⟩
    have k4 := Only.set w2 w.heap.size 1 (.slice A3 (s.ts.length + 1) c3)
    have o4 : NtO V.heap.size (w2.setCell ⟨w.heap.size, 1, none⟩ (.slice A3 (s.ts.length + 1) c3)) A1 c1 A3 c3 ⟨s.ks, s.ts ++ [x.t]⟩ := ⟨(t3 _ _ _ HO3.out.ks).only k4 j1 (by decide), by simp only [List.length_append, List.length_cons, List.length_nil, Nat.zero_add]; exact o3.only k4 j1 (by decide) (by decide)⟩
    have j4 := k4.far j3 (by omega)
    obtain ⟨r0, r1⟩ := cells2 j3
    obtain ⟨q0, q1⟩ := cells2 j1
    have f1 := j1.frozen 1
    have g0 := j3.frozen 0
    have g1 := j3.frozen 1
    have HRun := Lib.hid hrun
    have J4 := Lib.hid j4
    have O4 := Lib.hid o4
    have B4 := Lib.hid (k4.bel (BX.out.trans ((HB5.out.mono BX.out.size).trans (b3.mono (by have := HS.out; omega)))) (Nat.le_refl _))
    clear hrun o3 b3 h3 t3 j1 j3 k4 o4 j4
    refine oneT (i := 5) rfl (by kernel_rfl) (by rfl) (fun K hK => ?_)
    refine wp_appendH (by rfl) (by rfl) HRun.out ?_
    simp only [Act.put, List.setIfInBounds_toArray, List.set_cons_zero, List.set_cons_succ]
    refine hK.out _ _ (fun _ => HT2.out) ?_
    clear hK K
    refine oneT (i := 6) rfl (by kernel_rfl) (by rfl) (fun K hK => ?_)
    go_simp
    refine hK.out _ _ (fun _ => HT2.out) ?_
    clear hK K
    refine oneL (i := 7) (by kernel_rfl) rfl (by kernel_rfl) (by rfl) (fun K hK => ?_)
    go_simp
    refine hK.out _ _ ?_
    clear hK K
    refine doneT (by kernel_rfl) ?_ _
    go_wp2_with fail
    obtain ⟨e5, k5⟩ := put2 J4.out (.slice A1 s.ks.length c1) (.slice A3 (s.ts.length + 1) c3)
    obtain ⟨y0, y1⟩ := cells2 e5
    refine bodyPost_ret (v := .tuple #[.agg #[.slice A1 s.ks.length c1, .slice A3 (s.ts.length + 1) c3], .int .i64 0]) (by simp [results, Try.results13, go_sem, y0, y1]) rfl ⟨A1, c1, A3, c3, by simp, ?_, k5.bel B4.out (by omega)⟩
    exact (O4.out.only k5 J4.out (by decide) (by decide) (by decide)).weaker (by have := HS.out; omega)
  · obtain rfl := (postN_full hge).symm.trans HS'.out
    obtain rfl := (fullE_yes hge).symm.trans HE'.out
    have dle : decide ((60 : Int) ≤ (s.ts.length : Int)) = true := by simp; omega
    obtain ⟨r0, r1⟩ := cells2 X3.out
    have g0 := X3.out.frozen 0
    have g1 := X3.out.frozen 1
    have J4 := X3
    have O4 := O2
    have B4 := BX
    go_wp2_with fail
    obtain ⟨e5, k5⟩ := put2 J4.out (.slice A1 s.ks.length c1) (.slice A2 s.ts.length c2)
    obtain ⟨y0, y1⟩ := cells2 e5
    refine bodyPost_ret (v := .tuple #[.agg #[.slice A1 s.ks.length c1, .slice A2 s.ts.length c2], .int .i64 110]) (by simp [results, Try.results13, go_sem, y0, y1]) rfl ⟨A1, c1, A2, c2, by simp, ?_, k5.bel B4.out (by omega)⟩
    exact (O4.out.only k5 J4.out (by decide) (by decide) (by decide)).weaker (by have := HS.out; omega)

end Go.Proofs.Ytcbbjloojngoiaa
