/-
  The walk of the document's own 'Ask' of ways. Conditions: those that each theorem names.
-/
import Derived.Test.YtcbbjloojngoiaaNtRefSend
import Derived.Test.YtcbbjloojngoiaaNtAsk
import Derived.Test.YtcbbjloojngoiaaNtTell
namespace Go.Proofs.Ytcbbjloojngoiaa
open Go.RowKit Go.Shelf

theorem whole_drew {w : World} {b : Nat} {t : TypeId} {cs : Array Value} (h : Whole w b t cs) : Whole w.drew b t cs := h
theorem q_at {Q : Exit → Act → World → Prop} {e : Exit} {a : Act} {W : World} (h : ∀ V, W = V → Q e a V) : Q e a W := h W rfl
theorem wrapI_mid {n : Int} (h0 : 0 ≤ n) (h1 : n ≤ 1000000) : IntKind.i64.wrap n = n := by
  simp only [IntKind.wrap, IntKind.bits, IntKind.signed]
  simp
  split <;> omega
theorem own_capF {w : World} {base : Nat} {e : TypeId} {s n c : Nat} {A : Option Addr} {xs : List Value} (h : w.ownsRow base e s (.slice A n c) n xs) : n ≤ c := by
  rcases h.2 with ⟨h1, h2⟩ | ⟨g, cap, cur, h1, _, _, h2, _⟩
  · omega
  · injection h1 with _ _ h3
    omega

set_option maxRecDepth 100000 in
set_option maxHeartbeats 4000000 in
theorem refAsk_any (A : Option Addr) (n c : Nat) (A' : Option Addr) (n' c' : Nat) (s : Nt) (z : Int) (w : World) (hr : NtR w A n A' n' s) :
    Calls Try.prog 18 #[.agg #[.slice A n c, .slice A' n' c'], .int .i64 z] w (AskPost s z w) := by
  obtain ⟨hb, h1, h2, h3⟩ := three_new w 25 25 27 #[.slice A n c, .slice A' n' c'] #[.slice none 0 0, .slice none 0 0] #[.int .u8 0, .int .i64 0, .int .i64 0, .int .i64 0, .int .i64 0, .int .i64 0]
  obtain ⟨V, hV⟩ : ∃ V, ((w.alloc (.cells #[.slice A n c, .slice A' n' c'] 25)).alloc (.cells #[.slice none 0 0, .slice none 0 0] 25)).alloc (.cells #[.int .u8 0, .int .i64 0, .int .i64 0, .int .i64 0, .int .i64 0, .int .i64 0] 27) = V := ⟨_, rfl⟩
  have hs : V.heap.size = w.heap.size + 1 + 1 + 1 := by rw [← hV]; simp
  rw [hV] at hb h1 h2 h3
  have HV := Lib.hid hV
  have HF := Lib.hid hr.few
  have HR := Lib.hid (hr.up hb)
  have HB := Lib.hid hb
  have H1 := Lib.hid h1
  have H2 := Lib.hid h2
  have H3 := Lib.hid h3
  have HS := Lib.hid hs
  clear hV hr hb h1 h2 h3 hs
  go_enter Try.func18, Try.ntmps18
  go_wp2_with fail
  rw [HV.out]
  clear HV
  refine (refOwn_any A n c A' n' c' s V HR.out).mono ?_
  rintro e w1 ⟨A1, c1, A2, c2, rfl, o1, b1⟩
  have i1 := H1.out.under b1
  have i2 := H2.out.under b1
  have i3 := H3.out.under b1
  obtain ⟨n0, n1⟩ := cells2 i1
  have p0 := i1.frozen 0
  have p1 := i1.frozen 1
  have I1 := Lib.hid i1
  have I2 := Lib.hid i2
  have I3 := Lib.hid i3
  have O1 := Lib.hid o1
  have B1 := Lib.hid b1
  clear i1 i2 i3 o1 b1 H1 H2 H3
  go_upto_region 2 with fail
  obtain ⟨e2, k2⟩ := put2 I1.out (.slice A1 s.ks.length c1) (.slice A2 s.ts.length c2)
  obtain ⟨X, hX⟩ : ∃ X, (w1.setCell ⟨w.heap.size, 0, none⟩ (.slice A1 s.ks.length c1)).setCell ⟨w.heap.size, 1, none⟩ (.slice A2 s.ts.length c2) = X := ⟨_, rfl⟩
  rw [hX] at e2 k2 ⊢
  clear hX n0 n1 p0 p1
  have o2 := O1.out.only k2 I1.out (by decide) (by decide) (by decide)
  have x2 := k2.far I2.out (by omega)
  have x3 := k2.far I3.out (by omega)
  have bX : Below w.heap.size w X := k2.bel (HB.out.trans (B1.out.mono HB.out.size)) (Nat.le_refl _)
  have sX : w.heap.size + 1 + 1 + 1 ≤ X.heap.size := by rw [k2.size]; have := B1.out.size; have := HS.out; omega
  obtain ⟨n0, n1⟩ := cells2 e2
  have E2 := Lib.hid e2
  have O2 := Lib.hid o2
  have X2 := Lib.hid x2
  have X3 := Lib.hid x3
  have BX := Lib.hid bX
  have SX := Lib.hid sX
  clear e2 k2 o2 x2 x3 bX sX I1 I2 I3 O1 B1
  rcases Nat.eq_zero_or_pos s.ks.length with h0 | hpos
  · have e0 : ((s.ks.length : Int) == 0) = true := by rw [beq_iff_eq]; omega
    have hnil : s.ks = [] := List.eq_nil_of_length_eq_zero h0
    have hN := askN_nil hnil z
    have hA := askA_nil hnil z
    have HN := Lib.hid hN
    have HA := Lib.hid hA
    have HZ := Lib.hid h0
    clear h0 hnil hN hA
    obtain ⟨r0, r1⟩ := cells2 X2.out
    have g0 := X2.out.frozen 0
    have g1 := X2.out.frozen 1
    obtain ⟨a0, a1, a2, a3, a4, a5⟩ := cellsW6 X3.out
    have t0 := X3.out.frozen 0
    have t1 := X3.out.frozen 1
    have t2 := X3.out.frozen 2
    have t3 := X3.out.frozen 3
    have t4 := X3.out.frozen 4
    have t5 := X3.out.frozen 5
    go_wp2_with fail
    obtain ⟨e5, k5⟩ := put2 X2.out (.slice A1 s.ks.length c1) (.slice A2 s.ts.length c2)
    obtain ⟨e6, k6⟩ := put6 (k5.far X3.out (by omega)) (.int .u8 0) (.int .i64 0) (.int .i64 0) (.int .i64 0) (.int .i64 0) (.int .i64 0)
    obtain ⟨y0, y1⟩ := cells2 (k6.far e5 (by omega))
    obtain ⟨z0, z1, z2, z3, z4, z5⟩ := cellsW6 e6
    refine bodyPost_ret (v := .tuple #[.agg #[.slice A1 s.ks.length c1, .slice A2 s.ts.length c2], .agg #[.int .u8 0, .int .i64 0, .int .i64 0, .int .i64 0, .int .i64 0, .int .i64 0], .bool false]) (by simp [results, Try.results18, go_sem, y0, y1, z0, z1, z2, z3, z4, z5]) rfl ⟨A1, c1, A2, c2, ⟨0, 0, 0, 0, 0, 0⟩, ?_, ?_, ?_, k6.bel (k5.bel BX.out (by omega)) (by omega)⟩
    · rw [HN.out, show decide (0 < s.ks.length) = false by rw [HZ.out]; rfl]
    · rw [HA.out]; rfl
    · rw [HN.out]
      have o5 := O2.out.only k5 X2.out (by decide) (by decide) (by decide)
      refine NtO.weaker (base' := V.heap.size) ⟨k6.ownB o5.ks (by have := HS.out; omega), ?_⟩ (by have := HS.out; omega)
      obtain ⟨es5, v1, v2, v3⟩ := o5.ts
      exact ⟨es5, k6.ownB v1 (by have := HS.out; omega), v2, fun y hy => k6.ownB (v3 y hy) (by have := HS.out; omega)⟩
  · have e0 : ((s.ks.length : Int) == 0) = false := by rw [beq_eq_false_iff_ne]; omega
    have hN100 : s.ks.length ≤ 100 := HF.out.ks
    obtain ⟨k, hkz⟩ : ∃ k, placeN z s.ks.length = k := ⟨_, rfl⟩
    have hk : k < s.ks.length := by rw [← hkz]; exact placeN_lt hpos z
    have hki : (k : Int) < (s.ks.length : Int) := by omega
    have hkl : (k : Int) ≤ (s.ks.length : Int) := by omega
    have hrow : X.ownsRow V.heap.size 27 6 (.slice A1 s.ks.length c1) s.ks.length (s.ks.flatMap Ak.vs) := O2.out.ks
    have hcap := own_capF hrow
    have hrd := RdF.of_own Ak.vs_len (by omega) hrow
    obtain ⟨b, off, hAe, hbl, hcell⟩ := hrd.2 hpos
    subst hAe
    obtain ⟨q, hqk⟩ : ∃ q, s.ks[k]? = some q := ⟨_, List.getElem?_eq_getElem (by exact hk)⟩
    obtain ⟨c0, c1_, c2_, c3_, c4_, c5_⟩ := akAt_of (hcell k q hqk)
    have hq : askA s z = some q := by rw [askA, hkz]; exact hqk
    obtain ⟨k1, hk1⟩ : ∃ k1, k + 1 = k1 := ⟨_, rfl⟩
    have hw1 : IntKind.i64.wrap ((k : Int) + 1) = (k1 : Int) := by rw [wrapI_mid (by omega) (by omega)]; omega
    have hk1l : (k1 : Int) ≤ (s.ks.length : Int) := by omega
    obtain ⟨A9, hA9d⟩ : ∃ A9, (if c1 = k1 then some (⟨b, off, none⟩ : Addr) else some ⟨b, off + k1 * 6, none⟩) = A9 := ⟨_, rfl⟩
    have hA9 : k1 < s.ks.length → A9 = some ⟨b, off + k1 * 6, none⟩ := fun h => by rw [← hA9d, if_neg (by omega)]
    have HKZ := Lib.hid hkz
    have HP := Lib.hid hpos
    have HK := Lib.hid hk
    have HN := Lib.hid hN100
    have HROW := Lib.hid hrow
    have HRD := Lib.hid hrd
    have HA9 := Lib.hid hA9
    have HCAP := Lib.hid hcap
    have HQ := Lib.hid hq
    have HA9D := Lib.hid hA9d
    have HW1 := Lib.hid hw1
    have HK1 := Lib.hid hk1
    have HK1L := Lib.hid hk1l
    clear hkz hpos hrow hrd hA9 hA9d hw1 hk1 hk1l hcap hcell hqk hq hbl
    go_wp2_with fail
    refine (refPlace_any z s.ks.length HP.out (by have := HN.out; omega) _).mono ?_
    rintro e y1 ⟨rfl, hy1⟩
    have hy1 := hy1.symm
    subst hy1
    rw [HKZ.out]
    go_upto_region 6 with fail
    clear n0 n1 c0 c1_ c2_ c3_ c4_ c5_
    refine wp_at (fun Y hY => ?_)
    obtain ⟨hbu, hg⟩ : Below X.heap.size X Y ∧ Whole Y X.heap.size 27 #[.int .u8 q.kind, .int .i64 q.call, .int .i64 q.a, .int .i64 q.b, .int .i64 q.c, .int .i64 q.d] := by rw [← hY]; exact ⟨(Below.refl _ _).alloc (Nat.le_refl _) _, Whole.new _ _ _⟩
    obtain ⟨g, hge⟩ : ∃ g, X.heap.size = g := ⟨_, rfl⟩
    have HGE : Hid (w.heap.size + 1 + 1 + 1 ≤ g) := Lib.hid (by rw [← hge]; exact SX.out)
    rw [hge] at hg
    rw [hge]
    have EY := Lib.hid (E2.out.under hbu)
    have Y2 := Lib.hid (X2.out.under hbu)
    have Y3 := Lib.hid (X3.out.under hbu)
    have YG := Lib.hid hg
    have HOO := Lib.hid (O2.out.under hbu)
    have BY := Lib.hid (BX.out.trans (hbu.mono BX.out.size))
    have HBU := Lib.hid hbu
    have HRY := Lib.hid (HRD.out.up hbu)
    have HGY : Hid (g < Y.heap.size) := Lib.hid hg.lt
    clear hY hbu hg E2 X2 X3 O2 BX HRD hge
    -- what the two appends tell
    obtain ⟨Yd, hYd⟩ : ∃ Yd, Y.drew = Yd := ⟨_, rfl⟩
    have bd : Below Y.heap.size Y Yd := by rw [← hYd]; exact (Below.refl _ _).drew
    have sd : Yd.heap.size = Y.heap.size := by rw [← hYd]; rfl
    have hown0 := World.ownsRow_made (base := Y.heap.size) (e := 27) (size := 6) Yd #[] 0 (by omega) (Nat.zero_le _) rfl
    have bl := (Below.refl Yd.heap.size Yd).alloc (Nat.le_refl _) (.cells #[] 27)
    have hrd1 := HRY.out.below (bd.trans (bl.mono (by omega)))
    obtain ⟨v5, y5, run5, o5, g5⟩ := run_appF Try.underlying22 info_ak rfl (by decide) Ak.vs_len Ak.vs_one (Yd.alloc (.cells #[] 27)) Y.heap.size _ 0 _ hown0 _ _ k c1 (s.ks.take k) (hrd1.take (by omega)) (by unfold maxLen; omega) (by omega) (by simp; omega)
    obtain ⟨A5, c5, rfl⟩ := own_formF o5
    have b5 : Below Y.heap.size Y y5 := (bd.trans (bl.mono (by omega))).trans (below_row hown0 g5 (by simp; omega))
    obtain ⟨v6, y6, run6, o6, g6⟩ := run_appF Try.underlying22 info_ak rfl (by decide) Ak.vs_len Ak.vs_one y5 Y.heap.size _ (0 + k) _ o5 _ A9 (s.ks.length - k1) (c1 - k1) (s.ks.drop k1) ((HRY.out.below b5).drop (by have := HK1.out; omega) (A' := A9) (fun h b' off' he => by rw [HA9.out h]; injection he with he; injection he with h1 h2; rw [h1, h2])) (by unfold maxLen; have := HK1.out; omega) (by have := HK1.out; omega) b5.size
    obtain ⟨A4, c4, rfl⟩ := own_formF o6
    have b6 : Below Y.heap.size Y y6 := b5.trans (below_row o5 g6 b5.size)
    obtain ⟨m, hm⟩ : ∃ m, (s.ks.eraseIdx k).length = m := ⟨_, rfl⟩
    have hmm : 0 + k + (s.ks.length - k1) = m := by
      have hk1 := HK1.out
      rw [← hm, List.length_eraseIdx_of_lt (by exact hk)]
      
      omega
    rw [hmm] at run6 o6
    rw [List.nil_append, ← List.flatMap_append, ← HK1.out, eraseIdx_two] at o6
    rw [Nat.zero_add] at run5 run6
    rw [sd] at run5
    have j1 := EY.out.under b6
    have j2 := Y2.out.under b6
    have j3 := Y3.out.under b6
    have jg := YG.out.under b6
    have ts6 := HOO.out.ts.under b6
    have k7 := Only.set y6 w.heap.size 0 (.slice A4 m c4)
    have e7 := j1.set 0 (.slice A4 m c4)
    simp only [List.setIfInBounds_toArray, List.set_cons_zero] at e7
    have r7 := own_weaker (base := V.heap.size) (k7.own o6 j1 (by decide)) (by have := BY.out.size; have := HS.out; have := SX.out; have := HBU.out.size; omega)
    have ts7 := ts6.only k7 j1 (by decide) (by decide)
    have f7 := j1.frozen 0
    obtain ⟨q0, q1⟩ := cells2 j1
    have J2 := Lib.hid (k7.far j2 (by omega))
    have J3 := Lib.hid (k7.far j3 (by omega))
    have JG := Lib.hid (k7.far jg (by have := HGE.out; omega))
    have B7 := Lib.hid (k7.bel (BY.out.trans (b6.mono BY.out.size)) (Nat.le_refl _))
    have E7 := Lib.hid e7
    have R7 := Lib.hid r7
    have KEEP7 := Lib.hid (show True ∧ True from ⟨trivial, trivial⟩)
    have TS7 := Lib.hid ts7
    have HM := Lib.hid hm
    have RUN5 := Lib.hid run5
    have RUN6 := Lib.hid run6
    have HT0 : Hid ((fun V' => Whole V' w.heap.size 25 #[.slice (some ⟨b, off, none⟩) s.ks.length c1, .slice A2 s.ts.length c2]) Yd) := Lib.hid (EY.out.under bd)
    have HT5 : Hid ((fun V' => Whole V' w.heap.size 25 #[.slice (some ⟨b, off, none⟩) s.ks.length c1, .slice A2 s.ts.length c2]) y5) := Lib.hid (EY.out.under b5)
    have HT6 : Hid ((fun V' => Whole V' w.heap.size 25 #[.slice (some ⟨b, off, none⟩) s.ks.length c1, .slice A2 s.ts.length c2]) y6) := Lib.hid j1
    have HTL : Hid ((fun V' => Whole V' w.heap.size 25 #[.slice (some ⟨b, off, none⟩) s.ks.length c1, .slice A2 s.ts.length c2]) (Yd.alloc (.cells #[] 27))) := Lib.hid ((EY.out.under bd).under bl)
    have HL : Hid (∀ V', (fun V' => Whole V' w.heap.size 25 #[.slice (some ⟨b, off, none⟩) s.ks.length c1, .slice A2 s.ts.length c2]) V' → V'.cell? ⟨w.heap.size, 0, none⟩ = some (.slice (some ⟨b, off, none⟩) s.ks.length c1) ∧ V'.cell? ⟨w.heap.size, 1, none⟩ = some (.slice A2 s.ts.length c2)) := Lib.hid (fun V' h => cells2 h)
    have HYD := Lib.hid hYd
    have SD := Lib.hid sd
    clear hYd bd sd hown0 bl hrd1 o5 g5 b5 o6 g6 b6 hm hmm j1 j2 j3 jg k7 e7 r7 run5 run6 ts6 ts7
    have hw1 := HW1.out
    have hk1l := HK1L.out
    have hk1n : k1 ≤ s.ks.length := by omega
    have hkc : k ≤ c1 := by have := HCAP.out; omega
    refine wp_region_T (ls := [13]) (T := (fun V' => Whole V' w.heap.size 25 #[.slice (some ⟨b, off, none⟩) s.ks.length c1, .slice A2 s.ts.length c2])) (by kernel_rfl) ?_
    rw [HYD.out]
    refine takeP (i := 1) (v := ?_) rfl (by kernel_rfl) (by kernel_rfl) (by kernel_rfl) (by kernel_rfl) (fun _ _ _ h => h) (by rfl) ?_ (fun _ => HT0.out) ?_
    rotate_left
    · intro V'; go_simp <;> with_reducible rfl
    simp only [Act.put, List.setIfInBounds_toArray, List.set_cons_zero, List.set_cons_succ]
    refine takeT (i := 2) (v := ?_) rfl (by kernel_rfl) (by kernel_rfl) (by kernel_rfl) (by kernel_rfl) (fun _ _ _ h => h) (by rfl) ?_ HT0.out ?_
    rotate_left
    · intro V' hV; obtain ⟨y0, y1⟩ := HL.out V' hV; go_simp <;> with_reducible rfl
    simp only [Act.put, List.setIfInBounds_toArray, List.set_cons_zero, List.set_cons_succ]
    refine takeP (i := 3) (v := ?_) rfl (by kernel_rfl) (by kernel_rfl) (by kernel_rfl) (by kernel_rfl) (fun _ _ _ h => h) (by rfl) ?_ (fun _ => HT0.out) ?_
    rotate_left
    · intro V'; go_simp <;> with_reducible rfl
    simp only [Act.put, List.setIfInBounds_toArray, List.set_cons_zero, List.set_cons_succ]
    refine takeP (i := 4) (v := ?_) rfl (by kernel_rfl) (by kernel_rfl) (by kernel_rfl) (by kernel_rfl) (fun _ _ _ h => h) (by rfl) ?_ (fun _ => HT0.out) ?_
    rotate_left
    · intro V'; go_simp <;> with_reducible rfl
    simp only [Act.put, List.setIfInBounds_toArray, List.set_cons_zero, List.set_cons_succ]
    refine takeP (i := 6) (v := ?_) rfl (by kernel_rfl) (by kernel_rfl) (by kernel_rfl) (by kernel_rfl) (fun _ _ _ h => h) (by rfl) ?_ (fun _ => HT0.out) ?_
    rotate_left
    · intro V'; go_simp <;> with_reducible rfl
    simp only [Act.put, List.setIfInBounds_toArray, List.set_cons_zero, List.set_cons_succ]
    refine takeT (i := 7) (v := ?_) rfl (by kernel_rfl) (by kernel_rfl) (by kernel_rfl) (by kernel_rfl) (fun _ _ _ h => h) (by rfl) ?_ HT0.out ?_
    rotate_left
    · intro V' hV; obtain ⟨y0, y1⟩ := HL.out V' hV; go_simp <;> with_reducible rfl
    simp only [Act.put, List.setIfInBounds_toArray, List.set_cons_zero, List.set_cons_succ]
    refine takeP (i := 8) (v := ?_) rfl (by kernel_rfl) (by kernel_rfl) (by kernel_rfl) (by kernel_rfl) (fun _ _ _ h => h) (by rfl) ?_ (fun _ => HT0.out) ?_
    rotate_left
    · intro V'; go_simp <;> with_reducible rfl
    simp only [Act.put, List.setIfInBounds_toArray, List.set_cons_zero, List.set_cons_succ]
    refine takeP (i := 9) (v := ?_) rfl (by kernel_rfl) (by kernel_rfl) (by kernel_rfl) (by kernel_rfl) (fun _ _ _ h => h) (by rfl) ?_ (fun _ => HT0.out) ?_
    rotate_left
    · intro V'; go_simp <;> with_reducible rfl
    simp only [Act.put, List.setIfInBounds_toArray, List.set_cons_zero, List.set_cons_succ]
    refine takeP (i := 10) (v := ?_) rfl (by kernel_rfl) (by kernel_rfl) (by kernel_rfl) (by kernel_rfl) (fun _ _ _ h => h) (by rfl) ?_ (fun _ => HT0.out) ?_
    rotate_left
    · intro V'; go_simp <;> with_reducible rfl
    simp only [Act.put, List.setIfInBounds_toArray, List.set_cons_zero, List.set_cons_succ]
    rw [HA9D.out]
    refine oneT (i := 0) rfl (by kernel_rfl) (by rfl) (fun K hK => ?_)
    go_simp
    rw [SD.out]
    refine hK.out _ _ (fun _ => HTL.out) ?_
    clear hK K
    refine oneT (i := 5) rfl (by kernel_rfl) (by rfl) (fun K hK => ?_)
    refine wp_appendH (by rfl) (by rfl) RUN5.out ?_
    simp only [Act.put, List.setIfInBounds_toArray, List.set_cons_zero, List.set_cons_succ]
    refine hK.out _ _ (fun _ => HT5.out) ?_
    clear hK K
    refine oneT (i := 11) rfl (by kernel_rfl) (by rfl) (fun K hK => ?_)
    refine wp_appendH (by rfl) (by rfl) RUN6.out ?_
    simp only [Act.put, List.setIfInBounds_toArray, List.set_cons_zero, List.set_cons_succ]
    refine hK.out _ _ (fun _ => HT6.out) ?_
    clear hK K
    refine oneT (i := 12) rfl (by kernel_rfl) (by rfl) (fun K hK => ?_)
    go_simp
    refine hK.out _ _ (fun _ => HT6.out) ?_
    clear hK K
    refine oneL (i := 13) (by kernel_rfl) rfl (by kernel_rfl) (by rfl) (fun K hK => ?_)
    go_simp
    refine hK.out _ _ ?_
    clear hK K
    refine doneT (by kernel_rfl) ?_ _
    go_upto_region 7 with fail
    clear HT0 HT5 HT6 HTL HL RUN5 RUN6 q0 q1 f7
    refine wp_at (fun X7 hX7 => ?_)
    rw [hX7] at E7 J2 J3 JG B7 R7 TS7
    clear hX7
    have HT0 : Hid ((fun V' => Whole V' w.heap.size 25 #[.slice A4 m c4, .slice A2 s.ts.length c2] ∧ Whole V' g 27 #[.int .u8 q.kind, .int .i64 q.call, .int .i64 q.a, .int .i64 q.b, .int .i64 q.c, .int .i64 q.d]) X7.drew) := Lib.hid ⟨E7.out, JG.out⟩
    have HL : Hid (∀ V', (fun V' => Whole V' w.heap.size 25 #[.slice A4 m c4, .slice A2 s.ts.length c2] ∧ Whole V' g 27 #[.int .u8 q.kind, .int .i64 q.call, .int .i64 q.a, .int .i64 q.b, .int .i64 q.c, .int .i64 q.d]) V' → (V'.cell? ⟨w.heap.size, 0, none⟩ = some (.slice A4 m c4) ∧ V'.cell? ⟨w.heap.size, 1, none⟩ = some (.slice A2 s.ts.length c2)) ∧ V'.cell? ⟨g, 0, none⟩ = some (.int .u8 q.kind) ∧ V'.cell? ⟨g, 1, none⟩ = some (.int .i64 q.call) ∧ V'.cell? ⟨g, 2, none⟩ = some (.int .i64 q.a) ∧ V'.cell? ⟨g, 3, none⟩ = some (.int .i64 q.b) ∧ V'.cell? ⟨g, 4, none⟩ = some (.int .i64 q.c) ∧ V'.cell? ⟨g, 5, none⟩ = some (.int .i64 q.d)) := Lib.hid (fun V' h => ⟨cells2 h.1, cellsW6 h.2⟩)
    obtain ⟨u1, v1⟩ := put2 (w := X7) J2.out (.slice A4 m c4) (.slice A2 s.ts.length c2)
    obtain ⟨u2, v2⟩ := put6 (v1.far J3.out (by omega)) (.int .u8 q.kind) (.int .i64 q.call) (.int .i64 q.a) (.int .i64 q.b) (.int .i64 q.c) (.int .i64 q.d)
    have HU1 := Lib.hid u1
    have HU2 := Lib.hid u2
    have HV1 := Lib.hid v1
    have HV2 := Lib.hid v2
    have HT8 : Hid ((fun V' => Whole V' w.heap.size 25 #[.slice A4 m c4, .slice A2 s.ts.length c2] ∧ Whole V' g 27 #[.int .u8 q.kind, .int .i64 q.call, .int .i64 q.a, .int .i64 q.b, .int .i64 q.c, .int .i64 q.d]) ((X7.setCell ⟨w.heap.size + 1, 0, none⟩ (.slice A4 m c4)).setCell ⟨w.heap.size + 1, 1, none⟩ (.slice A2 s.ts.length c2))) := Lib.hid ⟨v1.far E7.out (by omega), v1.far JG.out (by have := HGE.out; omega)⟩
    have HT9 := Lib.hid (fun W => (show (fun V' => Whole V' w.heap.size 25 #[.slice A4 m c4, .slice A2 s.ts.length c2] ∧ Whole V' g 27 #[.int .u8 q.kind, .int .i64 q.call, .int .i64 q.a, .int .i64 q.b, .int .i64 q.c, .int .i64 q.d]) W → (fun V' => Whole V' w.heap.size 25 #[.slice A4 m c4, .slice A2 s.ts.length c2] ∧ Whole V' g 27 #[.int .u8 q.kind, .int .i64 q.call, .int .i64 q.a, .int .i64 q.b, .int .i64 q.c, .int .i64 q.d]) W.drew from fun h => h))
    obtain ⟨r0, r1⟩ := cells2 J2.out
    have g0 := J2.out.frozen 0
    have g1 := J2.out.frozen 1
    obtain ⟨a0, a1, a2, a3, a4, a5⟩ := cellsW6 J3.out
    have t0 := J3.out.frozen 0
    have t1 := J3.out.frozen 1
    have t2 := J3.out.frozen 2
    have t3 := J3.out.frozen 3
    have t4 := J3.out.frozen 4
    have t5 := J3.out.frozen 5
    refine wp_region_T (ls := []) (T := (fun V' => Whole V' w.heap.size 25 #[.slice A4 m c4, .slice A2 s.ts.length c2] ∧ Whole V' g 27 #[.int .u8 q.kind, .int .i64 q.call, .int .i64 q.a, .int .i64 q.b, .int .i64 q.c, .int .i64 q.d])) (by kernel_rfl) ?_
    refine takeT (i := 0) (v := ?_) rfl (by kernel_rfl) (by kernel_rfl) (by kernel_rfl) (by kernel_rfl) (fun _ _ _ h => h) (by rfl) ?_ HT0.out ?_
    rotate_left
    · intro V' hV; obtain ⟨⟨y0, y1⟩, z0, z1, z2, z3, z4, z5⟩ := HL.out V' hV; go_simp <;> with_reducible rfl
    simp only [Act.put, List.setIfInBounds_toArray, List.set_cons_zero, List.set_cons_succ]
    refine takeT (i := 1) (v := ?_) rfl (by kernel_rfl) (by kernel_rfl) (by kernel_rfl) (by kernel_rfl) (fun _ _ _ h => h) (by rfl) ?_ HT0.out ?_
    rotate_left
    · intro V' hV; obtain ⟨⟨y0, y1⟩, z0, z1, z2, z3, z4, z5⟩ := HL.out V' hV; go_simp <;> with_reducible rfl
    simp only [Act.put, List.setIfInBounds_toArray, List.set_cons_zero, List.set_cons_succ]
    refine oneT (i := 2) rfl (by kernel_rfl) (by rfl) (fun K hK => ?_)
    go_simp
    refine hK.out _ _ (fun _ => HT9.out _ HT8.out) ?_
    clear hK K
    refine oneT (i := 3) rfl (by kernel_rfl) (by rfl) (fun K hK => ?_)
    go_simp
    refine hK.out _ _ (fun _ => HT9.out _ ⟨HV2.out.far HT8.out.1 (by omega), HV2.out.far HT8.out.2 (by have := HGE.out; omega)⟩) ?_
    clear hK K
    refine oneT (i := 4) rfl (by kernel_rfl) (by rfl) (fun K hK => ?_)
    go_simp
    refine hK.out _ _ (fun _ => HT9.out _ ⟨HV2.out.far HT8.out.1 (by omega), HV2.out.far HT8.out.2 (by have := HGE.out; omega)⟩) ?_
    clear hK K
    refine doneT (by kernel_rfl) ?_ _
    clear HT9 r0 r1 g0 g1 a0 a1 a2 a3 a4 a5 t0 t1 t2 t3 t4 t5
    refine q_at (fun X9 hX9 => ?_)
    have w9 := HV2.out.far HU1.out (by omega)
    have u9 := HU2.out
    have b9 : Below w.heap.size w X9 := by rw [← hX9]; exact (HV2.out.bel (HV1.out.bel B7.out (by omega)) (by omega)).drew
    have c9 : Whole X9 (w.heap.size + 1) 25 #[.slice A4 m c4, .slice A2 s.ts.length c2] := by rw [← hX9]; exact whole_drew w9
    have d9 : Whole X9 (w.heap.size + 1 + 1) 27 #[.int .u8 q.kind, .int .i64 q.call, .int .i64 q.a, .int .i64 q.b, .int .i64 q.c, .int .i64 q.d] := by rw [← hX9]; exact whole_drew u9
    have o9 : ∀ o : NtO V.heap.size X7 A4 c4 A2 c2 (askN s z), NtO V.heap.size X9 A4 c4 A2 c2 (askN s z) := fun o => by
      have o8 := o.only HV1.out J2.out (by decide) (by decide) (by decide)
      obtain ⟨es5, w1_, w2_, w3_⟩ := o8.ts
      rw [← hX9]
      exact NtO.under ⟨HV2.out.ownB o8.ks (by have := HS.out; omega), ⟨es5, HV2.out.ownB w1_ (by have := HS.out; omega), w2_, fun y hy => HV2.out.ownB (w3_ y hy) (by have := HS.out; omega)⟩⟩ (Below.refl _ _).drew
    have B9 := Lib.hid b9
    have C9 := Lib.hid c9
    have D9 := Lib.hid d9
    have O9 := Lib.hid o9
    clear hX9 w9 u9 b9 c9 d9 o9 HU1 HU2 HV1 HV2 HT8 HL HT0
    go_wp2_with fail
    obtain ⟨y0, y1⟩ := cells2 C9.out
    obtain ⟨z0, z1, z2, z3, z4, z5⟩ := cellsW6 D9.out
    have r7 := R7.out
    have ts7 := TS7.out
    have hkN : (askN s z).ks = s.ks.eraseIdx k := by simp only [askN, HKZ.out]
    have hl7 : (askN s z).ks.length = m := by rw [hkN]; exact HM.out
    have ha7 : AsksAt V.heap.size X7 (.slice A4 m c4) (s.ks.eraseIdx k) := by unfold AsksAt; rw [HM.out]; exact r7
    have o7 : NtO V.heap.size X7 A4 c4 A2 c2 (askN s z) := ⟨by rw [hl7, hkN]; exact ha7, ts7⟩
    have HL7 := Lib.hid hl7
    clear hkN hl7 ha7
    refine bodyPost_ret (v := .tuple #[.agg #[.slice A4 m c4, .slice A2 s.ts.length c2], .agg #[.int .u8 q.kind, .int .i64 q.call, .int .i64 q.a, .int .i64 q.b, .int .i64 q.c, .int .i64 q.d], .bool true]) (by simp [results, Try.results18, go_sem, y0, y1, z0, z1, z2, z3, z4, z5]) rfl ⟨A4, c4, A2, c2, q, ?_, ?_, ?_, B9.out⟩
    · rw [show decide (0 < s.ks.length) = true by rw [decide_eq_true_eq]; exact HP.out, HL7.out]
      rfl
    · rw [HQ.out]; rfl
    · exact (O9.out o7).weaker (by have := HS.out; omega)

end Go.Proofs.Ytcbbjloojngoiaa
