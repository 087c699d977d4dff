/-
  The walk of the document's own 'Own' of ways. Conditions: those that each theorem names.
-/
import Derived.Test.YtcbbjloojngoiaaNtWakes
import Derived.Test.YtcbbjloojngoiaaRegT
import Derived.Deep.DeepCutAuto
namespace Go.Proofs.Ytcbbjloojngoiaa
open Go.RowKit Go.Shelf

/-- The tells that came so far, in the row that grows. -/
structure OwR (w : World) (N : Array Value) (b1 : Nat) (vk : Value) (lk : List Ak) (es : List TE) (j : Nat) (W : World) : Prop where
  row : ∃ u, Whole W (w.heap.size + 1 + 1) 25 #[vk, u] ∧ TellsAt b1 W u ((es.take j).map TE.t)
  asks : AsksAt b1 W vk lk
  nb : Whole W w.heap.size 25 N
  res : Whole W (w.heap.size + 1) 25 #[.slice none 0 0, .slice none 0 0]
  below : Below w.heap.size w W
  sz : b1 ≤ W.heap.size

set_option maxRecDepth 100000 in
set_option maxHeartbeats 4000000 in
theorem refOwn_any (A : Option Addr) (n c : Nat) (A' : Option Addr) (n' c' : Nat) (s : Nt) (w : World) (hr : NtR w A n A' n' s) :
    Calls Try.prog 24 #[.agg #[.slice A n c, .slice A' n' c']] w (NetPost s w) := by
  obtain ⟨hb, h1, h2, h3⟩ := three_new w 25 25 25 #[.slice A n c, .slice A' n' c'] #[.slice none 0 0, .slice none 0 0] #[.slice none 0 0, .slice none 0 0]
  obtain ⟨V, hV⟩ : ∃ V, ((w.alloc (.cells #[.slice A n c, .slice A' n' c'] 25)).alloc (.cells #[.slice none 0 0, .slice none 0 0] 25)).alloc (.cells #[.slice none 0 0, .slice none 0 0] 25) = V := ⟨_, rfl⟩
  have hs : V.heap.size = w.heap.size + 1 + 1 + 1 := by rw [← hV]; simp
  rw [hV] at hb h1 h2 h3
  have hn := hr.lk
  have hn1 : n ≤ 100 := by have := hr.few.ks; omega
  obtain ⟨es, e1, e2⟩ := hr.tsr
  have hn2 : n' ≤ 100 := e2.few
  obtain ⟨A1, c1, W1, hrun, ho1, hg1, hw1⟩ := asks_app V (w.heap.size + 1 + 1 + 1) (.slice none 0 0) [] (World.ownsRow_nil _ _ _ _) V.heap.size A n c s.ks (hr.up hb).ks (by simp; omega) (by omega)
  simp only [List.length_nil, Nat.zero_add, List.nil_append] at hrun ho1
  have hbV : Below V.heap.size V W1 := (Below.refl _ _).grown hg1 (Nat.le_refl _) (by simp [Value.ownBlock])
  have hinv : OwR w #[.slice A n c, .slice A' n' c'] (w.heap.size + 1 + 1 + 1) (.slice A1 n c1) s.ks es 0 (W1.setCell ⟨w.heap.size + 1 + 1, 0, none⟩ (.slice A1 n c1)) := by
    have g1 := h1.under hbV
    have g2 := h2.under hbV
    have g3 := h3.under hbV
    have ko := Only.set W1 (w.heap.size + 1 + 1) 0 (.slice A1 n c1)
    have e3 := g3.set 0 (.slice A1 n c1)
    simp only [List.setIfInBounds_toArray, List.set_cons_zero] at e3
    rw [← hn] at ho1
    refine ⟨⟨_, e3, ⟨[], World.ownsRow_nil _ _ _ _, rfl, by simp⟩⟩, ?_, ko.far g1 (by omega), ko.far g2 (by omega), ko.bel (hb.trans (hbV.mono hb.size)) (by omega), by rw [ko.size]; have := hbV.size; omega⟩
    have := AsksAt.only ho1 ko g3 (by decide)
    rw [hn] at this
    exact this
  obtain ⟨c0, c1_⟩ := cells2 h1
  obtain ⟨d0, d1_⟩ := cells2 h3
  obtain ⟨x0, x1⟩ := cells2 (h3.under hbV)
  have f0 := (h3.under hbV).frozen 0
  obtain ⟨m0, m1⟩ := cells2 hinv.nb
  have HV := Lib.hid hV
  have HRun := Lib.hid hrun
  have HI := Lib.hid hinv
  have HT := Lib.hid e2
  have HE1 := Lib.hid e1
  have HN := Lib.hid hn
  clear hV hrun hinv hb h1 h2 h3 hs ho1 hg1 hw1 hbV hr e1 e2 hn
  go_enter Try.func24, Try.ntmps24
  go_upto_region 2 with fail
  rw [HV.out]
  clear HV
  go_upto_region 3 with (refine wpList_app (by rfl) _ _ 22 rfl _ _ _ W1 (by rfl) (by rfl) HRun.out ?_)
  refine wp_at (fun V3 hV3 => ?_)
  rw [hV3] at HI
  rw [hV3] at m0 m1
  obtain ⟨vk, hvk⟩ : ∃ vk, Value.slice A1 n c1 = vk := ⟨_, rfl⟩
  rw [hvk] at HI
  clear hV3 c0 c1_ d0 d1_ x0 x1 f0 HRun
  go_wp2_with fail
  clear m0 m1
  go_loopw [4] (fun i wr => ∃ j : Nat, i = .int .i64 (j : Int) ∧ j ≤ n' ∧ OwR w #[.slice A n c, .slice A' n' c'] (w.heap.size + 1 + 1 + 1) vk s.ks es j wr) (fun i _ => n' - (intOf i).toNat)
  case atStart => exact ⟨0, rfl, Nat.zero_le _, HI.out⟩
  case round =>
    obtain ⟨j, rfl, hj, hI⟩ := hrel
    obtain ⟨m0, m1⟩ := cells2 hI.nb
    by_cases hlt : j < n'
    · obtain ⟨b, off, rfl, hbl, hc⟩ := HT.out.rd.1.2 (by omega)
      obtain ⟨x, hx⟩ : ∃ x, es[j]? = some x := ⟨_, List.getElem?_eq_getElem (by rw [HT.out.rd.len]; exact hlt)⟩
      have hgc : ∀ W, Below w.heap.size w W → W.cell? ⟨b, off + j * 6, none⟩ = some (.int .i64 x.call) ∧ W.cell? ⟨b, off + j * 6 + 1, none⟩ = some (.int .u8 x.kind) ∧ W.cell? ⟨b, off + j * 6 + 2, none⟩ = some (.int .u8 x.code) ∧ W.cell? ⟨b, off + j * 6 + 3, none⟩ = some (.int .i64 x.id) ∧ W.cell? ⟨b, off + j * 6 + 4, none⟩ = some (.slice x.A x.n x.c) ∧ W.cell? ⟨b, off + j * 6 + 5, none⟩ = some (.bool x.more) := fun W hW => by
        obtain ⟨g0, g1, g2, g3, g4, g5⟩ := tlAt_of (w := W) (b := b) (o := off + j * 6) (x := x) (fun i hi => (hW.cell (p := ⟨b, off + j * 6 + i, none⟩) hbl).trans (hc j x hx i hi))
        exact ⟨g0, g1, g2, g3, g4, g5⟩
      obtain ⟨u, hr1, ho1⟩ := hI.row
      obtain ⟨A2, c2, rfl⟩ := ho1.form
      have hk2 : ((es.take j).map TE.t).length ≤ 1000 := by simp; omega
      obtain ⟨k, hk⟩ : ∃ k, ((es.take j).map TE.t).length = k := ⟨_, rfl⟩
      rw [hk] at hr1
      have he : (es.take (j + 1)).map TE.t = (es.take j).map TE.t ++ [x.t] := by
        have hj := (List.getElem?_eq_some_iff.1 hx)
        rw [List.take_succ_eq_append_getElem hj.1, hj.2, List.map_append]
        rfl
      have hI2 : (j : Int) < (n' : Int) := by omega
      have HTE := Lib.hid ((HT.out.te hx).up hI.below)
      have HI2 := Lib.hid hI
      have HE := Lib.hid he
      have HKk := Lib.hid hk
      have HK2 := Lib.hid hk2
      have HO2 := Lib.hid ho1
      have HGC := Lib.hid hgc
      have HT0 : Hid ((fun V' => Whole V' (w.heap.size + 1 + 1) 25 #[vk, .slice A2 k c2] ∧ Whole V' w.heap.size 25 #[.slice A n c, .slice (some ⟨b, off, none⟩) n' c'] ∧ V'.cell? ⟨b, off + j * 6, none⟩ = some (.int .i64 x.call) ∧ V'.cell? ⟨b, off + j * 6 + 1, none⟩ = some (.int .u8 x.kind) ∧ V'.cell? ⟨b, off + j * 6 + 2, none⟩ = some (.int .u8 x.code) ∧ V'.cell? ⟨b, off + j * 6 + 3, none⟩ = some (.int .i64 x.id) ∧ V'.cell? ⟨b, off + j * 6 + 4, none⟩ = some (.slice x.A x.n x.c) ∧ V'.cell? ⟨b, off + j * 6 + 5, none⟩ = some (.bool x.more)) wr.drew) := Lib.hid ⟨hr1, hI.nb, hgc _ hI.below.drew⟩
      have HL : Hid (∀ V', (fun V' => Whole V' (w.heap.size + 1 + 1) 25 #[vk, .slice A2 k c2] ∧ Whole V' w.heap.size 25 #[.slice A n c, .slice (some ⟨b, off, none⟩) n' c'] ∧ V'.cell? ⟨b, off + j * 6, none⟩ = some (.int .i64 x.call) ∧ V'.cell? ⟨b, off + j * 6 + 1, none⟩ = some (.int .u8 x.kind) ∧ V'.cell? ⟨b, off + j * 6 + 2, none⟩ = some (.int .u8 x.code) ∧ V'.cell? ⟨b, off + j * 6 + 3, none⟩ = some (.int .i64 x.id) ∧ V'.cell? ⟨b, off + j * 6 + 4, none⟩ = some (.slice x.A x.n x.c) ∧ V'.cell? ⟨b, off + j * 6 + 5, none⟩ = some (.bool x.more)) V' → (V'.cell? ⟨w.heap.size + 1 + 1, 0, none⟩ = some vk ∧ V'.cell? ⟨w.heap.size + 1 + 1, 1, none⟩ = some (.slice A2 k c2)) ∧ (V'.cell? ⟨w.heap.size, 0, none⟩ = some (.slice A n c) ∧ V'.cell? ⟨w.heap.size, 1, none⟩ = some (.slice (some ⟨b, off, none⟩) n' c')) ∧ V'.cell? ⟨b, off + j * 6, none⟩ = some (.int .i64 x.call) ∧ V'.cell? ⟨b, off + j * 6 + 1, none⟩ = some (.int .u8 x.kind) ∧ V'.cell? ⟨b, off + j * 6 + 2, none⟩ = some (.int .u8 x.code) ∧ V'.cell? ⟨b, off + j * 6 + 3, none⟩ = some (.int .i64 x.id) ∧ V'.cell? ⟨b, off + j * 6 + 4, none⟩ = some (.slice x.A x.n x.c) ∧ V'.cell? ⟨b, off + j * 6 + 5, none⟩ = some (.bool x.more)) := Lib.hid (fun V' h => ⟨cells2 h.1, cells2 h.2.1, h.2.2⟩)
      clear hI he hk hk2 ho1 hr1 hgc hc hbl HI
      go_wp2_with fail
      clear m0 m1
      refine wp_region_T (ls := [11]) (T := (fun V' => Whole V' (w.heap.size + 1 + 1) 25 #[vk, .slice A2 k c2] ∧ Whole V' w.heap.size 25 #[.slice A n c, .slice (some ⟨b, off, none⟩) n' c'] ∧ V'.cell? ⟨b, off + j * 6, none⟩ = some (.int .i64 x.call) ∧ V'.cell? ⟨b, off + j * 6 + 1, none⟩ = some (.int .u8 x.kind) ∧ V'.cell? ⟨b, off + j * 6 + 2, none⟩ = some (.int .u8 x.code) ∧ V'.cell? ⟨b, off + j * 6 + 3, none⟩ = some (.int .i64 x.id) ∧ V'.cell? ⟨b, off + j * 6 + 4, none⟩ = some (.slice x.A x.n x.c) ∧ V'.cell? ⟨b, off + j * 6 + 5, none⟩ = some (.bool x.more))) (by kernel_rfl) ?_
      refine takeT (i := 0) (v := ?_) rfl (by kernel_rfl) (by kernel_rfl) (by kernel_rfl) (by kernel_rfl) (fun _ _ _ h => h) (by rfl) ?_ HT0.out ?_
      rotate_left
      · intro V' hV; obtain ⟨⟨y0, y1⟩, ⟨n0, n1⟩, z0, z1, z2, z3, z4, z5⟩ := HL.out V' hV; go_simp <;> with_reducible rfl
      simp only [Act.put, List.setIfInBounds_toArray, List.set_cons_zero, List.set_cons_succ]
      refine takeT (i := 1) (v := ?_) rfl (by kernel_rfl) (by kernel_rfl) (by kernel_rfl) (by kernel_rfl) (fun _ _ _ h => h) (by rfl) ?_ HT0.out ?_
      rotate_left
      · intro V' hV; obtain ⟨⟨y0, y1⟩, ⟨n0, n1⟩, z0, z1, z2, z3, z4, z5⟩ := HL.out V' hV; go_simp <;> with_reducible rfl
      simp only [Act.put, List.setIfInBounds_toArray, List.set_cons_zero, List.set_cons_succ]
      refine takeT (i := 2) (v := ?_) rfl (by kernel_rfl) (by kernel_rfl) (by kernel_rfl) (by kernel_rfl) (fun _ _ _ h => h) (by rfl) ?_ HT0.out ?_
      rotate_left
      · intro V' hV; obtain ⟨⟨y0, y1⟩, ⟨n0, n1⟩, z0, z1, z2, z3, z4, z5⟩ := HL.out V' hV; go_simp <;> with_reducible rfl
      simp only [Act.put, List.setIfInBounds_toArray, List.set_cons_zero, List.set_cons_succ]
      refine takeT (i := 3) (v := ?_) rfl (by kernel_rfl) (by kernel_rfl) (by kernel_rfl) (by kernel_rfl) (fun _ _ _ h => h) (by rfl) ?_ HT0.out ?_
      rotate_left
      · intro V' hV; obtain ⟨⟨y0, y1⟩, ⟨n0, n1⟩, z0, z1, z2, z3, z4, z5⟩ := HL.out V' hV; go_simp <;> with_reducible rfl
      simp only [Act.put, List.setIfInBounds_toArray, List.set_cons_zero, List.set_cons_succ]
      refine takeT (i := 4) (v := ?_) rfl (by kernel_rfl) (by kernel_rfl) (by kernel_rfl) (by kernel_rfl) (fun _ _ _ h => h) (by rfl) ?_ HT0.out ?_
      rotate_left
      · intro V' hV; obtain ⟨⟨y0, y1⟩, ⟨n0, n1⟩, z0, z1, z2, z3, z4, z5⟩ := HL.out V' hV; go_simp <;> with_reducible rfl
      simp only [Act.put, List.setIfInBounds_toArray, List.set_cons_zero, List.set_cons_succ]
      refine takeT (i := 5) (v := ?_) rfl (by kernel_rfl) (by kernel_rfl) (by kernel_rfl) (by kernel_rfl) (fun _ _ _ h => h) (by rfl) ?_ HT0.out ?_
      rotate_left
      · intro V' hV; obtain ⟨⟨y0, y1⟩, ⟨n0, n1⟩, z0, z1, z2, z3, z4, z5⟩ := HL.out V' hV; go_simp <;> with_reducible rfl
      simp only [Act.put, List.setIfInBounds_toArray, List.set_cons_zero, List.set_cons_succ]
      refine takeT (i := 6) (v := ?_) rfl (by kernel_rfl) (by kernel_rfl) (by kernel_rfl) (by kernel_rfl) (fun _ _ _ h => h) (by rfl) ?_ HT0.out ?_
      rotate_left
      · intro V' hV; obtain ⟨⟨y0, y1⟩, ⟨n0, n1⟩, z0, z1, z2, z3, z4, z5⟩ := HL.out V' hV; go_simp <;> with_reducible rfl
      simp only [Act.put, List.setIfInBounds_toArray, List.set_cons_zero, List.set_cons_succ]
      refine oneT (i := 7) rfl (by kernel_rfl) (by rfl) (fun K hK => ?_)
      go_simp
      go_at_call 29
      refine (tellT_any x _ (HTE.out.up (Below.refl _ _).drew)).mono ?_
      rintro e y1 ⟨A5, c5, rfl, ho5, hb5⟩
      have hb5' : Below wr.heap.size wr y1 := (Below.refl wr.heap.size wr).drew.trans hb5
      have hbw1 : Below w.heap.size w y1 := HI2.out.below.trans (hb5'.mono HI2.out.below.size)
      have HT1 : Hid ((fun V' => Whole V' (w.heap.size + 1 + 1) 25 #[vk, .slice A2 k c2] ∧ Whole V' w.heap.size 25 #[.slice A n c, .slice (some ⟨b, off, none⟩) n' c'] ∧ V'.cell? ⟨b, off + j * 6, none⟩ = some (.int .i64 x.call) ∧ V'.cell? ⟨b, off + j * 6 + 1, none⟩ = some (.int .u8 x.kind) ∧ V'.cell? ⟨b, off + j * 6 + 2, none⟩ = some (.int .u8 x.code) ∧ V'.cell? ⟨b, off + j * 6 + 3, none⟩ = some (.int .i64 x.id) ∧ V'.cell? ⟨b, off + j * 6 + 4, none⟩ = some (.slice x.A x.n x.c) ∧ V'.cell? ⟨b, off + j * 6 + 5, none⟩ = some (.bool x.more)) y1) := Lib.hid ⟨HT0.out.1.under hb5, HT0.out.2.1.under hb5, HGC.out _ hbw1⟩
      have HO5 := Lib.hid ho5
      have HB5 := Lib.hid hb5'
      have HBW1 := Lib.hid hbw1
      have HO3 := Lib.hid (HO2.out.under hb5')
      clear ho5 hb5 hb5' hbw1
      refine hK.out _ _ (fun _ => HT1.out) ?_
      clear hK K
      refine oneT (i := 8) rfl (by kernel_rfl) (by rfl) (fun K hK => ?_)
      go_simp
      have bA := (Below.refl y1.heap.size y1).alloc (Nat.le_refl _) (.cells #[.int .i64 x.call, .int .u8 x.kind, .int .u8 x.code, .int .i64 x.id, .slice A5 x.n c5, .bool x.more] 30)
      refine hK.out _ _ (fun _ => ⟨HT1.out.1.under bA, HT1.out.2.1.under bA, HGC.out _ (HBW1.out.trans (bA.mono HBW1.out.size))⟩) ?_
      clear hK K bA
      obtain ⟨A6, c6, y6, hrun, ho6, hb6, _, hw6, ha6⟩ := tells_put y1 (w.heap.size + 1 + 1 + 1) _ _ HO3.out { x with A := A5, c := c5 } (own_weaker HO5.out (by have := HI2.out.sz; simpa using this)) HK2.out (by have := HI2.out.sz; have := HB5.out.size; omega) y1.heap.size rfl
      rw [HKk.out] at hrun ho6 hw6
      have hs6 : Whole y6 (w.heap.size + 1 + 1) 25 #[vk, .slice A2 k c2] := hw6 _ _ _ HT1.out.1 (.inl (by decide))
      have hbw6 : Below w.heap.size w y6 := HBW1.out.trans (hb6.mono (by omega))
      have HT6 : Hid ((fun V' => Whole V' (w.heap.size + 1 + 1) 25 #[vk, .slice A2 k c2] ∧ Whole V' w.heap.size 25 #[.slice A n c, .slice (some ⟨b, off, none⟩) n' c'] ∧ V'.cell? ⟨b, off + j * 6, none⟩ = some (.int .i64 x.call) ∧ V'.cell? ⟨b, off + j * 6 + 1, none⟩ = some (.int .u8 x.kind) ∧ V'.cell? ⟨b, off + j * 6 + 2, none⟩ = some (.int .u8 x.code) ∧ V'.cell? ⟨b, off + j * 6 + 3, none⟩ = some (.int .i64 x.id) ∧ V'.cell? ⟨b, off + j * 6 + 4, none⟩ = some (.slice x.A x.n x.c) ∧ V'.cell? ⟨b, off + j * 6 + 5, none⟩ = some (.bool x.more)) y6) := Lib.hid ⟨hs6, hw6 _ _ _ HT1.out.2.1 (.inl (by decide)), HGC.out _ hbw6⟩
      have q1 := hs6.cell 1
      have f1 := hs6.frozen 1
      simp only [List.getElem?_toArray, List.getElem?_cons_succ, List.getElem?_cons_zero] at q1
      have HRun := Lib.hid hrun
      have HO6 := Lib.hid ho6
      have HB6 := Lib.hid hb6
      have HBW6 := Lib.hid hbw6
      have HA6 := Lib.hid (ha6 _ _ _ (HI2.out.asks.under HB5.out))
      clear hrun ho6 hb6 hw6 ha6 hs6 hbw6
      refine oneT (i := 9) rfl (by kernel_rfl) (by rfl) (fun K hK => ?_)
      refine wp_appendH (by rfl) (by rfl) HRun.out ?_
      simp only [Act.put, List.setIfInBounds_toArray, List.set_cons_zero, List.set_cons_succ]
      refine hK.out _ _ (fun _ => HT6.out) ?_
      clear hK K
      refine oneT (i := 10) rfl (by kernel_rfl) (by rfl) (fun K hK => ?_)
      go_simp
      refine hK.out _ _ (fun _ => HT6.out) ?_
      clear hK K
      refine oneL (i := 11) (by kernel_rfl) rfl (by kernel_rfl) (by rfl) (fun K hK => ?_)
      go_simp
      refine hK.out _ _ ?_
      clear hK K
      refine doneT (by kernel_rfl) ?_ _
      have hw7 := HT6.out.1.set 1 (.slice A6 (k + 1) c6)
      simp only [List.setIfInBounds_toArray, List.set_cons_zero, List.set_cons_succ] at hw7
      have ko := Only.set y6 (w.heap.size + 1 + 1) 1 (.slice A6 (k + 1) c6)
      have HO7 : Hid (OwR w #[.slice A n c, .slice (some ⟨b, off, none⟩) n' c'] (w.heap.size + 1 + 1 + 1) vk s.ks es (j + 1) (y6.setCell ⟨w.heap.size + 1 + 1, 1, none⟩ (.slice A6 (k + 1) c6))) := by
        have hsz := HI2.out.sz
        have hbV : Below (w.heap.size + 1 + 1 + 1) wr y6 := (HB5.out.mono hsz).trans HB6.out
        refine Lib.hid ⟨⟨_, hw7, ?_⟩, ?_, ?_, ?_, ?_, ?_⟩
        · rw [HE.out]; exact HO6.out.only ko HT6.out.1 (by decide) (by decide)
        · exact HA6.out.only ko HT6.out.1 (by decide)
        · exact ko.far HT6.out.2.1 (by omega)
        · exact ko.far (HI2.out.res.below hbV (by omega)) (by omega)
        · exact ko.bel HBW6.out (by omega)
        · rw [ko.size]; exact Nat.le_trans hsz hbV.size
      clear ko hw7 q1 f1 HT6 HT1 HT0 HL
      go_wp2_with fail
      go_roundw
      case rel => exact ⟨j + 1, by go_num, by omega, HO7.out⟩
      case measure => simp [intOf]; omega
    · obtain ⟨u, hr1, ho1⟩ := hI.row
      rw [List.take_of_length_le (by rw [HT.out.rd.len]; omega), HE1.out] at ho1
      obtain ⟨A2, c2, rfl⟩ := ho1.form
      subst hvk
      obtain ⟨y0, y1⟩ := cells2 hr1
      obtain ⟨r0, r1⟩ := cells2 hI.res
      have f0 := hI.res.frozen 0
      have f1 := hI.res.frozen 1
      have HI2 := Lib.hid hI
      have HO1 := Lib.hid ho1
      clear hI ho1 hr1 HI
      go_wp2_with fail
      obtain ⟨e5, k5⟩ := put2 HI2.out.res (.slice A1 n c1) (.slice A2 s.ts.length c2)
      obtain ⟨x0, x1⟩ := cells2 e5
      refine bodyPost_ret (v := .agg #[.slice A1 n c1, .slice A2 s.ts.length c2]) (by simp [results, Try.results24, go_sem, x0, x1]) rfl ⟨A1, c1, A2, c2, by rw [HN.out], ⟨?_, ?_⟩, k5.bel HI2.out.below (by omega)⟩
      · rw [HN.out]; exact (HI2.out.asks.only k5 HI2.out.res (by decide)).weaker (by omega)
      · exact (HO1.out.only k5 HI2.out.res (by decide) (by decide)).weaker (by omega)

end Go.Proofs.Ytcbbjloojngoiaa
