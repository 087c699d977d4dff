/-
  The walk of 'Tell' of package net. Conditions: those that each theorem names.
-/
import Derived.Test.YtcbbjloojngoiaaNtTakeT
import Derived.Test.YtcbbjloojngoiaaNtSend
namespace Go.Proofs.Ytcbbjloojngoiaa
open Go.RowKit Go.Shelf

theorem map_erase {α β : Type} (f : α → β) (l : List α) (k : Nat) : (l.eraseIdx k).map f = (l.map f).eraseIdx k := by
  induction l generalizing k with
  | nil => rfl
  | cons x l ih => cases k with
    | zero => rfl
    | succ k => simp only [List.eraseIdx_cons_succ, List.map_cons, ih]
theorem takeT_any (A : Option Addr) (n c : Nat) (l : List TE) (z : Int) (w : World) (hr : RdF 6 TE.vs w w.heap.size A n l) (hn : n ≤ 100) :
    Calls Try.prog 37 #[.slice A n c, .int .i64 z] w (TakeT l z w) := by
  rcases Nat.eq_zero_or_pos n with h | h
  · subst h
    have : l = [] := List.eq_nil_of_length_eq_zero hr.1
    subst this
    exact takeT_none A c z w
  · exact takeT_some A n c l z w hr h hn

/-- What comes of it. -/
def TellPost (s : Nt) (z : Int) (w : World) (e : Ending) (w' : World) : Prop :=
  ∃ (A : Option Addr) (c : Nat) (A' : Option Addr) (c' : Nat) (q : TE), e = .returned (.tuple #[.agg #[.slice A (tellN s z).ks.length c, .slice A' (tellN s z).ts.length c'], .agg #[.int .i64 q.call, .int .u8 q.kind, .int .u8 q.code, .int .i64 q.id, .slice q.A q.n q.c, .bool q.more], .bool (decide (0 < s.ts.length))]) ∧ q.t = (tellT s z).getD ⟨0, 0, 0, 0, [], false⟩ ∧ w'.ownsRow w.heap.size 51 7 q.val q.n (flatN q.l) ∧ NtO w.heap.size w' A c A' c' (tellN s z) ∧ Below w.heap.size w w'

set_option maxRecDepth 100000 in
set_option maxHeartbeats 2000000 in
theorem tell_any (A : Option Addr) (n c : Nat) (A' : Option Addr) (n' c' : Nat) (s : Nt) (z : Int) (w : World) (hr : NtR w A n A' n' s) :
    Calls Try.prog 19 #[.agg #[.slice A n c, .slice A' n' c'], .int .i64 z] w (TellPost s z w) := by
  obtain ⟨hb, h1, h2, h3⟩ := three_new w 25 25 30 #[.slice A n c, .slice A' n' c'] #[.slice none 0 0, .slice none 0 0] #[.int .i64 0, .int .u8 0, .int .u8 0, .int .i64 0, .slice none 0 0, .bool false]
  obtain ⟨V, hV⟩ : ∃ V, ((w.alloc (.cells #[.slice A n c, .slice A' n' c'] 25)).alloc (.cells #[.slice none 0 0, .slice none 0 0] 25)).alloc (.cells #[.int .i64 0, .int .u8 0, .int .u8 0, .int .i64 0, .slice none 0 0, .bool false] 30) = V := ⟨_, rfl⟩
  have hs : V.heap.size = w.heap.size + 1 + 1 + 1 := by rw [← hV]; simp
  rw [hV] at hb h1 h2 h3
  have HV := Lib.hid hV
  have HF := Lib.hid hr.few
  have HR := Lib.hid (hr.up hb)
  have HB := Lib.hid hb
  have H2 := Lib.hid h2
  have H3 := Lib.hid h3
  have HS := Lib.hid hs
  clear hV hr hb h1 h2 h3 hs
  go_enter Try.func19, Try.ntmps19
  go_wp2_with fail
  rw [HV.out]
  clear HV
  refine (ownN_any A n c A' n' c' s V HR.out).mono ?_
  rintro e w1 ⟨A1, c1, A2, c2, rfl, o1, b1⟩
  have i2 := H2.out.under b1
  have i3 := H3.out.under b1
  obtain ⟨n0, n1⟩ := cells2 i2
  have p0 := i2.frozen 0
  have p1 := i2.frozen 1
  have I2 := Lib.hid i2
  have I3 := Lib.hid i3
  have O1 := Lib.hid o1
  have B1 := Lib.hid b1
  clear i2 i3 o1 b1 H2 H3
  go_wp2_with fail
  obtain ⟨e2, k2⟩ := put2 I2.out (.slice A1 s.ks.length c1) (.slice A2 s.ts.length c2)
  obtain ⟨X, hX⟩ : ∃ X, (w1.setCell ⟨w.heap.size + 1, 0, none⟩ (.slice A1 s.ks.length c1)).setCell ⟨w.heap.size + 1, 1, none⟩ (.slice A2 s.ts.length c2) = X := ⟨_, rfl⟩
  rw [hX] at e2 k2 ⊢
  clear hX n0 n1 p0 p1
  have o2 := O1.out.only k2 I2.out (by decide) (by decide) (by decide)
  have x3 := k2.far I3.out (by omega)
  have bX : Below w.heap.size w X := k2.bel (HB.out.trans (B1.out.mono HB.out.size)) (by omega)
  have sX : w.heap.size + 1 + 1 + 1 ≤ X.heap.size := by rw [k2.size]; have := B1.out.size; have := HS.out; omega
  have E2 := Lib.hid e2
  have O2 := Lib.hid o2
  have X3 := Lib.hid x3
  have BX := Lib.hid bX
  have SX := Lib.hid sX
  clear e2 k2 o2 x3 bX sX I2 I3 O1 B1
  obtain ⟨es, g1, g2, g3⟩ := O2.out.ts
  have hel : es.length = s.ts.length := by rw [← g2, List.length_map]
  have hrd := RdF.of_own TE.vs_len (by omega) g1
  refine (takeT_any A2 s.ts.length c2 es z X hrd HF.out.ts).mono ?_
  rintro e w2 ⟨A3, c3, q, rfl, hq, o3, b3⟩
  have hts : (tellN s z).ts = (es.eraseIdx (placeN z es.length)).map TE.t := by simp only [tellN]; rw [map_erase, g2, hel]
  have T3 : NtO V.heap.size w2 A1 c1 A3 c3 (tellN s z) := ⟨O2.out.ks.under b3, ⟨es.eraseIdx (placeN z es.length), by
    rw [hts, List.length_map]
    exact own_weaker (base := V.heap.size) o3 (by have := SX.out; have := HS.out; omega), hts.symm, fun y hy => own_under (g3 y (List.mem_of_mem_eraseIdx hy)) b3⟩⟩
  have hqt : q.t = (tellT s z).getD ⟨0, 0, 0, 0, [], false⟩ := by
    rw [hq, tellT, ← g2, List.getElem?_map, List.length_map]
    cases es[placeN z es.length]? <;> rfl
  have hqo : w2.ownsRow V.heap.size 51 7 q.val q.n (flatN q.l) := by
    rw [hq]
    cases hcq : es[placeN z es.length]? with
    | none => exact World.ownsRow_nil _ _ _ _
    | some y => exact own_under (g3 y (List.mem_of_getElem? hcq)) b3
  rw [hel]
  obtain ⟨m, hm⟩ : ∃ m, (es.eraseIdx (placeN z s.ts.length)).length = m := ⟨_, rfl⟩
  rw [hm]
  have j2 := E2.out.under b3
  have j3 := X3.out.under b3
  obtain ⟨r0, r1⟩ := cells2 j2
  have f1 := j2.frozen 1
  obtain ⟨a0, a1, a2, a3, a4, a5⟩ := cellsW6 j3
  have t0 := j3.frozen 0
  have t1 := j3.frozen 1
  have t2 := j3.frozen 2
  have t3 := j3.frozen 3
  have t4 := j3.frozen 4
  have t5 := j3.frozen 5
  have J2 := Lib.hid j2
  have J3 := Lib.hid j3
  have HQ := Lib.hid hq
  have HQT := Lib.hid hqt
  have HQO := Lib.hid hqo
  have HEL := Lib.hid hel
  have HG2 := Lib.hid g2
  have HT3 := Lib.hid T3
  have HM := Lib.hid hm
  have B3 := Lib.hid b3
  clear j2 j3 hq o3 b3 T3 hm hqt hqo hel g1 g2 g3 hrd hts E2 X3 O2
  go_wp2_with fail
  have k4 := Only.set w2 (w.heap.size + 1) 1 (.slice A3 m c3)
  have e4 := J2.out.set 1 (.slice A3 m c3)
  simp only [List.setIfInBounds_toArray, List.set_cons_zero, List.set_cons_succ] at e4
  obtain ⟨e5, k5⟩ := put6 (k4.far J3.out (by omega)) (.int .i64 q.call) (.int .u8 q.kind) (.int .u8 q.code) (.int .i64 q.id) (.slice q.A q.n q.c) (.bool q.more)
  obtain ⟨Y, hY⟩ : ∃ Y, ((((((w2.setCell ⟨w.heap.size + 1, 1, none⟩ (.slice A3 m c3)).setCell ⟨w.heap.size + 1 + 1, 0, none⟩ (.int .i64 q.call)).setCell ⟨w.heap.size + 1 + 1, 1, none⟩ (.int .u8 q.kind)).setCell ⟨w.heap.size + 1 + 1, 2, none⟩ (.int .u8 q.code)).setCell ⟨w.heap.size + 1 + 1, 3, none⟩ (.int .i64 q.id)).setCell ⟨w.heap.size + 1 + 1, 4, none⟩ (.slice q.A q.n q.c)).setCell ⟨w.heap.size + 1 + 1, 5, none⟩ (.bool q.more) = Y := ⟨_, rfl⟩
  have u3 := (HT3.out.only k4 J2.out (by decide) (by decide) (by decide))
  have o5 : NtO V.heap.size _ A1 c1 A3 c3 (tellN s z) := ⟨k5.ownB u3.ks (by have := HS.out; omega), ?_⟩
  rotate_left
  · obtain ⟨es5, v1, v2, v3⟩ := u3.ts
    exact ⟨es5, k5.ownB v1 (by have := HS.out; omega), v2, fun y hy => k5.ownB (v3 y hy) (by have := HS.out; omega)⟩
  have h5 : Below w.heap.size w _ := k5.bel (k4.bel (BX.out.trans (B3.out.mono BX.out.size)) (by omega)) (by omega)
  have e6 := k5.far e4 (by omega)
  have q5 := k5.ownB (k4.ownB HQO.out (by have := HS.out; omega)) (by have := HS.out; omega)
  rw [hY] at o5 h5 e5 e6 q5
  rw [hY]
  clear hY r0 r1 f1 a0 a1 a2 a3 a4 a5 t0 t1 t2 t3 t4 t5 k4 k5 e4 u3
  have HT : Hid ((fun V' => Whole V' (w.heap.size + 1) 25 #[.slice A1 s.ks.length c1, .slice A3 m c3] ∧ Whole V' (w.heap.size + 1 + 1) 30 #[.int .i64 q.call, .int .u8 q.kind, .int .u8 q.code, .int .i64 q.id, .slice q.A q.n q.c, .bool q.more]) Y) := Lib.hid ⟨e6, e5⟩
  have HT0 : Hid ((fun V' => Whole V' (w.heap.size + 1) 25 #[.slice A1 s.ks.length c1, .slice A3 m c3] ∧ Whole V' (w.heap.size + 1 + 1) 30 #[.int .i64 q.call, .int .u8 q.kind, .int .u8 q.code, .int .i64 q.id, .slice q.A q.n q.c, .bool q.more]) Y.drew) := Lib.hid HT.out
  have HL : Hid (∀ V', (fun V' => Whole V' (w.heap.size + 1) 25 #[.slice A1 s.ks.length c1, .slice A3 m c3] ∧ Whole V' (w.heap.size + 1 + 1) 30 #[.int .i64 q.call, .int .u8 q.kind, .int .u8 q.code, .int .i64 q.id, .slice q.A q.n q.c, .bool q.more]) V' → (V'.cell? ⟨w.heap.size + 1, 0, none⟩ = some (.slice A1 s.ks.length c1) ∧ V'.cell? ⟨w.heap.size + 1, 1, none⟩ = some (.slice A3 m c3)) ∧ V'.cell? ⟨w.heap.size + 1 + 1, 0, none⟩ = some (.int .i64 q.call) ∧ V'.cell? ⟨w.heap.size + 1 + 1, 1, none⟩ = some (.int .u8 q.kind) ∧ V'.cell? ⟨w.heap.size + 1 + 1, 2, none⟩ = some (.int .u8 q.code) ∧ V'.cell? ⟨w.heap.size + 1 + 1, 3, none⟩ = some (.int .i64 q.id) ∧ V'.cell? ⟨w.heap.size + 1 + 1, 4, none⟩ = some (.slice q.A q.n q.c) ∧ V'.cell? ⟨w.heap.size + 1 + 1, 5, none⟩ = some (.bool q.more)) := Lib.hid (fun V' h => ⟨cells2 h.1, cellsW6 h.2⟩)
  have O5 := Lib.hid o5
  have H5 := Lib.hid h5
  have Q5 := Lib.hid q5
  clear o5 h5 e5 e6 q5
  obtain ⟨⟨y0, y1⟩, z0, z1, z2, z3, z4, z5⟩ := HL.out _ HT.out
  have t0 := HT.out.2.frozen 0
  have t1 := HT.out.2.frozen 1
  have t2 := HT.out.2.frozen 2
  have t3 := HT.out.2.frozen 3
  have t4 := HT.out.2.frozen 4
  have t5 := HT.out.2.frozen 5
  have f0 := HT.out.1.frozen 0
  have f1 := HT.out.1.frozen 1
  refine wp_region_T (ls := []) (T := (fun V' => Whole V' (w.heap.size + 1) 25 #[.slice A1 s.ks.length c1, .slice A3 m c3] ∧ Whole V' (w.heap.size + 1 + 1) 30 #[.int .i64 q.call, .int .u8 q.kind, .int .u8 q.code, .int .i64 q.id, .slice q.A q.n q.c, .bool q.more])) (by kernel_rfl) ?_
  refine takeT (i := 0) (v := ?_) rfl (by kernel_rfl) (by kernel_rfl) (by kernel_rfl) (by kernel_rfl) (fun _ _ _ h => h) (by rfl) ?_ HT0.out ?_
  rotate_left
  · intro V' hV; obtain ⟨⟨y0, y1⟩, z0, z1, z2, z3, z4, z5⟩ := HL.out V' hV; go_simp <;> with_reducible rfl
  simp only [Act.put, List.setIfInBounds_toArray, List.set_cons_zero, List.set_cons_succ]
  refine takeT (i := 1) (v := ?_) rfl (by kernel_rfl) (by kernel_rfl) (by kernel_rfl) (by kernel_rfl) (fun _ _ _ h => h) (by rfl) ?_ HT0.out ?_
  rotate_left
  · intro V' hV; obtain ⟨⟨y0, y1⟩, z0, z1, z2, z3, z4, z5⟩ := HL.out V' hV; go_simp <;> with_reducible rfl
  simp only [Act.put, List.setIfInBounds_toArray, List.set_cons_zero, List.set_cons_succ]
  refine takeP (i := 2) (v := ?_) rfl (by kernel_rfl) (by kernel_rfl) (by kernel_rfl) (by kernel_rfl) (fun _ _ _ h => h) (by rfl) ?_ (fun _ => HT0.out) ?_
  rotate_left
  · intro V'; go_simp <;> with_reducible rfl
  simp only [Act.put, List.setIfInBounds_toArray, List.set_cons_zero, List.set_cons_succ]
  refine oneT (i := 3) rfl (by kernel_rfl) (by rfl) (fun K hK => ?_)
  go_simp
  rw [same2 HT.out.1]
  refine hK.out _ _ (fun _ => HT0.out) ?_
  clear hK K
  refine oneT (i := 4) rfl (by kernel_rfl) (by rfl) (fun K hK => ?_)
  go_simp
  rw [same6 HT.out.2]
  refine hK.out _ _ (fun _ => HT0.out) ?_
  clear hK K
  refine oneT (i := 5) rfl (by kernel_rfl) (by rfl) (fun K hK => ?_)
  go_simp
  refine hK.out _ _ (fun _ => HT0.out) ?_
  clear hK K
  refine doneT (by kernel_rfl) ?_ _
  go_wp2_with fail
  refine bodyPost_ret (v := .tuple #[.agg #[.slice A1 s.ks.length c1, .slice A3 m c3], .agg #[.int .i64 q.call, .int .u8 q.kind, .int .u8 q.code, .int .i64 q.id, .slice q.A q.n q.c, .bool q.more], .bool (decide (0 < s.ts.length))]) (by simp [results, Try.results19, go_sem, y0, y1, z0, z1, z2, z3, z4, z5]) rfl ⟨A1, c1, A3, c3, q, ?_, HQT.out, ?_, ?_, ?_⟩
  · rw [show (tellN s z).ts.length = m by rw [← HM.out]; simp only [tellN]; rw [List.length_eraseIdx, List.length_eraseIdx, HEL.out]]
    rfl
  · exact own_weaker (own_under Q5.out (Below.refl _ Y).drew) (by have := HS.out; omega)
  · exact (O5.out.under (Below.refl _ Y).drew).weaker (by have := HS.out; omega)
  · exact H5.out.drew

end Go.Proofs.Ytcbbjloojngoiaa
