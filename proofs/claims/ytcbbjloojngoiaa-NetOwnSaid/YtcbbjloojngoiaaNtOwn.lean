/-
  The walk of 'Own' of package net: what is on its way, in memory of its own. Conditions: those that each theorem names.
-/
import Derived.Test.YtcbbjloojngoiaaNtNet
import Derived.Test.YtcbbjloojngoiaaNtEach
import Derived.Test.YtcbbjloojngoiaaRegT
import Derived.Deep.DeepCutAuto
namespace Go.Proofs.Ytcbbjloojngoiaa
open Go.RowKit Go.Shelf
attribute [local go_sem] Oper.semAt_some

theorem keepsFrom_alloc (B : Nat) (W : World) (o : Obj) : KeepsFrom B W (W.alloc o) := (keeps_under ((Below.refl _ W).alloc (Nat.le_refl _) o)).from _
theorem keepsFrom_t {B : Nat} {A C D : World} (h : KeepsFrom B A C) (k : KeepsFrom B C D) : KeepsFrom B A D := h.trans k
theorem kpB_under {n₀ Bn : Nat} {W W' : World} (h : Below W.heap.size W W') (h0 : n₀ ≤ W.heap.size) (h1 : Bn < W.heap.size) : KpB n₀ Bn W W' := ⟨h.mono h0, h.block _ h1⟩
theorem kpB_setc {n₀ Bn g : Nat} (W : World) (h0 : n₀ ≤ g) (h1 : Bn ≠ g) (i : Nat) (v : Value) : KpB n₀ Bn W (W.setCell ⟨g, i, none⟩ v) :=
  ⟨(Below.refl _ W).setCell (p := ⟨g, i, none⟩) h0 v, Below.heap_setCell W ⟨g, i, none⟩ v Bn h1⟩

theorem kpB_only {n₀ Bn g : Nat} {W W' : World} (h : Only g W W') (h0 : n₀ ≤ g) (h1 : Bn ≠ g) (h2 : Bn < W.heap.size) : KpB n₀ Bn W W' := ⟨h.bel (Below.refl _ _) h0, h.grown.block Bn h2 (by simpa using h1)⟩

/-- The asks that came so far, in the row that grows. -/
structure OwK (w : World) (N : Array Value) (l : List Ak) (pre : List (Nat × Ak)) (W : World) : Prop where
  row : ∃ v, Whole W (w.heap.size + 1 + 1) 25 #[v, .slice none 0 0] ∧ AsksAt (w.heap.size + 1 + 1 + 1 + 1) W v (l.take pre.length)
  nb : Whole W w.heap.size 25 N
  res : Whole W (w.heap.size + 1) 25 #[.slice none 0 0, .slice none 0 0]
  below : Below w.heap.size w W
  sz : w.heap.size + 1 + 1 + 1 + 1 ≤ W.heap.size
theorem owK_own (w : World) (N : Array Value) (l : List Ak) (B : Nat) (hB : w.heap.size ≤ B) : OwnFrom B (OwK w N l) := by
  intro pre W1 W2 row h hg hr
  have hr' : ∀ r, row = some r → ∃ o : Obj, W1.heap[r]? = some o ∧ o.isCells = false := fun r e => (hr r e).2
  obtain ⟨v, h1, h2⟩ := h.row
  exact ⟨⟨v, h1.turn hg hr', h2.turn hg hr'⟩, h.nb.turn hg hr', h.res.turn hg hr', h.below.grown hg h.below.size (fun k e => by have := (hr k e).1; omega), Nat.le_trans h.sz hg.size⟩
theorem OwK.under {w : World} {N : Array Value} {l : List Ak} {pre : List (Nat × Ak)} {W W' : World} (h : OwK w N l pre W) (hb : Below W.heap.size W W') : OwK w N l pre W' := by
  obtain ⟨v, h1, h2⟩ := h.row
  exact ⟨⟨v, h1.under hb, h2.under hb⟩, h.nb.under hb, h.res.under hb, h.below.trans (hb.mono h.below.size), Nat.le_trans h.sz hb.size⟩

/-- The tells that came so far, in the row that grows. -/
structure OwT (w : World) (b1 b2 : Nat) (vk : Value) (lk : List Ak) (es : List TE) (D : Nat) (pre : List (Nat × TE)) (W : World) : Prop where
  row : ∃ u, Whole W (w.heap.size + 1 + 1) 25 #[vk, u] ∧ TellsAt b2 W u ((es.take pre.length).map TE.t)
  asks : AsksAt b1 W vk lk
  res : Whole W (w.heap.size + 1) 25 #[.slice none 0 0, .slice none 0 0]
  below : Below w.heap.size w W
  sz : b2 ≤ W.heap.size
  dk : W.heap[D]? = some (.deferred (some []))
theorem owT_own (w : World) (b1 b2 : Nat) (vk : Value) (lk : List Ak) (es : List TE) (D : Nat) (B : Nat) (hB : w.heap.size ≤ B) (hD : D < B) : OwnFrom B (OwT w b1 b2 vk lk es D) := by
  intro pre W1 W2 row h hg hr
  have hr' : ∀ r, row = some r → ∃ o : Obj, W1.heap[r]? = some o ∧ o.isCells = false := fun r e => (hr r e).2
  obtain ⟨u, h1, h2⟩ := h.row
  refine ⟨⟨u, h1.turn hg hr', h2.turn hg hr'⟩, h.asks.turn hg hr', h.res.turn hg hr', h.below.grown hg h.below.size (fun k e => by have := (hr k e).1; omega), Nat.le_trans h.sz hg.size, ?_⟩
  rw [← h.dk]
  exact hg.block D (Array.getElem?_eq_some_iff.1 h.dk).1 (fun e => by have := (hr D e.symm).1; omega)
theorem OwT.under {w : World} {b1 b2 : Nat} {vk : Value} {lk : List Ak} {es : List TE} {D : Nat} {pre : List (Nat × TE)} {W W' : World} (h : OwT w b1 b2 vk lk es D pre W) (hb : Below W.heap.size W W') : OwT w b1 b2 vk lk es D pre W' := by
  obtain ⟨u, h1, h2⟩ := h.row
  exact ⟨⟨u, h1.under hb, h2.under hb⟩, h.asks.under hb, h.res.under hb, h.below.trans (hb.mono h.below.size), Nat.le_trans h.sz hb.size, (hb.block D (Array.getElem?_eq_some_iff.1 h.dk).1).trans h.dk⟩
theorem tells_far {base : Nat} {W : World} {v : Value} {L : List Tl} (h : TellsAt base W v L) : v.ownBlock ≠ some W.heap.size := by
  obtain ⟨es, h1, _⟩ := h
  intro e
  have := (h1.lt _ e).2
  omega

set_option maxRecDepth 100000 in
set_option maxHeartbeats 2000000 in
theorem ownN_any (A : Option Addr) (n c : Nat) (A' : Option Addr) (n' c' : Nat) (s : Nt) (w : World) (hr : NtR w A n A' n' s) :
    Calls Try.prog 15 #[.agg #[.slice A n c, .slice A' n' c']] w (NetPost s w) := by
  have hn : n ≤ 100 := by have := hr.lk; have := hr.few.ks; omega
  have HR := Lib.hid hr
  clear hr
  refine (callsIn_wide (n := 6)).1 ?_
  refine callsIn_of_wp_marks Try.func15 rfl trivial ?_ rfl
  simp only [Try.ntmps15, List.size_toArray, List.length_cons, List.length_nil, Nat.reduceAdd, Nat.reduceSub, Array.replicate_succ, Array.replicate_zero, List.push_toArray, List.append_toArray, List.nil_append, List.cons_append]
  gi_wp2_with (refine ⟨trivial, ?_⟩; gi_at_call 30; refine (callsIn_wide.2 (eachK_any _ _ _ _)).mono ?_; rintro e w2 ⟨rfl, rfl⟩)
  obtain ⟨W0, hW0⟩ : ∃ W0, (((w.alloc (.cells #[.slice A n c, .slice A' n' c'] 25)).alloc (.cells #[.slice none 0 0, .slice none 0 0] 25)).alloc (.cells #[.slice none 0 0, .slice none 0 0] 25)).alloc (.cells #[.slice A n c] 22) = W0 := ⟨_, rfl⟩
  rw [hW0]
  have hs0 : W0.heap.size = w.heap.size + 1 + 1 + 1 + 1 := by rw [← hW0]; simp
  have hb0 : Below w.heap.size w W0 := by rw [← hW0]; exact ((((Below.refl _ w).alloc (Nat.le_refl _) _).alloc (by simp) _).alloc (by simp; omega) _).alloc (by simp; omega) _
  have hinv : OwK w #[.slice A n c, .slice A' n' c'] s.ks [] W0 := by
    obtain ⟨k1, k2, k3⟩ := two_new w 25 25 #[.slice A n c, .slice A' n' c'] #[.slice none 0 0, .slice none 0 0]
    refine ⟨⟨.slice none 0 0, ?_, World.ownsRow_nil _ _ _ _⟩, ?_, ?_, hb0, by omega⟩
    · rw [← hW0]
      have := (Whole.new ((w.alloc (.cells #[.slice A n c, .slice A' n' c'] 25)).alloc (.cells #[.slice none 0 0, .slice none 0 0] 25)) 25 #[.slice none 0 0, .slice none 0 0]).alloc (.cells #[.slice A n c] 22)
      simpa using this
    · rw [← hW0]; exact (k2.alloc _).alloc _
    · rw [← hW0]; exact (k3.alloc _).alloc _
  have hbn : W0.cell? ⟨w.heap.size + 1 + 1 + 1, 0, none⟩ = some (.slice A n c) := by
    rw [← hW0]
    have := (Whole.new (((w.alloc (.cells #[.slice A n c, .slice A' n' c'] 25)).alloc (.cells #[.slice none 0 0, .slice none 0 0] 25)).alloc (.cells #[.slice none 0 0, .slice none 0 0] 25)) 22 #[.slice A n c]).cell 0
    simpa using this
  clear hW0
  refine wpIn_range_mem (by omega) (gf := 40) (lb := #[.pointer (some ⟨w.heap.size + 1 + 1 + 1, 0, none⟩)]) rfl (enters_of Try.func40 (by kernel_rfl) rfl) (encs := encK)
    (eachK_mem 5 (w.heap.size + 1 + 1 + 1) w.heap.size A n c s.ks (by omega) W0 (by omega) (by omega) hbn (HR.out.ks.below hb0))
    (fun h k => kpB_t h k) (kpB_b (by omega) (by omega)) (Below.refl _ _) (fun _ => rfl)
    (OwK w #[.slice A n c, .slice A' n' c'] s.ks) (fun _ _ => False)
    (owK_own _ _ _ _ (by omega)) (fun _ _ _ _ h _ _ => h.elim) hinv
    (fun pre x a' W => s.ks[pre.length]? = some x.2 ∧ ∃ g, a' = { tmps := #[.agg #[.slice A n c, .slice A' n' c'], .pointer (some ⟨w.heap.size, 0, none⟩), .pointer (some ⟨w.heap.size + 1, 0, none⟩), .pointer (some ⟨w.heap.size + 1 + 1, 0, none⟩), undef, .pointer (some ⟨g, 0, none⟩), undef, undef, .pointer (some ⟨w.heap.size, 0, none⟩), .slice A n c, .func (.func 40) #[] #[.pointer (some ⟨w.heap.size + 1 + 1 + 1, 0, none⟩)], .int .i64 (x.1 : Int), .agg #[.int .u8 x.2.kind, .int .i64 x.2.call, .int .i64 x.2.a, .int .i64 x.2.b, .int .i64 x.2.c, .int .i64 x.2.d], undef, undef, undef, undef, undef, undef, undef, undef, undef, undef, undef, undef, undef, undef, undef, undef, undef, undef, undef], defers := [] } ∧ Whole W g 27 #[.int .u8 x.2.kind, .int .i64 x.2.call, .int .i64 x.2.a, .int .i64 x.2.b, .int .i64 x.2.c, .int .i64 x.2.d])
    (fun a' p X Y row hs hg hr => ⟨hs.1, by obtain ⟨g, e, hb⟩ := hs.2; exact ⟨g, e, Whole.turn hb hg (fun r e => (hr r e).2)⟩⟩) ?assign ?body ?done ?stop
  case assign =>
    rintro lp pre x W K hI hOk hK
    have HOk : Hid (s.ks[pre.length]? = some x.2) := Lib.hid (by have := hOk.2; rw [hOk.1] at this; exact this)
    have HI := Lib.hid hI
    clear hOk hI
    unfold encK
    gi_wp2
    have hbu : Below W.heap.size W (W.alloc (.cells #[.int .u8 x.2.kind, .int .i64 x.2.call, .int .i64 x.2.a, .int .i64 x.2.b, .int .i64 x.2.c, .int .i64 x.2.d] 27)) := (Below.refl _ _).alloc (Nat.le_refl _) _
    exact hK _ _ (keepsFrom_alloc _ _ _) (kpB_under hbu HI.out.below.size (by have := HI.out.sz; omega)) (HI.out.under hbu) ⟨HOk.out, _, rfl, Whole.new _ _ _⟩
  case body =>
    rintro lp pre x a' W hlp hI ⟨hx, g, rfl, hsn⟩
    obtain ⟨v1, hr1, ho1⟩ := hI.row
    obtain ⟨A1, c1, rfl⟩ := ho1.form
    have hk2 : (s.ks.take pre.length).length ≤ 1000 := by have := HR.out.few.ks; simp; omega
    obtain ⟨A2, c2, W2, hrun, ho2, hb2, hkf, hwh, _⟩ := asks_put W (w.heap.size + 1 + 1 + 1 + 1) _ _ ho1 x.2 hk2 hI.sz W.heap.size rfl
    obtain ⟨k, hk⟩ : ∃ k, (s.ks.take pre.length).length = k := ⟨_, rfl⟩
    rw [hk] at hr1 hrun ho2
    have he : s.ks.take (pre.length + 1) = s.ks.take pre.length ++ [x.2] := by
      have hj := (List.getElem?_eq_some_iff.1 hx)
      rw [List.take_succ_eq_append_getElem hj.1, hj.2]
    have r0 := hr1.cell 0
    have hr2 := hwh _ _ _ hr1 (by decide)
    have q0 := hr2.cell 0
    have f0 := hr2.frozen 0
    obtain ⟨s0, s1, s2, s3, s4, s5⟩ := cellsW6 hsn
    simp only [List.getElem?_toArray, List.getElem?_cons_zero] at r0 q0
    have HI := Lib.hid hI
    have HX := Lib.hid hx
    have HE := Lib.hid he
    have HK := Lib.hid hk
    have HRun := Lib.hid hrun
    have HO2 := Lib.hid ho2
    have HB2 := Lib.hid hb2
    have HKF := Lib.hid hkf
    have HWh := Lib.hid hwh
    have HR2 := Lib.hid hr2
    clear hI hx he hk hrun ho2 hb2 hkf hwh hr2 hr1 ho1 hk2 hsn hinv hbn
    gi_wp2_with (refine wpListIn_app (by rfl) _ _ 22 rfl _ _ _ W2 (by rfl) (by rfl) HRun.out ?_)
    have hw3 := HR2.out.set 0 (.slice A2 (k + 1) c2)
    simp only [List.setIfInBounds_toArray, List.set_cons_zero] at hw3
    have ko := Only.set W2 (w.heap.size + 1 + 1) 0 (.slice A2 (k + 1) c2)
    have hsz := HI.out.sz
    have hlen : (pre ++ [x]).length = pre.length + 1 := by simp
    refine ⟨(HKF.out.trans (KeepsOthers.setCell _ _ _)).from _, kpB_t ⟨HB2.out.mono (by omega), HB2.out.block _ (by omega)⟩ (kpB_setc W2 (by omega) (by omega) 0 _), ⟨_, hw3, ?_⟩, ?_, ?_, ?_, ?_⟩
    · rw [hlen, HE.out]; exact HO2.out.only ko HR2.out (by decide)
    · exact ko.far (HI.out.nb.below HB2.out (by omega)) (by omega)
    · exact ko.far (HI.out.res.below HB2.out (by omega)) (by omega)
    · exact ko.bel (HI.out.below.trans (HB2.out.mono (by omega))) (by omega)
    · rw [ko.size]; exact Nat.le_trans hsz HB2.out.size
  case done =>
    rintro D ys W hD hys hI hK
    obtain ⟨v1, hr1, ho1⟩ := hI.row
    rw [show s.ks.take ys.length = s.ks by rw [List.take_of_length_le]; rw [hys, HR.out.lk]; exact Nat.le_refl _] at ho1
    obtain ⟨A1, c1, rfl⟩ := ho1.form
    obtain ⟨n0, n1⟩ := cells2 hI.nb
    have HI := Lib.hid hI
    have HK := Lib.hid hK
    have HR1 := Lib.hid hr1
    have HO1 := Lib.hid ho1
    clear hI hK hr1 ho1 hinv hbn hys
    gi_wp2_with (refine ⟨trivial, ?_⟩; gi_at_call 31; refine (callsIn_wide.2 (eachT_any _ _ _ _)).mono ?_; rintro e w2 ⟨rfl, rfl⟩)
    obtain ⟨es, hes, hrt⟩ := HR.out.ts
    have hfew : ∀ x ∈ es, x.n ≤ 100 := fun x hx => by
      have h1 := (hrt.2 x hx).len
      have h2 := HR.out.few.sn x.t (by rw [← hes]; exact List.mem_map_of_mem hx)
      simp only [TE.t] at h2
      omega
    have hlen : es.length = n' := hrt.len
    have hn' : n' ≤ 100 := by have := HR.out.lt; have := HR.out.few.ts; omega
    have HES := Lib.hid hes
    have HRT := Lib.hid hrt
    have HF := Lib.hid hfew
    clear hes hrt hfew
    obtain ⟨W1, hW1⟩ : ∃ W1, W.alloc (.cells #[.slice A' n' c'] 23) = W1 := ⟨_, rfl⟩
    have hbW : Below W.heap.size W W1 := by rw [← hW1]; exact (Below.refl _ _).alloc (Nat.le_refl _) _
    have hs1 : W1.heap.size = W.heap.size + 1 := by rw [← hW1]; simp
    have hbn1 : W1.cell? ⟨W.heap.size, 0, none⟩ = some (.slice A' n' c') := by rw [← hW1]; exact (Whole.new W _ _).cell 0
    rw [hW1]
    clear hW1
    have hI1 := HI.out.under hbW
    have hDl : D < W.heap.size := (Array.getElem?_eq_some_iff.1 HK.out).1
    have hinv2 : OwT w (w.heap.size + 1 + 1 + 1 + 1) (W.heap.size + 1) (.slice A1 s.ks.length c1) s.ks es D [] W1 :=
      ⟨⟨_, HR1.out.under hbW, ⟨[], World.ownsRow_nil _ _ _ _, rfl, by simp⟩⟩, HO1.out.under hbW, hI1.res, hI1.below, by omega, (hbW.block D hDl).trans HK.out⟩
    have hbw := hI1.below.size
    have hsz1 := HI.out.sz
    refine wpIn_range_mem (by omega) (gf := 41) (lb := #[.pointer (some ⟨W.heap.size, 0, none⟩)]) rfl (enters_of Try.func41 (by kernel_rfl) rfl) (encs := encT)
      (eachT_mem 5 W.heap.size w.heap.size A' n' c' es (by omega) W1 (by omega) (by omega) hbn1 (HRT.out.1.below hI1.below))
      (fun h k => kpB_t h k) (kpB_b (by omega) (by omega)) (Below.refl _ _) (fun _ => rfl)
      (OwT w (w.heap.size + 1 + 1 + 1 + 1) (W.heap.size + 1) (.slice A1 s.ks.length c1) s.ks es D) (fun _ _ => False)
      (owT_own _ _ _ _ _ _ _ _ (by omega) (by omega)) (fun _ _ _ _ h _ _ => h.elim) hinv2
      (fun pre x a' V => es[pre.length]? = some x.2 ∧ ∃ g u, a' = { tmps := #[.agg #[.slice A n c, .slice A' n' c'], .pointer (some ⟨w.heap.size, 0, none⟩), .pointer (some ⟨w.heap.size + 1, 0, none⟩), .pointer (some ⟨w.heap.size + 1 + 1, 0, none⟩), undef, undef, undef, .pointer (some ⟨g, 0, none⟩), .pointer (some ⟨w.heap.size, 0, none⟩), .slice A n c, .func (.func 40) #[] #[.pointer (some ⟨w.heap.size + 1 + 1 + 1, 0, none⟩)], undef, undef, undef, undef, undef, undef, undef, undef, .pointer (some ⟨w.heap.size, 1, none⟩), .slice A' n' c', .func (.func 41) #[] #[.pointer (some ⟨W.heap.size, 0, none⟩)], .int .i64 (x.1 : Int), .agg #[.int .i64 x.2.call, .int .u8 x.2.kind, .int .u8 x.2.code, .int .i64 x.2.id, .slice x.2.A x.2.n x.2.c, .bool x.2.more], undef, undef, undef, undef, undef, undef, undef, undef], defers := [] } ∧ Whole V g 30 #[.int .i64 x.2.call, .int .u8 x.2.kind, .int .u8 x.2.code, .int .i64 x.2.id, .slice x.2.A x.2.n x.2.c, .bool x.2.more] ∧ Whole V (w.heap.size + 1 + 1) 25 #[.slice A1 s.ks.length c1, u] ∧ u.ownBlock ≠ some g)
      (fun a' p X Y row hs hg hr => ⟨hs.1, by obtain ⟨g, u, e, hb, hb2, hb3⟩ := hs.2; exact ⟨g, u, e, Whole.turn hb hg (fun r e => (hr r e).2), Whole.turn hb2 hg (fun r e => (hr r e).2), hb3⟩⟩) ?assign2 ?body2 ?done2 ?stop2
    case assign2 =>
      rintro lp pre x V K hI hOk hK
      have HOk : Hid (es[pre.length]? = some x.2) := Lib.hid (by have := hOk.2; rw [hOk.1] at this; exact this)
      have HI2 := Lib.hid hI
      clear hOk hI
      unfold encT
      gi_wp2
      have hbu : Below V.heap.size V (V.alloc (.cells #[.int .i64 x.2.call, .int .u8 x.2.kind, .int .u8 x.2.code, .int .i64 x.2.id, .slice x.2.A x.2.n x.2.c, .bool x.2.more] 30)) := (Below.refl _ _).alloc (Nat.le_refl _) _
      obtain ⟨u, hu1, hu2⟩ := HI2.out.row
      exact hK _ _ (keepsFrom_alloc _ _ _) (kpB_under hbu HI2.out.below.size (by have := HI2.out.sz; omega)) (HI2.out.under hbu) ⟨HOk.out, _, u, rfl, Whole.new _ _ _, hu1.under hbu, tells_far hu2⟩
    case body2 =>
      rintro lp pre x a' V hlp hI ⟨hx, g, u', rfl, hsn, hu1, hu2⟩
      obtain ⟨u, hr1, ho1⟩ := hI.row
      obtain rfl : u' = u := by
        unfold Whole at hu1 hr1
        rw [hu1] at hr1
        simpa using hr1
      clear hu1
      obtain ⟨A2, c2, rfl⟩ := ho1.form
      have hk2 : ((es.take pre.length).map TE.t).length ≤ 1000 := by simp; omega
      obtain ⟨k, hk⟩ : ∃ k, ((es.take pre.length).map TE.t).length = k := ⟨_, rfl⟩
      rw [hk] at hr1 hu2
      have hxm : x.2 ∈ es := List.mem_of_getElem? hx
      have he : (es.take (pre.length + 1)).map TE.t = (es.take pre.length).map TE.t ++ [x.2.t] := by
        have hj := (List.getElem?_eq_some_iff.1 hx)
        rw [List.take_succ_eq_append_getElem hj.1, hj.2, List.map_append]
        rfl
      have hte : TeR V x.2 := ⟨((HRT.out.2 _ hxm).below hI.below).more hI.below.size, HF.out _ hxm⟩
      have HTE := Lib.hid hte
      have HI2 := Lib.hid hI
      have HX := Lib.hid hx
      have HE := Lib.hid he
      have HKk := Lib.hid hk
      have HK2 := Lib.hid hk2
      have HO2 := Lib.hid ho1
      have HU2 := Lib.hid hu2
      have HT0 : Hid ((fun V' => Whole V' (w.heap.size + 1 + 1) 25 #[.slice A1 s.ks.length c1, .slice A2 k c2] ∧ Whole V' g 30 #[.int .i64 x.2.call, .int .u8 x.2.kind, .int .u8 x.2.code, .int .i64 x.2.id, .slice x.2.A x.2.n x.2.c, .bool x.2.more]) V.drew) := Lib.hid ⟨hr1, hsn⟩
      have HL : Hid (∀ V', (fun V' => Whole V' (w.heap.size + 1 + 1) 25 #[.slice A1 s.ks.length c1, .slice A2 k c2] ∧ Whole V' g 30 #[.int .i64 x.2.call, .int .u8 x.2.kind, .int .u8 x.2.code, .int .i64 x.2.id, .slice x.2.A x.2.n x.2.c, .bool x.2.more]) V' → (V'.cell? ⟨w.heap.size + 1 + 1, 0, none⟩ = some (.slice A1 s.ks.length c1) ∧ V'.cell? ⟨w.heap.size + 1 + 1, 1, none⟩ = some (.slice A2 k c2)) ∧ V'.cell? ⟨g, 0, none⟩ = some (.int .i64 x.2.call) ∧ V'.cell? ⟨g, 1, none⟩ = some (.int .u8 x.2.kind) ∧ V'.cell? ⟨g, 2, none⟩ = some (.int .u8 x.2.code) ∧ V'.cell? ⟨g, 3, none⟩ = some (.int .i64 x.2.id) ∧ V'.cell? ⟨g, 4, none⟩ = some (.slice x.2.A x.2.n x.2.c) ∧ V'.cell? ⟨g, 5, none⟩ = some (.bool x.2.more)) := Lib.hid (fun V' h => ⟨cells2 h.1, cellsW6 h.2⟩)
      clear hI hx he hk hk2 ho1 hu2 hte hxm hr1 hsn hinv2 hbn1 hI1
      gi_wp2_with fail
      refine wpIn_region_T (ls := [7]) (T := (fun V' => Whole V' (w.heap.size + 1 + 1) 25 #[.slice A1 s.ks.length c1, .slice A2 k c2] ∧ Whole V' g 30 #[.int .i64 x.2.call, .int .u8 x.2.kind, .int .u8 x.2.code, .int .i64 x.2.id, .slice x.2.A x.2.n x.2.c, .bool x.2.more])) (by kernel_rfl) (by kernel_rfl) (fun a w h => h) ?_
      refine takeT (i := 0) (v := ?_) rfl (by kernel_rfl) (by kernel_rfl) (by kernel_rfl) (by kernel_rfl) (fun _ _ _ h => h) (by rfl) ?_ HT0.out ?_
      rotate_left
      · intro V' hV; obtain ⟨⟨y0, y1⟩, z0, z1, z2, z3, z4, z5⟩ := HL.out V' hV; go_simp <;> with_reducible rfl
      simp only [Act.put, List.setIfInBounds_toArray, List.set_cons_zero, List.set_cons_succ]
      refine takeT (i := 1) (v := ?_) rfl (by kernel_rfl) (by kernel_rfl) (by kernel_rfl) (by kernel_rfl) (fun _ _ _ h => h) (by rfl) ?_ HT0.out ?_
      rotate_left
      · intro V' hV; obtain ⟨⟨y0, y1⟩, z0, z1, z2, z3, z4, z5⟩ := HL.out V' hV; go_simp <;> with_reducible rfl
      simp only [Act.put, List.setIfInBounds_toArray, List.set_cons_zero, List.set_cons_succ]
      refine takeT (i := 2) (v := ?_) rfl (by kernel_rfl) (by kernel_rfl) (by kernel_rfl) (by kernel_rfl) (fun _ _ _ h => h) (by rfl) ?_ HT0.out ?_
      rotate_left
      · intro V' hV; obtain ⟨⟨y0, y1⟩, z0, z1, z2, z3, z4, z5⟩ := HL.out V' hV; go_simp <;> with_reducible rfl
      simp only [Act.put, List.setIfInBounds_toArray, List.set_cons_zero, List.set_cons_succ]
      refine oneT (i := 3) rfl (by kernel_rfl) (by rfl) (fun K hK => ?_)
      go_simp
      go_at_call 28
      refine (ownT_any x.2 _ (HTE.out.up (Below.refl _ _).drew)).mono ?_
      rintro e y1 ⟨A5, c5, rfl, ho5, hb5⟩
      have HT1 : Hid ((fun V' => Whole V' (w.heap.size + 1 + 1) 25 #[.slice A1 s.ks.length c1, .slice A2 k c2] ∧ Whole V' g 30 #[.int .i64 x.2.call, .int .u8 x.2.kind, .int .u8 x.2.code, .int .i64 x.2.id, .slice x.2.A x.2.n x.2.c, .bool x.2.more]) y1) := Lib.hid ⟨HT0.out.1.under hb5, HT0.out.2.under hb5⟩
      have HO5 := Lib.hid ho5
      have HB5 := Lib.hid (Below.trans ((Below.refl V.heap.size V).drew) hb5)
      have HO3 := Lib.hid (HO2.out.under HB5.out)
      clear ho5 hb5
      refine hK.out _ _ (fun _ => HT1.out) ?_
      clear hK K
      refine oneT (i := 4) rfl (by kernel_rfl) (by rfl) (fun K hK => ?_)
      go_simp
      have bA := (Below.refl y1.heap.size y1).alloc (Nat.le_refl _) (.cells #[.int .i64 x.2.call, .int .u8 x.2.kind, .int .u8 x.2.code, .int .i64 x.2.id, .slice A5 x.2.n c5, .bool x.2.more] 30)
      refine hK.out _ _ (fun _ => ⟨HT1.out.1.under bA, HT1.out.2.under bA⟩) ?_
      clear hK K bA
      obtain ⟨A6, c6, y6, hrun, ho6, hb6, hk6, hw6, ha6⟩ := tells_put y1 (W.heap.size + 1) _ _ HO3.out { x.2 with A := A5, c := c5 } (own_weaker HO5.out (by have := HI2.out.sz; simpa using this)) HK2.out (by have := HI2.out.sz; have := HB5.out.size; omega) y1.heap.size rfl
      rw [HKk.out] at hrun ho6 hw6
      have hs6 : Whole y6 (w.heap.size + 1 + 1) 25 #[.slice A1 s.ks.length c1, .slice A2 k c2] := hw6 _ _ _ HT1.out.1 (.inl (by decide))
      have HT6 : Hid ((fun V' => Whole V' (w.heap.size + 1 + 1) 25 #[.slice A1 s.ks.length c1, .slice A2 k c2] ∧ Whole V' g 30 #[.int .i64 x.2.call, .int .u8 x.2.kind, .int .u8 x.2.code, .int .i64 x.2.id, .slice x.2.A x.2.n x.2.c, .bool x.2.more]) y6) := Lib.hid ⟨hs6, hw6 _ _ _ HT1.out.2 (.inr HU2.out)⟩
      have q1 := hs6.cell 1
      have f1 := hs6.frozen 1
      simp only [List.getElem?_toArray, List.getElem?_cons_succ, List.getElem?_cons_zero] at q1
      have HRun := Lib.hid hrun
      have HO6 := Lib.hid ho6
      have HB6 := Lib.hid hb6
      have HK6 := Lib.hid hk6
      have HA6 := Lib.hid (ha6 _ _ _ (HI2.out.asks.under HB5.out))
      clear hrun ho6 hb6 hk6 hw6 ha6 hs6
      refine oneT (i := 5) rfl (by kernel_rfl) (by rfl) (fun K hK => ?_)
      refine wp_appendH (by rfl) (by rfl) HRun.out ?_
      simp only [Act.put, List.setIfInBounds_toArray, List.set_cons_zero, List.set_cons_succ]
      refine hK.out _ _ (fun _ => HT6.out) ?_
      clear hK K
      refine oneT (i := 6) rfl (by kernel_rfl) (by rfl) (fun K hK => ?_)
      go_simp
      refine hK.out _ _ (fun _ => HT6.out) ?_
      clear hK K
      refine oneL (i := 7) (by kernel_rfl) rfl (by kernel_rfl) (by rfl) (fun K hK => ?_)
      go_simp
      refine hK.out _ _ ?_
      clear hK K
      refine doneT (by kernel_rfl) ?_ _
      have hw7 := HT6.out.1.set 1 (.slice A6 (k + 1) c6)
      simp only [List.setIfInBounds_toArray, List.set_cons_zero, List.set_cons_succ] at hw7
      have ko := Only.set y6 (w.heap.size + 1 + 1) 1 (.slice A6 (k + 1) c6)
      have hsz := HI2.out.sz
      have hlen : (pre ++ [x]).length = pre.length + 1 := by simp
      have hbw2 := HI2.out.below.size
      have hbV : Below (W.heap.size + 1) V y6 := (HB5.out.mono hsz).trans HB6.out
      refine ⟨((keeps_under HB5.out).trans (HK6.out.trans (KeepsOthers.setCell _ _ _))).from _, kpB_t ⟨hbV.mono (by omega), hbV.block _ (by omega)⟩ (kpB_setc y6 (by omega) (by omega) 1 _), ⟨_, hw7, ?_⟩, ?_, ?_, ?_, ?_, ?_⟩
      · rw [hlen, HE.out]; exact HO6.out.only ko HT6.out.1 (by decide) (by decide)
      · exact HA6.out.only ko HT6.out.1 (by decide)
      · exact ko.far (HI2.out.res.below hbV (by omega)) (by omega)
      · exact ko.bel (HI2.out.below.trans (hbV.mono (by omega))) (by omega)
      · rw [ko.size]; exact Nat.le_trans hsz hbV.size
      · exact (ko.grown.block D (by have := hbV.size; omega) (by simp; omega)).trans ((hbV.block D (by omega)).trans HI2.out.dk)
    case done2 =>
      rintro D2 ys2 V hD2 hys2 hI2 hK2
      obtain ⟨u, hr1, ho1⟩ := hI2.row
      rw [List.take_of_length_le (show es.length ≤ ys2.length by rw [hys2, hlen]; exact Nat.le_refl _), HES.out] at ho1
      obtain ⟨A2, c2, rfl⟩ := ho1.form
      have q0 := hr1.cell 0
      have q1 := hr1.cell 1
      have z0 := hI2.res.cell 0
      have z1 := hI2.res.cell 1
      have f0 := hI2.res.frozen 0
      have f1 := hI2.res.frozen 1
      simp only [List.getElem?_toArray, List.getElem?_cons_succ, List.getElem?_cons_zero] at q0 q1 z0 z1
      have HI2 := Lib.hid hI2
      have HK2 := Lib.hid hK2
      have HR2 := Lib.hid hr1
      have HO2 := Lib.hid ho1
      clear hI2 hK2 hr1 ho1 hinv2 hbn1 hI1 hys2
      gi_wp2_with fail
      obtain ⟨e2, ko⟩ := put2 HI2.out.res (.slice A1 s.ks.length c1) (.slice A2 s.ts.length c2)
      have a3 := HI2.out.asks.only ko HI2.out.res (by decide)
      have t3 := HO2.out.only ko HI2.out.res (by decide) (by decide)
      have b3 := ko.bel HI2.out.below (by omega)
      have hK3 := ko.keeps.same D2 _ HK2.out rfl
      have hK4 := ko.keeps.same D _ HI2.out.dk rfl
      generalize (V.setCell ⟨w.heap.size + 1, 0, none⟩ (.slice A1 s.ks.length c1)).setCell ⟨w.heap.size + 1, 1, none⟩ (.slice A2 s.ts.length c2) = V2 at *
      have hg1 := grownBy_putObj' V2 D2 (.deferred none)
      have hr1 : ∀ r, (some D2) = some r → ∃ o : Obj, V2.heap[r]? = some o ∧ o.isCells = false := fun r e => by cases e; exact ⟨_, hK3, rfl⟩
      have hK5 : (V2.putObj D2 (.deferred none)).heap[D]? = some (.deferred (some [])) := (World.putObj_heap_other (by omega)).trans hK4
      have hg2 := grownBy_putObj' (V2.putObj D2 (.deferred none)) D (.deferred none)
      have hr2 : ∀ r, (some D) = some r → ∃ o : Obj, (V2.putObj D2 (.deferred none)).heap[r]? = some o ∧ o.isCells = false := fun r e => by cases e; exact ⟨_, hK5, rfl⟩
      obtain ⟨y0, y1⟩ := cells2 ((e2.turn hg1 hr1).turn hg2 hr2)
      refine ⟨by simp, .inl ⟨_, _, rfl, run_takeDeferred hK3, ?_⟩⟩
      refine ⟨by simp, .inl ⟨_, _, rfl, run_takeDeferred hK5, ?_⟩⟩
      refine ⟨.agg #[.slice A1 s.ks.length c1, .slice A2 s.ts.length c2], by simp [results, Try.results15, go_sem, y0, y1], A1, c1, A2, c2, rfl, ⟨?_, ?_⟩, ?_⟩
      · exact ((a3.turn hg1 hr1).turn hg2 hr2).weaker (by omega)
      · exact ((t3.turn hg1 hr1).turn hg2 hr2).weaker (by omega)
      · exact (b3.trans ((Below.refl _ _).grown hg1 b3.size (fun k e => by cases e; omega))).trans ((Below.refl _ _).grown hg2 (by have := b3.size; have := hg1.size; omega) (fun k e => by cases e; omega))
    case stop2 =>
      rintro D c W hD h hK
      exact h.elim
  case stop =>
    rintro D c W hD h hK
    exact h.elim

end Go.Proofs.Ytcbbjloojngoiaa
