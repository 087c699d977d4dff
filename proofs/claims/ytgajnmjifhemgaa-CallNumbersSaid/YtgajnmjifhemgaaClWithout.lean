/-
  The walk of 'without' of package call: the calls of which a closure says no, in memory of their own. Conditions: those that each theorem names.
-/
import Derived.Test.YtgajnmjifhemgaaClHas
namespace Go.Proofs.Ytgajnmjifhemgaa
open Go.RowKit Go.Shelf
attribute [local go_sem] Oper.semAt_some

/-- What holds between two rounds. -/
structure WoAt (w : World) (f : FuncId) (lb : Array Value) (ep nx : Int) (A : Option Addr) (n k : Nat) (p : Cl → Bool) (l : List Cl) (q : Nat) (pre : List Cl) (W : World) : Prop where
  row : ∃ v, Whole W (w.heap.size + 1 + 1 + 1) 22 #[v] ∧ CallsAt (w.heap.size + 1 + 1 + 1 + 1) W v ((l.take pre.length).filter fun x => !p x)
  cb : Whole W w.heap.size 24 #[.int .i64 ep, .int .i64 nx, .slice A n k]
  fb : Whole W (w.heap.size + 1) 56 #[.func (.func f) #[] lb]
  rc : Whole W (w.heap.size + 1 + 1) 24 #[.int .i64 0, .int .i64 0, .slice none 0 0]
  nb : Whole W q 22 #[.slice A n k]
  below : Below w.heap.size w W
  sz : w.heap.size + 1 + 1 + 1 + 1 ≤ W.heap.size
section
variable {w : World} {f : FuncId} {lb : Array Value} {ep nx : Int} {A : Option Addr} {n k : Nat} {p : Cl → Bool} {l : List Cl} {q : Nat}
theorem woAt_own (B : Nat) (hB : w.heap.size < B) : OwnFrom B (WoAt w f lb ep nx A n k p l q) := by
  intro pre W1 W2 row h hg hr
  have hr' : ∀ r, row = some r → ∃ o : Obj, W1.heap[r]? = some o ∧ o.isCells = false := fun r e => (hr r e).2
  obtain ⟨v, h1, h2⟩ := h.row
  exact ⟨⟨v, h1.turn hg hr', h2.turn hg hr'⟩, h.cb.turn hg hr', h.fb.turn hg hr', h.rc.turn hg hr', h.nb.turn hg hr', h.below.grown hg h.below.size (fun k e => by have := (hr k e).1; omega), Nat.le_trans h.sz hg.size⟩
theorem WoAt.under {pre : List Cl} {W W' : World} (h : WoAt w f lb ep nx A n k p l q pre W) (hb : Below W.heap.size W W') : WoAt w f lb ep nx A n k p l q pre W' := by
  obtain ⟨v, h1, h2⟩ := h.row
  exact ⟨⟨v, h1.under hb, h2.under hb⟩, h.cb.under hb, h.fb.under hb, h.rc.under hb, h.nb.under hb, h.below.trans (hb.mono h.below.size), Nat.le_trans h.sz hb.size⟩
theorem filter_next {x : Cl} {j : Nat} (hx : l[j]? = some x) : (l.take (j + 1)).filter (fun x => !p x) = (l.take j).filter (fun x => !p x) ++ (if p x then [] else [x]) := by
  have hj := List.getElem?_eq_some_iff.1 hx
  rw [List.take_succ_eq_append_getElem hj.1, hj.2, List.filter_append]
  cases h : p x <;> simp [h]
end

set_option maxRecDepth 100000 in
set_option maxHeartbeats 2000000 in
theorem without_no (f : FuncId) (lb : Array Value) (c : Cs) (A : Option Addr) (n k : Nat) (B : Nat) (w : World) (hr : RdC w B A n c.l) (hB : B ≤ w.heap.size) (hn : n ≤ 1000) (hright : rightC c = false) :
    Calls Try.prog 39 #[.agg #[.int .i64 c.ep, .int .i64 c.nx, .slice A n k], .func (.func f) #[] lb] w (CsPost c w) := by
  obtain ⟨ep, nx, l⟩ := c
  simp only at hr
  obtain ⟨V, hV⟩ : ∃ V, (((w.alloc (.cells #[.int .i64 ep, .int .i64 nx, .slice A n k] 24)).alloc (.cells #[.func (.func f) #[] lb] 56)).alloc (.cells #[.int .i64 0, .int .i64 0, .slice none 0 0] 24)).alloc (.cells #[.slice none 0 0] 22) = V := ⟨_, rfl⟩
  obtain ⟨hb, w0, w2⟩ : Below w.heap.size w V ∧ Whole V w.heap.size 24 #[.int .i64 ep, .int .i64 nx, .slice A n k] ∧ Whole V (w.heap.size + 1 + 1) 24 #[.int .i64 0, .int .i64 0, .slice none 0 0] := by
    obtain ⟨t0, t1, t2, t3⟩ := three_new w 24 56 24 #[.int .i64 ep, .int .i64 nx, .slice A n k] #[.func (.func f) #[] lb] #[.int .i64 0, .int .i64 0, .slice none 0 0]
    rw [← hV]
    exact ⟨t0.alloc t0.size _, t1.alloc _, t3.alloc _⟩
  obtain ⟨c0, c1, c2⟩ := cells3 w0
  have HR := Lib.hid (rightc_any ⟨ep, nx, l⟩ A n k B V (hr.below (hb.mono hB)) (Nat.le_trans hB hb.size) hn)
  have HO := Lib.hid (fun (W : World) (h : Below w.heap.size w W) => own_anyC ⟨ep, nx, l⟩ A n k B W (hr.below (h.mono hB)) (Nat.le_trans hB h.size) hn)
  rw [hright] at HR
  have HB := Lib.hid hb
  have HV := Lib.hid hV
  have W0 := Lib.hid w0
  have W2 := Lib.hid w2
  clear hr hB hright hb w0 w2 hV
  go_enter Try.func39, Try.ntmps39
  go_wp2_with fail
  refine wp_scope_fwd 0 (fun a' w' => a' = { tmps := #[.agg #[.int .i64 ep, .int .i64 nx, .slice A n k], .func (.func f) #[] lb, .pointer (some ⟨w.heap.size, 0, none⟩), .pointer (some ⟨w.heap.size + 1, 0, none⟩), .pointer (some ⟨w.heap.size + 1 + 1, 0, none⟩), .pointer (some ⟨w.heap.size + 1 + 1 + 1, 0, none⟩), undef, .agg #[.int .i64 ep, .int .i64 nx, .slice A n k], .bool false, .bool true, undef, undef, undef, undef, undef, undef, undef, undef, undef, undef, undef, undef, undef, undef, undef, undef, undef], defers := [] } ∧ Below V.heap.size V w') rfl ?first ?tail
  case first =>
    go_upto_region 2 with fail
    rw [HV.out]
    clear HV
    go_wp2_with fail
    refine HR.out.mono ?_
    rintro e w1 ⟨rfl, b1⟩
    have B1 := Lib.hid b1
    clear b1 c0 c1 c2
    go_wp2_with fail
    go_step3
    exact ⟨rfl, rfl, B1.out⟩
  case tail =>
    rintro a' w' ⟨rfl, hb1⟩
    have u0 := W0.out.under hb1
    have U2 := Lib.hid (W2.out.under hb1)
    have HB1 := Lib.hid (HB.out.trans (hb1.mono HB.out.size))
    clear hb1 c0 c1 c2
    obtain ⟨c0, c1, c2⟩ := cells3 u0
    clear u0 HV
    go_wp2_with fail
    refine (HO.out w' HB1.out).mono ?_
    rintro e w2 ⟨A2, k2, rfl, ho, hb2⟩
    have u2 := U2.out.under hb2
    obtain ⟨r0, r1, r2⟩ := cells3 u2
    have z0 := u2.frozen 0
    have z1 := u2.frozen 1
    have z2 := u2.frozen 2
    have V2 := Lib.hid u2
    have HB2 := Lib.hid (HB1.out.trans (hb2.mono HB1.out.size))
    have HO2 := Lib.hid (ho.weaker HB1.out.size)
    clear u2 ho hb2 c0 c1 c2
    go_wp2_with fail
    obtain ⟨e3, k3⟩ := put3 V2.out (.int .i64 ep) (.int .i64 nx) (.slice A2 l.length k2)
    obtain ⟨y0, y1, y2⟩ := cells3 e3
    simp only [Exit.jump]
    exact bodyPost_ret (v := .agg #[.int .i64 ep, .int .i64 nx, .slice A2 l.length k2]) (by simp [results, Try.results39, go_sem, y0, y1, y2]) rfl ⟨A2, k2, rfl, HO2.out.only k3 V2.out (by decide), k3.bel HB2.out (by omega)⟩

set_option maxRecDepth 100000 in
set_option maxHeartbeats 2000000 in
theorem without_yes (f : FuncId) (lb : Array Value) (p : Cl → Bool) (c : Cs) (A : Option Addr) (n k : Nat) (B : Nat) (w : World) (hr : RdC w B A n c.l) (hB : B ≤ w.heap.size) (hn : n ≤ 1000) (hright : rightC c = true)
    (eg : ∀ args w, (callFunc f args).run Try.prog w = .ok (.enter f args) w)
    (hf : ∀ (x : Cl) (W : World), Below w.heap.size w W → Calls Try.prog f (#[.agg #[.int .i64 x.id, .int .u8 x.kind, .int .i64 x.key, .int .i64 x.sent]] ++ lb) W (BoolPost (p x) W)) :
    Calls Try.prog 39 #[.agg #[.int .i64 c.ep, .int .i64 c.nx, .slice A n k], .func (.func f) #[] lb] w (CsPost { c with l := c.l.filter fun x => !p x } w) := by
  obtain ⟨ep, nx, l⟩ := c
  simp only at hr
  obtain ⟨V, hV⟩ : ∃ V, (((w.alloc (.cells #[.int .i64 ep, .int .i64 nx, .slice A n k] 24)).alloc (.cells #[.func (.func f) #[] lb] 56)).alloc (.cells #[.int .i64 0, .int .i64 0, .slice none 0 0] 24)).alloc (.cells #[.slice none 0 0] 22) = V := ⟨_, rfl⟩
  have hs : V.heap.size = w.heap.size + 1 + 1 + 1 + 1 := by rw [← hV]; simp
  obtain ⟨hb, w0, w1, w2, w3⟩ : Below w.heap.size w V ∧ Whole V w.heap.size 24 #[.int .i64 ep, .int .i64 nx, .slice A n k] ∧ Whole V (w.heap.size + 1) 56 #[.func (.func f) #[] lb] ∧ Whole V (w.heap.size + 1 + 1) 24 #[.int .i64 0, .int .i64 0, .slice none 0 0] ∧ Whole V (w.heap.size + 1 + 1 + 1) 22 #[.slice none 0 0] := by
    obtain ⟨t0, t1, t2, t3⟩ := three_new w 24 56 24 #[.int .i64 ep, .int .i64 nx, .slice A n k] #[.func (.func f) #[] lb] #[.int .i64 0, .int .i64 0, .slice none 0 0]
    rw [← hV]
    refine ⟨t0.alloc t0.size _, t1.alloc _, t2.alloc _, t3.alloc _, ?_⟩
    have := Whole.new (((w.alloc (.cells #[.int .i64 ep, .int .i64 nx, .slice A n k] 24)).alloc (.cells #[.func (.func f) #[] lb] 56)).alloc (.cells #[.int .i64 0, .int .i64 0, .slice none 0 0] 24)) 22 #[.slice none 0 0]
    simpa using this
  obtain ⟨c0, c1, c2⟩ := cells3 w0
  have HRi := Lib.hid (rightc_any ⟨ep, nx, l⟩ A n k B V (hr.below (hb.mono hB)) (Nat.le_trans hB hb.size) hn)
  rw [hright] at HRi
  have HR := Lib.hid (hr.more hB)
  have HF := Lib.hid hf
  have HB := Lib.hid hb
  have HV := Lib.hid hV
  have W0 := Lib.hid w0
  have W1 := Lib.hid w1
  have W2 := Lib.hid w2
  have W3 := Lib.hid w3
  clear hr hB hright hb w0 w1 w2 w3 hV hf
  refine (callsIn_wide (n := 6)).1 ?_
  refine callsIn_of_wp_marks Try.func39 rfl trivial ?_ rfl
  simp only [Try.ntmps39, List.size_toArray, List.length_cons, List.length_nil, Nat.reduceAdd, Nat.reduceSub, Array.replicate_succ, Array.replicate_zero, List.push_toArray, List.append_toArray, List.nil_append, List.cons_append]
  gi_wp2_with fail
  refine wpIn_wide.2 (wp_scope_fwd 0 (fun _ _ => False) rfl (wpIn_wide (n := 6).1 ?first) (fun _ _ h => h.elim))
  have hV := HV.out
  clear HV
  gi_wp2_with (refine ⟨trivial, ?_⟩; gi_at_call 17; refine (callsIn_wide.2 HRi.out).mono ?_; rintro e w5 ⟨rfl, b5⟩; have B5 := Lib.hid b5; have u0 := W0.out.under b5; clear b5 c0 c1 c2; obtain ⟨c0, c1, c2⟩ := cells3 u0; clear u0)
  refine ⟨trivial, ?_⟩
  gi_at_call 47
  refine (callsIn_wide.2 (each_any _ _ _ _)).mono ?_
  rintro e w6 ⟨rfl, hw6⟩
  obtain ⟨q, hq⟩ : ∃ q, w5.heap.size = q := ⟨_, rfl⟩
  have hb6 : Below w5.heap.size w5 w6 := by rw [hw6]; exact (Below.refl _ _).alloc (Nat.le_refl _) _
  have hn6 : Whole w6 q 22 #[.slice A n k] := by rw [hw6, ← hq]; exact Whole.new _ _ _
  have hs6 : w6.heap.size = q + 1 := by rw [hw6, ← hq]; simp
  rw [hq]
  have hinv : WoAt w f lb ep nx A n k p l q [] w6 := by
    have b5 := B5.out
    exact ⟨⟨.slice none 0 0, (W3.out.under b5).under hb6, CallsAt.nil_ _ _⟩, (W0.out.under b5).under hb6, (W1.out.under b5).under hb6, (W2.out.under b5).under hb6, hn6, (HB.out.trans (b5.mono HB.out.size)).trans (hb6.mono (Nat.le_trans HB.out.size b5.size)), by have := b5.size; omega⟩
  have hq4 : w.heap.size + 1 + 1 + 1 + 1 ≤ q := by have := B5.out.size; omega
  clear hV hw6 hb6 hn6 c0 c1 c2 hq B5 W0 W1 W2 W3 HRi hs
  gi_wp2_with fail
  refine wpIn_range_mem (by omega) (gf := 48) (lb := #[.pointer (some ⟨q, 0, none⟩)]) rfl (enters_of Try.func48 (by kernel_rfl) rfl) (encs := encC)
    (eachC_mem 5 q w.heap.size A n k l (by omega) w6 (by omega) (by omega) (cells1 hinv.nb) (HR.out.below hinv.below))
    (fun h k => kpB_t h k) (kpB_b (by omega) (by omega)) (Below.refl _ _) (fun _ => rfl)
    (WoAt w f lb ep nx A n k p l q) (fun _ _ => False)
    (woAt_own _ (by omega)) (fun _ _ _ _ h _ _ => h.elim) hinv
    (fun pre x a' W => l[pre.length]? = some x ∧ ∃ g, a' = { tmps := #[.agg #[.int .i64 ep, .int .i64 nx, .slice A n k], .func (.func f) #[] lb, .pointer (some ⟨w.heap.size, 0, none⟩), .pointer (some ⟨w.heap.size + 1, 0, none⟩), .pointer (some ⟨w.heap.size + 1 + 1, 0, none⟩), .pointer (some ⟨w.heap.size + 1 + 1 + 1, 0, none⟩), .pointer (some ⟨g, 0, none⟩), .agg #[.int .i64 ep, .int .i64 nx, .slice A n k], .bool true, .bool false, .pointer (some ⟨w.heap.size, 2, none⟩), .slice A n k, .func (.func 48) #[] #[.pointer (some ⟨q, 0, none⟩)], .agg #[.int .i64 x.id, .int .u8 x.kind, .int .i64 x.key, .int .i64 x.sent], undef, undef, undef, undef, undef, undef, undef, undef, undef, undef, undef, undef, undef], defers := [] } ∧ Whole W g 31 #[.int .i64 x.id, .int .u8 x.kind, .int .i64 x.key, .int .i64 x.sent])
    (fun a' p' X Y row hs hg hr => ⟨hs.1, by obtain ⟨g, e, hb⟩ := hs.2; exact ⟨g, e, Whole.turn hb hg (fun r e => (hr r e).2)⟩⟩) ?assign ?body ?done ?stop
  case assign =>
    rintro lp pre x W K hI hOk hK
    have HOk := Lib.hid hOk
    have HI := Lib.hid hI
    clear hOk hI
    unfold encC
    gi_wp2
    have hbu : Below W.heap.size W (W.alloc (.cells #[.int .i64 x.id, .int .u8 x.kind, .int .i64 x.key, .int .i64 x.sent] 31)) := (Below.refl _ _).alloc (Nat.le_refl _) _
    exact hK _ _ (keepsFrom_alloc _ _ _) (kpB_under hbu HI.out.below.size HI.out.nb.lt) (HI.out.under hbu) ⟨HOk.out, _, rfl, Whole.new _ _ _⟩
  case body =>
    rintro lp pre x a' W hlp hI ⟨hx, g, rfl, hbx⟩
    have HI := Lib.hid hI
    have HX := Lib.hid hx
    have HBX := Lib.hid hbx
    obtain ⟨x0, x1, x2, x3⟩ := cells4 hbx
    have f0 := cells1 hI.fb
    clear hI hbx hx hinv
    have hlen : (pre ++ [x]).length = pre.length + 1 := by simp
    gi_wp2_with fail
    refine ⟨trivial, ?_⟩
    refine (CallsIn.inRound lp (callsIn_wide.2 (HF.out x W HI.out.below))).mono ?_
    rintro e w2 ⟨rfl, q2⟩
    have HI2 := Lib.hid (HI.out.under q2)
    have HBX2 := Lib.hid (HBX.out.under q2)
    have HQ2 := Lib.hid q2
    clear x0 x1 x2 x3 f0 q2
    cases hp : p x with
    | true =>
      have HP := Lib.hid hp
      clear hp
      gi_wp2_with fail
      obtain ⟨v, hv1, hv2⟩ := HI2.out.row
      refine ⟨keepsFrom_under _ HQ2.out, kpB_under HQ2.out HI.out.below.size HI.out.nb.lt, ⟨v, hv1, ?_⟩, HI2.out.cb, HI2.out.fb, HI2.out.rc, HI2.out.nb, HI2.out.below, HI2.out.sz⟩
      rw [hlen, filter_next HX.out, HP.out]
      simpa using hv2
    | false =>
      have HP := Lib.hid hp
      clear hp
      obtain ⟨v, hv1, hv2⟩ := HI2.out.row
      obtain ⟨A1, k1, rfl⟩ := hv2.form
      have hm : ((l.take pre.length).filter fun x => !p x).length ≤ 1000 := Nat.le_trans (List.length_filter_le _ _) (by rw [List.length_take, HR.out.len]; omega)
      obtain ⟨A2, k2, W2, hrun, ho2, hb2, hkf, hwh, _⟩ := calls_put w2 (w.heap.size + 1 + 1 + 1 + 1) _ _ hv2 x hm HI2.out.sz
      obtain ⟨m, hmm⟩ : ∃ m, ((l.take pre.length).filter fun x => !p x).length = m := ⟨_, rfl⟩
      rw [hmm] at hv1 hrun ho2
      have hr2 := hwh _ _ _ hv1 (by decide)
      obtain ⟨x0, x1, x2, x3⟩ := cells4 HBX2.out
      have r0 := cells1 hv1
      have q0 := cells1 hr2
      have z0 := hr2.frozen 0
      have HRun := Lib.hid hrun
      have HO2 := Lib.hid ho2
      have HB2 := Lib.hid hb2
      have HKF := Lib.hid hkf
      have HWh := Lib.hid hwh
      have HR2 := Lib.hid hr2
      have HMm := Lib.hid hmm
      clear hv1 hv2 hm hrun ho2 hb2 hkf hwh hr2 hmm
      gi_wp2_with (gi_at_builtin; refine wpListIn_app (by rfl) _ _ 22 rfl _ _ _ W2 (by rfl) (by rfl) HRun.out ?_)
      obtain ⟨e3, k3⟩ := put1 HR2.out (.slice A2 (m + 1) k2)
      have sz := HI2.out.sz
      have nlt := HI2.out.nb.lt
      refine ⟨keepsFrom_t (keepsFrom_under _ HQ2.out) ((HKF.out.trans k3.keeps).from _), kpB_t (kpB_under HQ2.out HI.out.below.size HI.out.nb.lt) (kpB_t (B := W2) ⟨HB2.out.mono (by omega), ?_⟩ (kpB_only k3 (by omega) (by omega) ?_)), ⟨_, e3, ?_⟩, ?_, ?_, ?_, ?_, ?_, ?_⟩
      · exact (HWh.out _ _ _ HI2.out.nb (by decide)).trans HI2.out.nb.symm
      · have := HB2.out.size; omega
      · rw [hlen, filter_next HX.out, HP.out]
        exact HO2.out.only k3 HR2.out (by decide)
      · exact k3.far (HWh.out _ _ _ HI2.out.cb (by decide)) (by omega)
      · exact k3.far (HWh.out _ _ _ HI2.out.fb (by decide)) (by omega)
      · exact k3.far (HWh.out _ _ _ HI2.out.rc (by decide)) (by omega)
      · exact k3.far (HWh.out _ _ _ HI2.out.nb (by decide)) (by omega)
      · exact k3.bel (HI2.out.below.trans (HB2.out.mono (by omega))) (by omega)
      · rw [k3.size]; exact Nat.le_trans sz HB2.out.size
  case done =>
    rintro D ys W hD hys hI hK
    obtain ⟨v, hv1, hv2⟩ := hI.row
    rw [show l.take ys.length = l by rw [List.take_of_length_le]; rw [hys, HR.out.len]; exact Nat.le_refl _] at hv2
    obtain ⟨A1, k1, rfl⟩ := hv2.form
    obtain ⟨m, hmm⟩ : ∃ m, (l.filter fun x => !p x).length = m := ⟨_, rfl⟩
    rw [hmm] at hv1 hv2
    have HI := Lib.hid hI
    have HK := Lib.hid hK
    have HMm := Lib.hid hmm
    have V1 := Lib.hid hv1
    have V2 := Lib.hid hv2
    have v0 := cells1 hv1
    obtain ⟨c0, c1, c2⟩ := cells3 hI.cb
    have y2 := hI.cb.frozen 2
    obtain ⟨r0, r1, r2⟩ := cells3 hI.rc
    have z0 := hI.rc.frozen 0
    have z1 := hI.rc.frozen 1
    have z2 := hI.rc.frozen 2
    clear hI hK hmm hv1 hv2 hinv
    gi_wp2_with fail
    have k3 := Only.set W w.heap.size 2 (.slice A1 m k1)
    obtain ⟨e4, k4⟩ := put3 (k3.far HI.out.rc (by omega)) (.int .i64 ep) (.int .i64 nx) (.slice A1 m k1)
    have hK2 := (k4.keeps).same D _ ((k3.keeps).same D _ HK.out rfl) rfl
    have o4 := (V2.out.only k3 HI.out.cb (by decide)).only k4 (k3.far HI.out.rc (by omega)) (by decide)
    have b4 := k4.bel (k3.bel HI.out.below (Nat.le_refl _)) (by omega)
    simp only [Exit.jump]
    generalize (((W.setCell ⟨w.heap.size, 2, none⟩ (.slice A1 m k1)).setCell ⟨w.heap.size + 1 + 1, 0, none⟩ (.int .i64 ep)).setCell ⟨w.heap.size + 1 + 1, 1, none⟩ (.int .i64 nx)).setCell ⟨w.heap.size + 1 + 1, 2, none⟩ (.slice A1 m k1) = W4 at *
    have hg' := grownBy_putObj' W4 D (.deferred none)
    have hr' : ∀ r, (some D) = some r → ∃ o : Obj, W4.heap[r]? = some o ∧ o.isCells = false := fun r e => by cases e; exact ⟨_, hK2, rfl⟩
    obtain ⟨t0, t1, t2⟩ := cells3 (e4.turn hg' hr')
    refine ⟨by simp, .inl ⟨_, _, rfl, run_takeDeferred hK2, ?_⟩⟩
    refine ⟨.agg #[.int .i64 ep, .int .i64 nx, .slice A1 m k1], by simp [results, Try.results39, go_sem, t0, t1, t2], A1, k1, by rw [HMm.out], ?_, b4.trans ((Below.refl _ _).grown hg' b4.size (fun k e => by cases e; omega))⟩
    rw [HMm.out]
    exact (o4.turn hg' hr').weaker (by omega)
  case stop =>
    rintro D c W hD h hK
    exact h.elim

/-- Calls without those of which a closure says yes. -/
theorem without_any (f : FuncId) (lb : Array Value) (p : Cl → Bool) (c : Cs) (A : Option Addr) (n k : Nat) (B : Nat) (w : World) (hr : RdC w B A n c.l) (hB : B ≤ w.heap.size) (hn : n ≤ 1000)
    (eg : ∀ args w, (callFunc f args).run Try.prog w = .ok (.enter f args) w)
    (hf : ∀ (x : Cl) (W : World), Below w.heap.size w W → Calls Try.prog f (#[.agg #[.int .i64 x.id, .int .u8 x.kind, .int .i64 x.key, .int .i64 x.sent]] ++ lb) W (BoolPost (p x) W)) :
    Calls Try.prog 39 #[.agg #[.int .i64 c.ep, .int .i64 c.nx, .slice A n k], .func (.func f) #[] lb] w (CsPost (if rightC c then { c with l := c.l.filter fun x => !p x } else c) w) := by
  cases h : rightC c with
  | true => exact without_yes f lb p c A n k B w hr hB hn h eg hf
  | false => exact without_no f lb c A n k B w hr hB hn h

end Go.Proofs.Ytgajnmjifhemgaa
