/-
  The walks of 'slices.EqualFunc' at tells and of 'Same' of package net. Conditions: those that each theorem names.
-/
import Derived.Test.YtcbbjloojngoiaaNtEqual
import Derived.Test.YtcbbjloojngoiaaNtNet
import Derived.Deep.DeepCutAuto
namespace Go.Proofs.Ytcbbjloojngoiaa
open Go.RowKit Go.Shelf

theorem map_take_grow {es es' : List TE} {j : Nat} {x y : TE} (h : (es.take j).map TE.t = (es'.take j).map TE.t) (h1 : es[j]? = some x) (h2 : es'[j]? = some y) (hxy : x.t = y.t) : (es.take (j + 1)).map TE.t = (es'.take (j + 1)).map TE.t := by
  have l1 := List.getElem?_eq_some_iff.1 h1
  have l2 := List.getElem?_eq_some_iff.1 h2
  rw [List.take_succ_eq_append_getElem l1.1, List.take_succ_eq_append_getElem l2.1, List.map_append, List.map_append, h, l1.2, l2.2]
  simp [hxy]
/-- Tells that read, few of them, each of few boxes. -/
structure TsR (w : World) (A : Option Addr) (n : Nat) (es : List TE) : Prop where
  rd : RdT w w.heap.size A n es
  few : n ≤ 100
  sn : ∀ x ∈ es, x.n ≤ 100
theorem TsR.te {w : World} {A : Option Addr} {n : Nat} {es : List TE} (h : TsR w A n es) {j : Nat} {x : TE} (hx : es[j]? = some x) : TeR w x := ⟨h.rd.2 x (List.mem_of_getElem? hx), h.sn x (List.mem_of_getElem? hx)⟩
theorem TsR.up {w w' : World} {A : Option Addr} {n : Nat} {es : List TE} (h : TsR w A n es) (hb : Below w.heap.size w w') : TsR w' A n es := ⟨h.rd.up hb, h.few, h.sn⟩
theorem NtR.tsr {w : World} {A A' : Option Addr} {n n' : Nat} {s : Nt} (h : NtR w A n A' n' s) : ∃ es : List TE, es.map TE.t = s.ts ∧ TsR w A' n' es := by
  obtain ⟨es, h1, h2⟩ := h.ts
  refine ⟨es, h1, h2, by have := h.lt; have := h.few.ts; omega, fun x hx => ?_⟩
  have h3 := h.few.sn x.t (by rw [← h1]; exact List.mem_map_of_mem hx)
  have h4 := (h2.2 x hx).len
  simp only [TE.t] at h3
  omega

set_option maxRecDepth 100000 in
set_option maxHeartbeats 2000000 in
theorem equalT_any (A A' : Option Addr) (n c n' c' : Nat) (es es' : List TE) (w : World) (hr : TsR w A n es) (hr' : TsR w A' n' es') :
    Calls Try.prog 33 #[.slice A n c, .slice A' n' c', .func (.func 34) #[] #[]] w (BoolPost (decide (es.map TE.t = es'.map TE.t)) w) := by
  have hl := hr.rd.len
  have hl' := hr'.rd.len
  have hn : n ≤ 100 := hr.few
  by_cases hne : n = n'
  · subst hne
    have HR := Lib.hid hr
    have HR' := Lib.hid hr'
    have HL := Lib.hid hl
    have HL' := Lib.hid hl'
    clear hr hr' hl hl'
    go_enter Try.func33, Try.ntmps33
    go_wp2_with fail
    go_loopw [7, 8, 9, 17] (fun _ _ _ i wr => ∃ j : Nat, i = .int .i64 (j : Int) ∧ j ≤ n ∧ (es.take j).map TE.t = (es'.take j).map TE.t ∧ Below w.heap.size w wr) (fun _ _ _ i _ => n - (intOf i).toNat)
    case atStart => exact ⟨0, rfl, Nat.zero_le _, rfl, Below.refl _ _⟩
    case round =>
      obtain ⟨j, rfl, hj, hT, hb⟩ := hrel
      have HT := Lib.hid hT
      have HB := Lib.hid hb
      clear hT
      by_cases hlt : j < n
      · obtain ⟨b, off, rfl, hbl, hc⟩ := HR.out.rd.1.2 (by omega)
        obtain ⟨b', off', rfl, hbl', hc'⟩ := HR'.out.rd.1.2 (by omega)
        obtain ⟨x, hx⟩ : ∃ x, es[j]? = some x := ⟨_, List.getElem?_eq_getElem (by rw [HL.out]; exact hlt)⟩
        obtain ⟨y, hy⟩ : ∃ y, es'[j]? = some y := ⟨_, List.getElem?_eq_getElem (by rw [HL'.out]; exact hlt)⟩
        obtain ⟨c0, c1, c2, c3, c4, c5⟩ := tlAt_of (w := wr) (b := b) (o := off + j * 6) (x := x) (fun i hi => (hb.cell (p := ⟨b, off + j * 6 + i, none⟩) hbl).trans (hc j x hx i hi))
        have hb2 : Below w.heap.size w (wr.alloc (.cells #[.int .i64 x.call, .int .u8 x.kind, .int .u8 x.code, .int .i64 x.id, .slice x.A x.n x.c, .bool x.more] 30)) := hb.alloc hb.size _
        obtain ⟨d0, d1, d2, d3, d4, d5⟩ := tlAt_of (w := wr.alloc (.cells #[.int .i64 x.call, .int .u8 x.kind, .int .u8 x.code, .int .i64 x.id, .slice x.A x.n x.c, .bool x.more] 30)) (b := b') (o := off' + j * 6) (x := y) (fun i hi => (hb2.cell (p := ⟨b', off' + j * 6 + i, none⟩) hbl').trans (hc' j y hy i hi))
        have hb3 : Below w.heap.size w ((wr.alloc (.cells #[.int .i64 x.call, .int .u8 x.kind, .int .u8 x.code, .int .i64 x.id, .slice x.A x.n x.c, .bool x.more] 30)).alloc (.cells #[.int .i64 y.call, .int .u8 y.kind, .int .u8 y.code, .int .i64 y.id, .slice y.A y.n y.c, .bool y.more] 30)) := hb2.alloc hb2.size _
        have HB3 := Lib.hid hb3
        have hI : (j : Int) < (n : Int) := by omega
        have HC := Lib.hid (alike_any x y ((wr.alloc (.cells #[.int .i64 x.call, .int .u8 x.kind, .int .u8 x.code, .int .i64 x.id, .slice x.A x.n x.c, .bool x.more] 30)).alloc (.cells #[.int .i64 y.call, .int .u8 y.kind, .int .u8 y.code, .int .i64 y.id, .slice y.A y.n y.c, .bool y.more] 30)) ((HR.out.te hx).up hb3) ((HR'.out.te hy).up hb3))
        have HX := Lib.hid hx
        have HY := Lib.hid hy
        by_cases hxy : x.t = y.t
        · rw [decide_eq_true hxy] at HC
          have HG := Lib.hid (map_take_grow HT.out HX.out HY.out hxy)
          clear hc hc' hx hy hb hb2 hb3 hxy
          go_wp2_with (go_at_call 34; refine HC.out.mono ?_; rintro e w2 ⟨rfl, q2⟩; have HQ := Lib.hid (HB3.out.trans (q2.mono HB3.out.size)); clear q2)
          go_roundw
          case rel => exact ⟨j + 1, by go_num, by omega, HG.out, HQ.out⟩
          case measure => simp [intOf]; omega
        · rw [decide_eq_false hxy] at HC
          have HF := Lib.hid (show decide (es.map TE.t = es'.map TE.t) = false by
            rw [decide_eq_false_iff_not]; intro e
            have h3 := congrArg (fun l => l[j]?) e
            simp only [List.getElem?_map, HX.out, HY.out, Option.map_some, Option.some.injEq] at h3
            exact hxy h3)
          clear hc hc' hx hy hb hb2 hb3 hxy
          go_wp2_with (go_at_call 34; refine HC.out.mono ?_; rintro e w2 ⟨rfl, q2⟩; have HQ := Lib.hid (HB3.out.trans (q2.mono HB3.out.size)); clear q2)
          go_ret
          exact ⟨by rw [HF.out]; rfl, HQ.out⟩
      · have HF := Lib.hid (show decide (es.map TE.t = es'.map TE.t) = true by
          rw [decide_eq_true_eq]
          have h1 := HT.out
          rwa [List.take_of_length_le (by have := HL.out; omega), List.take_of_length_le (by have := HL'.out; omega)] at h1)
        clear hb
        go_wp2_with fail
        go_ret
        exact ⟨by rw [HF.out]; rfl, HB.out⟩
  · have HF := Lib.hid (show decide (es.map TE.t = es'.map TE.t) = false by
      rw [decide_eq_false_iff_not]; intro e; have := congrArg List.length e; simp only [List.length_map] at this; omega)
    rw [HF.out]
    have hb : ((n : Int) == (n' : Int)) = false := by rw [beq_eq_false_iff_ne]; omega
    have hb2 : ((n : Int) != (n' : Int)) = true := by simp [bne, hb]
    clear hr hr' hl hl' hne HF
    go_enter Try.func33, Try.ntmps33
    go_wp2_with fail
    go_ret
    exact ⟨rfl, Below.refl _ _⟩

theorem nt_eq (s s' : Nt) : decide (s = s') = (decide (s.ks = s'.ks) && decide (s.ts = s'.ts)) := by
  cases s
  cases s'
  rw [Bool.eq_iff_iff]
  simp only [Nt.mk.injEq, decide_eq_true_eq, Bool.and_eq_true]

set_option maxRecDepth 100000 in
set_option maxHeartbeats 2000000 in
theorem sameN_any (A : Option Addr) (n c : Nat) (A' : Option Addr) (n' c' : Nat) (s : Nt) (B : Option Addr) (m d : Nat) (B' : Option Addr) (m' d' : Nat) (s' : Nt) (w : World) (hr : NtR w A n A' n' s) (hr' : NtR w B m B' m' s') :
    Calls Try.prog 16 #[.agg #[.slice A n c, .slice A' n' c'], .agg #[.slice B m d, .slice B' m' d']] w (BoolPost (decide (s = s')) w) := by
  rw [nt_eq]
  obtain ⟨hb, h1, h2⟩ := two_new w 25 25 #[.slice A n c, .slice A' n' c'] #[.slice B m d, .slice B' m' d']
  obtain ⟨V, hV⟩ : ∃ V, (w.alloc (.cells #[.slice A n c, .slice A' n' c'] 25)).alloc (.cells #[.slice B m d, .slice B' m' d'] 25) = V := ⟨_, rfl⟩
  rw [hV] at hb h1 h2
  have hr1 := hr.up hb
  have hr1' := hr'.up hb
  have HC := Lib.hid (equalK_any A B n c m d s.ks s'.ks _ _ V hr1.ks hr1'.ks (by have := hr1.lk; have := hr1.few.ks; omega))
  obtain ⟨es, e1, e2⟩ := hr1.tsr
  obtain ⟨es', e1', e2'⟩ := hr1'.tsr
  have HD := Lib.hid (fun k => equalT_any A' B' n' c' m' d' es es' (V.drewN k) (e2.up (drewN_below (Below.refl _ V) k)) (e2'.up (drewN_below (Below.refl _ V) k)))
  rw [e1, e1'] at HD
  obtain ⟨c0, c1⟩ := cells2 h1
  obtain ⟨d0, d1⟩ := cells2 h2
  have HV := Lib.hid hV
  have HB := Lib.hid hb
  clear hV hb h1 h2 hr hr' hr1 hr1' e1 e1' e2 e2'
  go_enter Try.func16, Try.ntmps16
  go_upto_region 1 with fail
  rw [HV.out]
  clear HV
  by_cases hk : s.ks = s'.ks
  · rw [decide_eq_true hk] at HC
    have HK := Lib.hid hk
    clear hk
    go_wp2_with (first | (go_at_call 32; refine HC.out.mono ?_; rintro e w2 ⟨rfl, k, rfl⟩) | (go_at_call 33; refine (HD.out _).mono ?_; rintro e w3 ⟨rfl, q3⟩))
    go_ret
    exact ⟨by rw [decide_eq_true HK.out, Bool.true_and]; rfl, (drewN_below HB.out _).trans (q3.mono HB.out.size)⟩
  · rw [decide_eq_false hk] at HC
    have HK := Lib.hid hk
    clear hk
    go_wp2_with (go_at_call 32; refine HC.out.mono ?_; rintro e w2 ⟨rfl, k, rfl⟩)
    go_ret
    exact ⟨by rw [decide_eq_false HK.out, Bool.false_and]; rfl, drewN_below HB.out _⟩

end Go.Proofs.Ytcbbjloojngoiaa
