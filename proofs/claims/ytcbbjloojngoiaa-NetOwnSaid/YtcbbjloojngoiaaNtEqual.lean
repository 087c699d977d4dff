/-
  The walks of 'slices.Equal' at asks and at what is shown, and of tells compared. Conditions: those that each theorem names.
-/
import Derived.Test.YtcbbjloojngoiaaSnSame
import Derived.Test.YtcbbjloojngoiaaAkEq
import Derived.Test.YtcbbjloojngoiaaNtOwnT
namespace Go.Proofs.Ytcbbjloojngoiaa
open Go.RowKit Go.Shelf

set_option maxRecDepth 100000 in
set_option maxHeartbeats 2000000 in
theorem equalK_any (A A' : Option Addr) (n c n' c' : Nat) (l l' : List Ak) (B B' : Nat) (w : World) (hr : RdK w B A n l) (hr' : RdK w B' A' n' l') (hn : n ≤ 1000) :
    Calls Try.prog 32 #[.slice A n c, .slice A' n' c'] w (QYes (decide (l = l')) w) := by
  have hl := hr.len
  have hl' := hr'.len
  by_cases hne : n = n'
  · subst hne
    have HR := Lib.hid hr
    have HR' := Lib.hid hr'
    have HL := Lib.hid hl
    have HL' := Lib.hid hl'
    clear hr hr' hl hl'
    go_enter Try.func32, Try.ntmps32
    go_wp2_with fail
    go_loopw [5, 13] (fun _ i wr => ∃ j : Nat, i = .int .i64 (j : Int) ∧ j ≤ n ∧ l.take j = l'.take j ∧ ∃ k, wr = w.drewN k) (fun _ i _ => n - (intOf i).toNat)
    case atStart => exact ⟨0, rfl, Nat.zero_le _, rfl, 0, rfl⟩
    case round =>
      obtain ⟨j, rfl, hj, hT, k, rfl⟩ := hrel
      have HT := Lib.hid hT
      clear hT
      by_cases hlt : j < n
      · obtain ⟨b, off, rfl, _, hc⟩ := HR.out.2 (by omega)
        obtain ⟨b', off', rfl, _, hc'⟩ := HR'.out.2 (by omega)
        obtain ⟨x, hx⟩ : ∃ x, l[j]? = some x := ⟨_, List.getElem?_eq_getElem (by rw [HL.out]; exact hlt)⟩
        obtain ⟨y, hy⟩ : ∃ y, l'[j]? = some y := ⟨_, List.getElem?_eq_getElem (by rw [HL'.out]; exact hlt)⟩
        obtain ⟨c0, c1, c2, c3, c4, c5⟩ := hc j x hx
        obtain ⟨d0, d1, d2, d3, d4, d5⟩ := hc' j y hy
        have hI : (j : Int) < (n : Int) := by omega
        have HX := Lib.hid hx
        have HY := Lib.hid hy
        clear hc hc' hx hy
        by_cases hxy : x = y
        · subst hxy
          go_wp2_with fail
          go_quiet (fail)
          go_wp2_with fail
          go_roundw
          case rel => exact ⟨j + 1, by go_num, by omega, take_growF HT.out HX.out HY.out, _, rfl⟩
          case measure => simp [intOf]; omega
        · have hq := fun W => (run_neqAk W x y).trans (by rw [decide_eq_false hxy, Bool.not_false])
          have HF := Lib.hid (show decide (l = l') = false by rw [decide_eq_false_iff_not]; rintro rfl; have h3 := HX.out; rw [HY.out] at h3; exact hxy (Option.some.inj h3).symm)
          clear hxy
          go_wp2_with fail
          go_quiet (fail)
          go_wp2_with fail
          go_ret
          exact ⟨by rw [HF.out]; rfl, _, World.drewN_drewN _ _ _⟩
      · have HF := Lib.hid (show decide (l = l') = true by
          rw [decide_eq_true_eq]
          have h1 := HT.out
          rwa [List.take_of_length_le (by have := HL.out; omega), List.take_of_length_le (by have := HL'.out; omega)] at h1)
        go_wp2_with fail
        go_ret
        exact ⟨by rw [HF.out]; rfl, _, rfl⟩
  · have HF := Lib.hid (show decide (l = l') = false by rw [decide_eq_false_iff_not]; rintro rfl; omega)
    rw [HF.out]
    have hb : ((n : Int) == (n' : Int)) = false := by rw [beq_eq_false_iff_ne]; omega
    have hb2 : ((n : Int) != (n' : Int)) = true := by simp [bne, hb]
    clear hr hr' hl hl' hne HF
    go_enter Try.func32, Try.ntmps32
    go_wp2_with fail
    go_ret
    exact ⟨rfl, 0, rfl⟩

set_option maxRecDepth 100000 in
set_option maxHeartbeats 2000000 in
theorem equalSn_any (A A' : Option Addr) (n c n' c' : Nat) (l l' : List Sn) (B B' : Nat) (w : World) (hr : RdSn w B A n l) (hr' : RdSn w B' A' n' l') (hn : n ≤ 1000) :
    Calls Try.prog 42 #[.slice A n c, .slice A' n' c'] w (QYes (decide (l = l')) w) := by
  have hl := hr.len
  have hl' := hr'.len
  by_cases hne : n = n'
  · subst hne
    have HR := Lib.hid hr
    have HR' := Lib.hid hr'
    have HL := Lib.hid hl
    have HL' := Lib.hid hl'
    clear hr hr' hl hl'
    go_enter Try.func42, Try.ntmps42
    go_wp2_with fail
    go_loopw [5, 13] (fun _ i wr => ∃ j : Nat, i = .int .i64 (j : Int) ∧ j ≤ n ∧ l.take j = l'.take j ∧ ∃ k, wr = w.drewN k) (fun _ i _ => n - (intOf i).toNat)
    case atStart => exact ⟨0, rfl, Nat.zero_le _, rfl, 0, rfl⟩
    case round =>
      obtain ⟨j, rfl, hj, hT, k, rfl⟩ := hrel
      have HT := Lib.hid hT
      clear hT
      by_cases hlt : j < n
      · obtain ⟨b, off, rfl, _, hc⟩ := HR.out.2 (by omega)
        obtain ⟨b', off', rfl, _, hc'⟩ := HR'.out.2 (by omega)
        obtain ⟨x, hx⟩ : ∃ x, l[j]? = some x := ⟨_, List.getElem?_eq_getElem (by rw [HL.out]; exact hlt)⟩
        obtain ⟨y, hy⟩ : ∃ y, l'[j]? = some y := ⟨_, List.getElem?_eq_getElem (by rw [HL'.out]; exact hlt)⟩
        obtain ⟨c0, c1, c2, c3, c4, c5, c6⟩ := hc j x hx
        obtain ⟨d0, d1, d2, d3, d4, d5, d6⟩ := hc' j y hy
        have hI : (j : Int) < (n : Int) := by omega
        have HX := Lib.hid hx
        have HY := Lib.hid hy
        clear hc hc' hx hy
        by_cases hxy : x = y
        · subst hxy
          go_wp2_with fail
          go_quiet (fail)
          go_wp2_with fail
          go_roundw
          case rel => exact ⟨j + 1, by go_num, by omega, take_growF HT.out HX.out HY.out, _, rfl⟩
          case measure => simp [intOf]; omega
        · have hq := fun W => (run_neqSn W x y).trans (by rw [decide_eq_false hxy, Bool.not_false])
          have HF := Lib.hid (show decide (l = l') = false by rw [decide_eq_false_iff_not]; rintro rfl; have h3 := HX.out; rw [HY.out] at h3; exact hxy (Option.some.inj h3).symm)
          clear hxy
          go_wp2_with fail
          go_quiet (fail)
          go_wp2_with fail
          go_ret
          exact ⟨by rw [HF.out]; rfl, _, World.drewN_drewN _ _ _⟩
      · have HF := Lib.hid (show decide (l = l') = true by
          rw [decide_eq_true_eq]
          have h1 := HT.out
          rwa [List.take_of_length_le (by have := HL.out; omega), List.take_of_length_le (by have := HL'.out; omega)] at h1)
        go_wp2_with fail
        go_ret
        exact ⟨by rw [HF.out]; rfl, _, rfl⟩
  · have HF := Lib.hid (show decide (l = l') = false by rw [decide_eq_false_iff_not]; rintro rfl; omega)
    rw [HF.out]
    have hb : ((n : Int) == (n' : Int)) = false := by rw [beq_eq_false_iff_ne]; omega
    have hb2 : ((n : Int) != (n' : Int)) = true := by simp [bne, hb]
    clear hr hr' hl hl' hne HF
    go_enter Try.func42, Try.ntmps42
    go_wp2_with fail
    go_ret
    exact ⟨rfl, 0, rfl⟩

theorem tell_eq (call kind code id call' kind' code' id' : Int) (A A' : Option Addr) (n c n' c' : Nat) (more more' : Bool) (l l' : List Sn) : decide (TE.t ⟨call, kind, code, id, A, n, c, more, l⟩ = TE.t ⟨call', kind', code', id', A', n', c', more', l'⟩) = (decide (call = call') && (decide (kind = kind') && (decide (code = code') && (decide (id = id') && (decide (more = more') && decide (l = l')))))) := by
  rw [Bool.eq_iff_iff]
  simp only [TE.t, decide_eq_true_eq, Bool.and_eq_true, Tl.mk.injEq]
  exact ⟨fun ⟨a, b, c, d, e, f⟩ => ⟨a, b, c, d, f, e⟩, fun ⟨a, b, c, d, f, e⟩ => ⟨a, b, c, d, e, f⟩⟩
theorem drewN_below {B : Nat} {w w' : World} (h : Below B w w') (k : Nat) : Below B w (w'.drewN k) := ⟨h.os, h.tape, h.output, h.size, h.block⟩

set_option maxRecDepth 100000 in
set_option maxHeartbeats 2000000 in
theorem alike_any (x y : TE) (w : World) (hx : TeR w x) (hy : TeR w y) :
    Calls Try.prog 34 #[.agg #[.int .i64 x.call, .int .u8 x.kind, .int .u8 x.code, .int .i64 x.id, .slice x.A x.n x.c, .bool x.more], .agg #[.int .i64 y.call, .int .u8 y.kind, .int .u8 y.code, .int .i64 y.id, .slice y.A y.n y.c, .bool y.more]] w (BoolPost (decide (x.t = y.t)) w) := by
  obtain ⟨call, kind, code, id, A, n, c, more, l⟩ := x
  obtain ⟨call', kind', code', id', A', n', c', more', l'⟩ := y
  simp only
  rw [tell_eq]
  obtain ⟨hb, _, _⟩ := two_new w 30 30 #[.int .i64 call, .int .u8 kind, .int .u8 code, .int .i64 id, .slice A n c, .bool more] #[.int .i64 call', .int .u8 kind', .int .u8 code', .int .i64 id', .slice A' n' c', .bool more']
  have HB := Lib.hid hb
  have HC := Lib.hid (equalSn_any A A' n c n' c' l l' w.heap.size w.heap.size ((w.alloc (.cells #[.int .i64 call, .int .u8 kind, .int .u8 code, .int .i64 id, .slice A n c, .bool more] 30)).alloc (.cells #[.int .i64 call', .int .u8 kind', .int .u8 code', .int .i64 id', .slice A' n' c', .bool more'] 30)) (hx.rd.below hb) (hy.rd.below hb) (by have := hx.few; simp only at this; omega))
  clear hx hy hb
  by_cases h0 : call = call'
  rotate_left
  · have b0 : (call == call') = false := by rw [beq_eq_false_iff_ne]; exact h0
    have e0 : decide (call = call') = false := decide_eq_false h0
    simp only [e0, Bool.false_and]
    clear h0 e0 HC
    go_enter Try.func34, Try.ntmps34
    go_wp2_with fail
    go_ret
    exact ⟨rfl, HB.out⟩
  subst h0
  by_cases h1 : kind = kind'
  rotate_left
  · have b1 : (kind == kind') = false := by rw [beq_eq_false_iff_ne]; exact h1
    have e1 : decide (kind = kind') = false := decide_eq_false h1
    simp only [e1, decide_true, Bool.true_and, Bool.false_and]
    clear h1 e1 HC
    go_enter Try.func34, Try.ntmps34
    go_wp2_with fail
    go_ret
    exact ⟨rfl, HB.out⟩
  subst h1
  by_cases h2 : code = code'
  rotate_left
  · have b2 : (code == code') = false := by rw [beq_eq_false_iff_ne]; exact h2
    have e2 : decide (code = code') = false := decide_eq_false h2
    simp only [e2, decide_true, Bool.true_and, Bool.false_and]
    clear h2 e2 HC
    go_enter Try.func34, Try.ntmps34
    go_wp2_with fail
    go_ret
    exact ⟨rfl, HB.out⟩
  subst h2
  by_cases h3 : id = id'
  rotate_left
  · have b3 : (id == id') = false := by rw [beq_eq_false_iff_ne]; exact h3
    have e3 : decide (id = id') = false := decide_eq_false h3
    simp only [e3, decide_true, Bool.true_and, Bool.false_and]
    clear h3 e3 HC
    go_enter Try.func34, Try.ntmps34
    go_wp2_with fail
    go_ret
    exact ⟨rfl, HB.out⟩
  subst h3
  by_cases h4 : more = more'
  rotate_left
  · have b4 : (more == more') = false := by rw [beq_eq_false_iff_ne]; exact h4
    have e4 : decide (more = more') = false := decide_eq_false h4
    simp only [e4, decide_true, Bool.true_and, Bool.false_and]
    clear h4 e4 HC
    go_enter Try.func34, Try.ntmps34
    go_wp2_with fail
    go_ret
    exact ⟨rfl, HB.out⟩
  subst h4
  simp only [decide_true, Bool.true_and]
  go_enter Try.func34, Try.ntmps34
  go_wp2_with (go_at_call 42; refine HC.out.mono ?_; rintro e w2 ⟨rfl, k, rfl⟩)
  go_ret
  exact ⟨rfl, drewN_below HB.out k⟩

set_option maxRecDepth 100000 in
set_option maxHeartbeats 2000000 in
theorem told_any (x y : TE) (w : World) (hx : TeR w x) (hy : TeR w y) :
    Calls Try.prog 21 #[.agg #[.int .i64 x.call, .int .u8 x.kind, .int .u8 x.code, .int .i64 x.id, .slice x.A x.n x.c, .bool x.more], .agg #[.int .i64 y.call, .int .u8 y.kind, .int .u8 y.code, .int .i64 y.id, .slice y.A y.n y.c, .bool y.more]] w (BoolPost (decide (x.t = y.t)) w) := by
  obtain ⟨call, kind, code, id, A, n, c, more, l⟩ := x
  obtain ⟨call', kind', code', id', A', n', c', more', l'⟩ := y
  simp only
  rw [tell_eq]
  obtain ⟨hb, _, _⟩ := two_new w 30 30 #[.int .i64 call, .int .u8 kind, .int .u8 code, .int .i64 id, .slice A n c, .bool more] #[.int .i64 call', .int .u8 kind', .int .u8 code', .int .i64 id', .slice A' n' c', .bool more']
  have HB := Lib.hid hb
  have HC := Lib.hid (sameSn_any A A' n c n' c' l l' w.heap.size w.heap.size ((w.alloc (.cells #[.int .i64 call, .int .u8 kind, .int .u8 code, .int .i64 id, .slice A n c, .bool more] 30)).alloc (.cells #[.int .i64 call', .int .u8 kind', .int .u8 code', .int .i64 id', .slice A' n' c', .bool more'] 30)) (hx.rd.below hb) (hy.rd.below hb) (by have := hx.few; simp only at this; omega))
  clear hx hy hb
  by_cases h0 : call = call'
  rotate_left
  · have b0 : (call == call') = false := by rw [beq_eq_false_iff_ne]; exact h0
    have e0 : decide (call = call') = false := decide_eq_false h0
    simp only [e0, Bool.false_and]
    clear h0 e0 HC
    go_enter Try.func21, Try.ntmps21
    go_wp2_with fail
    go_ret
    exact ⟨rfl, HB.out⟩
  subst h0
  by_cases h1 : kind = kind'
  rotate_left
  · have b1 : (kind == kind') = false := by rw [beq_eq_false_iff_ne]; exact h1
    have e1 : decide (kind = kind') = false := decide_eq_false h1
    simp only [e1, decide_true, Bool.true_and, Bool.false_and]
    clear h1 e1 HC
    go_enter Try.func21, Try.ntmps21
    go_wp2_with fail
    go_ret
    exact ⟨rfl, HB.out⟩
  subst h1
  by_cases h2 : code = code'
  rotate_left
  · have b2 : (code == code') = false := by rw [beq_eq_false_iff_ne]; exact h2
    have e2 : decide (code = code') = false := decide_eq_false h2
    simp only [e2, decide_true, Bool.true_and, Bool.false_and]
    clear h2 e2 HC
    go_enter Try.func21, Try.ntmps21
    go_wp2_with fail
    go_ret
    exact ⟨rfl, HB.out⟩
  subst h2
  by_cases h3 : id = id'
  rotate_left
  · have b3 : (id == id') = false := by rw [beq_eq_false_iff_ne]; exact h3
    have e3 : decide (id = id') = false := decide_eq_false h3
    simp only [e3, decide_true, Bool.true_and, Bool.false_and]
    clear h3 e3 HC
    go_enter Try.func21, Try.ntmps21
    go_wp2_with fail
    go_ret
    exact ⟨rfl, HB.out⟩
  subst h3
  by_cases h4 : more = more'
  rotate_left
  · have b4 : (more == more') = false := by rw [beq_eq_false_iff_ne]; exact h4
    have e4 : decide (more = more') = false := decide_eq_false h4
    simp only [e4, decide_true, Bool.true_and, Bool.false_and]
    clear h4 e4 HC
    go_enter Try.func21, Try.ntmps21
    go_wp2_with fail
    go_ret
    exact ⟨rfl, HB.out⟩
  subst h4
  simp only [decide_true, Bool.true_and]
  go_enter Try.func21, Try.ntmps21
  go_wp2_with (go_at_call 25; refine HC.out.mono ?_; rintro e w2 ⟨rfl, k, rfl⟩)
  go_ret
  exact ⟨rfl, drewN_below HB.out k⟩

end Go.Proofs.Ytcbbjloojngoiaa
