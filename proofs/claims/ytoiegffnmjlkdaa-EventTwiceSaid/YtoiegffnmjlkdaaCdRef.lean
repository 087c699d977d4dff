/-
  The walks of the document's own number, box, Counted, H, Find and Own (layer 8). Conditions: those that each theorem names.
-/
import Derived.Test.YtoiegffnmjlkdaaCdTouch
namespace Go.Proofs.Ytoiegffnmjlkdaa
open Go.RowKit Go.Shelf

set_option maxRecDepth 100000 in
set_option maxHeartbeats 1000000 in
theorem rnumber_any (z : Int) (w : World) : Calls Try.prog 26 #[.int .i64 z] w fun e w' => e = .returned (.bool (isNum z)) ∧ w = w' := by
  by_cases h0 : 0 ≤ z
  · by_cases h1 : z ≤ 1099511627776
    · have HN := Lib.hid (isNum_yes h0 h1)
      rw [HN.out]
      go_enter Try.func26, Try.ntmps26
      go_wp2_with fail
      go_ret
      exact ⟨rfl, rfl⟩
    · have HN := Lib.hid (show isNum z = false by simp [isNum, h1])
      rw [HN.out]
      go_enter Try.func26, Try.ntmps26
      go_wp2_with fail
      go_ret
      exact ⟨rfl, rfl⟩
  · have HN := Lib.hid (show isNum z = false by simp [isNum, h0])
    rw [HN.out]
    go_enter Try.func26, Try.ntmps26
    go_wp2_with fail
    go_ret
    exact ⟨rfl, rfl⟩

set_option maxRecDepth 100000 in
set_option maxHeartbeats 1000000 in
theorem rcounted_any (x : Bx) (w : World) : Calls Try.prog 28 #[.agg #[.int .i64 x.id, .int .i64 x.tok, .int .i64 x.ver, .int .i64 x.zone, .bool x.tag, .bool x.on, .bool x.gone, .bool x.well, .int .u8 x.lb, .int .i64 x.unt, .int .i64 x.fen]] w (BoolPost (cnt x) w) := by
  obtain ⟨id, tok, ver, zone, tag, on, gone, well, lb, unt, fen⟩ := x
  simp only
  have HB := Lib.hid ((Below.refl _ w).alloc (Nat.le_refl _) (.cells #[.int .i64 id, .int .i64 tok, .int .i64 ver, .int .i64 zone, .bool tag, .bool on, .bool gone, .bool well, .int .u8 lb, .int .i64 unt, .int .i64 fen] 36))
  have HS : Hid (cnt ⟨id, tok, ver, zone, tag, on, gone, well, lb, unt, fen⟩ = (on && (well && (lb == 1)))) := Lib.hid rfl
  rw [HS.out]
  cases on
  case false =>
    go_enter Try.func28, Try.ntmps28
    go_wp2_with fail
    go_ret
    exact ⟨rfl, HB.out⟩
  case true =>
    cases well
    case false =>
      go_enter Try.func28, Try.ntmps28
      go_wp2_with fail
      go_ret
      exact ⟨rfl, HB.out⟩
    case true =>
      obtain ⟨E, hE⟩ : ∃ E, (lb == 1) = E := ⟨_, rfl⟩
      rw [hE]
      go_enter Try.func28, Try.ntmps28
      go_wp2_with fail
      go_ret
      exact ⟨rfl, HB.out⟩

/-- A cloud in its box, and nothing else turned. -/
structure In1 (w : World) (A : Option Addr) (n c : Nat) (x : Cw) (W : World) : Prop where
  box : Whole W w.heap.size 24 #[.slice A n c, .int .i64 x.fl, .int .i64 x.dr, .int .i64 x.nw, .bool x.tg]
  below : Below w.heap.size w W
set_option maxRecDepth 100000 in
theorem In1.new (w : World) (A : Option Addr) (n c : Nat) (x : Cw) : In1 w A n c x (w.alloc (.cells #[.slice A n c, .int .i64 x.fl, .int .i64 x.dr, .int .i64 x.nw, .bool x.tg] 24)) := ⟨Whole.new w _ _, (Below.refl _ w).alloc (Nat.le_refl _) _⟩
set_option maxRecDepth 100000 in
theorem In1.under {w W W' : World} {A : Option Addr} {n c : Nat} {x : Cw} (h : In1 w A n c x W) (hb : Below W.heap.size W W') : In1 w A n c x W' := ⟨h.box.under hb, h.below.trans (hb.mono h.below.size)⟩

set_option maxRecDepth 100000 in
theorem hN_takeR {l : List Bx} {k : Nat} {x : Bx} (hx : l[k]? = some x) : hN (l.take (k + 1)) = hN (l.take k) + if cnt x then 1 else 0 := by
  have hk : k < l.length := (List.getElem?_eq_some_iff.1 hx).1
  rw [List.take_succ_eq_append_getElem hk, hN_snoc]
  rw [List.getElem?_eq_getElem hk] at hx
  rw [Option.some.inj hx]

set_option maxRecDepth 100000 in
set_option maxHeartbeats 2000000 in
theorem rh_any (A : Option Addr) (n c : Nat) (x : Cw) (B : Nat) (w : World) (hr : RdX w B A n x.l) (hB : B ≤ w.heap.size) (hn : n ≤ 1000) :
    Calls Try.prog 17 #[.agg #[.slice A n c, .int .i64 x.fl, .int .i64 x.dr, .int .i64 x.nw, .bool x.tg]] w (HPost x.l w) := by
  have HR := Lib.hid hr
  have HBB := Lib.hid hB
  have HL := Lib.hid hr.len
  have HI := Lib.hid (In1.new w A n c x)
  clear hr hB
  go_enter Try.func17, Try.ntmps17
  go_wp2_with fail
  go_loopw [3, 4] (fun m i wr => ∃ j : Nat, i = .int .i64 (j : Int) ∧ j ≤ n ∧ m = .int .i64 (hN (x.l.take j) : Int) ∧ In1 w A n c x wr) (fun _ i _ => n - (intOf i).toNat)
  case atStart => exact ⟨0, rfl, Nat.zero_le _, rfl, HI.out⟩
  case round =>
    obtain ⟨j, rfl, hj, rfl, hI⟩ := hrel
    have q0 := hI.box.cell 0
    simp only [List.getElem?_toArray, List.getElem?_cons_zero] at q0
    have hRw := HR.out.below (hI.below.mono HBB.out)
    have HI2 := Lib.hid hI
    clear hI HI
    by_cases hlt : j < n
    · obtain ⟨u, hu⟩ : ∃ u, x.l[j]? = some u := ⟨_, List.getElem?_eq_getElem (by rw [HL.out]; exact hlt)⟩
      obtain ⟨b, off, rfl, _, hc⟩ := hRw.2 (by omega)
      obtain ⟨c0, c1, c2, c3, c4, c5, c6, c7, c8, c9, c10⟩ := hc j u hu
      have hI : (j : Int) < (n : Int) := by omega
      have hle : (hN (x.l.take j) : Int) ≤ 1000 := by have h1 := hN_le (x.l.take j); rw [List.length_take] at h1; omega
      have HS := Lib.hid (hN_takeR hu)
      have HC := Lib.hid (fun W => rcounted_any u W)
      obtain ⟨M, hM⟩ : ∃ M, hN (x.l.take j) = M := ⟨_, rfl⟩
      rw [hM] at HS hle ⊢
      clear hc hu hRw hM
      cases hcu : cnt u with
      | false =>
        rw [hcu] at HS HC
        go_wp2_with fail
        refine (HC.out _).mono ?_
        rintro e w2 ⟨rfl, b2⟩
        have H3 := Lib.hid (HI2.out.under b2)
        clear b2
        go_wp2_with fail
        go_roundw
        case rel => exact ⟨j + 1, by go_num, by omega, by rw [HS.out]; rfl, H3.out⟩
        case measure => simp [intOf]; omega
      | true =>
        rw [hcu] at HS HC
        go_wp2_with fail
        refine (HC.out _).mono ?_
        rintro e w2 ⟨rfl, b2⟩
        have H3 := Lib.hid (HI2.out.under b2)
        clear b2
        go_wp2_with fail
        go_roundw
        case rel => exact ⟨j + 1, by go_num, by omega, by rw [HS.out]; rfl, H3.out⟩
        case measure => simp [intOf]; omega
    · have HE := Lib.hid (show hN (x.l.take j) = hN x.l by rw [List.take_of_length_le (by have := HL.out; omega)])
      clear hRw
      go_wp2_with fail
      go_ret
      exact ⟨by rw [HE.out]; rfl, HI2.out.below⟩

set_option maxRecDepth 100000 in
set_option maxHeartbeats 2000000 in
theorem rfind_any (A : Option Addr) (n c : Nat) (x : Cw) (id : Int) (B : Nat) (w : World) (hr : RdX w B A n x.l) (hB : B ≤ w.heap.size) (hn : n ≤ 1000) :
    Calls Try.prog 19 #[.agg #[.slice A n c, .int .i64 x.fl, .int .i64 x.dr, .int .i64 x.nw, .bool x.tg], .int .i64 id] w (PlacePost (find x.l id) w) := by
  have HI := Lib.hid (In1.new w A n c x)
  have HR := Lib.hid (hr.below (HI.out.below.mono hB))
  have HL := Lib.hid hr.len
  have q0 := HI.out.box.cell 0
  simp only [List.getElem?_toArray, List.getElem?_cons_zero] at q0
  clear hr
  obtain ⟨V, hV⟩ : ∃ V, w.alloc (.cells #[.slice A n c, .int .i64 x.fl, .int .i64 x.dr, .int .i64 x.nw, .bool x.tg] 24) = V := ⟨_, rfl⟩
  rw [hV] at q0 HR HI
  go_enter Try.func19, Try.ntmps19
  go_wp2_with fail
  clear hV
  go_loop [5] (fun i => ∃ j : Nat, i = .int .i64 (j : Int) ∧ j ≤ n ∧ ∀ k y, k < j → x.l[k]? = some y → findB id y = false) (fun i => n - (intOf i).toNat)
  case atStart => exact ⟨0, rfl, Nat.zero_le _, fun k y hk => by omega⟩
  case round =>
    obtain ⟨j, rfl, hj, hT⟩ := hrel
    have HT := Lib.hid hT
    clear hT
    by_cases hlt : j < n
    · obtain ⟨u, hu⟩ : ∃ u, x.l[j]? = some u := ⟨_, List.getElem?_eq_getElem (by rw [HL.out]; exact hlt)⟩
      obtain ⟨b, off, rfl, _, hc⟩ := HR.out.2 (by omega)
      obtain ⟨c0, c1, c2, c3, c4, c5, c6, c7, c8, c9, c10⟩ := hc j u hu
      have hI : (j : Int) < (n : Int) := by omega
      have HU := Lib.hid hu
      have HF : Hid (findB id u = ((u.id == id) && !u.gone)) := Lib.hid rfl
      clear hc hu
      have HN : Hid (findB id u = false → ∀ k y, k < j + 1 → x.l[k]? = some y → findB id y = false) := Lib.hid (fun hf k y hk hy => by
        rcases Nat.lt_or_eq_of_le (Nat.le_of_lt_succ hk) with h1 | h1
        · exact HT.out k y h1 hy
        · rw [h1, HU.out] at hy
          rw [← Option.some.inj hy]
          exact hf)
      by_cases hi : u.id = id
      · have hb : (u.id == id) = true := by simp [hi]
        cases hg : u.gone with
        | true =>
          have HG := Lib.hid (HN.out (by rw [HF.out, hg]; simp))
          rw [hg] at c6
          clear hi hg
          go_wp2_with fail
          go_round
          case rel => exact ⟨j + 1, by go_num, by omega, HG.out⟩
          case measure => simp [intOf]; omega
        | false =>
          have HG := Lib.hid (show find x.l id = some j from firstAt_is HU.out (by rw [HF.out, hb, hg]; rfl) HT.out)
          rw [hg] at c6
          clear hi hg
          go_wp2_with fail
          go_ret
          exact ⟨by rw [HG.out]; rfl, HI.out.below⟩
      · have hb : (u.id == id) = false := by simp [hi]
        have HG := Lib.hid (HN.out (by rw [HF.out, hb]; rfl))
        clear hi
        go_wp2_with fail
        go_round
        case rel => exact ⟨j + 1, by go_num, by omega, HG.out⟩
        case measure => simp [intOf]; omega
    · have HG := Lib.hid (show find x.l id = none from firstAt_none.2 fun y hy => by
        obtain ⟨k, hk⟩ := List.getElem?_of_mem hy
        exact HT.out k y (by have h1 := (List.getElem?_eq_some_iff.1 hk).1; have := HL.out; omega) hk)
      go_wp2_with fail
      go_ret
      exact ⟨by rw [HG.out]; rfl, HI.out.below⟩

end Go.Proofs.Ytoiegffnmjlkdaa
