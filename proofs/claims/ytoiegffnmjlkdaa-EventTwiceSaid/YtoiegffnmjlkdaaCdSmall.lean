/-
  The walks of 'numbers', 'sound', 'Counted', 'made' and 'Own' of package cloud. Conditions: those that each theorem names.
-/
import Derived.Test.YtoiegffnmjlkdaaCdRow
namespace Go.Proofs.Ytoiegffnmjlkdaa
open Go.RowKit Go.Shelf

set_option maxRecDepth 100000 in
set_option maxHeartbeats 1000000 in
theorem numbers_any (A : Option Addr) (n c : Nat) (zs : List Int) (B : Nat) (w : World) (hr : Rd w B A n (iv zs)) (hn : n ≤ 1000) :
    Calls Try.prog 36 #[.slice A n c] w fun e w' => e = .returned (.bool (zs.all isNum)) ∧ w = w' := by
  have hl : zs.length = n := by have := hr.1; rwa [iv_length] at this
  have HR := Lib.hid hr
  have HL := Lib.hid hl
  clear hr hl
  go_enter Try.func36, Try.ntmps36
  go_wp2_with fail
  go_loop [4, 7] (fun _ i => ∃ j : Nat, i = .int .i64 (j : Int) ∧ j ≤ n ∧ (zs.take j).all isNum = true) (fun _ i => n - (intOf i).toNat)
  case atStart => exact ⟨0, rfl, Nat.zero_le _, rfl⟩
  case round =>
    obtain ⟨j, rfl, hj, hT⟩ := hrel
    have HT := Lib.hid hT
    clear hT
    by_cases hlt : j < n
    · have hjl : j < zs.length := by rw [HL.out]; exact hlt
      obtain ⟨x, hx⟩ : ∃ x, zs[j]? = some x := ⟨_, List.getElem?_eq_getElem hjl⟩
      obtain ⟨b, off, rfl, hblt, hc⟩ := HR.out.2 (by omega)
      have h1 := hc j hlt
      rw [show (iv zs)[j]? = some (.int .i64 x) by simp [iv, hx]] at h1
      have hI : (j : Int) < (n : Int) := by omega
      have HS : Hid ((zs.take (j + 1)).all isNum = isNum x) := by
        show _ = _
        rw [List.take_succ_eq_append_getElem hjl, List.all_append, HT.out]
        rw [List.getElem?_eq_getElem hjl] at hx
        rw [Option.some.inj hx]
        simp
      have HF : Hid (isNum x = false → zs.all isNum = false) := Lib.hid fun h => List.all_eq_false.2 ⟨x, List.mem_of_getElem? hx, by simp [h]⟩
      clear hc hx hjl
      by_cases hx0 : 0 ≤ x
      · by_cases hx1 : x ≤ 1099511627776
        · have HN := Lib.hid (isNum_yes hx0 hx1)
          go_wp2_with fail
          go_round
          case rel => exact ⟨j + 1, by go_num, by omega, by rw [HS.out, HN.out]⟩
          case measure => simp [intOf]; omega
        · have HN := Lib.hid (HF.out (show isNum x = false by simp [isNum, hx1]))
          go_wp2_with fail
          go_ret
          exact ⟨by rw [HN.out]; rfl, rfl⟩
      · have HN := Lib.hid (HF.out (show isNum x = false by simp [isNum, hx0]))
        go_wp2_with fail
        go_ret
        exact ⟨by rw [HN.out]; rfl, rfl⟩
    · have HA := Lib.hid (show zs.all isNum = true by have h1 := HT.out; rwa [List.take_of_length_le (by have := HL.out; omega)] at h1)
      go_wp2_with fail
      go_ret
      exact ⟨by rw [HA.out]; rfl, rfl⟩

set_option maxRecDepth 100000 in
/-- Three numbers, in a literal. -/
theorem numbers3 (a b d : Int) (W : World) (g : Nat) (hg : W.heap.size = g) :
    Calls Try.prog 36 #[.slice (some ⟨g, 0, none⟩) 3 3] (W.alloc (.cells #[.int .i64 a, .int .i64 b, .int .i64 d] 3)) fun e w' => e = .returned (.bool (isNum a && isNum b && isNum d)) ∧ (W.alloc (.cells #[.int .i64 a, .int .i64 b, .int .i64 d] 3)) = w' := by
  have h := numbers_any (some ⟨g, 0, none⟩) 3 3 [a, b, d] (g + 1) _ (rd_lit_at W (iv [a, b, d]) 3 3 g rfl hg) (by omega)
  have e : ([a, b, d].all isNum) = (isNum a && isNum b && isNum d) := by simp [List.all_cons, Bool.and_assoc]
  rw [e] at h
  exact h

set_option maxRecDepth 100000 in
set_option maxHeartbeats 1000000 in
theorem sound_any (x : Bx) (w : World) : Calls Try.prog 38 #[.agg #[.int .i64 x.id, .int .i64 x.tok, .int .i64 x.ver, .int .i64 x.zone, .bool x.tag, .bool x.on, .bool x.gone, .bool x.well, .int .u8 x.lb, .int .i64 x.unt, .int .i64 x.fen]] w (BoolPost (sound x) w) := by
  obtain ⟨id, tok, ver, zone, tag, on, gone, well, lb, unt, fen⟩ := x
  simp only
  have HN := Lib.hid (fun W => numbers3 tok ver zone W)
  have HS : Hid (sound ⟨id, tok, ver, zone, tag, on, gone, well, lb, unt, fen⟩ = ((isNum tok && isNum ver && isNum zone) && (decide (lb ≤ 2) && ((on || (lb == 0)) && !(on && gone))))) := Lib.hid (by simp only [sound, Bool.and_assoc])
  rw [HS.out]
  generalize (isNum tok && isNum ver && isNum zone) = N at *
  have HB := Lib.hid (((Below.refl _ w).alloc (Nat.le_refl _) (.cells #[.int .i64 id, .int .i64 tok, .int .i64 ver, .int .i64 zone, .bool tag, .bool on, .bool gone, .bool well, .int .u8 lb, .int .i64 unt, .int .i64 fen] 36)).alloc (by simp) (.cells #[.int .i64 tok, .int .i64 ver, .int .i64 zone] 3))
  clear HS
  cases N
  case false =>
    go_enter Try.func38, Try.ntmps38
    go_wp2_with fail
    refine (HN.out _ _ (by simp)).mono ?_
    rintro e w1 ⟨rfl, rfl⟩
    go_wp2_with fail
    go_ret
    exact ⟨rfl, HB.out⟩
  case true =>
    by_cases hl : lb ≤ 2
    rotate_left
    · have hd : decide (lb ≤ 2) = false := decide_eq_false hl
      go_enter Try.func38, Try.ntmps38
      go_wp2_with fail
      refine (HN.out _ _ (by simp)).mono ?_
      rintro e w1 ⟨rfl, rfl⟩
      go_wp2_with fail
      go_ret
      exact ⟨by rw [hd]; rfl, HB.out⟩
    · have hd : decide (lb ≤ 2) = true := decide_eq_true hl
      rw [hd]
      cases on
      case true =>
        cases gone
        all_goals
          go_enter Try.func38, Try.ntmps38
          go_wp2_with fail
          refine (HN.out _ _ (by simp)).mono ?_
          rintro e w1 ⟨rfl, rfl⟩
          go_wp2_with fail
          go_ret
          exact ⟨rfl, HB.out⟩
      case false =>
        by_cases h0 : lb = 0
        · have hb : (lb == 0) = true := by simp [h0]
          rw [hb]
          clear h0
          go_enter Try.func38, Try.ntmps38
          go_wp2_with fail
          refine (HN.out _ _ (by simp)).mono ?_
          rintro e w1 ⟨rfl, rfl⟩
          go_wp2_with fail
          go_ret
          exact ⟨rfl, HB.out⟩
        · have hb : (lb == 0) = false := by simp [h0]
          rw [hb]
          clear h0
          go_enter Try.func38, Try.ntmps38
          go_wp2_with fail
          refine (HN.out _ _ (by simp)).mono ?_
          rintro e w1 ⟨rfl, rfl⟩
          go_wp2_with fail
          go_ret
          exact ⟨rfl, HB.out⟩

def MadePost (id : Int) (q : Ak) (w : World) (e : Ending) (w' : World) : Prop := e = .returned (.agg (madeB id q).vs.toArray) ∧ Below w.heap.size w w'
/-- A cloud's values. -/
def cwV (A : Option Addr) (n c : Nat) (x : Cw) : Value := .agg #[.slice A n c, .int .i64 x.fl, .int .i64 x.dr, .int .i64 x.nw, .bool x.tg]
/-- A cloud in memory of its own. -/
def OwnPost (n : Nat) (x : Cw) (w : World) (e : Ending) (w' : World) : Prop :=
  ∃ A' c', e = .returned (cwV A' n c' x) ∧ w'.ownsRow w.heap.size 36 11 (.slice A' n c') n (flat x.l) ∧ Below w.heap.size w w'

set_option maxRecDepth 100000 in
/-- Five stores, one behind the other, into a block of five. -/
theorem put5 {W : World} {g : Nat} {t : TypeId} {o0 o1 o2 o3 o4 : Value} (h : Whole W g t #[o0, o1, o2, o3, o4]) (v0 v1 v2 v3 v4 : Value) :
    let W' := ((((W.setCell ⟨g, 0, none⟩ v0).setCell ⟨g, 1, none⟩ v1).setCell ⟨g, 2, none⟩ v2).setCell ⟨g, 3, none⟩ v3).setCell ⟨g, 4, none⟩ v4
    (W'.cell? ⟨g, 0, none⟩ = some v0 ∧ W'.cell? ⟨g, 1, none⟩ = some v1 ∧ W'.cell? ⟨g, 2, none⟩ = some v2 ∧ W'.cell? ⟨g, 3, none⟩ = some v3 ∧ W'.cell? ⟨g, 4, none⟩ = some v4) ∧ Whole W' g t #[v0, v1, v2, v3, v4] := by
  intro W'
  have h5 : Whole W' g t #[v0, v1, v2, v3, v4] := ((((h.set 0 v0).set 1 v1).set 2 v2).set 3 v3).set 4 v4
  exact ⟨⟨h5.cell 0, h5.cell 1, h5.cell 2, h5.cell 3, h5.cell 4⟩, h5⟩

set_option maxRecDepth 100000 in
set_option maxHeartbeats 1000000 in
theorem own_anyX (A : Option Addr) (n c : Nat) (x : Cw) (B : Nat) (w : World) (hr : RdX w B A n x.l) (hB : B ≤ w.heap.size) (hn : n ≤ 1000) :
    Calls Try.prog 24 #[.agg #[.slice A n c, .int .i64 x.fl, .int .i64 x.dr, .int .i64 x.nw, .bool x.tg]] w (OwnPost n x w) := by
  have hb0 : Below w.heap.size w ((w.alloc (.cells #[.slice A n c, .int .i64 x.fl, .int .i64 x.dr, .int .i64 x.nw, .bool x.tg] 24)).alloc (.cells #[.slice none 0 0, .int .i64 0, .int .i64 0, .int .i64 0, .bool false] 24)) := ((Below.refl _ w).alloc (Nat.le_refl _) _).alloc (by simp) _
  obtain ⟨v1, W1, r1, o1, g1⟩ := run_appX _ (w.heap.size + 2) (.slice none 0 0) 0 [] (World.ownsRow_nil _ _ _ _) B A n c x.l (hr.below (hb0.mono hB)) (by omega) (by omega) (by simp)
  rw [Nat.zero_add, List.nil_append] at o1
  obtain ⟨A1, c1, rfl⟩ := own_formX o1
  have hA : Whole W1 w.heap.size 24 #[.slice A n c, .int .i64 x.fl, .int .i64 x.dr, .int .i64 x.nw, .bool x.tg] := ((Whole.new w _ _).alloc _).grown g1 (by simp [Value.ownBlock])
  have hC : Whole W1 (w.heap.size + 1) 24 #[.slice none 0 0, .int .i64 0, .int .i64 0, .int .i64 0, .bool false] := by
    have := (Whole.new (w.alloc (.cells #[.slice A n c, .int .i64 x.fl, .int .i64 x.dr, .int .i64 x.nw, .bool x.tg] 24)) 24 #[.slice none 0 0, .int .i64 0, .int .i64 0, .int .i64 0, .bool false]).grown g1 (by simp [Value.ownBlock])
    rwa [World.size_alloc] at this
  have hb1 : Below w.heap.size w W1 := hb0.trans ((Below.refl w.heap.size _).grown g1 hb0.size (fun k e => by simp [Value.ownBlock] at e))
  have HR := Lib.hid r1
  have HO := Lib.hid o1
  have HB := Lib.hid hb1
  have HA := Lib.hid hA
  have HC := Lib.hid hC
  have a1 := hA.cell 1
  have a2 := hA.cell 2
  have a3 := hA.cell 3
  have a4 := hA.cell 4
  have a0 := hA.cell 0
  have f0 := hA.frozen 0
  have k0 := hC.cell 0
  have k1 := hC.cell 1
  have k2 := hC.cell 2
  have k3 := hC.cell 3
  have k4 := hC.cell 4
  have z0 := hC.frozen 0
  have z1 := hC.frozen 1
  have z2 := hC.frozen 2
  have z3 := hC.frozen 3
  have z4 := hC.frozen 4
  simp only [List.getElem?_toArray, List.getElem?_cons_zero, List.getElem?_cons_succ] at a0 a1 a2 a3 a4 k0 k1 k2 k3 k4
  clear hr hB hb0 r1 o1 g1 hA hC hb1
  go_enter Try.func24, Try.ntmps24
  go_wp2_with (refine wpList_app (by rfl) _ _ 22 rfl _ _ _ W1 (by rfl) (by rfl) HR.out ?_)
  have HC5 := put5 (HC.out.far (p := ⟨w.heap.size, 0, none⟩) (by simp) (.slice A1 n c1)) (.slice A1 n c1) (.int .i64 x.fl) (.int .i64 x.dr) (.int .i64 x.nw) (.bool x.tg)
  obtain ⟨q0, q1, q2, q3, q4⟩ := HC5.1
  refine bodyPost_ret (v := cwV A1 n c1 x) (by simp [results, Try.results24, go_sem, q0, q1, q2, q3, q4, cwV]) rfl ⟨A1, c1, rfl, ?_, ?_⟩
  · refine own_weaker (base' := w.heap.size + 2) ?_ (by omega)
    exact own_set (b := w.heap.size + 1) (own_set (b := w.heap.size + 1) (own_set (b := w.heap.size + 1) (own_set (b := w.heap.size + 1) (own_set (b := w.heap.size + 1) (own_set (b := w.heap.size) HO.out (by omega) _) (by omega) _) (by omega) _) (by omega) _) (by omega) _) (by omega) _
  · exact (((((HB.out.setCell (p := ⟨w.heap.size, 0, none⟩) (Nat.le_refl _) _).setCell (p := ⟨w.heap.size + 1, 0, none⟩) (Nat.le_succ _) _).setCell (p := ⟨w.heap.size + 1, 1, none⟩) (Nat.le_succ _) _).setCell (p := ⟨w.heap.size + 1, 2, none⟩) (Nat.le_succ _) _).setCell (p := ⟨w.heap.size + 1, 3, none⟩) (Nat.le_succ _) _).setCell (p := ⟨w.heap.size + 1, 4, none⟩) (Nat.le_succ _) _

end Go.Proofs.Ytoiegffnmjlkdaa
