/-
  Texts that the walks of the statements over logs lean on, joined (BrRefA, CfFloor, RegionIn, RangeMem, Scope2, BrIter, BrPlace). Conditions: those that each theorem names.
-/
import Derived.Test.YtplejbgecihnpaaDoorJ0
import Derived.Test.YtplejbgecihnpaaDoorJ1
import Derived.Test.YtplejbgecihnpaaDoorJ2
import Derived.Test.YtplejbgecihnpaaDoorJ3
import Derived.Deep.DeepCutAuto
import Derived.WalkLawsBesides
import Derived.OrdersIn
import Derived.RangeFuncNested

/-
  The walks of the document's own words on brains: Find, Token, numbers, many, Legal. Conditions: those that each theorem names.
-/
namespace Go.Proofs.YtplejbgecihnpaaDoor
open Go.RowKit Go.Shelf

set_option maxRecDepth 100000 in
theorem findIdx_first {α : Type} {l : List α} {p : α → Bool} {j : Nat} {x : α} (hx : l[j]? = some x) (hp : p x = true) (hno : ∀ y ∈ l.take j, p y = false) : l.findIdx? p = some j := by
  induction l generalizing j with
  | nil => simp at hx
  | cons a l ih =>
    rw [List.findIdx?_cons]
    cases j with
    | zero =>
      simp only [List.getElem?_cons_zero, Option.some.injEq] at hx
      subst hx
      simp [hp]
    | succ j =>
      have ha := hno a (by simp)
      rw [ha, ih (by simpa using hx) (fun y hy => hno y (by simp [hy]))]
      rfl

set_option maxRecDepth 100000 in
set_option maxHeartbeats 1000000 in
theorem rfindB_any (p : Br) (a : Ad) (id : Int) (Z : Nat) (w : World) (hr : RdB_ w Z p a) (hZ : Z ≤ w.heap.size) (hn : p.kps.length ≤ 1000) :
    Calls Tryd.prog 63 #[brV p a, .int .i64 id] w fun e w' => e = .returned (.int .i64 (findB p id)) ∧ Below w.heap.size w w' := by
  have hb : Below w.heap.size w (w.alloc (.cells (brC p a) 30)) := (Below.refl _ _).alloc (Nat.le_refl _) _
  have w0 := Whole.new w 30 (brC p a)
  obtain ⟨V, hV⟩ : ∃ V, w.alloc (.cells (brC p a) 30) = V := ⟨_, rfl⟩
  rw [hV] at hb w0
  have c0 : V.cell? ⟨w.heap.size, 19, none⟩ = some (.slice a.B p.kps.length a.d) := w0.cell 19
  have HR := Lib.hid (show RdK V Z a.B p.kps.length p.kps from hr.kps.below (hb.mono hZ))
  have HB := Lib.hid hb
  obtain ⟨n, hn2⟩ : ∃ n, p.kps.length = n := ⟨_, rfl⟩
  obtain ⟨l, hl⟩ : ∃ l, p.kps = l := ⟨_, rfl⟩
  have hspec : findB p id = match l.findIdx? (fun x => decide (x.id = id)) with | some i => (i : Int) | none => -1 := by rw [← hl]; rfl
  obtain ⟨v, hv⟩ : ∃ v, findB p id = v := ⟨_, rfl⟩
  have HS := Lib.hid (hv.symm.trans hspec)
  rw [hv]
  have HL := Lib.hid (show l.length = n by rw [← hl]; exact hn2)
  have HV := Lib.hid hV
  rw [hn2] at c0 hn HR
  rw [hl] at HR
  clear w0 hb hr hZ hV hspec hl hv hn2
  go_enter Tryd.func63, Tryd.ntmps63
  go_upto_region 1 with fail
  refine wpV (fun V2 hV2 => ?_)
  obtain rfl : V = V2 := HV.out.symm.trans hV2
  clear HV hV2
  go_wp2_with fail
  go_loopw [5] (fun i wr => ∃ j : Nat, i = .int .i64 (j : Int) ∧ j ≤ n ∧ (∀ y ∈ l.take j, decide (y.id = id) = false) ∧ wr = V) (fun i _ => n - (intOf i).toNat)
  case atStart => exact ⟨0, rfl, Nat.zero_le _, by simp, rfl⟩
  case round =>
    obtain ⟨j, rfl, hj, hT, rfl⟩ := hrel
    have HT := Lib.hid hT
    clear hT
    by_cases hlt : j < n
    · obtain ⟨b, off, hA, _, hc⟩ := RdK.at_ HR.out (by omega)
      rw [hA] at c0
      obtain ⟨x, hx⟩ : ∃ x, l[j]? = some x := ⟨_, List.getElem?_eq_getElem (by rw [HL.out]; exact hlt)⟩
      obtain ⟨g0, g1, g2, g3, g4, g5, g6, g7⟩ := hc j x hx
      have hI : (j : Int) < (n : Int) := by omega
      have HX := Lib.hid hx
      clear hc hx hA
      by_cases h1 : x.id = id
      · have q0 : (x.id == id) = true := by simp [h1]
        have HF := Lib.hid (show l.findIdx? (fun x => decide (x.id = id)) = some j from findIdx_first HX.out (by simp [h1]) HT.out)
        clear h1
        go_wp2_with fail
        go_ret
        exact ⟨by rw [HS.out, HF.out]; rfl, HB.out⟩
      · have q0 : (x.id == id) = false := by simp [h1]
        have HN : Hid (∀ y ∈ l.take (j + 1), decide (y.id = id) = false) := Lib.hid (fun y hy => by
          rw [List.take_succ_eq_append_getElem (List.getElem?_eq_some_iff.1 HX.out).1, (List.getElem?_eq_some_iff.1 HX.out).2, List.mem_append, List.mem_singleton] at hy
          rcases hy with hy | rfl
          · exact HT.out y hy
          · exact decide_eq_false h1)
        clear h1
        go_wp2_with fail
        go_roundw
        case rel => exact ⟨j + 1, by go_num, by omega, HN.out, by first | rfl | trivial⟩
        case measure => simp [intOf]; omega
    · have HF := Lib.hid (show l.findIdx? (fun x => decide (x.id = id)) = none from by
        rw [List.findIdx?_eq_none_iff]
        intro y hy
        exact HT.out y (by rw [List.take_of_length_le (by have := HL.out; omega)]; exact hy))
      go_wp2_with fail
      go_ret
      exact ⟨by rw [HS.out, HF.out]; rfl, HB.out⟩

set_option maxRecDepth 100000 in
set_option maxHeartbeats 1000000 in
theorem rtokenB_any (p : Br) (a : Ad) (id : Int) (Z : Nat) (w : World) (hr : RdB_ w Z p a) (hZ : Z ≤ w.heap.size) (hn : p.its.length ≤ 1000) :
    Calls Tryd.prog 62 #[brV p a, .int .i64 id] w fun e w' => e = .returned (.int .i64 (tokenB p id)) ∧ Below w.heap.size w w' := by
  have hb : Below w.heap.size w (w.alloc (.cells (brC p a) 30)) := (Below.refl _ _).alloc (Nat.le_refl _) _
  have w0 := Whole.new w 30 (brC p a)
  obtain ⟨V, hV⟩ : ∃ V, w.alloc (.cells (brC p a) 30) = V := ⟨_, rfl⟩
  rw [hV] at hb w0
  have c0 : V.cell? ⟨w.heap.size, 18, none⟩ = some (.slice a.A p.its.length a.c) := w0.cell 18
  have HR := Lib.hid (show RdI V Z a.A p.its.length p.its from hr.its.below (hb.mono hZ))
  have HB := Lib.hid hb
  obtain ⟨n, hn2⟩ : ∃ n, p.its.length = n := ⟨_, rfl⟩
  obtain ⟨l, hl⟩ : ∃ l, p.its = l := ⟨_, rfl⟩
  have hspec : tokenB p id = match l.findIdx? (fun x => decide (x.tok = id)) with | some i => (i : Int) | none => -1 := by rw [← hl]; rfl
  obtain ⟨v, hv⟩ : ∃ v, tokenB p id = v := ⟨_, rfl⟩
  have HS := Lib.hid (hv.symm.trans hspec)
  rw [hv]
  have HL := Lib.hid (show l.length = n by rw [← hl]; exact hn2)
  have HV := Lib.hid hV
  rw [hn2] at c0 hn HR
  rw [hl] at HR
  clear w0 hb hr hZ hV hspec hl hv hn2
  go_enter Tryd.func62, Tryd.ntmps62
  go_upto_region 1 with fail
  refine wpV (fun V2 hV2 => ?_)
  obtain rfl : V = V2 := HV.out.symm.trans hV2
  clear HV hV2
  go_wp2_with fail
  go_loopw [5] (fun i wr => ∃ j : Nat, i = .int .i64 (j : Int) ∧ j ≤ n ∧ (∀ y ∈ l.take j, decide (y.tok = id) = false) ∧ wr = V) (fun i _ => n - (intOf i).toNat)
  case atStart => exact ⟨0, rfl, Nat.zero_le _, by simp, rfl⟩
  case round =>
    obtain ⟨j, rfl, hj, hT, rfl⟩ := hrel
    have HT := Lib.hid hT
    clear hT
    by_cases hlt : j < n
    · obtain ⟨b, off, hA, _, hc⟩ := RdI.at_ HR.out (by omega)
      rw [hA] at c0
      obtain ⟨x, hx⟩ : ∃ x, l[j]? = some x := ⟨_, List.getElem?_eq_getElem (by rw [HL.out]; exact hlt)⟩
      obtain ⟨g0, g1, g2, g3⟩ := hc j x hx
      have hI : (j : Int) < (n : Int) := by omega
      have HX := Lib.hid hx
      clear hc hx hA
      by_cases h1 : x.tok = id
      · have q0 : (x.tok == id) = true := by simp [h1]
        have HF := Lib.hid (show l.findIdx? (fun x => decide (x.tok = id)) = some j from findIdx_first HX.out (by simp [h1]) HT.out)
        clear h1
        go_wp2_with fail
        go_ret
        exact ⟨by rw [HS.out, HF.out]; rfl, HB.out⟩
      · have q0 : (x.tok == id) = false := by simp [h1]
        have HN : Hid (∀ y ∈ l.take (j + 1), decide (y.tok = id) = false) := Lib.hid (fun y hy => by
          rw [List.take_succ_eq_append_getElem (List.getElem?_eq_some_iff.1 HX.out).1, (List.getElem?_eq_some_iff.1 HX.out).2, List.mem_append, List.mem_singleton] at hy
          rcases hy with hy | rfl
          · exact HT.out y hy
          · exact decide_eq_false h1)
        clear h1
        go_wp2_with fail
        go_roundw
        case rel => exact ⟨j + 1, by go_num, by omega, HN.out, by first | rfl | trivial⟩
        case measure => simp [intOf]; omega
    · have HF := Lib.hid (show l.findIdx? (fun x => decide (x.tok = id)) = none from by
        rw [List.findIdx?_eq_none_iff]
        intro y hy
        exact HT.out y (by rw [List.take_of_length_le (by have := HL.out; omega)]; exact hy))
      go_wp2_with fail
      go_ret
      exact ⟨by rw [HS.out, HF.out]; rfl, HB.out⟩

set_option maxRecDepth 100000 in
theorem rmany_any (k : Int) (w : World) : Calls Tryd.prog 41 #[.int .u8 k] w fun e w' => e = .returned (.int .i64 (manyB k)) ∧ w' = w := by
  unfold manyB
  by_cases h : k = 1 ∨ k = 2 ∨ k = 3 ∨ k = 4 ∨ k = 5 ∨ k = 6 ∨ k = 7 ∨ k = 8 ∨ k = 9 ∨ k = 10 ∨ k = 11 ∨ k = 12 ∨ k = 13 ∨ k = 14 ∨ k = 15 ∨ k = 16
  · rcases h with rfl | rfl | rfl | rfl | rfl | rfl | rfl | rfl | rfl | rfl | rfl | rfl | rfl | rfl | rfl | rfl
    all_goals
      go_enter Tryd.func41, Tryd.ntmps41
      go_wp2_with fail
      go_ret
      exact ⟨by rfl, rfl⟩
  · have h1 : (k == 1) = false := by simp; omega
    have h2 : (k == 2) = false := by simp; omega
    have h3 : (k == 3) = false := by simp; omega
    have h4 : (k == 4) = false := by simp; omega
    have h5 : (k == 5) = false := by simp; omega
    have h6 : (k == 6) = false := by simp; omega
    have h7 : (k == 7) = false := by simp; omega
    have h8 : (k == 8) = false := by simp; omega
    have h9 : (k == 9) = false := by simp; omega
    have h10 : (k == 10) = false := by simp; omega
    have h11 : (k == 11) = false := by simp; omega
    have h12 : (k == 12) = false := by simp; omega
    have h13 : (k == 13) = false := by simp; omega
    have h14 : (k == 14) = false := by simp; omega
    have h15 : (k == 15) = false := by simp; omega
    have h16 : (k == 16) = false := by simp; omega
    have e : (if k = 1 ∨ k = 12 ∨ k = 13 ∨ k = 15 ∨ k = 16 then (0 : Int) else if k = 5 ∨ k = 7 ∨ k = 10 ∨ k = 14 then 1 else if k = 9 ∨ k = 11 then 2 else if k = 3 ∨ k = 4 ∨ k = 6 then 3 else if k = 8 then 5 else -1) = -1 := by
      rw [if_neg (by omega), if_neg (by omega), if_neg (by omega), if_neg (by omega), if_neg (by omega)]
    rw [e]
    clear e h
    go_enter Tryd.func41, Tryd.ntmps41
    go_wp2_with fail
    go_ret
    exact ⟨rfl, rfl⟩

set_option linter.unusedSimpArgs false in
set_option maxRecDepth 100000 in
set_option maxHeartbeats 2000000 in
theorem rlegal_any (a b : Int) (w : World) : Calls Tryd.prog 65 #[.int .u8 a, .int .u8 b] w fun e w' => e = .returned (.bool (legalB a b)) ∧ w' = w := by
  unfold legalB
  by_cases h : a = 1 ∨ a = 2 ∨ a = 3 ∨ a = 4 ∨ a = 5 ∨ a = 6 ∨ a = 7 ∨ a = 9 ∨ a = 10
  · rcases h with rfl | rfl | rfl | rfl | rfl | rfl | rfl | rfl | rfl
    · by_cases h2 : b = 2
      · subst h2
        go_enter Tryd.func65, Tryd.ntmps65
        go_wp2_with fail
        go_ret
        exact ⟨by rfl, rfl⟩
      have q2 : (b == 2) = false := by simp [h2]
      by_cases h8 : b = 8
      · subst h8
        go_enter Tryd.func65, Tryd.ntmps65
        go_wp2_with fail
        go_ret
        exact ⟨by rfl, rfl⟩
      have q8 : (b == 8) = false := by simp [h8]
      go_enter Tryd.func65, Tryd.ntmps65
      go_wp2_with fail
      go_ret
      exact ⟨by simp [h2, h8], rfl⟩
    · by_cases h3 : b = 3
      · subst h3
        go_enter Tryd.func65, Tryd.ntmps65
        go_wp2_with fail
        go_ret
        exact ⟨by rfl, rfl⟩
      have q3 : (b == 3) = false := by simp [h3]
      by_cases h8 : b = 8
      · subst h8
        go_enter Tryd.func65, Tryd.ntmps65
        go_wp2_with fail
        go_ret
        exact ⟨by rfl, rfl⟩
      have q8 : (b == 8) = false := by simp [h8]
      go_enter Tryd.func65, Tryd.ntmps65
      go_wp2_with fail
      go_ret
      exact ⟨by simp [h3, h8], rfl⟩
    · by_cases h4 : b = 4
      · subst h4
        go_enter Tryd.func65, Tryd.ntmps65
        go_wp2_with fail
        go_ret
        exact ⟨by rfl, rfl⟩
      have q4 : (b == 4) = false := by simp [h4]
      go_enter Tryd.func65, Tryd.ntmps65
      go_wp2_with fail
      go_ret
      exact ⟨by simp [h4], rfl⟩
    · by_cases h5 : b = 5
      · subst h5
        go_enter Tryd.func65, Tryd.ntmps65
        go_wp2_with fail
        go_ret
        exact ⟨by rfl, rfl⟩
      have q5 : (b == 5) = false := by simp [h5]
      by_cases h3 : b = 3
      · subst h3
        go_enter Tryd.func65, Tryd.ntmps65
        go_wp2_with fail
        go_ret
        exact ⟨by rfl, rfl⟩
      have q3 : (b == 3) = false := by simp [h3]
      go_enter Tryd.func65, Tryd.ntmps65
      go_wp2_with fail
      go_ret
      exact ⟨by simp [h5, h3], rfl⟩
    · by_cases h6 : b = 6
      · subst h6
        go_enter Tryd.func65, Tryd.ntmps65
        go_wp2_with fail
        go_ret
        exact ⟨by rfl, rfl⟩
      have q6 : (b == 6) = false := by simp [h6]
      by_cases h4 : b = 4
      · subst h4
        go_enter Tryd.func65, Tryd.ntmps65
        go_wp2_with fail
        go_ret
        exact ⟨by rfl, rfl⟩
      have q4 : (b == 4) = false := by simp [h4]
      go_enter Tryd.func65, Tryd.ntmps65
      go_wp2_with fail
      go_ret
      exact ⟨by simp [h6, h4], rfl⟩
    · by_cases h7 : b = 7
      · subst h7
        go_enter Tryd.func65, Tryd.ntmps65
        go_wp2_with fail
        go_ret
        exact ⟨by rfl, rfl⟩
      have q7 : (b == 7) = false := by simp [h7]
      go_enter Tryd.func65, Tryd.ntmps65
      go_wp2_with fail
      go_ret
      exact ⟨by simp [h7], rfl⟩
    · by_cases h8 : b = 8
      · subst h8
        go_enter Tryd.func65, Tryd.ntmps65
        go_wp2_with fail
        go_ret
        exact ⟨by rfl, rfl⟩
      have q8 : (b == 8) = false := by simp [h8]
      go_enter Tryd.func65, Tryd.ntmps65
      go_wp2_with fail
      go_ret
      exact ⟨by simp [h8], rfl⟩
    · by_cases h10 : b = 10
      · subst h10
        go_enter Tryd.func65, Tryd.ntmps65
        go_wp2_with fail
        go_ret
        exact ⟨by rfl, rfl⟩
      have q10 : (b == 10) = false := by simp [h10]
      by_cases h8 : b = 8
      · subst h8
        go_enter Tryd.func65, Tryd.ntmps65
        go_wp2_with fail
        go_ret
        exact ⟨by rfl, rfl⟩
      have q8 : (b == 8) = false := by simp [h8]
      go_enter Tryd.func65, Tryd.ntmps65
      go_wp2_with fail
      go_ret
      exact ⟨by simp [h10, h8], rfl⟩
    · by_cases h1 : b = 1
      · subst h1
        go_enter Tryd.func65, Tryd.ntmps65
        go_wp2_with fail
        go_ret
        exact ⟨by rfl, rfl⟩
      have q1 : (b == 1) = false := by simp [h1]
      go_enter Tryd.func65, Tryd.ntmps65
      go_wp2_with fail
      go_ret
      exact ⟨by simp [h1], rfl⟩
  · have h1 : (a == 1) = false := by simp; omega
    have h2 : (a == 2) = false := by simp; omega
    have h3 : (a == 3) = false := by simp; omega
    have h4 : (a == 4) = false := by simp; omega
    have h5 : (a == 5) = false := by simp; omega
    have h6 : (a == 6) = false := by simp; omega
    have h7 : (a == 7) = false := by simp; omega
    have h9 : (a == 9) = false := by simp; omega
    have h10 : (a == 10) = false := by simp; omega
    have e : ∀ x1 x2 x3 x4 x5 x6 x7 x9 x10 : Bool, (if a = 1 then x1 else if a = 2 then x2 else if a = 3 then x3 else if a = 4 then x4 else if a = 5 then x5 else if a = 6 then x6 else if a = 7 then x7 else if a = 9 then x9 else if a = 10 then x10 else false) = false := by
      intros
      rw [if_neg (by omega), if_neg (by omega), if_neg (by omega), if_neg (by omega), if_neg (by omega), if_neg (by omega), if_neg (by omega), if_neg (by omega), if_neg (by omega)]
    rw [e]
    clear e h
    go_enter Tryd.func65, Tryd.ntmps65
    go_wp2_with fail
    go_ret
    exact ⟨rfl, rfl⟩

end Go.Proofs.YtplejbgecihnpaaDoor

/-
  The walks of 'floor', 'roomy', 'marked' of package conf, and of 'floor', 'within' of the document's own. Conditions: those that each theorem names.
-/
namespace Go.Proofs.YtplejbgecihnpaaDoor
open Go.RowKit Go.Shelf

def IntPost (v : Int) (w : World) (e : Ending) (w' : World) : Prop := e = .returned (.int .i64 v) ∧ Below w.heap.size w w'

set_option maxRecDepth 100000 in
/-- A group in a box. -/
theorem Whole.conf {w : World} {b : Nat} {x : Cf} (h : Whole w b 24 x.cells) :
    w.cell? ⟨b, 0, none⟩ = some (.int .i64 x.f0) ∧ w.cell? ⟨b, 1, none⟩ = some (.int .i64 x.f1) ∧ w.cell? ⟨b, 2, none⟩ = some (.int .i64 x.f2) ∧ w.cell? ⟨b, 3, none⟩ = some (.int .i64 x.f3) ∧ w.cell? ⟨b, 4, none⟩ = some (.int .i64 x.f4) ∧ w.cell? ⟨b, 5, none⟩ = some (.int .i64 x.f5) ∧ w.cell? ⟨b, 6, none⟩ = some (.int .i64 x.f6) ∧ w.cell? ⟨b, 7, none⟩ = some (.int .i64 x.f7) ∧ w.cell? ⟨b, 8, none⟩ = some (.int .i64 x.f8) ∧ w.cell? ⟨b, 9, none⟩ = some (.int .i64 x.f9) ∧ w.cell? ⟨b, 10, none⟩ = some (.int .i64 x.f10) ∧ w.cell? ⟨b, 11, none⟩ = some (.int .i64 x.f11) ∧ w.cell? ⟨b, 12, none⟩ = some (.int .i64 x.f12) ∧ w.cell? ⟨b, 13, none⟩ = some (.bool x.sk) ∧ w.cell? ⟨b, 14, none⟩ = some (.slice x.A x.n x.c) :=
  ⟨h.cell 0, h.cell 1, h.cell 2, h.cell 3, h.cell 4, h.cell 5, h.cell 6, h.cell 7, h.cell 8, h.cell 9, h.cell 10, h.cell 11, h.cell 12, h.cell 13, h.cell 14⟩
set_option maxRecDepth 100000 in
theorem Whole.confK {w : World} {b : Nat} {x : Cf} (h : Whole w b 24 x.cells) {k : Nat} (hk : k < 13) : w.cell? ⟨b, k, none⟩ = some (.int .i64 (x.at k)) := by
  rcases (by omega : k = 0 ∨ k = 1 ∨ k = 2 ∨ k = 3 ∨ k = 4 ∨ k = 5 ∨ k = 6 ∨ k = 7 ∨ k = 8 ∨ k = 9 ∨ k = 10 ∨ k = 11 ∨ k = 12) with rfl | rfl | rfl | rfl | rfl | rfl | rfl | rfl | rfl | rfl | rfl | rfl | rfl
  all_goals exact h.cell _

set_option maxRecDepth 100000 in
set_option maxHeartbeats 1000000 in
theorem floor_any (x : Cf) (hx : inB x = true) (w : World) : Calls Tryd.prog 46 #[x.v] w (IntPost (fl x) w) := by
  obtain ⟨h0, h1, h2, h3⟩ := fl_bd hx
  have e1 : fl x = (x.f0 * x.f1 + 99) / 100 := rfl
  generalize hP : x.f0 * x.f1 = p at *
  go_enter Tryd.func46, Tryd.ntmps46
  go_wp2_with fail
  go_ret
  exact ⟨by show Ending.returned (.int .i64 ((p + 100 - 1) / 100)) = _; rw [e1, show p + 100 - 1 = p + 99 by omega], (Below.refl _ w).alloc (Nat.le_refl _) _⟩

set_option maxRecDepth 100000 in
set_option maxHeartbeats 1000000 in
theorem refFloor_any (x : Cf) (hx : inB x = true) (w : World) : Calls Tryd.prog 47 #[x.v] w (IntPost (fl x) w) := by
  obtain ⟨h0, h1, h2, h3⟩ := fl_bd hx
  have e1 : fl x = (x.f0 * x.f1 + 99) / 100 := rfl
  generalize hP : x.f0 * x.f1 = p at *
  go_enter Tryd.func47, Tryd.ntmps47
  go_wp2_with fail
  go_ret
  exact ⟨by show Ending.returned (.int .i64 ((p + 99) / 100)) = _; rw [e1], (Below.refl _ w).alloc (Nat.le_refl _) _⟩

set_option maxRecDepth 100000 in
theorem within_any (n a b : Int) (w : World) : Calls Tryd.prog 61 #[.int .i64 n, .int .i64 a, .int .i64 b] w fun e w' => e = .returned (.bool (decide (a ≤ n) && decide (n ≤ b))) ∧ w' = w := by
  by_cases h : a ≤ n
  · have HH := Lib.hid (decide_eq_true h)
    go_enter Tryd.func61, Tryd.ntmps61
    go_wp2_with fail
    go_ret
    exact ⟨by rw [HH.out]; simp, rfl⟩
  · have HH := Lib.hid (decide_eq_false h)
    go_enter Tryd.func61, Tryd.ntmps61
    go_wp2_with fail
    go_ret
    exact ⟨by rw [HH.out]; simp, rfl⟩

/-- What a box of a group gives. -/
def InBox (x : Cf) (w W : World) : Prop := Whole W w.heap.size 24 x.cells ∧ Below w.heap.size w W
set_option maxRecDepth 100000 in
theorem InBox.new (x : Cf) (w : World) : InBox x w (w.alloc (.cells x.cells 24)) := ⟨Whole.new w _ _, (Below.refl _ w).alloc (Nat.le_refl _) _⟩
set_option maxRecDepth 100000 in
theorem InBox.drew {x : Cf} {w W : World} (h : InBox x w W) : InBox x w W.drew := ⟨h.1, h.2.drew⟩
set_option maxRecDepth 100000 in
theorem InBox.under {x : Cf} {w W W' : World} (h : InBox x w W) (hb : Below W.heap.size W W') : InBox x w W' := ⟨h.1.under hb, h.2.trans (hb.mono h.2.size)⟩

set_option maxRecDepth 100000 in
set_option maxHeartbeats 1000000 in
theorem roomy_any (x : Cf) (hx : inB x = true) (w : World) : Calls Tryd.prog 68 #[x.v] w (BoolPost (roomB x) w) := by
  obtain ⟨p0, p1, p2, p3⟩ := fl_bd hx
  obtain ⟨⟨⟨a0, a1⟩, ⟨b0, b1⟩, ⟨c0, c1⟩, _⟩, _⟩ := inB_iff.1 hx
  have HX := Lib.hid hx
  clear hx p0 p1 b0 b1
  by_cases h0 : x.f0 = 0
  · have e0 : (x.f0 == 0) = true := by simp [h0]
    have HR : Hid (roomB x = true) := by unfold roomB; rw [decide_eq_true h0]; rfl
    go_enter Tryd.func68, Tryd.ntmps68
    go_wp2_with fail
    go_quiet (fail)
    go_wp2_with fail
    go_ret
    exact ⟨by rw [HR.out]; rfl, below_drewN ((Below.refl _ w).alloc (Nat.le_refl _) _) _⟩
  · have e0 : (x.f0 == 0) = false := by rw [beq_eq_false_iff_ne]; exact h0
    have HR : Hid (roomB x = decide (1 ≤ IntKind.i64.wrap (IntKind.i64.wrap (x.f2 + x.f0) - fl x))) := by unfold roomB; rw [decide_eq_false h0, show IntKind.i64.wrap (x.f2 + x.f0) = x.f2 + x.f0 by rw [IntKind.wrap_i64]; omega, show IntKind.i64.wrap (x.f2 + x.f0 - fl x) = x.f2 + x.f0 - fl x by rw [IntKind.wrap_i64]; omega]; rfl
    have HF := Lib.hid (floor_any x HX.out)
    go_enter Tryd.func68, Tryd.ntmps68
    go_wp2_with fail
    have HC := Lib.hid (InBox.new x w).drew
    have HL := Lib.hid (fun W (hW : InBox x w W) => hW.1.conf)
    refine wp_region_held_drew (S := InBox x w) (by kernel_rfl) HC.out (fun _ => ?_)
    refine takeH (i := 0) (v := ?_) rfl (by kernel_rfl) (by kernel_rfl) (by kernel_rfl) (fun _ _ _ h => h) (by rfl) ?_ HC.out ?_
    rotate_left
    · intro W hW; obtain ⟨c0, c1, c2, c3, c4, c5, c6, c7, c8, c9, c10, c11, c12, c13, c14⟩ := HL.out W hW; go_simp <;> with_reducible rfl
    simp only [Act.put, List.setIfInBounds_toArray, List.set_cons_zero, List.set_cons_succ]
    refine takeH (i := 1) (v := ?_) rfl (by kernel_rfl) (by kernel_rfl) (by kernel_rfl) (fun _ _ _ h => h) (by rfl) ?_ HC.out ?_
    rotate_left
    · intro W hW; obtain ⟨c0, c1, c2, c3, c4, c5, c6, c7, c8, c9, c10, c11, c12, c13, c14⟩ := HL.out W hW; go_simp <;> with_reducible rfl
    simp only [Act.put, List.setIfInBounds_toArray, List.set_cons_zero, List.set_cons_succ]
    refine takeH (i := 2) (v := ?_) rfl (by kernel_rfl) (by kernel_rfl) (by kernel_rfl) (fun _ _ _ h => h) (by rfl) ?_ HC.out ?_
    rotate_left
    · intro W hW; obtain ⟨c0, c1, c2, c3, c4, c5, c6, c7, c8, c9, c10, c11, c12, c13, c14⟩ := HL.out W hW; go_simp <;> with_reducible rfl
    simp only [Act.put, List.setIfInBounds_toArray, List.set_cons_zero, List.set_cons_succ]
    refine takeH (i := 3) (v := ?_) rfl (by kernel_rfl) (by kernel_rfl) (by kernel_rfl) (fun _ _ _ h => h) (by rfl) ?_ HC.out ?_
    rotate_left
    · intro W hW; obtain ⟨c0, c1, c2, c3, c4, c5, c6, c7, c8, c9, c10, c11, c12, c13, c14⟩ := HL.out W hW; go_simp <;> with_reducible rfl
    simp only [Act.put, List.setIfInBounds_toArray, List.set_cons_zero, List.set_cons_succ]
    refine takeH (i := 4) (v := ?_) rfl (by kernel_rfl) (by kernel_rfl) (by kernel_rfl) (fun _ _ _ h => h) (by rfl) ?_ HC.out ?_
    rotate_left
    · intro W hW; obtain ⟨c0, c1, c2, c3, c4, c5, c6, c7, c8, c9, c10, c11, c12, c13, c14⟩ := HL.out W hW; go_simp <;> with_reducible rfl
    simp only [Act.put, List.setIfInBounds_toArray, List.set_cons_zero, List.set_cons_succ]
    refine takeH (i := 5) (v := ?_) rfl (by kernel_rfl) (by kernel_rfl) (by kernel_rfl) (fun _ _ _ h => h) (by rfl) ?_ HC.out ?_
    rotate_left
    · intro W hW; obtain ⟨c0, c1, c2, c3, c4, c5, c6, c7, c8, c9, c10, c11, c12, c13, c14⟩ := HL.out W hW; go_simp <;> with_reducible rfl
    simp only [Act.put, List.setIfInBounds_toArray, List.set_cons_zero, List.set_cons_succ]
    refine takeH (i := 6) (v := ?_) rfl (by kernel_rfl) (by kernel_rfl) (by kernel_rfl) (fun _ _ _ h => h) (by rfl) ?_ HC.out ?_
    rotate_left
    · intro W hW; obtain ⟨c0, c1, c2, c3, c4, c5, c6, c7, c8, c9, c10, c11, c12, c13, c14⟩ := HL.out W hW; go_simp <;> with_reducible rfl
    simp only [Act.put, List.setIfInBounds_toArray, List.set_cons_zero, List.set_cons_succ]
    refine takeH (i := 7) (v := ?_) rfl (by kernel_rfl) (by kernel_rfl) (by kernel_rfl) (fun _ _ _ h => h) (by rfl) ?_ HC.out ?_
    rotate_left
    · intro W hW; obtain ⟨c0, c1, c2, c3, c4, c5, c6, c7, c8, c9, c10, c11, c12, c13, c14⟩ := HL.out W hW; go_simp <;> with_reducible rfl
    simp only [Act.put, List.setIfInBounds_toArray, List.set_cons_zero, List.set_cons_succ]
    refine takeH (i := 8) (v := ?_) rfl (by kernel_rfl) (by kernel_rfl) (by kernel_rfl) (fun _ _ _ h => h) (by rfl) ?_ HC.out ?_
    rotate_left
    · intro W hW; obtain ⟨c0, c1, c2, c3, c4, c5, c6, c7, c8, c9, c10, c11, c12, c13, c14⟩ := HL.out W hW; go_simp <;> with_reducible rfl
    simp only [Act.put, List.setIfInBounds_toArray, List.set_cons_zero, List.set_cons_succ]
    refine takeH (i := 9) (v := ?_) rfl (by kernel_rfl) (by kernel_rfl) (by kernel_rfl) (fun _ _ _ h => h) (by rfl) ?_ HC.out ?_
    rotate_left
    · intro W hW; obtain ⟨c0, c1, c2, c3, c4, c5, c6, c7, c8, c9, c10, c11, c12, c13, c14⟩ := HL.out W hW; go_simp <;> with_reducible rfl
    simp only [Act.put, List.setIfInBounds_toArray, List.set_cons_zero, List.set_cons_succ]
    refine oneH (i := 10) rfl (by kernel_rfl) (by rfl) (fun K hK => ?_)
    go_simp
    go_at_call 46
    refine (HF.out _).mono ?_
    rintro e w1 ⟨rfl, b1⟩
    have HC2 := Lib.hid (HC.out.under b1)
    clear HC
    have HC := HC2
    clear HC2 b1
    refine hK.out _ _ HC.out (fun _ => ?_)
    clear hK K
    refine takeH (i := 11) (v := ?_) rfl (by kernel_rfl) (by kernel_rfl) (by kernel_rfl) (fun _ _ _ h => h) (by rfl) ?_ HC.out ?_
    rotate_left
    · intro W hW; obtain ⟨c0, c1, c2, c3, c4, c5, c6, c7, c8, c9, c10, c11, c12, c13, c14⟩ := HL.out W hW; go_simp <;> with_reducible rfl
    simp only [Act.put, List.setIfInBounds_toArray, List.set_cons_zero, List.set_cons_succ]
    refine takeH (i := 12) (v := ?_) rfl (by kernel_rfl) (by kernel_rfl) (by kernel_rfl) (fun _ _ _ h => h) (by rfl) ?_ HC.out ?_
    rotate_left
    · intro W hW; obtain ⟨c0, c1, c2, c3, c4, c5, c6, c7, c8, c9, c10, c11, c12, c13, c14⟩ := HL.out W hW; go_simp <;> with_reducible rfl
    simp only [Act.put, List.setIfInBounds_toArray, List.set_cons_zero, List.set_cons_succ]
    refine takeH (i := 13) (v := ?_) rfl (by kernel_rfl) (by kernel_rfl) (by kernel_rfl) (fun _ _ _ h => h) (by rfl) ?_ HC.out ?_
    rotate_left
    · intro W hW; obtain ⟨c0, c1, c2, c3, c4, c5, c6, c7, c8, c9, c10, c11, c12, c13, c14⟩ := HL.out W hW; go_simp <;> with_reducible rfl
    simp only [Act.put, List.setIfInBounds_toArray, List.set_cons_zero, List.set_cons_succ]
    refine takeH (i := 14) (v := ?_) rfl (by kernel_rfl) (by kernel_rfl) (by kernel_rfl) (fun _ _ _ h => h) (by rfl) ?_ HC.out ?_
    rotate_left
    · intro W hW; obtain ⟨c0, c1, c2, c3, c4, c5, c6, c7, c8, c9, c10, c11, c12, c13, c14⟩ := HL.out W hW; go_simp <;> with_reducible rfl
    simp only [Act.put, List.setIfInBounds_toArray, List.set_cons_zero, List.set_cons_succ]
    refine wpAnyH_done (by kernel_rfl) ?_ _
    go_wp2_with fail
    go_ret
    exact ⟨by rw [HR.out]; rfl, HC.out.2⟩

end Go.Proofs.YtplejbgecihnpaaDoor

/-
  A region that draws its order, inside a round of a range over a function, by an invariant: one step an operation, whatever the order. Conditions: those that each theorem names.
-/
namespace Go.Proofs.YtplejbgecihnpaaDoor
open Go.RowKit Go.Shelf

section
variable {F : Fence} {m : Nat} {P : Program} {ops : Array Oper} {Q : Exit → Act → World → Prop}

set_option maxRecDepth 100000 in
theorem wpAnyIn_inv (hl : lowOnly ops = true) (Φ : (Nat → Bool) → Act → World → Prop)
    (step : ∀ i o L a w, ops[i]? = some o → L i = false → (∀ e ∈ o.after, Region.binds .any e = true → L e.on = true) → Φ L a w → wpOpIn F m P ops Q i (Φ (fun j => if j = i then true else L j)) a w)
    (fin : ∀ L a w, (∀ i, i < ops.size → L i = true) → Φ L a w → Q .normal a w) :
    ∀ (fuel : Nat) (listed : Array Bool) (a : Act) (w : World), listed.size = ops.size → listed.toList.count false ≤ fuel → Φ (fun j => listed.getD j false) a w → wpAnyIn F m P .any ops Q fuel listed a w := by
  intro fuel
  induction fuel with
  | zero =>
    intro listed a w hs hc hΦ
    have hall := count_zero_all (Nat.le_zero.1 hc)
    have hall' : ∀ i, i < ops.size → listed.getD i false = true := fun i hi => by
      have := hall i (by simp; omega)
      simp at this
      simp [this]
    refine ⟨?_, fin _ _ _ hall' hΦ⟩
    refine List.eq_nil_iff_forall_not_mem.2 fun i hm => ?_
    obtain ⟨h1, o, ho, _⟩ := mem_ready.1 hm
    have hlt : i < ops.size := (Array.getElem?_eq_some_iff.1 ho).1
    have h2 := hall' i hlt
    have : i < listed.size := by omega
    simp [this] at h1 h2
    rw [h1] at h2; cases h2
  | succ fuel ih =>
    intro listed a w hs hc hΦ
    refine ⟨fun h0 => fin _ _ _ (fun i hi => ready_none hl hs h0 (i + 1) i (by omega) hi) hΦ, fun i hi => ?_⟩
    obtain ⟨h1, o, ho, hall⟩ := mem_ready.1 hi
    have hlt : i < listed.size := by have := (Array.getElem?_eq_some_iff.1 ho).1; omega
    refine wpOpIn_mono (fun a' w' h => ih (listed.setIfInBounds i true) a' w' (by simpa using hs) ?_ (by rw [set_L hlt]; exact h)) (step i o _ a w ho (by simp [hlt] at h1 ⊢; exact h1) hall hΦ)
    have := count_set h1
    omega

set_option maxRecDepth 100000 in
/-- The same, and the steps know that what has come up has come up behind what it waits for. -/
theorem region_cloIn {id : Nat} {a : Act} {w : World} (hm : P.follows .mixedOrders = true) (hl : lowOnly ops = true) (Φ : (Nat → Bool) → Act → World → Prop) (h0 : Φ (fun _ => false) a w.drew)
    (step : ∀ i o L a w, ops[i]? = some o → L i = false → Clo ops L → (∀ e ∈ o.after, Region.binds .any e = true → L e.on = true) → Φ L a w → wpOpIn F m P ops Q i (Φ (fun j => if j = i then true else L j)) a w)
    (fin : ∀ L a w, (∀ i, i < ops.size → L i = true) → Φ L a w → Q .normal a w) : (Code.region id ops true).wpIn F m P Q a w := by
  refine wpIn_region_any hm (wpAnyIn_inv hl (fun L a w => Clo ops L ∧ Φ L a w) ?_ (fun L a w hall h => fin L a w hall h.2) _ _ _ _ (by simp) (by simp) ?_)
  · intro i o L a w ho hi hall h
    refine wpOpIn_mono (fun a' w' h' => ⟨?_, h'⟩) (step i o L a w ho hi h.1 hall h.2)
    intro j o' ho' hj e he hb
    by_cases hji : j = i
    · subst hji
      rw [ho] at ho'
      injection ho' with e'
      subst e'
      simp [hall e he hb]
    · have := h.1 j o' ho' (by simpa [hji] using hj) e he hb
      simp [this]
  · have e : (fun j => (Array.replicate ops.size false).getD j false) = fun _ => false := by
      funext j
      by_cases h : j < ops.size <;> simp [h]
    rw [e]
    exact ⟨fun _ _ _ h => (by cases h), h0⟩

set_option maxRecDepth 100000 in
theorem At.runIn {i : Nat} {dst : Option Tmp} {op : Op} {t : TypeId} {js : List Nat} (h : At ops i dst op t js) {K : Act → World → Prop} {a : Act} {w : World}
    (hr : ∀ pos after, ({ dst := dst, op := op, type := t, pos := pos, after := after, guard := none } : Oper).wpIn F m P a w K Q) : wpOpIn F m P ops Q i K a w := by
  obtain ⟨o, ho, h1, h2, h3, h4, _⟩ := h
  unfold wpOpIn
  rw [ho]
  dsimp only
  rw [if_pos (by unfold Region.wanted; rw [h4])]
  subst h1; subst h2; subst h3
  have := hr o.pos o.after
  rw [← h4] at this
  exact this
end

section
variable {m l : Nat} {K : Act → World → Prop} {Q : Exit → Act → World → Prop} {a : Act} {w : World} {dst : Option Tmp} {t : TypeId} {pos : String} {after : Array Edge} {x y : Operand}

set_option maxRecDepth 100000 in
/-- An operation inside a round, from what it does as it stands. -/
theorem opIn_of (o : Oper) (hd : ∀ c, o.op ≠ .defer c) {v : Value} {w' : World} (hr : (execOp a.eval o).run Tryd.prog w = .ok (.value v) w') (h : K (a.put o.dst v) w') : o.wpIn (Fence.wide.inRound l) m Tryd.prog a w K Q := by
  refine ⟨fun _ _ => trivial, ?_⟩
  rw [Fence.inRound_round, Oper.semAt_some l _ _ hd, hr]
  exact h

set_option maxRecDepth 100000 in
theorem opI_nil {p : Addr} (hx : a.eval x = .pointer (some p)) (h : K (a.put dst (.pointer (some p))) w) :
    ({ dst := dst, op := .nilCheck x, type := t, pos := pos, after := after, guard := none } : Oper).wpIn (Fence.wide.inRound l) m Tryd.prog a w K Q := by
  refine opIn_of _ (by intro c; simp) ?_ h
  unfold execOp
  simp only [hx]
  go_simp
set_option maxRecDepth 100000 in
theorem opI_move {v : Value} (hx : a.eval x = v) (h : K (a.put dst v) w) :
    ({ dst := dst, op := .move x, type := t, pos := pos, after := after, guard := none } : Oper).wpIn (Fence.wide.inRound l) m Tryd.prog a w K Q := by
  refine opIn_of _ (by intro c; simp) ?_ h
  unfold execOp
  simp only [hx]
  go_simp
end

end Go.Proofs.YtplejbgecihnpaaDoor

/-
  A range over a function whose elements lie in memory: each comes with what holds of it in the world in which it is handed over. Conditions: those that each theorem names.
-/
namespace Go.Proofs.YtplejbgecihnpaaDoor
open Go.RowKit Go.Shelf

section
variable {α : Type} {P : Program} {n : Nat}

/-- What such an iterator keeps: whatever the rounds tell of themselves (J), as long as each element is taken when Ok holds of it. -/
def SeqMem (n : Nat) (P : Program) (g : Nat) (lb : Array Value) (encs : α → Array Value) (Ok : List α → α → World → Prop) (Kp : World → World → Prop) (S : List α → Prop) (w : World) : Prop :=
  ∀ (l : Nat) (J : List α → World → Prop) (Jx : World → Prop) (W : World), Below w.heap.size w W → AbidesFrom W.heap.size J →
    (∀ pre x V, J pre V → Ok pre x V → YieldAt Fence.wide (n - 1) P l (encs x) V fun e V' => (e = .returned (.bool true) ∧ J (pre ++ [x]) V' ∧ Kp V V') ∨ (e = .returned (.bool false) ∧ Jx V')) →
    J [] W → CallsIn Fence.wide n P g (#[.func (.yield l) #[] #[]] ++ lb) W fun e W' => (∃ v, e = .returned v) ∧ ((∃ xs, S xs ∧ J xs W') ∨ Jx W')

/-- The loop's record, as it lies in its block. -/
def Rec (W : World) (D fn : Nat) (a : Act) (ps : Array Tmp) (assign body : Code) (st : LoopState) (pe : Option Code) : Prop :=
  W.heap[D + 1]? = some (.loop { state := st, pending := pe, fn := fn, tmps := a.tmps, params := ps, assign := assign, body := body, defers := D }) ∧ W.heap[D]? = some (.deferred (some []))

section
variable {W V : World} {D fn : Nat} {a : Act} {ps : Array Tmp} {assign body : Code} {st : LoopState} {pe : Option Code}
set_option maxRecDepth 100000 in
theorem Rec.lt (h : Rec W D fn a ps assign body st pe) : D + 1 < W.heap.size := (Array.getElem?_eq_some_iff.1 h.1).1
set_option maxRecDepth 100000 in
theorem Rec.turn {row : Option Nat} (h : Rec W D fn a ps assign body st pe) (hg : W.grownBy V row) (hr : ∀ r, row = some r → ∃ o : Obj, W.heap[r]? = some o ∧ o.isWalk = true) : Rec V D fn a ps assign body st pe :=
  ⟨(grownBy_keeps hg hr h.1 rfl).trans h.1, (grownBy_keeps hg hr h.2 rfl).trans h.2⟩
set_option maxRecDepth 100000 in
theorem Rec.kept {B : Nat} (h : Rec W D fn a ps assign body st pe) (hB : B ≤ D) (hk : KeepsFrom B W V) : Rec V D fn a ps assign body st pe :=
  ⟨hk.same _ _ (by omega) h.1 rfl, hk.same _ _ hB h.2 rfl⟩
set_option maxRecDepth 100000 in
theorem Rec.put (h : Rec W D fn a ps assign body st pe) (st' : LoopState) (pe' : Option Code) :
    Rec (W.putObj (D + 1) (.loop { state := st', pending := pe', fn := fn, tmps := a.tmps, params := ps, assign := assign, body := body, defers := D })) D fn a ps assign body st' pe' :=
  ⟨World.putObj_heap_same h.lt, (World.putObj_heap_other (by omega)).trans h.2⟩
set_option maxRecDepth 100000 in
theorem Rec.begins (h : Rec W D fn a ps assign body .ready none) :
    (Instr.beginRound (D + 1)).run P W = .ok () (W.putObj (D + 1) (.loop { state := .busy, pending := none, fn := fn, tmps := a.tmps, params := ps, assign := assign, body := body, defers := D })) := run_beginRound h.1 rfl
set_option maxRecDepth 100000 in
/-- A round's end: behind the body, the record says how it was left. -/
theorem Rec.ends (h : Rec W D fn a ps assign body .busy none) (jump : Option Code) :
    (Instr.endRound (D + 1) jump).run P W = .ok (.bool jump.isNone) (W.putObj (D + 1) (.loop { state := if jump.isNone then .ready else .done, pending := jump, fn := fn, tmps := a.tmps, params := ps, assign := assign, body := body, defers := D })) := run_endRound jump h.1
set_option maxRecDepth 100000 in
theorem Rec.over (h : Rec W D fn a ps assign body st pe) (hb : st ≠ .busy) :
    (Instr.endLoop (D + 1)).run P W = .ok pe (W.putObj (D + 1) (.loop { state := .exhausted, pending := pe, fn := fn, tmps := a.tmps, params := ps, assign := assign, body := body, defers := D })) := run_endLoop h.1 hb
set_option maxRecDepth 100000 in
theorem Rec.yields (h : Rec W D fn a ps assign body st pe) {args : Array Value} (hs : args.size = ps.size) :
    (Instr.yield (D + 1) args).run P W = .ok (.round (D + 1) fn ((ps.zip args).foldl (fun t (p, v) => t.setIfInBounds p v) a.tmps) assign body) W := run_yield h.1 hs
end

set_option maxRecDepth 100000 in
theorem wpIn_range_mem {g : Operand} {ps : Array Tmp} {assign body : Code} {Q : Exit → Act → World → Prop} {a : Act} {w : World}
    (h1 : 1 ≤ n) {gf : Nat} {lb : Array Value} (hg : a.eval g = .func (.func gf) #[] lb) (eg : ∀ args w, (callFunc gf args).run P w = .ok (.enter gf args) w)
    {encs : α → Array Value} {Ok : List α → α → World → Prop} {Kp : World → World → Prop} {S : List α → Prop} {w0 : World} (hseq : SeqMem (n - 1) P gf lb encs Ok Kp S w0)
    (hKt : ∀ {A B C : World}, Kp A B → Kp B C → Kp A C) (hKb : ∀ (W : World) (l : Nat) (o o' : Obj), w.heap.size ≤ l → W.heap[l]? = some o → o.isCells = false → o.isWalk = false → Kp W (W.putObj l o')) (hb0 : Below w0.heap.size w0 w) (hps : ∀ x, (encs x).size = ps.size)
    (I : List α → World → Prop) (Ix : Code → World → Prop) (hI : OwnFrom w.heap.size I) (hIx : OwnFrom w.heap.size Ix) (h0 : I [] w)
    (Ax : List α → α → Act → World → Prop) (hAx : ∀ a', OwnFrom w.heap.size (fun (p : List α × α) W => Ax p.1 p.2 a' W))
    (hassign : ∀ (l : Nat) (pre : List α) (x : α) (W : World) (K : Act → World → Prop), I pre W → Ok pre x W → (∀ a' W', KeepsFrom w.heap.size W W' → Kp W W' → I pre W' → Ax pre x a' W' → K a' W') →
      assign.wpIn (Fence.wide.inRound l) (n - 1 - 1) P (Exit.then K (fun _ _ _ => False)) { tmps := (ps.zip (encs x)).foldl (fun t (p, v) => t.setIfInBounds p v) a.tmps, defers := [] } W)
    (hbody : ∀ (l : Nat) (pre : List α) (x : α) (a' : Act) (W : World), w.heap.size ≤ l → I pre W → Ax pre x a' W →
      body.wpIn (Fence.wide.inRound l) (n - 1 - 1) P (ownPostG w.heap.size Kp I (fun c _ => Ix c) (pre ++ [x]) W) a' W)
    (hdone : ∀ (D : Nat) (xs : List α) (W : World), w.heap.size ≤ D → S xs → I xs W → W.heap[D]? = some (.deferred (some [])) → Q .normal { a with defers := { target := .collected D, args := #[] } :: a.defers } W)
    (hstop : ∀ (D : Nat) (c : Code) (W : World), w.heap.size ≤ D → Ix c W → W.heap[D]? = some (.deferred (some [])) → c.wpIn Fence.wide n P Q { a with defers := { target := .collected D, args := #[] } :: a.defers } W) :
    (Code.rangeFunc g ps assign body).wpIn Fence.wide n P Q a w := by
  refine wpIn_rangeFunc fun fn _ => ?_
  have hsz2 : ((w.alloc (.deferred (some []))).alloc (.loop { state := .ready, pending := none, fn := fn, tmps := a.tmps, params := ps, assign := assign, body := body, defers := w.heap.size })).heap.size = w.heap.size + 2 := by simp
  have hR0 : Rec ((w.alloc (.deferred (some []))).alloc (.loop { state := .ready, pending := none, fn := fn, tmps := a.tmps, params := ps, assign := assign, body := body, defers := w.heap.size })) w.heap.size fn a ps assign body .ready none := by
    constructor
    · have := World.alloc_heap_new (w.alloc (.deferred (some []))) (.loop { state := .ready, pending := none, fn := fn, tmps := a.tmps, params := ps, assign := assign, body := body, defers := w.heap.size })
      rwa [World.size_alloc] at this
    · exact (Below.heap_alloc _ _ _ (by simp)).trans (World.alloc_heap_new w _)
  have hB0 : Below w0.heap.size w0 ((w.alloc (.deferred (some []))).alloc (.loop { state := .ready, pending := none, fn := fn, tmps := a.tmps, params := ps, assign := assign, body := body, defers := w.heap.size })) := (hb0.alloc hb0.size _).alloc (by have := hb0.size; simp; omega) _
  have hI0 := hI.alloc (Obj.loop { state := .ready, pending := none, fn := fn, tmps := a.tmps, params := ps, assign := assign, body := body, defers := w.heap.size }) (hI.alloc (.deferred (some [])) h0)
  have hent := run_enterLoop_outer (P := P) (w := w) fn a.tmps ps assign body
  revert hsz2 hR0 hB0 hI0 hent
  generalize (w.alloc (.deferred (some []))).alloc (.loop { state := .ready, pending := none, fn := fn, tmps := a.tmps, params := ps, assign := assign, body := body, defers := w.heap.size }) = W1
  intro hsz2 hR0 hB0 hI0 hent
  refine ⟨w.heap.size + 1, [{ target := .collected w.heap.size, args := #[] }], W1, { target := .fn (.func gf) lb, args := #[.func (.yield (w.heap.size + 1)) #[] #[]] }, W1, gf,
    #[.func (.yield (w.heap.size + 1)) #[] #[]] ++ lb, W1, hent, ?_, fun _ _ => trivial, ?_, fun _ => h1, ?_⟩
  · simp only [resolve, hg]
    simp [go_sem]
  · simp [invoke, go_sem, eg]
  have hnw : ∀ {A : World} {row : Option Nat}, (∀ r, row = some r → W1.heap.size ≤ r ∧ ∃ o : Obj, A.heap[r]? = some o ∧ o.isWalk = true) → (∀ r, row = some r → w.heap.size ≤ r ∧ ∃ o : Obj, A.heap[r]? = some o ∧ o.isCells = false) :=
    fun hr r e => by
      obtain ⟨hB, o, ho, hw⟩ := hr r e
      exact ⟨by omega, o, ho, Obj.not_cells_of_walk hw⟩
  refine (hseq (w.heap.size + 1) (fun pre W => I pre W ∧ Rec W w.heap.size fn a ps assign body .ready none) (fun W => ∃ c, Ix c W ∧ Rec W w.heap.size fn a ps assign body .done (some c)) W1 hB0
    (fun s A B row hs hg' hr => ⟨hI s A B row hs.1 hg' (hnw hr), hs.2.turn hg' (fun r e => (hr r e).2)⟩) ?round ⟨hI0, hR0⟩).mono ?behind
  case round =>
    rintro pre x V ⟨hi, hrec⟩ hok
    refine ⟨_, _, _, _, hrec.yields (hps x), roundIn_of_wpIn trivial (hassign _ pre x V _ hi hok ?_)⟩
    intro a' V2 hk2 hp2 hi2 hx2
    have hrec2 := hrec.kept (Nat.le_refl _) hk2
    refine ⟨_, hrec2.begins, ?_⟩
    have hrec3 := hrec2.put .busy none
    have hi3 := hI.putObj (Obj.loop { state := .busy, pending := none, fn := fn, tmps := a.tmps, params := ps, assign := assign, body := body, defers := w.heap.size }) hi2 (by omega) hrec2.1 rfl
    have hx3 := (hAx a').putObj (s := (pre, x)) (Obj.loop { state := .busy, pending := none, fn := fn, tmps := a.tmps, params := ps, assign := assign, body := body, defers := w.heap.size }) hx2 (by omega) hrec2.1 rfl
    have hp3 := hKb V2 (w.heap.size + 1) _ (Obj.loop { state := .busy, pending := none, fn := fn, tmps := a.tmps, params := ps, assign := assign, body := body, defers := w.heap.size }) (by omega) hrec2.1 rfl rfl
    refine wpIn_mono (hbody _ pre x a' _ (by omega) hi3 hx3) ?_
    have leaves : ∀ (c : Code) (V4 : World), KeepsFrom w.heap.size (V2.putObj (w.heap.size + 1) (.loop { state := .busy, pending := none, fn := fn, tmps := a.tmps, params := ps, assign := assign, body := body, defers := w.heap.size })) V4 → Ix c V4 →
        ∃ v W', (Instr.endRound (w.heap.size + 1) (some c)).run P V4 = .ok v W' ∧ ((Ending.returned v = .returned (.bool true) ∧ (I (pre ++ [x]) W' ∧ Rec W' w.heap.size fn a ps assign body .ready none) ∧ Kp V W') ∨
          (Ending.returned v = .returned (.bool false) ∧ ∃ c, Ix c W' ∧ Rec W' w.heap.size fn a ps assign body .done (some c))) := fun c V4 hk4 hx4 => by
      have hrec4 := hrec3.kept (Nat.le_refl _) hk4
      exact ⟨_, _, hrec4.ends (some c), .inr ⟨rfl, c, hIx.putObj _ hx4 (by omega) hrec4.1 rfl, hrec4.put _ _⟩⟩
    intro e a4 V4 hp
    cases e with
    | normal =>
      obtain ⟨hk4, hp4, hi4⟩ := hp
      have hrec4 := hrec3.kept (Nat.le_refl _) hk4
      exact ⟨_, _, hrec4.ends none, .inl ⟨rfl, ⟨hI.putObj _ hi4 (by omega) hrec4.1 rfl, hrec4.put _ _⟩, hKt hp2 (hKt hp3 (hKt hp4 (hKb _ _ _ _ (by omega) hrec4.1 rfl rfl)))⟩⟩
    | ret => exact leaves _ _ hp.1 hp.2
    | exit id => exact leaves _ _ hp.1 hp.2
    | goto t => exact leaves _ _ hp.1 hp.2
    | panic ch => exact hp.elim
    | outgrown => exact hp.elim
  case behind =>
    rintro e W2 ⟨⟨v, rfl⟩, h⟩
    rcases h with ⟨xs, hS, hi, hrec⟩ | ⟨c, hx, hrec⟩
    · exact ⟨none, _, hrec.over (by simp), hdone _ xs _ (Nat.le_refl _) hS (hI.putObj _ hi (by omega) hrec.1 rfl) (hrec.put _ _).2⟩
    · exact ⟨some c, _, hrec.over (by simp), hstop _ c _ (Nat.le_refl _) (hIx.putObj _ hx (by omega) hrec.1 rfl) (hrec.put _ _).2⟩
end

set_option maxRecDepth 100000 in
/-- An append whose run is known, inside a round. -/
theorem wpListIn_app {F : Fence} {m : Nat} {P : Program} {w : World} {ops : Array Oper} {rest : List Oper} {o : Oper} {a : Act} {Q : Exit → Act → World → Prop} (hg : o.guard = none) (s x : Operand) (t : TypeId)
    (ho : o.op = .call { callee := .builtin .append, args := #[s, x], argTypes := #[t, t] }) (vs vx v' : Value) (w' : World) (hs : a.eval s = vs) (hx : a.eval x = vx)
    (hr : (Builtin.append_ #[t, t] o.type #[vs, vx]).run P w = .ok v' w') (h : wpListIn F m P ops Q rest (a.put o.dst v') w') : wpListIn F m P ops Q (o :: rest) a w := by
  refine wpListIn_plain hg fun K hK => ?_
  unfold Oper.wpIn
  refine ⟨by simp [Oper.about, ho, resolve, Target.leads, Sem.run_pure], ?_⟩
  rw [Oper.semAt_plain F _ _ (by rw [ho]; intro c hc; cases hc)]
  simp only [execOp, ho, resolve, invoke, builtin, Sem.run_bind, Sem.run_pure, Result.andThen_ok, List.map_toArray, List.map_cons, List.map_nil, hs, hx, hr]
  exact hK _ _ h

end Go.Proofs.YtplejbgecihnpaaDoor

/-
  A scope with two labels: the run comes back at one, and jumps ahead to the other. Conditions: those that each theorem names.
-/
namespace Go.Proofs.YtplejbgecihnpaaDoor
open Go.RowKit Go.Shelf

/-- As Q; by a goto to l0: J0; to l1: J1; by any other: no way out. -/
def jump2 (l0 : Nat) (J0 : Act → World → Prop) (l1 : Nat) (J1 : Act → World → Prop) (Q : Exit → Act → World → Prop) : Exit → Act → World → Prop
  | .goto l, a, w => (l = l0 ∧ J0 a w) ∨ (l = l1 ∧ J1 a w)
  | e, a, w => Q e a w

set_option maxRecDepth 100000 in
/-- A scope that the run leaves by a jump ahead to one label, and in which it comes back at another one: the first pass, each pass behind the label, and the tail. -/
theorem wp_scope_two {P : Program} {a : Act} {w : World} {Q : Exit → Act → World → Prop} {c rest r0 : Code} (l0 l1 : Nat) (J0 J1 : Act → World → Prop) (μ : Act → World → Nat)
    (hf : findLabel c l0 = some r0) (hf1 : findLabel c l1 = some (Code.skip.seq rest))
    (first : c.wp P (jump2 l0 J0 l1 J1 Q) a w)
    (pass : ∀ a w, J1 a w → rest.wp P (jump2 l0 J0 l1 (fun a' w' => J1 a' w' ∧ μ a' w' < μ a w) Q) a w)
    (tail : ∀ a w, J0 a w → r0.wp P (Exit.noGoto Q) a w) : (Code.scope c).wp P Q a w := by
  intro b k cs
  have hg0 : gotoIn l0 (.inScope c :: k) = some (.code r0 :: .inScope c :: k) := by simp [gotoIn, hf]
  have hg1 : gotoIn l1 (.inScope c :: k) = some (.code (Code.skip.seq rest) :: .inScope c :: k) := by simp [gotoIn, hf1]
  have end0 : ∀ a w, J0 a w → ∃ e a' w', Q e a' w' ∧ Arrives P (lone (b.at a (.code r0 :: .inScope c :: k)) cs w) b k cs e a' w' := by
    intro a w hJ
    obtain ⟨e, a₁, w₁, hq, harr⟩ := tail a w hJ b (.inScope c :: k) cs
    cases e with
    | normal => exact ⟨.normal, a₁, w₁, hq, Steps.trans harr (.one step_inScope)⟩
    | exit id => exact ⟨.exit id, a₁, w₁, hq, fun k' hk => harr k' (by simp [exitTo, hk])⟩
    | goto l' => exact hq.elim
    | ret => exact ⟨_, a₁, w₁, hq, harr⟩
    | panic ch => exact ⟨_, a₁, w₁, hq, harr⟩
    | outgrown => exact ⟨_, a₁, w₁, hq, harr⟩
  have key : ∀ n a w, μ a w = n → J1 a w → ∃ e a' w', Q e a' w' ∧ Arrives P (lone (b.at a (.code (Code.skip.seq rest) :: .inScope c :: k)) cs w) b k cs e a' w' := by
    intro n
    induction n using Nat.strongRecOn with
    | _ n ih =>
      intro a w hn hJ
      obtain ⟨e, a₁, w₁, hq, harr⟩ := (wp_seq (wp_skip (pass a w hJ))) b (.inScope c :: k) cs
      cases e with
      | normal => exact ⟨.normal, a₁, w₁, hq, Steps.trans harr (.one step_inScope)⟩
      | exit id => exact ⟨.exit id, a₁, w₁, hq, fun k' hk => harr k' (by simp [exitTo, hk])⟩
      | goto l' =>
        rcases hq with ⟨rfl, hJ'⟩ | ⟨rfl, hJ', hlt⟩
        · obtain ⟨e₂, a₂, w₂, hq₂, harr₂⟩ := end0 a₁ w₁ hJ'
          exact ⟨e₂, a₂, w₂, hq₂, .of_steps (harr _ hg0) harr₂⟩
        · obtain ⟨e₂, a₂, w₂, hq₂, harr₂⟩ := ih _ (by omega) a₁ w₁ rfl hJ'
          exact ⟨e₂, a₂, w₂, hq₂, .of_steps (harr _ hg1) harr₂⟩
      | ret => exact ⟨_, a₁, w₁, hq, harr⟩
      | panic ch => exact ⟨_, a₁, w₁, hq, harr⟩
      | outgrown => exact ⟨_, a₁, w₁, hq, harr⟩
  obtain ⟨e, a₁, w₁, hq, harr⟩ := first b (.inScope c :: k) cs
  cases e with
  | normal => exact ⟨.normal, a₁, w₁, hq, .head step_scope (Steps.trans harr (.one step_inScope))⟩
  | exit id => exact ⟨.exit id, a₁, w₁, hq, fun k' hk => .head step_scope (harr k' (by simp [exitTo, hk]))⟩
  | goto l' =>
    rcases hq with ⟨rfl, hJ'⟩ | ⟨rfl, hJ'⟩
    · obtain ⟨e₂, a₂, w₂, hq₂, harr₂⟩ := end0 a₁ w₁ hJ'
      exact ⟨e₂, a₂, w₂, hq₂, .of_steps (.head step_scope (harr _ hg0)) harr₂⟩
    · obtain ⟨e₂, a₂, w₂, hq₂, harr₂⟩ := key _ a₁ w₁ rfl hJ'
      exact ⟨e₂, a₂, w₂, hq₂, .of_steps (.head step_scope (harr _ hg1)) harr₂⟩
  | ret => exact ⟨_, a₁, w₁, hq, .of_steps (.one step_scope) harr⟩
  | panic ch => exact ⟨_, a₁, w₁, hq, .of_steps (.one step_scope) harr⟩
  | outgrown => exact ⟨_, a₁, w₁, hq, .of_steps (.one step_scope) harr⟩

set_option maxRecDepth 100000 in
theorem jump2_of {P : Program} {Q : Exit → Act → World → Prop} {rest : Code} {l0 l1 : Nat} {J0 J1 : Act → World → Prop} {μ : Act → World → Nat} {a : Act} {w : World}
    (h : rest.wp P (jump2 l0 J0 l1 (fun a' w' => J1 a' w' ∧ μ a' w' < μ a w) Q) a w) : rest.wp P (jump2 l0 J0 l1 J1 Q) a w := by
  refine wp_mono h ?_
  rintro (_ | _ | l | _ | _ | _) a2 w2 h
  all_goals first | exact h | exact h.imp id (fun h => ⟨h.1, h.2.1⟩)
set_option maxRecDepth 100000 in
/-- Code ahead of a label at which the run comes back, which it leaves by a jump ahead to another one. -/
theorem wp_scope_back_fwd {P : Program} {a : Act} {w : World} {Q : Exit → Act → World → Prop} {pre rest r0 : Code} (l0 l1 : Nat) (J0 J1 : Act → World → Prop) (μ : Act → World → Nat)
    (hn : findLabel pre l1 = none) (hf : findLabel (pre.seq ((Code.label l1).seq rest)) l0 = some r0)
    (h0 : pre.wp P (fun e a w => e = .normal ∧ J1 a w) a w)
    (pass : ∀ a w, J1 a w → rest.wp P (jump2 l0 J0 l1 (fun a' w' => J1 a' w' ∧ μ a' w' < μ a w) Q) a w)
    (tail : ∀ a w, J0 a w → r0.wp P (Exit.noGoto Q) a w) : (Code.scope (pre.seq ((Code.label l1).seq rest))).wp P Q a w := by
  refine wp_scope_two l0 l1 J0 J1 μ hf (by simp [findLabel, hn]) (wp_seq (wp_mono h0 ?_)) pass tail
  rintro e a1 w1 ⟨rfl, h1⟩
  exact wp_seq (wp_label (jump2_of (pass a1 w1 h1)))
set_option maxRecDepth 100000 in
/-- The same, with four pieces of code ahead of the label. -/
theorem wp_scope_back_fwd4 {P : Program} {a : Act} {w : World} {Q : Exit → Act → World → Prop} {p1 p2 p3 p4 rest r0 : Code} (l0 l1 : Nat) (J0 J1 : Act → World → Prop) (μ : Act → World → Nat)
    (hn1 : findLabel p1 l1 = none) (hn2 : findLabel p2 l1 = none) (hn3 : findLabel p3 l1 = none) (hn4 : findLabel p4 l1 = none) (hf : findLabel (p1.seq (p2.seq (p3.seq (p4.seq ((Code.label l1).seq rest))))) l0 = some r0)
    (h0 : p1.wp P (fun e a w => e = .normal ∧ p2.wp P (fun e a w => e = .normal ∧ p3.wp P (fun e a w => e = .normal ∧ p4.wp P (fun e a w => e = .normal ∧ J1 a w) a w) a w) a w) a w)
    (pass : ∀ a w, J1 a w → rest.wp P (jump2 l0 J0 l1 (fun a' w' => J1 a' w' ∧ μ a' w' < μ a w) Q) a w)
    (tail : ∀ a w, J0 a w → r0.wp P (Exit.noGoto Q) a w) : (Code.scope (p1.seq (p2.seq (p3.seq (p4.seq ((Code.label l1).seq rest)))))).wp P Q a w := by
  refine wp_scope_two l0 l1 J0 J1 μ hf (by simp [findLabel, hn1, hn2, hn3, hn4]) (wp_seq (wp_mono h0 ?_)) pass tail
  rintro e a1 w1 ⟨rfl, h1⟩
  refine wp_seq (wp_mono h1 ?_)
  rintro e a2 w2 ⟨rfl, h2⟩
  refine wp_seq (wp_mono h2 ?_)
  rintro e a3 w3 ⟨rfl, h3⟩
  refine wp_seq (wp_mono h3 ?_)
  rintro e a4 w4 ⟨rfl, h4⟩
  exact wp_seq (wp_label (jump2_of (pass a4 w4 h4)))

set_option maxRecDepth 100000 in
/-- A scope at whose label, behind two pieces of code, the run comes back. -/
theorem wp_scope_back_behind2 {P : Program} {a : Act} {w : World} {Q : Exit → Act → World → Prop} {pre pre2 rest : Code} (l : Nat) (J : Act → World → Prop) (μ : Act → World → Nat) (hn : findLabel pre l = none) (hn2 : findLabel pre2 l = none)
    (h0 : pre.wp P (fun e a w => e = .normal ∧ pre2.wp P (fun e a w => e = .normal ∧ J a w) a w) a w)
    (pass : ∀ a w, J a w → rest.wp P (Exit.jump l (fun a' w' => J a' w' ∧ μ a' w' < μ a w) Q) a w) : (Code.scope (pre.seq (pre2.seq ((Code.label l).seq rest)))).wp P Q a w := by
  refine wp_scope_jumps l J μ (rest := Code.skip.seq rest) (by simp [findLabel, hn, hn2]) (wp_seq (wp_mono h0 ?_)) (fun a w hJ => wp_seq (wp_skip (pass a w hJ)))
  rintro e a1 w1 ⟨rfl, h1⟩
  refine wp_seq (wp_mono h1 ?_)
  rintro e a1 w1 ⟨rfl, h1⟩
  refine wp_seq (wp_label (wp_mono (pass a1 w1 h1) ?_))
  rintro (_ | _ | l | _ | _ | _) a2 w2 h
  all_goals first | exact h | exact ⟨h.1, h.2.1⟩

end Go.Proofs.YtplejbgecihnpaaDoor

/-
  The walks of 'each' of package brain at what is kept and at what is meant, with the numbers that 'ids' and 'tokens' tell. Conditions: those that each theorem names.
-/
namespace Go.Proofs.YtplejbgecihnpaaDoor
open Go.RowKit Go.Shelf
attribute [local go_sem] Oper.semAt_some

set_option maxRecDepth 100000 in
theorem prefix_snoc {α : Type} {l pre rest : List α} {x : α} (h : l = pre ++ x :: rest) : pre ++ [x] <+: l := ⟨rest, by rw [h]; simp⟩

set_option maxRecDepth 100000 in
theorem below_dr {B : Nat} {w w' : World} (h : Below B w w') (k : Nat) : Below B w (w'.drewN k) := ⟨h.os, h.tape, h.output, h.size, h.block⟩
set_option maxRecDepth 100000 in
theorem ItAt_below {w w' : World} {N b o : Nat} {x : It} (h : ItAt w b o x) (hb : Below N w w') (hlt : b < N) : ItAt w' b o x :=
  ⟨(hb.cell (p := ⟨b, o, none⟩) hlt).trans h.c0, (hb.cell (p := ⟨b, o + 1, none⟩) hlt).trans h.c1, (hb.cell (p := ⟨b, o + 2, none⟩) hlt).trans h.c2, (hb.cell (p := ⟨b, o + 3, none⟩) hlt).trans h.c3⟩
set_option maxRecDepth 100000 in
theorem KpAt_below {w w' : World} {N b o : Nat} {x : Kp} (h : KpAt w b o x) (hb : Below N w w') (hlt : b < N) : KpAt w' b o x :=
  ⟨(hb.cell (p := ⟨b, o, none⟩) hlt).trans h.c0, (hb.cell (p := ⟨b, o + 1, none⟩) hlt).trans h.c1, (hb.cell (p := ⟨b, o + 2, none⟩) hlt).trans h.c2, (hb.cell (p := ⟨b, o + 3, none⟩) hlt).trans h.c3, (hb.cell (p := ⟨b, o + 4, none⟩) hlt).trans h.c4, (hb.cell (p := ⟨b, o + 5, none⟩) hlt).trans h.c5, (hb.cell (p := ⟨b, o + 6, none⟩) hlt).trans h.c6, (hb.cell (p := ⟨b, o + 7, none⟩) hlt).trans h.c7⟩

end Go.Proofs.YtplejbgecihnpaaDoor

/-
  The walks of 'place' and of 'rising' of package brain, over whatever iterator of numbers. Conditions: those that each theorem names.
-/
namespace Go.Proofs.YtplejbgecihnpaaDoor
open Go.RowKit Go.Shelf
attribute [local go_sem] Oper.semAt_some

/-- The place of the first one, or -1. -/
def placeF (q : Int → Bool) (xs : List Int) : Int := match xs.findIdx? q with | some i => i | none => -1
set_option maxRecDepth 100000 in
theorem placeF_none {q : Int → Bool} {xs : List Int} (h : ∀ x ∈ xs, q x = false) : placeF q xs = -1 := by
  have : xs.findIdx? q = none := by rw [List.findIdx?_eq_none_iff]; exact h
  simp [placeF, this]
set_option maxRecDepth 100000 in
theorem placeF_some {q : Int → Bool} {pre xs : List Int} {x : Int} (hp : pre ++ [x] <+: xs) (h : ∀ y ∈ pre, q y = false) (hx : q x = true) : placeF q xs = (pre.length : Int) := by
  obtain ⟨t, ht⟩ := hp
  have h1 : xs[pre.length]? = some x := by rw [← ht]; simp
  have : xs.findIdx? q = some pre.length := findIdx_first h1 hx (fun y hy => by
    rw [← ht, List.append_assoc, List.take_left] at hy
    exact h y hy)
  simp [placeF, this]

/-- An iterator that hands over these numbers. -/
def SeqI (g b1 b2 : Nat) (xs : List Int) (w : World) : Prop := b1 < w.heap.size ∧ b2 < w.heap.size ∧ ∀ m W, 1 ≤ m → Below w.heap.size w W →
  SeqStopsK Fence.wide m Tryd.prog g #[.pointer (some ⟨b1, 0, none⟩), .pointer (some ⟨b2, 0, none⟩)] (fun x : Int => #[Value.int .i64 x]) (fun V V' => Below w.heap.size V V') (fun ys => ys = xs) (fun pre => pre <+: xs) xs.length W
set_option maxRecDepth 100000 in
theorem boxed_under {W W' : World} {B : Nat} {t : TypeId} {v : Value} (h : Boxed W B t v) (hb : Below W.heap.size W W') : Boxed W' B t v := (hb.block B (Array.getElem?_eq_some_iff.1 h).1).trans h
set_option maxRecDepth 100000 in
theorem below_put {N l : Nat} {W : World} {o : Obj} (hl : N ≤ l) (ho : W.heap[l]? = some o) (o' : Obj) : Below N W (W.putObj l o') :=
  (Below.refl N W).grown (grownBy_putObj' W l o') (by have := (Array.getElem?_eq_some_iff.1 ho).1; omega) (fun k e => by cases e; exact hl)

structure PlOut (q : Int → Bool) (w : World) (pre : List Int) (W : World) : Prop where
  yes : ∃ p x, pre = p ++ [x] ∧ (∀ y ∈ p, q y = false) ∧ q x = true ∧ Boxed W (w.heap.size + 1) 3 (.int .i64 (p.length : Int))
  below : Below w.heap.size w W
set_option maxRecDepth 100000 in
theorem plOut_own (q : Int → Bool) (w : World) (B : Nat) (hB : w.heap.size ≤ B) : OwnFrom B (PlOut q w) := by
  intro pre W W' row h hg hr
  have hr' : ∀ r, row = some r → ∃ o : Obj, W.heap[r]? = some o ∧ o.isCells = false := fun r e => (hr r e).2
  obtain ⟨p, x, h1, h2, h3, h4⟩ := h.yes
  exact ⟨⟨p, x, h1, h2, h3, boxed_turn h4 hg hr'⟩, h.below.grown hg h.below.size (fun k e => by have := (hr k e).1; omega)⟩

end Go.Proofs.YtplejbgecihnpaaDoor
