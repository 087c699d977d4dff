/-
  Texts that the walk of a statement over brains leans on, joined (BrFit, NumAdd, NumFirst, NumClone, NumBehind, NumEach, NumRow, NumTakes, NumTakeRow, NumUse, RecIter, RecRight, KpG, BrVals). Conditions: those that each theorem names.
-/
import Derived.Test.YtdaimejlcfhfiaaGreatDoorKQ
import Derived.Test.YtdaimejlcfhfiaaGreatDoorK0
import Derived.Test.YtdaimejlcfhfiaaGreatDoorK2
import Derived.Test.YtdaimejlcfhfiaaGreatDoorK15
import Derived.Laws.BytesArg
import Derived.Deep.RegionHeld3
import Derived.OpenShut
import Derived.Laws.AppendOwnNone
set_option maxRecDepth 100000

namespace Go.Proofs.YtdaimejlcfhfiaaGreatDoor
open Go.RowKit Go.Shelf

def DeedOk (p : Br) (base g k : Nat) (zs : List Int) (x : Bx) (sl : Value) (V : World) : Prop :=
  ∃ (f1 f2 : Nat) (c1 c2 : Array Value) (fit : Bool), deedV x k = .agg #[clo f1 c1, clo f2 c2] ∧ (∀ args W, (callFunc f1 args).run Tryz.prog W = .ok (.enter f1 args) W) ∧ (∀ args W, (callFunc f2 args).run Tryz.prog W = .ok (.enter f2 args) W) ∧
    Calls Tryz.prog f1 (#[sl] ++ c1) V (BoolPost fit V) ∧ (fit = false → applyB p (k : Int) zs = p) ∧ (fit = true → ∀ W', Below V.heap.size V W' → Calls Tryz.prog f2 (#[sl] ++ c2) W' (StPost base g (applyB p (k : Int) zs) W'))
/-- What the deeds lean on. -/
structure DEnv (base g B : Nat) (V : World) (p : Br) (a : Ad) (x : Bx) : Prop where
  h : BrIn base g V p a
  d : DBox V g x
  t : Tab V
  th : TabH V
  gd : Good 800 p
  bB : B ≤ base
section
variable {base g B n c : Nat} {V : World} {p : Br} {a : Ad} {x : Bx} {A : Option Addr} {zs : List Int}
theorem DEnv.hB (E : DEnv base g B V p a x) : B ≤ V.heap.size := Nat.le_trans E.bB (Nat.le_trans E.h.ge (Nat.le_of_lt E.h.lt))
theorem DEnv.lk (E : DEnv base g B V p a x) : p.kps.length ≤ 800 := by have := E.gd.len; omega
theorem DEnv.li (E : DEnv base g B V p a x) : p.its.length ≤ 800 := by have := E.gd.len; omega
theorem rd_at (hr : Rd V B A n (iv zs)) (hn : 0 < zs.length) : ∃ rb ro, A = some ⟨rb, ro, none⟩ ∧ rb < B ∧ zs.length = n ∧ ∀ j y, zs[j]? = some y → V.cell? ⟨rb, ro + j, none⟩ = some (.int .i64 y) := by
  have hl : zs.length = n := by have := hr.1; rwa [iv_length] at this
  obtain ⟨b, off, e, hb, hc⟩ := hr.2 (by omega)
  refine ⟨b, off, e, hb, hl, fun j y hy => ?_⟩
  have hj := (List.getElem?_eq_some_iff.1 hy).1
  rw [hc j (by omega)]
  simp [iv, hy]
theorem len1 (h : zs.length = 1) : ∃ x0, zs = [x0] := by
  match zs, h with
  | [a], _ => exact ⟨a, rfl⟩
theorem len2 (h : zs.length = 2) : ∃ x0 x1, zs = [x0, x1] := by
  match zs, h with
  | [a, b], _ => exact ⟨a, b, rfl⟩
theorem len3 (h : zs.length = 3) : ∃ x0 x1 x2, zs = [x0, x1, x2] := by
  match zs, h with
  | [a, b, c], _ => exact ⟨a, b, c, rfl⟩
theorem len5 (h : zs.length = 5) : ∃ x0 x1 x2 x3 x4, zs = [x0, x1, x2, x3, x4] := by
  match zs, h with
  | [a, b, c, d, e], _ => exact ⟨a, b, c, d, e, rfl⟩
theorem kps_addr (h : BrIn base g V p a) {i : Nat} {y : Kp} (hy : p.kps[i]? = some y) : ∃ b, a.B = some ⟨b, 0, none⟩ := by
  have hi := (List.getElem?_eq_some_iff.1 hy).1
  rcases h.own.kps.2 with ⟨_, h2⟩ | ⟨b, cap, cur, h1, _⟩
  · omega
  · injection h1 with h1 _ _
    exact ⟨b, h1⟩

set_option maxHeartbeats 1000000 in
theorem deed1 (E : DEnv base g B V p a x) (hmay : mayB 1 zs = true) : DeedOk p base g 1 zs x (.slice A n c) V := by
  have hap : applyB p ((1 : Nat) : Int) zs = bootB p := by rw [apply_fit hmay (by decide)]; rfl
  refine ⟨71, 72, #[pB x.b1], #[pB x.b1], decide (p.ep < 1099511627776), rfl, enters_of Tryz.func71 (by kernel_rfl) rfl, enters_of Tryz.func72 (by kernel_rfl) rfl, fBoot p a base g x.b1 A n c V E.h E.d.e1, fun e => ?_, fun e W' hb => ?_⟩
  · rw [hap]; unfold bootB brMax; rw [if_neg (by simpa using e)]
  · rw [hap]; unfold bootB brMax; rw [if_pos (by simpa using e)]
    exact dBoot p a base g x.b1 A n c W' (E.h.under hb) (E.d.e1.under hb) E.gd.ep (by simpa using e)

set_option maxHeartbeats 1000000 in
theorem deed2 (E : DEnv base g B V p a x) (hr : Rd V B A n (iv zs)) (hc : n ≤ c) (hm : c ≤ maxLen) (hmay : mayB 2 zs = true) : DeedOk p base g 2 zs x (.slice A n c) V := by
  have hap : applyB p ((2 : Nat) : Int) zs = confB p zs := apply_conf hmay
  have hl : zs.length = n := by have := hr.1; rwa [iv_length] at this
  have hn : n ≤ 1000 := by
    have h1 := (mayB_yes hmay).2.1
    have h2 := hi_le 2
    omega
  refine ⟨73, 74, #[], #[pB x.b1], isRow zs, rfl, enters_of Tryz.func73 (by kernel_rfl) rfl, enters_of Tryz.func74 (by kernel_rfl) rfl, isGroup_any A n c zs B V hr E.hB hc hm hn E.t, fun e => ?_, fun e W' hb => ?_⟩
  · rw [hap]; unfold confB; rw [if_neg (by simp [e])]
  · rw [hap]
    exact dConf p a base g x.b1 A n c zs B W' (E.h.under hb) (E.d.e1.under hb) (hr.below (hb.mono E.hB)) (Nat.le_trans E.hB hb.size) hc hm hn (E.t.under hb) e

set_option maxHeartbeats 1000000 in
theorem deed3 (E : DEnv base g B V p a x) (hr : Rd V B A n (iv zs)) (hmay : mayB 3 zs = true) : DeedOk p base g 3 zs x (.slice A n c) V := by
  have hl_ : zs.length = 3 := by
    have h1 := len_of hmay (by decide)
    have e : manyB ((3 : Nat) : Int) = 3 := by decide
    omega
  obtain ⟨x0, x1, x2, rfl⟩ := len3 hl_
  clear hl_
  obtain ⟨rb, ro, rfl, hrb, hn, hcell⟩ := rd_at hr (by simp)
  simp only [List.length_cons, List.length_nil] at hn
  subst hn
  have hx0 := hcell 0 x0 rfl
  have hx1 := hcell 1 x1 rfl
  have hx2 := hcell 2 x2 rfl
  simp only [Nat.add_zero] at hx0
  have hrV : rb < V.heap.size := Nat.lt_of_lt_of_le hrb E.hB
  have hap : applyB p ((3 : Nat) : Int) [x0, x1, x2] = intentB p x0 x1 x2 := by rw [apply_fit hmay (by decide)]; rfl
  have hi : intF p x0 x1 x2 = true ↔ (p.set = true ∧ 1 ≤ x0 ∧ x1 < 4 ∧ x2 < 2 ∧ p.sq < brMax) := by simp [intF, brMax]
  refine ⟨76, 77, #[pB x.b1], #[pB x.b1], intF p x0 x1 x2, rfl, enters_of Tryz.func76 (by kernel_rfl) rfl, enters_of Tryz.func77 (by kernel_rfl) rfl, fIntent_any p a base g x.b1 rb ro c x0 x1 x2 V E.h E.d.e1 hx0 hx1 hx2, fun e => ?_, fun e W' hb => ?_⟩
  · rw [hap]; unfold intentB; rw [if_neg (fun h => by rw [hi.2 h] at e; cases e)]
  · rw [hap]; unfold intentB; rw [if_pos (hi.1 e)]
    have hh := dIntent p a base g x.b1 rb ro c x0 x1 x2 W' (E.h.under hb) (E.d.e1.under hb) (Nat.lt_of_lt_of_le hrV hb.size) ((hb.cell (p := ⟨rb, ro, none⟩) hrV).trans hx0) ((hb.cell (p := ⟨rb, ro + 1, none⟩) hrV).trans hx1) ((hb.cell (p := ⟨rb, ro + 2, none⟩) hrV).trans hx2) E.gd.sq (hi.1 e).2.2.2.2 (by have := E.li; omega)
    rw [beq_dec] at hh
    exact hh

set_option maxHeartbeats 1000000 in
theorem deed4 (E : DEnv base g B V p a x) (hr : Rd V B A n (iv zs)) (hmay : mayB 4 zs = true) : DeedOk p base g 4 zs x (.slice A n c) V := by
  have hl_ : zs.length = 3 := by
    have h1 := len_of hmay (by decide)
    have e : manyB ((4 : Nat) : Int) = 3 := by decide
    omega
  obtain ⟨x0, x1, x2, rfl⟩ := len3 hl_
  clear hl_
  obtain ⟨rb, ro, rfl, hrb, hn, hcell⟩ := rd_at hr (by simp)
  simp only [List.length_cons, List.length_nil] at hn
  subst hn
  have hx0 := hcell 0 x0 rfl
  have hx1 := hcell 1 x1 rfl
  have hx2 := hcell 2 x2 rfl
  simp only [Nat.add_zero] at hx0
  have hrV : rb < V.heap.size := Nat.lt_of_lt_of_le hrb E.hB
  have hap : applyB p ((4 : Nat) : Int) [x0, x1, x2] = madeB p x0 x1 x2 := by rw [apply_fit hmay (by decide)]; rfl
  rcases meant_idx p x0 with ⟨h1, h2, h3⟩ | ⟨i, y, h1, h2, h3, h4⟩
  · refine ⟨82, 83, #[pB x.b2, pB x.b4], #[pB x.b2], false, rfl, enters_of Tryz.func82 (by kernel_rfl) rfl, enters_of Tryz.func83 (by kernel_rfl) rfl, fMade_false p a base g x.b2 x.b4 rb ro c x0 x1 V E.h E.d.k.1 E.d.k.2.2.1 hrV hx0 hx1 (by have := E.li; omega) (by rw [h3]; rfl), fun _ => ?_, fun e => (by cases e)⟩
    rw [hap]; simp only [madeB, h2]
  · refine ⟨82, 83, #[pB x.b2, pB x.b4], #[pB x.b2], decide (1 ≤ x1) && decide (findB p x1 < 0), rfl, enters_of Tryz.func82 (by kernel_rfl) rfl, enters_of Tryz.func83 (by kernel_rfl) rfl, fMade_true p a base g x.b2 x.b4 rb ro c x0 x1 V E.h E.d.k.1 E.d.k.2.2.1 hrV hx0 hx1 (by have := E.lk; omega) (by have := E.li; omega) (by rw [h4]; simp), fun e => ?_, fun e W' hb => ?_⟩
    · rw [hap]; simp only [madeB, h3]
      rw [if_neg]
      rintro ⟨g1, g2⟩
      rw [decide_eq_true g1, (fresh_iff p x1).2 g2] at e
      cases e
    · simp only [Bool.and_eq_true] at e
      rw [hap]; simp only [madeB, h3]
      rw [if_pos ⟨of_decide_eq_true e.1, (fresh_iff p x1).1 e.2⟩, (meant_some h3).2]
      exact dMade p a base g x.b2 rb ro c x0 x1 x2 i y W' (E.h.under hb) (E.d.k.1.under hb) (Nat.lt_of_lt_of_le hrV hb.size) ((hb.cell (p := ⟨rb, ro, none⟩) hrV).trans hx0) ((hb.cell (p := ⟨rb, ro + 1, none⟩) hrV).trans hx1) ((hb.cell (p := ⟨rb, ro + 2, none⟩) hrV).trans hx2) h1 h2 (by have := E.li; omega) (by have := E.lk; omega)

set_option maxHeartbeats 1000000 in
theorem deed5 (E : DEnv base g B V p a x) (hr : Rd V B A n (iv zs)) (hmay : mayB 5 zs = true) : DeedOk p base g 5 zs x (.slice A n c) V := by
  have hl_ : zs.length = 1 := by
    have h1 := len_of hmay (by decide)
    have e : manyB ((5 : Nat) : Int) = 1 := by decide
    omega
  obtain ⟨x0, rfl⟩ := len1 hl_
  clear hl_
  obtain ⟨rb, ro, rfl, hrb, hn, hcell⟩ := rd_at hr (by simp)
  simp only [List.length_cons, List.length_nil] at hn
  subst hn
  have hx0 := hcell 0 x0 rfl
  simp only [Nat.add_zero] at hx0
  have hrV : rb < V.heap.size := Nat.lt_of_lt_of_le hrb E.hB
  have hap : applyB p ((5 : Nat) : Int) [x0] = if p.rf.st = 1 then refB p ((5 : Nat) : Int) x0 else p := by rw [apply_fit hmay (by decide)]; rfl
  refine ⟨99, 100, #[pB x.b7], #[pB x.b7, pB x.b6], p.rf.st == 1, rfl, enters_of Tryz.func99 (by kernel_rfl) rfl, enters_of Tryz.func100 (by kernel_rfl) rfl, active_any p a base g x.b7 (some ⟨rb, ro, none⟩) 1 c V E.h E.d.r.2.1, fun e => ?_, fun e W' hb => ?_⟩
  · rw [hap, if_neg (by simpa using e)]
  · rw [hap, if_pos (by simpa using e)]
    exact dFail p a base g x.b7 x.b6 (some ⟨rb, ro, none⟩) 1 c W' (E.h.under hb) (E.d.r.2.1.under hb) (E.d.r.1.under hb)

set_option maxHeartbeats 1000000 in
theorem deed6 (E : DEnv base g B V p a x) (hr : Rd V B A n (iv zs)) (hmay : mayB 6 zs = true) : DeedOk p base g 6 zs x (.slice A n c) V := by
  have hl_ : zs.length = 3 := by
    have h1 := len_of hmay (by decide)
    have e : manyB ((6 : Nat) : Int) = 3 := by decide
    omega
  obtain ⟨x0, x1, x2, rfl⟩ := len3 hl_
  clear hl_
  obtain ⟨rb, ro, rfl, hrb, hn, hcell⟩ := rd_at hr (by simp)
  simp only [List.length_cons, List.length_nil] at hn
  subst hn
  have hx0 := hcell 0 x0 rfl
  have hx1 := hcell 1 x1 rfl
  have hx2 := hcell 2 x2 rfl
  simp only [Nat.add_zero] at hx0
  have hrV : rb < V.heap.size := Nat.lt_of_lt_of_le hrb E.hB
  have hap : applyB p ((6 : Nat) : Int) [x0, x1, x2] = phaseB p x0 x1 x2 := by rw [apply_fit hmay (by decide)]; rfl
  rcases kept_idx p x0 with ⟨h1, h2, h3⟩ | ⟨i, y, h1, h2, h3, h4⟩
  · refine ⟨85, 87, #[pB x.b3, pB x.b5], #[pB x.b5], false, rfl, enters_of Tryz.func85 (by kernel_rfl) rfl, enters_of Tryz.func87 (by kernel_rfl) rfl, fPhase_false p a base g x.b3 x.b5 x.b2 rb ro c x0 x1 V E.h E.d.k.2.1 E.d.k.2.2.2 E.d.k.1 hrV hx0 hx1 (by have := E.lk; omega) (by rw [h3]; rfl), fun _ => ?_, fun e => (by cases e)⟩
    rw [hap]; simp only [phaseB, h2]
  · obtain ⟨b, hB⟩ := kps_addr E.h h2
    refine ⟨85, 87, #[pB x.b3, pB x.b5], #[pB x.b5], chgB y.phase x1, rfl, enters_of Tryz.func85 (by kernel_rfl) rfl, enters_of Tryz.func87 (by kernel_rfl) rfl, fPhase_true p a base g x.b3 x.b5 x.b2 rb ro c x0 x1 b i y V E.h E.d.k.2.1 E.d.k.2.2.2 E.d.k.1 hrV hx0 hx1 (by have := E.lk; omega) h1 h2 hB (E.gd.ph y (List.mem_of_getElem? h2)) E.th, fun e => ?_, fun e W' hb => ?_⟩
    · rw [hap]; simp only [phaseB, h3]
      rw [if_neg]
      rintro ⟨g1, g2⟩
      simp [chgB, g1, g2] at e
    · simp only [chgB, Bool.and_eq_true, decide_eq_true_eq] at e
      rw [hap]; simp only [phaseB, h3]
      rw [if_pos e, setK_set h1 h2]
      have hl := legal_bd e.2
      exact dPhase p a base g x.b5 x.b2 rb ro c x0 x1 x2 b i y W' (E.h.under hb) (E.d.k.2.2.2.under hb) (E.d.k.1.under hb) (Nat.lt_of_lt_of_le hrV hb.size) ((hb.cell (p := ⟨rb, ro, none⟩) hrV).trans hx0) ((hb.cell (p := ⟨rb, ro + 1, none⟩) hrV).trans hx1) ((hb.cell (p := ⟨rb, ro + 2, none⟩) hrV).trans hx2) (by have := E.lk; omega) h1 h2 hB (by omega) (by omega)

set_option maxHeartbeats 1000000 in
theorem deed7 (E : DEnv base g B V p a x) (hr : Rd V B A n (iv zs)) (hmay : mayB 7 zs = true) : DeedOk p base g 7 zs x (.slice A n c) V := by
  have hl_ : zs.length = 1 := by
    have h1 := len_of hmay (by decide)
    have e : manyB ((7 : Nat) : Int) = 1 := by decide
    omega
  obtain ⟨x0, rfl⟩ := len1 hl_
  clear hl_
  obtain ⟨rb, ro, rfl, hrb, hn, hcell⟩ := rd_at hr (by simp)
  simp only [List.length_cons, List.length_nil] at hn
  subst hn
  have hx0 := hcell 0 x0 rfl
  simp only [Nat.add_zero] at hx0
  have hrV : rb < V.heap.size := Nat.lt_of_lt_of_le hrb E.hB
  have hap : applyB p ((7 : Nat) : Int) [x0] = goneB_ p x0 := by rw [apply_fit hmay (by decide)]; rfl
  refine ⟨79, 89, #[pB x.b2], #[pB x.b2], decide (0 ≤ findB p x0), rfl, enters_of Tryz.func79 (by kernel_rfl) rfl, enters_of Tryz.func89 (by kernel_rfl) rfl, kept_any p a base g x.b2 rb ro c x0 1 (by omega) V E.h E.d.k.1 hrV hx0 (by have := E.lk; omega), fun e => ?_, fun e W' hb => ?_⟩
  · rcases kept_idx p x0 with ⟨h1, h2, h3⟩ | ⟨i, y, h1, h2, h3, h4⟩
    · rw [hap]; unfold goneB_; rw [if_pos h2]
    · rw [h4] at e; simp at e
  · rcases kept_idx p x0 with ⟨h1, h2, h3⟩ | ⟨i, y, h1, h2, h3, h4⟩
    · rw [h3] at e; simp at e
    · rw [hap]; unfold goneB_; rw [if_neg (by rw [h3]; simp)]
      exact dGone p a base g x.b2 rb ro c x0 i W' (E.h.under hb) (E.d.k.1.under hb) (Nat.lt_of_lt_of_le hrV hb.size) ((hb.cell (p := ⟨rb, ro, none⟩) hrV).trans hx0) h1 (by have := E.lk; omega)

set_option maxHeartbeats 1000000 in
theorem deed8 (E : DEnv base g B V p a x) (hr : Rd V B A n (iv zs)) (hmay : mayB 8 zs = true) : DeedOk p base g 8 zs x (.slice A n c) V := by
  have hl_ : zs.length = 5 := by
    have h1 := len_of hmay (by decide)
    have e : manyB ((8 : Nat) : Int) = 5 := by decide
    omega
  obtain ⟨x0, x1, x2, x3, x4, rfl⟩ := len5 hl_
  clear hl_
  obtain ⟨rb, ro, rfl, hrb, hn, hcell⟩ := rd_at hr (by simp)
  simp only [List.length_cons, List.length_nil] at hn
  subst hn
  have hx0 := hcell 0 x0 rfl
  have hx1 := hcell 1 x1 rfl
  have hx2 := hcell 2 x2 rfl
  have hx3 := hcell 3 x3 rfl
  have hx4 := hcell 4 x4 rfl
  simp only [Nat.add_zero] at hx0
  have hrV : rb < V.heap.size := Nat.lt_of_lt_of_le hrb E.hB
  have hap : applyB p ((8 : Nat) : Int) [x0, x1, x2, x3, x4] = takeB p x0 x1 x2 x3 x4 := by rw [apply_fit hmay (by decide)]; rfl
  refine ⟨91, 92, #[pB x.b4], #[pB x.b2], decide (1 ≤ x0) && decide (findB p x0 < 0), rfl, enters_of Tryz.func91 (by kernel_rfl) rfl, enters_of Tryz.func92 (by kernel_rfl) rfl, fTake p a base g x.b4 x.b2 rb ro c x0 V E.h E.d.k.2.2.1 E.d.k.1 hrV hx0 (by have := E.lk; omega), fun e => ?_, fun e W' hb => ?_⟩
  · rw [hap]; unfold takeB
    rw [if_neg]
    rintro ⟨g1, g2⟩
    rw [decide_eq_true g1, (fresh_iff p x0).2 g2] at e
    cases e
  · simp only [Bool.and_eq_true] at e
    rw [hap]; unfold takeB
    rw [if_pos ⟨of_decide_eq_true e.1, (fresh_iff p x0).1 e.2⟩]
    exact dTake p a base g x.b2 rb ro c x0 x1 x2 x3 x4 W' (E.h.under hb) (E.d.k.1.under hb) (Nat.lt_of_lt_of_le hrV hb.size) ((hb.cell (p := ⟨rb, ro, none⟩) hrV).trans hx0) ((hb.cell (p := ⟨rb, ro + 1, none⟩) hrV).trans hx1) ((hb.cell (p := ⟨rb, ro + 2, none⟩) hrV).trans hx2) ((hb.cell (p := ⟨rb, ro + 3, none⟩) hrV).trans hx3) ((hb.cell (p := ⟨rb, ro + 4, none⟩) hrV).trans hx4) (by have := E.lk; omega)

set_option maxHeartbeats 1000000 in
theorem deed9 (E : DEnv base g B V p a x) (hr : Rd V B A n (iv zs)) (hmay : mayB 9 zs = true) : DeedOk p base g 9 zs x (.slice A n c) V := by
  have hl_ : zs.length = 2 := by
    have h1 := len_of hmay (by decide)
    have e : manyB ((9 : Nat) : Int) = 2 := by decide
    omega
  obtain ⟨x0, x1, rfl⟩ := len2 hl_
  clear hl_
  obtain ⟨rb, ro, rfl, hrb, hn, hcell⟩ := rd_at hr (by simp)
  simp only [List.length_cons, List.length_nil] at hn
  subst hn
  have hx0 := hcell 0 x0 rfl
  have hx1 := hcell 1 x1 rfl
  simp only [Nat.add_zero] at hx0
  have hrV : rb < V.heap.size := Nat.lt_of_lt_of_le hrb E.hB
  have hap : applyB p ((9 : Nat) : Int) [x0, x1] = guardB p x0 x1 := by rw [apply_fit hmay (by decide)]; rfl
  rcases kept_idx p x0 with ⟨h1, h2, h3⟩ | ⟨i, y, h1, h2, h3, h4⟩
  · refine ⟨94, 95, #[pB x.b3], #[pB x.b5], false, rfl, enters_of Tryz.func94 (by kernel_rfl) rfl, enters_of Tryz.func95 (by kernel_rfl) rfl, fGuard_false p a base g x.b3 x.b2 rb ro c x0 x1 V E.h E.d.k.2.1 E.d.k.1 hrV hx0 hx1 (by have := E.lk; omega) (by rw [h3]; rfl), fun _ => ?_, fun e => (by cases e)⟩
    rw [hap]; unfold guardB; rw [if_pos h2]
  · obtain ⟨b, hB⟩ := kps_addr E.h h2
    refine ⟨94, 95, #[pB x.b3], #[pB x.b5], decide (x1 < 2), rfl, enters_of Tryz.func94 (by kernel_rfl) rfl, enters_of Tryz.func95 (by kernel_rfl) rfl, fGuard_true p a base g x.b3 x.b2 rb ro c x0 x1 V E.h E.d.k.2.1 E.d.k.1 hrV hx0 hx1 (by have := E.lk; omega) (by rw [h4]; simp), fun e => ?_, fun e W' hb => ?_⟩
    · rw [hap]; unfold guardB; rw [if_neg (by rw [h3]; simp), if_neg (by simpa using e)]
    · rw [hap]; unfold guardB; rw [if_neg (by rw [h3]; simp), if_pos (by simpa using e), setK_set h1 h2]
      have hh := dGuard p a base g x.b5 x.b2 rb ro c x0 x1 b i y W' (E.h.under hb) (E.d.k.2.2.2.under hb) (E.d.k.1.under hb) (Nat.lt_of_lt_of_le hrV hb.size) ((hb.cell (p := ⟨rb, ro, none⟩) hrV).trans hx0) ((hb.cell (p := ⟨rb, ro + 1, none⟩) hrV).trans hx1) (by have := E.lk; omega) h1 h2 hB
      rw [beq_dec] at hh
      exact hh

set_option maxHeartbeats 1000000 in
theorem deed10 (E : DEnv base g B V p a x) (hr : Rd V B A n (iv zs)) (hmay : mayB 10 zs = true) : DeedOk p base g 10 zs x (.slice A n c) V := by
  have hl_ : zs.length = 1 := by
    have h1 := len_of hmay (by decide)
    have e : manyB ((10 : Nat) : Int) = 1 := by decide
    omega
  obtain ⟨x0, rfl⟩ := len1 hl_
  clear hl_
  obtain ⟨rb, ro, rfl, hrb, hn, hcell⟩ := rd_at hr (by simp)
  simp only [List.length_cons, List.length_nil] at hn
  subst hn
  have hx0 := hcell 0 x0 rfl
  simp only [Nat.add_zero] at hx0
  have hrV : rb < V.heap.size := Nat.lt_of_lt_of_le hrb E.hB
  have hap : applyB p ((10 : Nat) : Int) [x0] = doneB p x0 := by rw [apply_fit hmay (by decide)]; rfl
  rcases kept_idx p x0 with ⟨h1, h2, h3⟩ | ⟨i, y, h1, h2, h3, h4⟩
  · refine ⟨96, 98, #[pB x.b3, pB x.b5], #[pB x.b5], false, rfl, enters_of Tryz.func96 (by kernel_rfl) rfl, enters_of Tryz.func98 (by kernel_rfl) rfl, fDone_false p a base g x.b3 x.b5 x.b2 rb ro c x0 V E.h E.d.k.2.1 E.d.k.2.2.2 E.d.k.1 hrV hx0 (by have := E.lk; omega) (by rw [h3]; rfl), fun _ => ?_, fun e => (by cases e)⟩
    rw [hap]; simp only [doneB, h2]
  · obtain ⟨b, hB⟩ := kps_addr E.h h2
    refine ⟨96, 98, #[pB x.b3, pB x.b5], #[pB x.b5], decide (y.phase = 1) || decide (y.phase = 7), rfl, enters_of Tryz.func96 (by kernel_rfl) rfl, enters_of Tryz.func98 (by kernel_rfl) rfl, fDone_true p a base g x.b3 x.b5 x.b2 rb ro c x0 b i y V E.h E.d.k.2.1 E.d.k.2.2.2 E.d.k.1 hrV hx0 (by have := E.lk; omega) h1 h2 hB, fun e => ?_, fun e W' hb => ?_⟩
    · rw [hap]; simp only [doneB, h3]
      rw [if_neg]
      rintro (g1 | g1) <;> simp [g1] at e
    · simp only [Bool.or_eq_true, decide_eq_true_eq] at e
      rw [hap]; simp only [doneB, h3]
      rw [if_pos e, setK_set h1 h2]
      exact dDone p a base g x.b5 x.b2 rb ro c x0 b i y W' (E.h.under hb) (E.d.k.2.2.2.under hb) (E.d.k.1.under hb) (Nat.lt_of_lt_of_le hrV hb.size) ((hb.cell (p := ⟨rb, ro, none⟩) hrV).trans hx0) (by have := E.lk; omega) h1 h2 hB

set_option maxHeartbeats 1000000 in
theorem deed11 (E : DEnv base g B V p a x) (hr : Rd V B A n (iv zs)) (hmay : mayB 11 zs = true) : DeedOk p base g 11 zs x (.slice A n c) V := by
  have hl_ : zs.length = 2 := by
    have h1 := len_of hmay (by decide)
    have e : manyB ((11 : Nat) : Int) = 2 := by decide
    omega
  obtain ⟨x0, x1, rfl⟩ := len2 hl_
  clear hl_
  obtain ⟨rb, ro, rfl, hrb, hn, hcell⟩ := rd_at hr (by simp)
  simp only [List.length_cons, List.length_nil] at hn
  subst hn
  have hx0 := hcell 0 x0 rfl
  have hx1 := hcell 1 x1 rfl
  simp only [Nat.add_zero] at hx0
  have hrV : rb < V.heap.size := Nat.lt_of_lt_of_le hrb E.hB
  have hap : applyB p ((11 : Nat) : Int) [x0, x1] = startB p x0 x1 := by rw [apply_fit hmay (by decide)]; rfl
  have hi : startF p x0 = true ↔ (p.set = true ∧ ¬ p.rf.st = 1 ∧ 1 ≤ x0) := by simp [startF]
  refine ⟨102, 103, #[pB x.b6, pB x.b8], #[pB x.b6, pB x.b7], startF p x0, rfl, enters_of Tryz.func102 (by kernel_rfl) rfl, enters_of Tryz.func103 (by kernel_rfl) rfl, fStart_any p a base g x.b6 x.b8 x.b7 rb ro c x0 V E.h E.d.r.1 E.d.r.2.2 E.d.r.2.1 hrV hx0, fun e => ?_, fun e W' hb => ?_⟩
  · rw [hap]; unfold startB; rw [if_neg (fun h => by rw [hi.2 h] at e; cases e)]
  · rw [hap]; unfold startB; rw [if_pos (hi.1 e)]
    exact dStart p a base g x.b6 x.b7 rb ro c x0 x1 W' (E.h.under hb) (E.d.r.1.under hb) (E.d.r.2.1.under hb) (Nat.lt_of_lt_of_le hrV hb.size) ((hb.cell (p := ⟨rb, ro, none⟩) hrV).trans hx0) ((hb.cell (p := ⟨rb, ro + 1, none⟩) hrV).trans hx1)

set_option maxHeartbeats 1000000 in
theorem deed12 (E : DEnv base g B V p a x) (hmay : mayB 12 zs = true) : DeedOk p base g 12 zs x (.slice A n c) V := by
  have hap : applyB p ((12 : Nat) : Int) zs = if p.rf.st = 1 then refB p ((12 : Nat) : Int) (zs.getD 0 0) else p := by rw [apply_fit hmay (by decide)]; rfl
  refine ⟨99, 104, #[pB x.b7], #[pB x.b7], p.rf.st == 1, rfl, enters_of Tryz.func99 (by kernel_rfl) rfl, enters_of Tryz.func104 (by kernel_rfl) rfl, active_any p a base g x.b7 A n c V E.h E.d.r.2.1, fun e => ?_, fun e W' hb => ?_⟩
  · rw [hap, if_neg (by simpa using e)]
  · rw [hap, if_pos (by simpa using e)]
    exact dCancel p a base g x.b7 A n c W' (E.h.under hb) (E.d.r.2.1.under hb)

set_option maxHeartbeats 1000000 in
theorem deed13 (E : DEnv base g B V p a x) (hmay : mayB 13 zs = true) : DeedOk p base g 13 zs x (.slice A n c) V := by
  have hap : applyB p ((13 : Nat) : Int) zs = if p.rf.st = 1 then refB p ((13 : Nat) : Int) (zs.getD 0 0) else p := by rw [apply_fit hmay (by decide)]; rfl
  refine ⟨99, 106, #[pB x.b7], #[pB x.b7], p.rf.st == 1, rfl, enters_of Tryz.func99 (by kernel_rfl) rfl, enters_of Tryz.func106 (by kernel_rfl) rfl, active_any p a base g x.b7 A n c V E.h E.d.r.2.1, fun e => ?_, fun e W' hb => ?_⟩
  · rw [hap, if_neg (by simpa using e)]
  · rw [hap, if_pos (by simpa using e)]
    exact dRoll p a base g x.b7 A n c W' (E.h.under hb) (E.d.r.2.1.under hb)

set_option maxHeartbeats 1000000 in
theorem deed14 (E : DEnv base g B V p a x) (hr : Rd V B A n (iv zs)) (hmay : mayB 14 zs = true) : DeedOk p base g 14 zs x (.slice A n c) V := by
  have hl_ : zs.length = 1 := by
    have h1 := len_of hmay (by decide)
    have e : manyB ((14 : Nat) : Int) = 1 := by decide
    omega
  obtain ⟨x0, rfl⟩ := len1 hl_
  clear hl_
  obtain ⟨rb, ro, rfl, hrb, hn, hcell⟩ := rd_at hr (by simp)
  simp only [List.length_cons, List.length_nil] at hn
  subst hn
  have hx0 := hcell 0 x0 rfl
  simp only [Nat.add_zero] at hx0
  have hrV : rb < V.heap.size := Nat.lt_of_lt_of_le hrb E.hB
  have hap : applyB p ((14 : Nat) : Int) [x0] = if p.rf.st = 1 then refB p ((14 : Nat) : Int) x0 else p := by rw [apply_fit hmay (by decide)]; rfl
  cases q0 : (p.rf.st == 1) with
  | false =>
    refine ⟨107, 108, #[pB x.b8, pB x.b7], #[pB x.b7], false, rfl, enters_of Tryz.func107 (by kernel_rfl) rfl, enters_of Tryz.func108 (by kernel_rfl) rfl, fPause_false p a base g x.b8 x.b7 (some ⟨rb, ro, none⟩) 1 c V E.h E.d.r.2.2 E.d.r.2.1 q0, fun _ => ?_, fun e => (by cases e)⟩
    rw [hap, if_neg (by simpa using q0)]
  | true =>
    refine ⟨107, 108, #[pB x.b8, pB x.b7], #[pB x.b7], !p.rf.paused, rfl, enters_of Tryz.func107 (by kernel_rfl) rfl, enters_of Tryz.func108 (by kernel_rfl) rfl, fPause_true p a base g x.b8 x.b7 (some ⟨rb, ro, none⟩) 1 c V E.h E.d.r.2.2 E.d.r.2.1 q0, fun e => ?_, fun e W' hb => ?_⟩
    · rw [hap, if_pos (by simpa using q0)]
      have h1 : p.rf.paused = true := by simpa using e
      have h2 : refB p ((14 : Nat) : Int) x0 = { p with rf := pauseR p.rf x0 } := rfl
      rw [h2]
      simp [pauseR, h1]
    · rw [hap, if_pos (by simpa using q0)]
      have h1 : p.rf.paused = false := by simpa using e
      have h2 : refB p ((14 : Nat) : Int) x0 = { p with rf := pauseR p.rf x0 } := rfl
      rw [h2]
      unfold pauseR
      rw [if_neg (by rw [h1]; simp)]
      exact dPause p a base g x.b7 rb ro c x0 W' (E.h.under hb) (E.d.r.2.1.under hb) (Nat.lt_of_lt_of_le hrb E.bB) ((hb.cell (p := ⟨rb, ro, none⟩) hrV).trans hx0)

set_option maxHeartbeats 1000000 in
theorem deed15 (E : DEnv base g B V p a x) (hmay : mayB 15 zs = true) : DeedOk p base g 15 zs x (.slice A n c) V := by
  have hap : applyB p ((15 : Nat) : Int) zs = if p.rf.st = 1 then refB p ((15 : Nat) : Int) (zs.getD 0 0) else p := by rw [apply_fit hmay (by decide)]; rfl
  cases q0 : (p.rf.st == 1) with
  | false =>
    refine ⟨109, 110, #[pB x.b8, pB x.b7], #[pB x.b7], false, rfl, enters_of Tryz.func109 (by kernel_rfl) rfl, enters_of Tryz.func110 (by kernel_rfl) rfl, fGo_false p a base g x.b8 x.b7 A n c V E.h E.d.r.2.2 E.d.r.2.1 q0, fun _ => ?_, fun e => (by cases e)⟩
    rw [hap, if_neg (by simpa using q0)]
  | true =>
    refine ⟨109, 110, #[pB x.b8, pB x.b7], #[pB x.b7], p.rf.paused, rfl, enters_of Tryz.func109 (by kernel_rfl) rfl, enters_of Tryz.func110 (by kernel_rfl) rfl, fGo_true p a base g x.b8 x.b7 A n c V E.h E.d.r.2.2 E.d.r.2.1 q0, fun e => ?_, fun e W' hb => ?_⟩
    · rw [hap, if_pos (by simpa using q0)]
      have h1 : p.rf.paused = false := by simpa using e
      have h2 : refB p ((15 : Nat) : Int) (zs.getD 0 0) = { p with rf := goR p.rf } := rfl
      rw [h2]
      simp [goR, h1]
    · rw [hap, if_pos (by simpa using q0)]
      have h1 : p.rf.paused = true := by simpa using e
      have h2 : refB p ((15 : Nat) : Int) (zs.getD 0 0) = { p with rf := goR p.rf } := rfl
      rw [h2]
      unfold goR
      rw [if_pos h1]
      exact dGo p a base g x.b7 A n c W' (E.h.under hb) (E.d.r.2.1.under hb)

set_option maxHeartbeats 1000000 in
theorem deed16 (E : DEnv base g B V p a x) (hmay : mayB 16 zs = true) : DeedOk p base g 16 zs x (.slice A n c) V := by
  have hap : applyB p ((16 : Nat) : Int) zs = if p.rf.st = 1 then refB p ((16 : Nat) : Int) (zs.getD 0 0) else p := by rw [apply_fit hmay (by decide)]; rfl
  refine ⟨99, 111, #[pB x.b7], #[pB x.b7, pB x.b6], p.rf.st == 1, rfl, enters_of Tryz.func99 (by kernel_rfl) rfl, enters_of Tryz.func111 (by kernel_rfl) rfl, active_any p a base g x.b7 A n c V E.h E.d.r.2.1, fun e => ?_, fun e W' hb => ?_⟩
  · rw [hap, if_neg (by simpa using e)]
  · rw [hap, if_pos (by simpa using e)]
    exact dOver p a base g x.b7 x.b6 A n c W' (E.h.under hb) (E.d.r.2.1.under hb) (E.d.r.1.under hb)

theorem deed_any {k : Nat} (E : DEnv base g B V p a x) (hr : Rd V B A n (iv zs)) (hc : n ≤ c) (hm : c ≤ maxLen) (hmay : mayB k zs = true) : DeedOk p base g k zs x (.slice A n c) V := by
  obtain ⟨h0, h17⟩ := mayB_kind hmay
  rcases kind_cases h17 with rfl | rfl | rfl | rfl | rfl | rfl | rfl | rfl | rfl | rfl | rfl | rfl | rfl | rfl | rfl | rfl | rfl
  · omega
  · exact deed1 E hmay
  · exact deed2 E hr hc hm hmay
  · exact deed3 E hr hmay
  · exact deed4 E hr hmay
  · exact deed5 E hr hmay
  · exact deed6 E hr hmay
  · exact deed7 E hr hmay
  · exact deed8 E hr hmay
  · exact deed9 E hr hmay
  · exact deed10 E hr hmay
  · exact deed11 E hr hmay
  · exact deed12 E hmay
  · exact deed13 E hmay
  · exact deed14 E hr hmay
  · exact deed15 E hmay
  · exact deed16 E hmay

end
end Go.Proofs.YtdaimejlcfhfiaaGreatDoor

namespace Go.Proofs.YtdaimejlcfhfiaaGreatDoor
open Go.RowKit Go.Shelf

def AddInv (base j : Nat) (ys : List Value) (w : World) (v : Value) (w' : World) : Prop :=
  w'.ownsRow base 5 1 v j ys ∧ Below base w w' ∧ KeepsOthers w w' ∧ base ≤ w'.heap.size
end Go.Proofs.YtdaimejlcfhfiaaGreatDoor

namespace Go.Proofs.YtdaimejlcfhfiaaGreatDoor
open Go.RowKit Go.Shelf

/-- What holds of the numbers at each digit. -/
structure FirstInv (bs : List Nat) (n N k P : Nat) : Prop where
  le : k ≤ n
  five : k ≤ 5
  pow : P = 128 ^ k
  val : N < P
  same : first bs = scan N k (bs.drop k)

theorem FirstInv.start (bs : List Nat) (n : Nat) : FirstInv bs n 0 0 1 := ⟨by omega, by omega, rfl, by omega, rfl⟩
theorem FirstInv.look {bs : List Nat} {n N k P d : Nat} (h : FirstInv bs n N k P) (hd : bs[k]? = some d) :
    first bs = if 128 ≤ d ∧ k + 1 < 6 then scan (N + d % 128 * P) (k + 1) (bs.drop (k + 1)) else if 128 ≤ d ∨ (d = 0 ∧ 1 < k + 1) ∨ 1099511627776 < N + d % 128 * P then (0, 0, 11) else (N + d % 128 * P, k + 1, 0) := by
  rw [h.same, h.pow]
  have hk : k < bs.length := (List.getElem?_eq_some_iff.1 hd).1
  rw [List.drop_eq_getElem_cons hk]
  have e : bs[k] = d := by rw [List.getElem?_eq_getElem hk] at hd; exact Option.some.inj hd
  rw [e]; rfl
theorem FirstInv.next {bs : List Nat} {n N k P d : Nat} (h : FirstInv bs n N k P) (hl : bs.length = n) (hd : bs[k]? = some d) (h1 : 128 ≤ d) (h2 : k + 1 < 6) :
    FirstInv bs n (N + d % 128 * P) (k + 1) (P * 128) := by
  have hk : k < bs.length := (List.getElem?_eq_some_iff.1 hd).1
  refine ⟨by omega, by omega, by rw [h.pow, Nat.pow_succ], ?_, ?_⟩
  · have h3 := h.val
    have h4 : d % 128 * P ≤ 127 * P := Nat.mul_le_mul (by omega) (Nat.le_refl _)
    omega
  · rw [h.look hd, if_pos ⟨h1, h2⟩]

end Go.Proofs.YtdaimejlcfhfiaaGreatDoor

namespace Go.Proofs.YtdaimejlcfhfiaaGreatDoor
open Go.RowKit Go.Shelf

theorem AddInv.form {base j : Nat} {ys : List Value} {w w' : World} {v : Value} (h : AddInv base j ys w v w') : ∃ A c, v = .slice A j c := by
  rcases h.1.2 with ⟨rfl, rfl⟩ | ⟨g, cap, cur, rfl, _⟩
  · exact ⟨_, _, rfl⟩
  · exact ⟨_, _, rfl⟩

end Go.Proofs.YtdaimejlcfhfiaaGreatDoor

namespace Go.Proofs.YtdaimejlcfhfiaaGreatDoor
open Go.RowKit Go.Shelf

/-- What is behind the number. -/
def behind (bs : List Nat) : List Nat := if (first bs).2.2 = 0 then bs.drop (first bs).2.1 else []

/-- What a callee has made, said of the caller's start. -/
theorem AddInv.after {base base' j : Nat} {ys : List Value} {w w1 w2 : World} {v : Value} (h : AddInv base' j ys w1 v w2) (hb : Below base w w1) (hk : KeepsOthers w w1) (hbb : base ≤ base') : AddInv base j ys w v w2 :=
  ⟨own_weaker h.1 hbb, hb.trans (h.2.1.mono hbb), hk.trans h.2.2.1, by have := h.2.2.2; omega⟩

end Go.Proofs.YtdaimejlcfhfiaaGreatDoor

namespace Go.Proofs.YtdaimejlcfhfiaaGreatDoor
open Go.RowKit Go.Shelf
attribute [local go_sem] Oper.semAt_some

end Go.Proofs.YtdaimejlcfhfiaaGreatDoor

namespace Go.Proofs.YtdaimejlcfhfiaaGreatDoor
open Go.RowKit Go.Shelf
attribute [local go_sem] Oper.semAt_some

end Go.Proofs.YtdaimejlcfhfiaaGreatDoor

namespace Go.Proofs.YtdaimejlcfhfiaaGreatDoor
open Go.RowKit Go.Shelf
attribute [local go_sem] Oper.semAt_some

end Go.Proofs.YtdaimejlcfhfiaaGreatDoor

namespace Go.Proofs.YtdaimejlcfhfiaaGreatDoor
open Go.RowKit Go.Shelf
attribute [local go_sem] Oper.semAt_some

end Go.Proofs.YtdaimejlcfhfiaaGreatDoor

namespace Go.Proofs.YtdaimejlcfhfiaaGreatDoor
open Go.RowKit Go.Shelf

theorem AddInv.rd {base j : Nat} {ys : List Value} {w w' : World} {A : Option Addr} {c : Nat} (h : AddInv base j ys w (.slice A j c) w') : Rd w' w'.heap.size A j ys := Rd.of_own h.1

theorem AddInv.cap {base j : Nat} {ys : List Value} {w w' : World} {A : Option Addr} {c : Nat} (h : AddInv base j ys w (.slice A j c) w') : j ≤ c := by
  rcases h.1.2 with ⟨h1, h2⟩ | ⟨g, cap, cur, h1, _, _, h2, _⟩
  · omega
  · injection h1 with _ _ h3
    omega

end Go.Proofs.YtdaimejlcfhfiaaGreatDoor

namespace Go.Proofs.YtdaimejlcfhfiaaGreatDoor
open Go.RowKit Go.Shelf
attribute [local go_sem] Oper.semAt_some

set_option maxHeartbeats 400000 in
theorem rowOf_any (k : Nat) (A : Option Addr) (n c : Nat) (w : World) :
    Calls Tryz.prog 61 #[.agg #[.int .u8 (k : Int), .slice A n c]] w fun e w' => e = .returned (.func (.func 112) #[] #[.pointer (some ⟨w.heap.size, 0, none⟩)]) ∧ w' = w.alloc (.cells #[.int .u8 (k : Int), .slice A n c] 32) := by
  go_enter Tryz.func61, Tryz.ntmps61
  go_wp2
  go_ret
  exact ⟨rfl, rfl⟩

/-- Where the iterator stands: what has been handed over, what is next. -/
def IterAt (l Bn n₀ : Nat) (A : Option Addr) (n c : Nat) (zs xs : List Int) (J : List Int → World → Prop) (a' : Act) (w' : World) : Prop :=
  ∃ (pre rest : List Int) (x : Int) (u5 u6 u7 u8 u9 u10 u11 u12 u13 u14 u15 u16 u17 u18 u19 u20 u21 u22 u23 u24 u25 : Value), a' = { tmps := #[.func (.yield l) #[] #[], .pointer (some ⟨Bn, 0, none⟩), undef, .int .i64 x, .int .i64 (pre.length : Int), u5, u6, u7, u8, u9, u10, u11, u12, u13, u14, u15, u16, u17, u18, u19, u20, u21, u22, u23, u24, u25], defers := [] } ∧ xs = pre ++ x :: rest ∧ w'.cell? ⟨Bn, 1, none⟩ = some (.slice A n c) ∧ Rd w' n₀ A n (iv zs) ∧ J pre w'

set_option maxHeartbeats 1000000 in
theorem rowOf1_in (m l Bn n₀ : Nat) (k : Nat) (hk : k < 256) (A : Option Addr) (n c : Nat) (zs : List Int) (hn : n ≤ maxLen) (J Jx : List Int → World → Prop)
    (hY : ∀ pre x W, J pre W → pre.length < ((k : Int) :: zs).length → YieldAt Fence.wide (m - 1) Tryz.prog l #[.int .i64 x] W fun e W' =>
      (e = .returned (.bool true) ∧ J (pre ++ [x]) W' ∧ KpB n₀ Bn W W') ∨ (e = .returned (.bool false) ∧ Jx (pre ++ [x]) W'))
    (W : World) (hBn : W.cell? ⟨Bn, 0, none⟩ = some (.int .u8 (k : Int))) (hBn1 : W.cell? ⟨Bn, 1, none⟩ = some (.slice A n c)) (hr : Rd W n₀ A n (iv zs)) (h0 : J [] W) :
    CallsIn Fence.wide m Tryz.prog 112 #[.func (.yield l) #[] #[], .pointer (some ⟨Bn, 0, none⟩)] W fun e W' => (∃ v, e = .returned v) ∧
      ((∃ ys, ys = (k : Int) :: zs ∧ J ys W') ∨ (∃ pre, pre <+: ((k : Int) :: zs) ∧ Jx pre W')) := by
  unfold maxLen at hn
  have HY := Lib.hid hY
  clear hY
  have Hr := Lib.hid hr
  clear hr
  obtain ⟨xs, hxs⟩ : ∃ xs, (k : Int) :: zs = xs := ⟨_, rfl⟩
  have hlen : xs.length = n + 1 := by have := Hr.out.1; rw [iv_length] at this; rw [← hxs]; simp [this]
  rw [hxs] at HY ⊢
  have Hxs := Lib.hid hxs
  clear hxs
  have hk' : (k : Int) < 256 := by omega
  refine callsIn_of_wp Tryz.func112 rfl trivial ?_ rfl
  simp only [Tryz.ntmps112, List.size_toArray, List.length_cons, List.length_nil, Nat.reduceAdd, Nat.reduceSub, Array.replicate_succ, Array.replicate_zero, List.push_toArray, List.append_toArray, List.nil_append, List.cons_append]
  gi_wp2_with fail
  refine wpIn_wide.2 (wp_scope_back_behind 0 (IterAt l Bn n₀ A n c zs xs J)
    (fun a' _ => n + 1 - (intOf (a'.tmps.getD 4 undef)).toNat) rfl (wpIn_wide (n := m).1 ?ahead) (fun a' w' hJ' => wpIn_wide (n := m).1 ?pass))
  case ahead =>
    gi_wp2_with fail
    exact ⟨[], zs, k, _, _, _, _, _, _, _, _, _, _, _, _, _, _, _, _, _, _, _, _, _, rfl, Hxs.out.symm, hBn1, Hr.out, h0⟩
  case pass =>
    obtain ⟨pre, rest, x, u5, u6, u7, u8, u9, u10, u11, u12, u13, u14, u15, u16, u17, u18, u19, u20, u21, u22, u23, u24, u25, rfl, hx, hBn', hr', hJp⟩ := hJ'
    clear hBn hBn1
    have Hr' := Lib.hid hr'
    have Hx := Lib.hid hx
    have HJ := Lib.hid hJp
    have hl : pre.length + rest.length = n := by rw [hx, List.length_append] at hlen; simp at hlen; omega
    clear hr' hx hJp h0 Hr hlen
    have hpn : pre.length ≤ n := by omega
    obtain ⟨fn, tmps, assign, body, hy, hR⟩ := HY.out pre x w' HJ.out (by rw [Hx.out]; simp)
    have HR := Lib.hid hR
    have Hl := Lib.hid hl
    clear hR hl
    gi_wp2_with fail
    refine ⟨fun h => (by cases h), HR.out.mono ?_⟩
    rintro e W3 (⟨rfl, hJ3, hk3⟩ | ⟨rfl, hJx3⟩)
    · have hb3 : W3.cell? ⟨Bn, 1, none⟩ = some (.slice A n c) := (World.cell?_of_block (a := ⟨Bn, 1, none⟩) hk3.2).trans hBn'
      have HJ3 := Lib.hid hJ3
      have HK3 := Lib.hid hk3
      clear hJ3 hk3
      cases rest with
      | nil =>
        have he : pre.length = n := by have := Hl.out; simpa using this
        have heq : ((pre.length : Int) == (n : Int)) = true := by simp [he]
        clear he
        gi_wp2_with fail
        simp only [Exit.jump]
        refine bodyPost_ret (results_none rfl _ _ _) rfl ?_
        exact ⟨⟨_, rfl⟩, .inl ⟨pre ++ [x], Hx.out.symm, HJ3.out⟩⟩
      | cons y rest =>
        have hlt : (pre.length : Int) < (n : Int) := by have := Hl.out; simp at this; omega
        have hltn : pre.length < n := by omega
        have hne : ((pre.length : Int) == (n : Int)) = false := by rw [beq_eq_false_iff_ne]; omega
        have Hr3 := Lib.hid (Hr'.out.below HK3.out.1)
        obtain ⟨b, off, rfl, hb, hc⟩ := Hr3.out.2 (by omega)
        have hcell := hc pre.length hltn
        have e1 : (iv zs)[pre.length]? = some (.int .i64 y) := by
          have h1 : xs[pre.length + 1]? = some y := by rw [Hx.out]; simp
          rw [← Hxs.out, List.getElem?_cons_succ] at h1
          simp [iv, h1]
        rw [e1] at hcell
        clear e1 hc
        gi_wp2_with fail
        refine wpIn_goto ?_
        have el : ((pre.length : Int) + 1) = ((pre ++ [x]).length : Int) := by simp
        rw [el]
        refine ⟨rfl, ⟨pre ++ [x], rest, y, _, _, _, _, _, _, _, _, _, _, _, _, _, _, _, _, _, _, _, _, _, rfl, by rw [Hx.out]; simp, hb3, Hr3.out, HJ3.out⟩, ?_⟩
        simp [intOf]; omega
    · have HJx := Lib.hid hJx3
      clear hJx3
      gi_wp2_with fail
      simp only [Exit.jump]
      refine bodyPost_ret (results_none rfl _ _ _) rfl ?_
      exact ⟨⟨_, rfl⟩, .inr ⟨pre ++ [x], ⟨rest, by rw [Hx.out]; simp⟩, HJx.out⟩⟩

/-- The iterator hands over the record's kind, then its numbers. -/
theorem rowOf_stops (m Bn n₀ : Nat) (k : Nat) (hk : k < 256) (A : Option Addr) (n c : Nat) (zs : List Int) (hn : n ≤ maxLen) (w : World) (hBl : Bn < w.heap.size) (hn₀ : n₀ ≤ w.heap.size) (hBn : w.cell? ⟨Bn, 0, none⟩ = some (.int .u8 (k : Int))) (hBn1 : w.cell? ⟨Bn, 1, none⟩ = some (.slice A n c)) (hr : Rd w n₀ A n (iv zs)) :
    SeqStopsK Fence.wide m Tryz.prog 112 #[.pointer (some ⟨Bn, 0, none⟩)] (fun x : Int => #[Value.int .i64 x]) (KpB n₀ Bn) (fun ys => ys = (k : Int) :: zs) (fun pre => pre <+: ((k : Int) :: zs)) ((k : Int) :: zs).length w := fun l J Jx W hW _ _ hY h0 =>
  rowOf1_in m l Bn n₀ k hk A n c zs hn J Jx hY W ((hW.cell (p := ⟨Bn, 0, none⟩) hBl).trans hBn) ((hW.cell (p := ⟨Bn, 1, none⟩) hBl).trans hBn1) (hr.below (hW.mono hn₀)) h0

end Go.Proofs.YtdaimejlcfhfiaaGreatDoor

namespace Go.Proofs.YtdaimejlcfhfiaaGreatDoor
open Go.RowKit Go.Shelf
attribute [local go_sem] Oper.semAt_some

theorem mayB_short {k : Nat} {zs : List Int} (h : zs.length < lo k) : mayB k zs = false := by
  have h1 : ¬ lo k ≤ zs.length := by omega
  simp [mayB, h1]
theorem mayB_long {k : Nat} {zs : List Int} (h : hi k < zs.length) : mayB k zs = false := by
  have h1 : ¬ zs.length ≤ hi k := by omega
  simp [mayB, h1]

set_option maxHeartbeats 400000 in
theorem right_out (k : Nat) (A : Option Addr) (n c : Nat) (w : World) (h : n < lo k ∨ (lo k ≤ n ∧ hi k < n)) :
    Calls Tryz.prog 37 #[.agg #[.int .u8 (k : Int), .slice A n c]] w (BoolPost false w) := by
  obtain ⟨L, hL⟩ : ∃ L, lo k = L := ⟨_, rfl⟩
  obtain ⟨H, hH⟩ : ∃ H, hi k = H := ⟨_, rfl⟩
  have HM := Lib.hid (fun W => many_any k W)
  rw [hL, hH] at HM h
  clear hL hH
  rcases h with h | ⟨h1, h⟩
  all_goals
    go_enter Tryz.func37, Tryz.ntmps37
    go_wp2_with fail
    refine (HM.out _).mono ?_
    rintro e w1 ⟨rfl, rfl⟩
    go_wp2_with fail
    refine bodyPost_ret (v := .bool false) (by simp [results, Tryz.results37, go_sem]) rfl ⟨rfl, ?_⟩
    exact (((Below.refl _ w).alloc (Nat.le_refl _) _).alloc (by simp) _)

/-- What holds between two rounds, and where one has left: s + 1: the result's cell. -/
structure RecRightAt (v : Bool) (w : World) (pre : List Int) (W : World) : Prop where
  num : pre.all isNum = v
  res : Boxed W (w.heap.size + 1) 4 (.bool false)
  below : Below w.heap.size w W
theorem recRightAt_own (v : Bool) (w : World) (B : Nat) (hB : w.heap.size ≤ B) : OwnFrom B (RecRightAt v w) := by
  intro pre W W' row h hg hr
  have hr' : ∀ r, row = some r → ∃ o : Obj, W.heap[r]? = some o ∧ o.isCells = false := fun r e => (hr r e).2
  exact ⟨h.num, boxed_turn h.res hg hr', h.below.grown hg (by have := h.below.size; omega) (fun k e => by have := (hr k e).1; omega)⟩
set_option maxHeartbeats 400000 in
theorem right_in (k : Nat) (hk : k < 256) (A : Option Addr) (n c : Nat) (zs : List Int) (w : World) (hr : Rd w w.heap.size A n (iv zs)) (h1 : lo k ≤ n) (h2 : n ≤ hi k) :
    Calls Tryz.prog 37 #[.agg #[.int .u8 (k : Int), .slice A n c]] w (BoolPost (zs.all isNum) w) := by
  obtain ⟨L, hL⟩ : ∃ L, lo k = L := ⟨_, rfl⟩
  obtain ⟨H, hH⟩ : ∃ H, hi k = H := ⟨_, rfl⟩
  have HM := Lib.hid (fun W => many_any k W)
  have hn : n ≤ 18 := by have := hi_le k; omega
  rw [hL, hH] at HM
  rw [hL] at h1
  rw [hH] at h2
  clear hL hH
  have Hr := Lib.hid hr
  clear hr
  have d1 : decide (n < L) = false := by simp; omega
  have d2 : decide (H < n) = false := by simp; omega
  clear h1 h2
  refine (callsIn_wide (n := 5)).1 ?_
  refine callsIn_of_wp_marks Tryz.func37 rfl trivial ?_ rfl
  simp only [Tryz.ntmps37, List.size_toArray, List.length_cons, List.length_nil, Nat.reduceAdd, Nat.reduceSub, Array.replicate_succ, Array.replicate_zero, List.push_toArray, List.append_toArray, List.nil_append, List.cons_append]
  gi_wp2_with (first | (refine ⟨trivial, ?_⟩; gi_at_call 60; refine (callsIn_wide.2 (HM.out _)).mono ?_; rintro e w1 ⟨rfl, rfl⟩) | (refine ⟨trivial, ?_⟩; gi_at_call 61; refine (callsIn_wide.2 (rowOf_any _ _ _ _ _)).mono ?_; rintro e w2 ⟨rfl, rfl⟩))
  obtain ⟨W0, hW0⟩ : ∃ W0, ((w.alloc (.cells #[.int .u8 (k : Int), .slice A n c] 32)).alloc (.cells #[.bool false] 4)).alloc (.cells #[.int .u8 (k : Int), .slice A n c] 32) = W0 := ⟨_, rfl⟩
  have hs0 : W0.heap.size = w.heap.size + 1 + 1 + 1 := by rw [← hW0]; simp
  have bRec : Whole W0 (w.heap.size + 1 + 1) 32 #[.int .u8 (k : Int), .slice A n c] := by
    rw [← hW0]; have := Whole.new ((w.alloc (.cells #[.int .u8 (k : Int), .slice A n c] 32)).alloc (.cells #[.bool false] 4)) 32 #[.int .u8 (k : Int), .slice A n c]; simpa using this
  have hInv : RecRightAt true w [] W0 := by
    refine ⟨rfl, ?_, ?_⟩
    · rw [← hW0]; have := (Boxed.new (w.alloc (.cells #[.int .u8 (k : Int), .slice A n c] 32)) 4 (.bool false)).alloc (.cells #[.int .u8 (k : Int), .slice A n c] 32); simpa using this
    · rw [← hW0]; exact (((Below.refl _ w).alloc (Nat.le_refl _) _).alloc (by simp) _).alloc (by simp; omega) _
  rw [hW0]
  clear hW0
  refine wpIn_rangeFunc_ownF rfl (by omega) (gf := 112) (lb := #[.pointer (some ⟨w.heap.size + 1 + 1, 0, none⟩)]) rfl trivial (enters_of Tryz.func112 (by kernel_rfl) rfl)
    (rowOf_stops 4 (w.heap.size + 1 + 1) w.heap.size k hk A n c zs (by unfold maxLen; omega) W0 (by omega) (by omega) (by simpa using bRec.cell 0) (by simpa using bRec.cell 1) (Hr.out.below hInv.below)) (fun h k => kpB_t h k) (kpB_b (by omega) (by omega)) (Below.refl _ _) (fun _ => rfl)
    (RecRightAt true w) (fun k pre W => k = .ret ∧ RecRightAt false w pre W)
    (recRightAt_own _ _ _ (by omega)) (fun k pre W W' row h hg hr => ⟨h.1, recRightAt_own false w W0.heap.size (by omega) pre W W' row h.2 hg hr⟩) hInv
    (fun x => { tmps := #[.agg #[.int .u8 (k : Int), .slice A n c], .pointer (some ⟨w.heap.size, 0, none⟩), .pointer (some ⟨w.heap.size + 1, 0, none⟩), .int .i64 (L : Int), .int .i64 (H : Int), .int .i64 x, .tuple #[.int .i64 (L : Int), .int .i64 (H : Int)], .pointer (some ⟨w.heap.size, 0, none⟩), .int .u8 (k : Int), .tuple #[.int .i64 (L : Int), .int .i64 (H : Int)], .int .i64 (L : Int), .int .i64 (H : Int), .pointer (some ⟨w.heap.size, 1, none⟩), .slice A n c, .int .i64 (n : Int), .int .i64 (L : Int), .bool false, .bool false, .pointer (some ⟨w.heap.size, 1, none⟩), .slice A n c, .int .i64 (n : Int), .int .i64 (H : Int), .bool false, .bool false, .agg #[.int .u8 (k : Int), .slice A n c], .func (.func 112) #[] #[.pointer (some ⟨w.heap.size + 1 + 1, 0, none⟩)], .int .i64 x, undef, undef, undef, undef, undef, undef], defers := [] }) ?assign ?body ?done ?stop
  case assign =>
    intro l x W K hK
    gi_wp2
    exact hK
  case body =>
    rintro l pre x W hI hlen
    have c2 := hI.res.cell
    have f2 := hI.res.frozen
    have HI := Lib.hid hI
    clear hI
    by_cases hx0 : 0 ≤ x
    · by_cases hx1 : x ≤ 1099511627776
      · have HN := Lib.hid (isNum_yes hx0 hx1)
        gi_wp2_with fail
        exact ⟨KeepsOthers.refl _, kpB_refl, by rw [List.all_append, HI.out.num]; simp [HN.out], HI.out.res, HI.out.below⟩
      · have HN := Lib.hid (show isNum x = false by simp [isNum, hx1])
        gi_wp2_with fail
        exact ⟨KeepsOthers.setCell _ _ _, rfl, by rw [List.all_append]; simp [HN.out], HI.out.res.set _, HI.out.below.setCell (p := ⟨w.heap.size + 1, 0, none⟩) (Nat.le_succ _) _⟩
    · have HN := Lib.hid (show isNum x = false by simp [isNum, hx0])
      gi_wp2_with fail
      exact ⟨KeepsOthers.setCell _ _ _, rfl, by rw [List.all_append]; simp [HN.out], HI.out.res.set _, HI.out.below.setCell (p := ⟨w.heap.size + 1, 0, none⟩) (Nat.le_succ _) _⟩
  case done =>
    rintro D ys W hD rfl hI hK
    have c2 := hI.res.cell
    have f2 := hI.res.frozen
    have HK := Lib.hid hK
    have HI := Lib.hid hI
    clear hK hI
    gi_wp2_with fail
    have hK1 : (W.setCell ⟨w.heap.size + 1, 0, none⟩ (.bool true)).heap[D]? = some (.deferred (some [])) := (KeepsOthers.setCell _ _ _).same D _ HK.out rfl
    have r1 := HI.out.res.set (.bool true)
    have hb : Below w.heap.size w (W.setCell ⟨w.heap.size + 1, 0, none⟩ (.bool true)) := HI.out.below.setCell (p := ⟨w.heap.size + 1, 0, none⟩) (Nat.le_succ _) _
    have hnum : zs.all isNum = true := by have := HI.out.num; simp only [List.all_cons, Bool.and_eq_true] at this; exact this.2
    obtain ⟨W1, hW1⟩ : ∃ W1, W.setCell ⟨w.heap.size + 1, 0, none⟩ (.bool true) = W1 := ⟨_, rfl⟩
    rw [hW1] at hK1 r1 hb ⊢
    have hg' := grownBy_putObj' W1 D (.deferred none)
    have hr' : ∀ r, (some D) = some r → ∃ o : Obj, W1.heap[r]? = some o ∧ o.isCells = false := fun r e => by cases e; exact ⟨_, hK1, rfl⟩
    have q1 := (boxed_turn r1 hg' hr').cell
    refine ⟨by simp, .inl ⟨_, _, rfl, run_takeDeferred hK1, ?_⟩⟩
    refine ⟨.bool true, by simp [results, Tryz.results37, go_sem, q1], by rw [hnum], ?_⟩
    exact hb.trans ((Below.refl _ _).grown hg' hb.size (fun k e => by cases e; omega))
  case stop =>
    rintro D k pre W hD hpre ⟨rfl, hO⟩ hK
    gi_wp2_with fail
    have hg' := grownBy_putObj' W D (.deferred none)
    have hr' : ∀ r, (some D) = some r → ∃ o : Obj, W.heap[r]? = some o ∧ o.isCells = false := fun r e => by cases e; exact ⟨_, hK, rfl⟩
    have q1 := (boxed_turn hO.res hg' hr').cell
    have hnum : zs.all isNum = false := by
      obtain ⟨t, ht⟩ := hpre
      have h1 : ((k : Int) :: zs).all isNum = false := by rw [← ht, List.all_append, hO.num]; rfl
      have h2 : isNum (k : Int) = true := isNum_yes (by omega) (by omega)
      simpa [List.all_cons, h2] using h1
    refine ⟨by simp, .inl ⟨_, _, rfl, run_takeDeferred hK, ?_⟩⟩
    refine ⟨.bool false, by simp [results, Tryz.results37, go_sem, q1], by rw [hnum], ?_⟩
    exact hO.below.trans ((Below.refl _ _).grown hg' hO.below.size (fun k e => by cases e; omega))

/-- Whether it may be. -/
theorem right_rec (k : Nat) (hk : k < 256) (A : Option Addr) (n c : Nat) (zs : List Int) (B : Nat) (w : World) (hr : Rd w B A n (iv zs)) (hB : B ≤ w.heap.size) :
    Calls Tryz.prog 37 #[.agg #[.int .u8 (k : Int), .slice A n c]] w (BoolPost (mayB k zs) w) := by
  have hl : zs.length = n := by have := hr.1; rwa [iv_length] at this
  by_cases h1 : lo k ≤ n
  · by_cases h2 : n ≤ hi k
    · have e : mayB k zs = zs.all isNum := by simp [mayB, hl, h1, h2]
      rw [e]
      exact right_in k hk A n c zs w (hr.more hB) h1 h2
    · rw [mayB_long (by omega)]
      exact right_out k A n c w (.inr ⟨h1, by omega⟩)
  · rw [mayB_short (by omega)]
    exact right_out k A n c w (.inl (by omega))

end Go.Proofs.YtdaimejlcfhfiaaGreatDoor

namespace Go.Proofs.YtdaimejlcfhfiaaGreatDoor
open Go.RowKit Go.Shelf

section
variable {G : Nat → Prop} {W W' W'' : World}
end

end Go.Proofs.YtdaimejlcfhfiaaGreatDoor

namespace Go.Proofs.YtdaimejlcfhfiaaGreatDoor
open Go.RowKit Go.Shelf
attribute [local go_sem] Oper.semAt_some

/-- A record, as an element of a slice: its kind, its slice of numbers, and what that reads as. -/
structure RE where
  k : Nat
  A : Option Addr
  n : Nat
  c : Nat
  zs : List Int

/-- A slice of records that reads as the list l, in blocks below B. -/
def RdR (w : World) (B : Nat) (A : Option Addr) (n : Nat) (l : List RE) : Prop :=
  l.length = n ∧ (0 < n → ∃ b off, A = some ⟨b, off, none⟩ ∧ b < B ∧ ∀ j x, l[j]? = some x → w.cell? ⟨b, off + j * 2, none⟩ = some (.int .u8 (x.k : Int)) ∧ w.cell? ⟨b, off + j * 2 + 1, none⟩ = some (.slice x.A x.n x.c)) ∧
    ∀ x ∈ l, x.k < 256 ∧ Rd w B x.A x.n (iv x.zs)

section
variable {w w' : World} {B B' n : Nat} {A : Option Addr} {l : List RE}
theorem RdR.below (h : RdR w B A n l) (hb : Below B w w') : RdR w' B A n l :=
  ⟨h.1, fun hn => by
    obtain ⟨b, off, e, hlt, hc⟩ := h.2.1 hn
    exact ⟨b, off, e, hlt, fun j x hx => ⟨(hb.cell (p := ⟨b, off + j * 2, none⟩) hlt).trans (hc j x hx).1, (hb.cell (p := ⟨b, off + j * 2 + 1, none⟩) hlt).trans (hc j x hx).2⟩⟩,
   fun x hx => ⟨(h.2.2 x hx).1, (h.2.2 x hx).2.below hb⟩⟩
theorem RdR.more (h : RdR w B A n l) (hB : B ≤ B') : RdR w B' A n l :=
  ⟨h.1, fun hn => by
    obtain ⟨b, off, e, hlt, hc⟩ := h.2.1 hn
    exact ⟨b, off, e, by omega, hc⟩, fun x hx => ⟨(h.2.2 x hx).1, (h.2.2 x hx).2.more hB⟩⟩
end

/-- A literal of one record; of two. -/
theorem rdR_one (W : World) (x : RE) (B : Nat) (hB : B ≤ W.heap.size) (hk : x.k < 256) (hr : Rd W B x.A x.n (iv x.zs)) (b : Nat) (hb : W.heap.size = b) :
    RdR (W.alloc (.cells #[.int .u8 (x.k : Int), .slice x.A x.n x.c] 32)) (b + 1) (some ⟨b, 0, none⟩) 1 [x] := by
  subst hb
  refine ⟨rfl, fun _ => ⟨W.heap.size, 0, rfl, by omega, ?_⟩, ?_⟩
  · rintro (_ | j) y hy
    · simp only [List.getElem?_cons_zero, Option.some.injEq] at hy
      subst hy
      exact ⟨cell_new W _ _ 0, cell_new W _ _ 1⟩
    · simp at hy
  · intro y hy
    simp only [List.mem_singleton] at hy
    subst hy
    exact ⟨hk, (hr.alloc hB _).more (by omega)⟩

set_option maxHeartbeats 400000 in
theorem vals_any (A : Option Addr) (n c : Nat) (w : World) :
    Calls Tryz.prog 36 #[.slice A n c] w fun e w' => e = .returned (.func (.func 59) #[] #[.pointer (some ⟨w.heap.size, 0, none⟩)]) ∧ w' = w.alloc (.cells #[.slice A n c] 33) := by
  go_enter Tryz.func36, Tryz.ntmps36
  go_wp2
  go_ret
  exact ⟨rfl, rfl⟩

/-- Where the iterator stands. -/
structure VlAt (Bn n₀ : Nat) (A : Option Addr) (n c : Nat) (xs : List RE) (J : List RE → World → Prop) (j : Nat) (W : World) : Prop where
  le : j ≤ n
  bn : Whole W Bn 33 #[.slice A n c]
  rd : RdR W n₀ A n xs
  sz : n₀ ≤ W.heap.size
  inv : J (xs.take j) W
def encRE (x : RE) : Array Value := #[.agg #[.int .u8 (x.k : Int), .slice x.A x.n x.c]]

set_option maxHeartbeats 2000000 in
theorem vals1_in (m l Bn n₀ : Nat) (A : Option Addr) (n c : Nat) (xs : List RE) (hn : n ≤ 1000000) (J : List RE → World → Prop) (Jx : World → Prop) (W0 : World) (hJ : AbidesFrom W0.heap.size J) (h₀ : n₀ ≤ W0.heap.size)
    (hY : ∀ (pre : List RE) (x : RE) W, J pre W → (∃ j, pre = xs.take j ∧ xs[j]? = some x) → YieldAt Fence.wide (m - 1) Tryz.prog l (encRE x) W fun e W' =>
      (e = .returned (.bool true) ∧ J (pre ++ [x]) W' ∧ KpB n₀ Bn W W') ∨ (e = .returned (.bool false) ∧ Jx W'))
    (hBn : Whole W0 Bn 33 #[.slice A n c]) (hr : RdR W0 n₀ A n xs) (h0 : J [] W0) :
    CallsIn Fence.wide m Tryz.prog 59 #[.func (.yield l) #[] #[], .pointer (some ⟨Bn, 0, none⟩)] W0 fun e W' => (∃ v, e = .returned v) ∧
      ((∃ ys : List RE, ys = xs ∧ J ys W') ∨ Jx W') := by
  have HY := Lib.hid hY
  have HJ := Lib.hid hJ
  have HI : Hid (VlAt Bn n₀ A n c xs J 0 W0) := Lib.hid ⟨Nat.zero_le _, hBn, hr, h₀, h0⟩
  have c0 := hBn.cell 0
  simp only [List.getElem?_toArray, List.getElem?_cons_zero] at c0
  clear hY hJ hr h0 hBn
  refine callsIn_of_wp Tryz.func59 rfl trivial ?_ rfl
  simp only [Tryz.ntmps59, List.size_toArray, List.length_cons, List.length_nil, Nat.reduceAdd, Nat.reduceSub, Array.replicate_succ, Array.replicate_zero, List.push_toArray, List.append_toArray, List.nil_append, List.cons_append]
  gi_wp2_with fail
  gi_loopw [7] (fun i wr => ∃ j : Nat, i = .int .i64 (j : Int) ∧ VlAt Bn n₀ A n c xs J j wr) (fun i _ => n - (intOf i).toNat)
  case atStart => exact ⟨0, rfl, HI.out⟩
  case round =>
    obtain ⟨j, rfl, hI⟩ := hrel
    have HI2 := Lib.hid hI
    clear HI c0
    by_cases hltn : j < n
    rotate_left
    · have hge : decide (j < n) = false := by simp; omega
      have HE : Hid (j = n) := Lib.hid (by have := hI.le; omega)
      clear hI hltn
      gi_wp2_with fail
      go_end0
      exact ⟨⟨_, rfl⟩, .inl ⟨_, rfl, by have := HI2.out.inv; rw [HE.out, List.take_of_length_le (by rw [HI2.out.rd.1]; exact Nat.le_refl _)] at this; exact this⟩⟩
    · have hlt : (j : Int) < (n : Int) := by omega
      obtain ⟨x, hx⟩ : ∃ x, xs[j]? = some x := ⟨_, List.getElem?_eq_getElem (by rw [hI.rd.1]; exact hltn)⟩
      obtain ⟨b, off, rfl, hb, hc⟩ := hI.rd.2.1 (by omega)
      obtain ⟨c0, c1⟩ := hc j x hx
      have HX := Lib.hid hx
      have HLt := Lib.hid hltn
      have HA : Hid (VlAt Bn n₀ (some ⟨b, off, none⟩) n c xs J j (wr.alloc (.cells #[.int .u8 (x.k : Int), .slice x.A x.n x.c] 32))) := Lib.hid ⟨hI.le, hI.bn.alloc _, hI.rd.below ((Below.refl _ _).alloc hI.sz _), by rw [World.size_alloc]; have := hI.sz; omega, HJ.out _ _ _ none hI.inv (World.grownBy_alloc wr _ none) (fun r e => by cases e)⟩
      clear hI hc hx hltn
      obtain ⟨fn, tmps, assign, body, hy, hR⟩ := HY.out _ x _ HA.out.inv ⟨j, rfl, HX.out⟩
      have HR := Lib.hid hR
      unfold encRE at hy
      clear hR
      gi_wp2_with fail
      refine ⟨fun h => (by cases h), HR.out.mono ?_⟩
      rintro e W3 (⟨rfl, hJ3, hk3⟩ | ⟨rfl, hJx3⟩)
      · have HA3 : Hid (VlAt Bn n₀ (some ⟨b, off, none⟩) n c xs J (j + 1) W3) := Lib.hid ⟨HLt.out, hk3.2.trans HA.out.bn, HA.out.rd.below hk3.1, Nat.le_trans HA.out.sz hk3.1.size, by rw [List.take_add_one, HX.out]; exact hJ3⟩
        clear hJ3 hk3 HR c0 c1
        gi_wp2_with fail
        go_roundw
        case rel => exact ⟨j + 1, by simp, HA3.out⟩
        case measure => have := HLt.out; simp [intOf]; omega
      · have HJx := Lib.hid hJx3
        clear hJx3 HR c0 c1
        gi_wp2_with fail
        refine bodyPost_ret (results_none rfl _ _ _) rfl ?_
        exact ⟨⟨_, rfl⟩, .inr HJx.out⟩

def OkRE (xs pre : List RE) (x : RE) (_ : World) : Prop := ∃ j, pre = xs.take j ∧ xs[j]? = some x
/-- The iterator hands over what is in the row, in order. -/
theorem vals_mem (m Bn n₀ : Nat) (A : Option Addr) (n c : Nat) (xs : List RE) (hn : n ≤ 1000000) (w : World) (hn₀ : n₀ ≤ w.heap.size) (hBn : Whole w Bn 33 #[.slice A n c]) (hr : RdR w n₀ A n xs) :
    SeqMem m Tryz.prog 59 #[.pointer (some ⟨Bn, 0, none⟩)] encRE (OkRE xs) (KpB n₀ Bn) (fun ys => ys = xs) w := fun l J Jx W hW hJ hY h0 =>
  vals1_in m l Bn n₀ A n c xs hn J Jx W hJ (Nat.le_trans hn₀ hW.size) hY (hBn.under hW) (hr.below (hW.mono hn₀)) h0

end Go.Proofs.YtdaimejlcfhfiaaGreatDoor
