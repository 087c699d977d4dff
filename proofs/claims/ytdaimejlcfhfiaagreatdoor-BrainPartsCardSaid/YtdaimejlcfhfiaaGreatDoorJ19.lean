/-
  Texts that the walks of the statements over logs lean on, joined (BrFit, NumAdd, NumFirst, NumClone, NumBehind, NumEach, NumRow, NumTakes, NumTakeRow, NumUse, RecIter). Conditions: those that each theorem names.
-/
import Derived.Test.YtdaimejlcfhfiaaGreatDoorJ0
import Derived.Test.YtdaimejlcfhfiaaGreatDoorJ18
import Derived.Laws.BytesArg
import Derived.Deep.RegionHeld3
import Derived.OpenShut
import Derived.Laws.AppendOwnNone

/-
  The deeds of the kinds: when a record fits, what is done then. Conditions: those that each theorem names.
-/
namespace Go.Proofs.YtdaimejlcfhfiaaGreatDoor
open Go.RowKit Go.Shelf

def DeedOk (p : Br) (base g k : Nat) (zs : List Int) (x : Bx) (sl : Value) (V : World) : Prop :=
  ∃ (f1 f2 : Nat) (c1 c2 : Array Value) (fit : Bool), deedV x k = .agg #[clo f1 c1, clo f2 c2] ∧ (∀ args W, (callFunc f1 args).run Tryz.prog W = .ok (.enter f1 args) W) ∧ (∀ args W, (callFunc f2 args).run Tryz.prog W = .ok (.enter f2 args) W) ∧
    Calls Tryz.prog f1 (#[sl] ++ c1) V (BoolPost fit V) ∧ (fit = false → applyB p (k : Int) zs = p) ∧ (fit = true → ∀ W', Below V.heap.size V W' → Calls Tryz.prog f2 (#[sl] ++ c2) W' (StPost base g (applyB p (k : Int) zs) W'))
/-- What the deeds lean on. -/
structure DEnv (base g B : Nat) (V : World) (p : Br) (a : Ad) (x : Bx) : Prop where
  h : BrIn base g V p a
  d : DBox V g x
  t : Tab V
  th : TabH V
  gd : Good 800 p
  bB : B ≤ base
section
variable {base g B n c : Nat} {V : World} {p : Br} {a : Ad} {x : Bx} {A : Option Addr} {zs : List Int}
set_option maxRecDepth 100000 in
theorem DEnv.hB (E : DEnv base g B V p a x) : B ≤ V.heap.size := Nat.le_trans E.bB (Nat.le_trans E.h.ge (Nat.le_of_lt E.h.lt))
set_option maxRecDepth 100000 in
theorem DEnv.lk (E : DEnv base g B V p a x) : p.kps.length ≤ 800 := by have := E.gd.len; omega
set_option maxRecDepth 100000 in
theorem DEnv.li (E : DEnv base g B V p a x) : p.its.length ≤ 800 := by have := E.gd.len; omega
set_option maxRecDepth 100000 in
theorem rd_at (hr : Rd V B A n (iv zs)) (hn : 0 < zs.length) : ∃ rb ro, A = some ⟨rb, ro, none⟩ ∧ rb < B ∧ zs.length = n ∧ ∀ j y, zs[j]? = some y → V.cell? ⟨rb, ro + j, none⟩ = some (.int .i64 y) := by
  have hl : zs.length = n := by have := hr.1; rwa [iv_length] at this
  obtain ⟨b, off, e, hb, hc⟩ := hr.2 (by omega)
  refine ⟨b, off, e, hb, hl, fun j y hy => ?_⟩
  have hj := (List.getElem?_eq_some_iff.1 hy).1
  rw [hc j (by omega)]
  simp [iv, hy]
set_option maxRecDepth 100000 in
theorem len1 (h : zs.length = 1) : ∃ x0, zs = [x0] := by
  match zs, h with
  | [a], _ => exact ⟨a, rfl⟩
set_option maxRecDepth 100000 in
theorem len2 (h : zs.length = 2) : ∃ x0 x1, zs = [x0, x1] := by
  match zs, h with
  | [a, b], _ => exact ⟨a, b, rfl⟩
set_option maxRecDepth 100000 in
theorem len3 (h : zs.length = 3) : ∃ x0 x1 x2, zs = [x0, x1, x2] := by
  match zs, h with
  | [a, b, c], _ => exact ⟨a, b, c, rfl⟩
set_option maxRecDepth 100000 in
theorem len5 (h : zs.length = 5) : ∃ x0 x1 x2 x3 x4, zs = [x0, x1, x2, x3, x4] := by
  match zs, h with
  | [a, b, c, d, e], _ => exact ⟨a, b, c, d, e, rfl⟩
set_option maxRecDepth 100000 in
theorem kps_addr (h : BrIn base g V p a) {i : Nat} {y : Kp} (hy : p.kps[i]? = some y) : ∃ b, a.B = some ⟨b, 0, none⟩ := by
  have hi := (List.getElem?_eq_some_iff.1 hy).1
  rcases h.own.kps.2 with ⟨_, h2⟩ | ⟨b, cap, cur, h1, _⟩
  · omega
  · injection h1 with h1 _ _
    exact ⟨b, h1⟩

set_option maxRecDepth 100000 in
set_option maxHeartbeats 1000000 in
theorem deed1 (E : DEnv base g B V p a x) (hmay : mayB 1 zs = true) : DeedOk p base g 1 zs x (.slice A n c) V := by
  have hap : applyB p ((1 : Nat) : Int) zs = bootB p := by rw [apply_fit hmay (by decide)]; rfl
  refine ⟨71, 72, #[pB x.b1], #[pB x.b1], decide (p.ep < 1099511627776), rfl, enters_of Tryz.func71 (by kernel_rfl) rfl, enters_of Tryz.func72 (by kernel_rfl) rfl, fBoot p a base g x.b1 A n c V E.h E.d.e1, fun e => ?_, fun e W' hb => ?_⟩
  · rw [hap]; unfold bootB brMax; rw [if_neg (by simpa using e)]
  · rw [hap]; unfold bootB brMax; rw [if_pos (by simpa using e)]
    exact dBoot p a base g x.b1 A n c W' (E.h.under hb) (E.d.e1.under hb) E.gd.ep (by simpa using e)

set_option maxRecDepth 100000 in
set_option maxHeartbeats 1000000 in
theorem deed2 (E : DEnv base g B V p a x) (hr : Rd V B A n (iv zs)) (hc : n ≤ c) (hm : c ≤ maxLen) (hmay : mayB 2 zs = true) : DeedOk p base g 2 zs x (.slice A n c) V := by
  have hap : applyB p ((2 : Nat) : Int) zs = confB p zs := apply_conf hmay
  have hl : zs.length = n := by have := hr.1; rwa [iv_length] at this
  have hn : n ≤ 1000 := by
    have h1 := (mayB_yes hmay).2.1
    have h2 := hi_le 2
    omega
  refine ⟨73, 74, #[], #[pB x.b1], isRow zs, rfl, enters_of Tryz.func73 (by kernel_rfl) rfl, enters_of Tryz.func74 (by kernel_rfl) rfl, isGroup_any A n c zs B V hr E.hB hc hm hn E.t, fun e => ?_, fun e W' hb => ?_⟩
  · rw [hap]; unfold confB; rw [if_neg (by simp [e])]
  · rw [hap]
    exact dConf p a base g x.b1 A n c zs B W' (E.h.under hb) (E.d.e1.under hb) (hr.below (hb.mono E.hB)) (Nat.le_trans E.hB hb.size) hc hm hn (E.t.under hb) e

set_option maxRecDepth 100000 in
set_option maxHeartbeats 1000000 in
theorem deed3 (E : DEnv base g B V p a x) (hr : Rd V B A n (iv zs)) (hmay : mayB 3 zs = true) : DeedOk p base g 3 zs x (.slice A n c) V := by
  have hl_ : zs.length = 3 := by
    have h1 := len_of hmay (by decide)
    have e : manyB ((3 : Nat) : Int) = 3 := by decide
    omega
  obtain ⟨x0, x1, x2, rfl⟩ := len3 hl_
  clear hl_
  obtain ⟨rb, ro, rfl, hrb, hn, hcell⟩ := rd_at hr (by simp)
  simp only [List.length_cons, List.length_nil] at hn
  subst hn
  have hx0 := hcell 0 x0 rfl
  have hx1 := hcell 1 x1 rfl
  have hx2 := hcell 2 x2 rfl
  simp only [Nat.add_zero] at hx0
  have hrV : rb < V.heap.size := Nat.lt_of_lt_of_le hrb E.hB
  have hap : applyB p ((3 : Nat) : Int) [x0, x1, x2] = intentB p x0 x1 x2 := by rw [apply_fit hmay (by decide)]; rfl
  have hi : intF p x0 x1 x2 = true ↔ (p.set = true ∧ 1 ≤ x0 ∧ x1 < 4 ∧ x2 < 2 ∧ p.sq < brMax) := by simp [intF, brMax]
  refine ⟨76, 77, #[pB x.b1], #[pB x.b1], intF p x0 x1 x2, rfl, enters_of Tryz.func76 (by kernel_rfl) rfl, enters_of Tryz.func77 (by kernel_rfl) rfl, fIntent_any p a base g x.b1 rb ro c x0 x1 x2 V E.h E.d.e1 hx0 hx1 hx2, fun e => ?_, fun e W' hb => ?_⟩
  · rw [hap]; unfold intentB; rw [if_neg (fun h => by rw [hi.2 h] at e; cases e)]
  · rw [hap]; unfold intentB; rw [if_pos (hi.1 e)]
    have hh := dIntent p a base g x.b1 rb ro c x0 x1 x2 W' (E.h.under hb) (E.d.e1.under hb) (Nat.lt_of_lt_of_le hrV hb.size) ((hb.cell (p := ⟨rb, ro, none⟩) hrV).trans hx0) ((hb.cell (p := ⟨rb, ro + 1, none⟩) hrV).trans hx1) ((hb.cell (p := ⟨rb, ro + 2, none⟩) hrV).trans hx2) E.gd.sq (hi.1 e).2.2.2.2 (by have := E.li; omega)
    rw [beq_dec] at hh
    exact hh

set_option maxRecDepth 100000 in
set_option maxHeartbeats 1000000 in
theorem deed4 (E : DEnv base g B V p a x) (hr : Rd V B A n (iv zs)) (hmay : mayB 4 zs = true) : DeedOk p base g 4 zs x (.slice A n c) V := by
  have hl_ : zs.length = 3 := by
    have h1 := len_of hmay (by decide)
    have e : manyB ((4 : Nat) : Int) = 3 := by decide
    omega
  obtain ⟨x0, x1, x2, rfl⟩ := len3 hl_
  clear hl_
  obtain ⟨rb, ro, rfl, hrb, hn, hcell⟩ := rd_at hr (by simp)
  simp only [List.length_cons, List.length_nil] at hn
  subst hn
  have hx0 := hcell 0 x0 rfl
  have hx1 := hcell 1 x1 rfl
  have hx2 := hcell 2 x2 rfl
  simp only [Nat.add_zero] at hx0
  have hrV : rb < V.heap.size := Nat.lt_of_lt_of_le hrb E.hB
  have hap : applyB p ((4 : Nat) : Int) [x0, x1, x2] = madeB p x0 x1 x2 := by rw [apply_fit hmay (by decide)]; rfl
  rcases meant_idx p x0 with ⟨h1, h2, h3⟩ | ⟨i, y, h1, h2, h3, h4⟩
  · refine ⟨82, 83, #[pB x.b2, pB x.b4], #[pB x.b2], false, rfl, enters_of Tryz.func82 (by kernel_rfl) rfl, enters_of Tryz.func83 (by kernel_rfl) rfl, fMade_false p a base g x.b2 x.b4 rb ro c x0 x1 V E.h E.d.k.1 E.d.k.2.2.1 hrV hx0 hx1 (by have := E.li; omega) (by rw [h3]; rfl), fun _ => ?_, fun e => (by cases e)⟩
    rw [hap]; simp only [madeB, h2]
  · refine ⟨82, 83, #[pB x.b2, pB x.b4], #[pB x.b2], decide (1 ≤ x1) && decide (findB p x1 < 0), rfl, enters_of Tryz.func82 (by kernel_rfl) rfl, enters_of Tryz.func83 (by kernel_rfl) rfl, fMade_true p a base g x.b2 x.b4 rb ro c x0 x1 V E.h E.d.k.1 E.d.k.2.2.1 hrV hx0 hx1 (by have := E.lk; omega) (by have := E.li; omega) (by rw [h4]; simp), fun e => ?_, fun e W' hb => ?_⟩
    · rw [hap]; simp only [madeB, h3]
      rw [if_neg]
      rintro ⟨g1, g2⟩
      rw [decide_eq_true g1, (fresh_iff p x1).2 g2] at e
      cases e
    · simp only [Bool.and_eq_true] at e
      rw [hap]; simp only [madeB, h3]
      rw [if_pos ⟨of_decide_eq_true e.1, (fresh_iff p x1).1 e.2⟩, (meant_some h3).2]
      exact dMade p a base g x.b2 rb ro c x0 x1 x2 i y W' (E.h.under hb) (E.d.k.1.under hb) (Nat.lt_of_lt_of_le hrV hb.size) ((hb.cell (p := ⟨rb, ro, none⟩) hrV).trans hx0) ((hb.cell (p := ⟨rb, ro + 1, none⟩) hrV).trans hx1) ((hb.cell (p := ⟨rb, ro + 2, none⟩) hrV).trans hx2) h1 h2 (by have := E.li; omega) (by have := E.lk; omega)

set_option maxRecDepth 100000 in
set_option maxHeartbeats 1000000 in
theorem deed5 (E : DEnv base g B V p a x) (hr : Rd V B A n (iv zs)) (hmay : mayB 5 zs = true) : DeedOk p base g 5 zs x (.slice A n c) V := by
  have hl_ : zs.length = 1 := by
    have h1 := len_of hmay (by decide)
    have e : manyB ((5 : Nat) : Int) = 1 := by decide
    omega
  obtain ⟨x0, rfl⟩ := len1 hl_
  clear hl_
  obtain ⟨rb, ro, rfl, hrb, hn, hcell⟩ := rd_at hr (by simp)
  simp only [List.length_cons, List.length_nil] at hn
  subst hn
  have hx0 := hcell 0 x0 rfl
  simp only [Nat.add_zero] at hx0
  have hrV : rb < V.heap.size := Nat.lt_of_lt_of_le hrb E.hB
  have hap : applyB p ((5 : Nat) : Int) [x0] = if p.rf.st = 1 then refB p ((5 : Nat) : Int) x0 else p := by rw [apply_fit hmay (by decide)]; rfl
  refine ⟨99, 100, #[pB x.b7], #[pB x.b7, pB x.b6], p.rf.st == 1, rfl, enters_of Tryz.func99 (by kernel_rfl) rfl, enters_of Tryz.func100 (by kernel_rfl) rfl, active_any p a base g x.b7 (some ⟨rb, ro, none⟩) 1 c V E.h E.d.r.2.1, fun e => ?_, fun e W' hb => ?_⟩
  · rw [hap, if_neg (by simpa using e)]
  · rw [hap, if_pos (by simpa using e)]
    exact dFail p a base g x.b7 x.b6 (some ⟨rb, ro, none⟩) 1 c W' (E.h.under hb) (E.d.r.2.1.under hb) (E.d.r.1.under hb)

set_option maxRecDepth 100000 in
set_option maxHeartbeats 1000000 in
theorem deed6 (E : DEnv base g B V p a x) (hr : Rd V B A n (iv zs)) (hmay : mayB 6 zs = true) : DeedOk p base g 6 zs x (.slice A n c) V := by
  have hl_ : zs.length = 3 := by
    have h1 := len_of hmay (by decide)
    have e : manyB ((6 : Nat) : Int) = 3 := by decide
    omega
  obtain ⟨x0, x1, x2, rfl⟩ := len3 hl_
  clear hl_
  obtain ⟨rb, ro, rfl, hrb, hn, hcell⟩ := rd_at hr (by simp)
  simp only [List.length_cons, List.length_nil] at hn
  subst hn
  have hx0 := hcell 0 x0 rfl
  have hx1 := hcell 1 x1 rfl
  have hx2 := hcell 2 x2 rfl
  simp only [Nat.add_zero] at hx0
  have hrV : rb < V.heap.size := Nat.lt_of_lt_of_le hrb E.hB
  have hap : applyB p ((6 : Nat) : Int) [x0, x1, x2] = phaseB p x0 x1 x2 := by rw [apply_fit hmay (by decide)]; rfl
  rcases kept_idx p x0 with ⟨h1, h2, h3⟩ | ⟨i, y, h1, h2, h3, h4⟩
  · refine ⟨85, 87, #[pB x.b3, pB x.b5], #[pB x.b5], false, rfl, enters_of Tryz.func85 (by kernel_rfl) rfl, enters_of Tryz.func87 (by kernel_rfl) rfl, fPhase_false p a base g x.b3 x.b5 x.b2 rb ro c x0 x1 V E.h E.d.k.2.1 E.d.k.2.2.2 E.d.k.1 hrV hx0 hx1 (by have := E.lk; omega) (by rw [h3]; rfl), fun _ => ?_, fun e => (by cases e)⟩
    rw [hap]; simp only [phaseB, h2]
  · obtain ⟨b, hB⟩ := kps_addr E.h h2
    refine ⟨85, 87, #[pB x.b3, pB x.b5], #[pB x.b5], chgB y.phase x1, rfl, enters_of Tryz.func85 (by kernel_rfl) rfl, enters_of Tryz.func87 (by kernel_rfl) rfl, fPhase_true p a base g x.b3 x.b5 x.b2 rb ro c x0 x1 b i y V E.h E.d.k.2.1 E.d.k.2.2.2 E.d.k.1 hrV hx0 hx1 (by have := E.lk; omega) h1 h2 hB (E.gd.ph y (List.mem_of_getElem? h2)) E.th, fun e => ?_, fun e W' hb => ?_⟩
    · rw [hap]; simp only [phaseB, h3]
      rw [if_neg]
      rintro ⟨g1, g2⟩
      simp [chgB, g1, g2] at e
    · simp only [chgB, Bool.and_eq_true, decide_eq_true_eq] at e
      rw [hap]; simp only [phaseB, h3]
      rw [if_pos e, setK_set h1 h2]
      have hl := legal_bd e.2
      exact dPhase p a base g x.b5 x.b2 rb ro c x0 x1 x2 b i y W' (E.h.under hb) (E.d.k.2.2.2.under hb) (E.d.k.1.under hb) (Nat.lt_of_lt_of_le hrV hb.size) ((hb.cell (p := ⟨rb, ro, none⟩) hrV).trans hx0) ((hb.cell (p := ⟨rb, ro + 1, none⟩) hrV).trans hx1) ((hb.cell (p := ⟨rb, ro + 2, none⟩) hrV).trans hx2) (by have := E.lk; omega) h1 h2 hB (by omega) (by omega)

set_option maxRecDepth 100000 in
set_option maxHeartbeats 1000000 in
theorem deed7 (E : DEnv base g B V p a x) (hr : Rd V B A n (iv zs)) (hmay : mayB 7 zs = true) : DeedOk p base g 7 zs x (.slice A n c) V := by
  have hl_ : zs.length = 1 := by
    have h1 := len_of hmay (by decide)
    have e : manyB ((7 : Nat) : Int) = 1 := by decide
    omega
  obtain ⟨x0, rfl⟩ := len1 hl_
  clear hl_
  obtain ⟨rb, ro, rfl, hrb, hn, hcell⟩ := rd_at hr (by simp)
  simp only [List.length_cons, List.length_nil] at hn
  subst hn
  have hx0 := hcell 0 x0 rfl
  simp only [Nat.add_zero] at hx0
  have hrV : rb < V.heap.size := Nat.lt_of_lt_of_le hrb E.hB
  have hap : applyB p ((7 : Nat) : Int) [x0] = goneB_ p x0 := by rw [apply_fit hmay (by decide)]; rfl
  refine ⟨79, 89, #[pB x.b2], #[pB x.b2], decide (0 ≤ findB p x0), rfl, enters_of Tryz.func79 (by kernel_rfl) rfl, enters_of Tryz.func89 (by kernel_rfl) rfl, kept_any p a base g x.b2 rb ro c x0 1 (by omega) V E.h E.d.k.1 hrV hx0 (by have := E.lk; omega), fun e => ?_, fun e W' hb => ?_⟩
  · rcases kept_idx p x0 with ⟨h1, h2, h3⟩ | ⟨i, y, h1, h2, h3, h4⟩
    · rw [hap]; unfold goneB_; rw [if_pos h2]
    · rw [h4] at e; simp at e
  · rcases kept_idx p x0 with ⟨h1, h2, h3⟩ | ⟨i, y, h1, h2, h3, h4⟩
    · rw [h3] at e; simp at e
    · rw [hap]; unfold goneB_; rw [if_neg (by rw [h3]; simp)]
      exact dGone p a base g x.b2 rb ro c x0 i W' (E.h.under hb) (E.d.k.1.under hb) (Nat.lt_of_lt_of_le hrV hb.size) ((hb.cell (p := ⟨rb, ro, none⟩) hrV).trans hx0) h1 (by have := E.lk; omega)

set_option maxRecDepth 100000 in
set_option maxHeartbeats 1000000 in
theorem deed8 (E : DEnv base g B V p a x) (hr : Rd V B A n (iv zs)) (hmay : mayB 8 zs = true) : DeedOk p base g 8 zs x (.slice A n c) V := by
  have hl_ : zs.length = 5 := by
    have h1 := len_of hmay (by decide)
    have e : manyB ((8 : Nat) : Int) = 5 := by decide
    omega
  obtain ⟨x0, x1, x2, x3, x4, rfl⟩ := len5 hl_
  clear hl_
  obtain ⟨rb, ro, rfl, hrb, hn, hcell⟩ := rd_at hr (by simp)
  simp only [List.length_cons, List.length_nil] at hn
  subst hn
  have hx0 := hcell 0 x0 rfl
  have hx1 := hcell 1 x1 rfl
  have hx2 := hcell 2 x2 rfl
  have hx3 := hcell 3 x3 rfl
  have hx4 := hcell 4 x4 rfl
  simp only [Nat.add_zero] at hx0
  have hrV : rb < V.heap.size := Nat.lt_of_lt_of_le hrb E.hB
  have hap : applyB p ((8 : Nat) : Int) [x0, x1, x2, x3, x4] = takeB p x0 x1 x2 x3 x4 := by rw [apply_fit hmay (by decide)]; rfl
  refine ⟨91, 92, #[pB x.b4], #[pB x.b2], decide (1 ≤ x0) && decide (findB p x0 < 0), rfl, enters_of Tryz.func91 (by kernel_rfl) rfl, enters_of Tryz.func92 (by kernel_rfl) rfl, fTake p a base g x.b4 x.b2 rb ro c x0 V E.h E.d.k.2.2.1 E.d.k.1 hrV hx0 (by have := E.lk; omega), fun e => ?_, fun e W' hb => ?_⟩
  · rw [hap]; unfold takeB
    rw [if_neg]
    rintro ⟨g1, g2⟩
    rw [decide_eq_true g1, (fresh_iff p x0).2 g2] at e
    cases e
  · simp only [Bool.and_eq_true] at e
    rw [hap]; unfold takeB
    rw [if_pos ⟨of_decide_eq_true e.1, (fresh_iff p x0).1 e.2⟩]
    exact dTake p a base g x.b2 rb ro c x0 x1 x2 x3 x4 W' (E.h.under hb) (E.d.k.1.under hb) (Nat.lt_of_lt_of_le hrV hb.size) ((hb.cell (p := ⟨rb, ro, none⟩) hrV).trans hx0) ((hb.cell (p := ⟨rb, ro + 1, none⟩) hrV).trans hx1) ((hb.cell (p := ⟨rb, ro + 2, none⟩) hrV).trans hx2) ((hb.cell (p := ⟨rb, ro + 3, none⟩) hrV).trans hx3) ((hb.cell (p := ⟨rb, ro + 4, none⟩) hrV).trans hx4) (by have := E.lk; omega)

set_option maxRecDepth 100000 in
set_option maxHeartbeats 1000000 in
theorem deed9 (E : DEnv base g B V p a x) (hr : Rd V B A n (iv zs)) (hmay : mayB 9 zs = true) : DeedOk p base g 9 zs x (.slice A n c) V := by
  have hl_ : zs.length = 2 := by
    have h1 := len_of hmay (by decide)
    have e : manyB ((9 : Nat) : Int) = 2 := by decide
    omega
  obtain ⟨x0, x1, rfl⟩ := len2 hl_
  clear hl_
  obtain ⟨rb, ro, rfl, hrb, hn, hcell⟩ := rd_at hr (by simp)
  simp only [List.length_cons, List.length_nil] at hn
  subst hn
  have hx0 := hcell 0 x0 rfl
  have hx1 := hcell 1 x1 rfl
  simp only [Nat.add_zero] at hx0
  have hrV : rb < V.heap.size := Nat.lt_of_lt_of_le hrb E.hB
  have hap : applyB p ((9 : Nat) : Int) [x0, x1] = guardB p x0 x1 := by rw [apply_fit hmay (by decide)]; rfl
  rcases kept_idx p x0 with ⟨h1, h2, h3⟩ | ⟨i, y, h1, h2, h3, h4⟩
  · refine ⟨94, 95, #[pB x.b3], #[pB x.b5], false, rfl, enters_of Tryz.func94 (by kernel_rfl) rfl, enters_of Tryz.func95 (by kernel_rfl) rfl, fGuard_false p a base g x.b3 x.b2 rb ro c x0 x1 V E.h E.d.k.2.1 E.d.k.1 hrV hx0 hx1 (by have := E.lk; omega) (by rw [h3]; rfl), fun _ => ?_, fun e => (by cases e)⟩
    rw [hap]; unfold guardB; rw [if_pos h2]
  · obtain ⟨b, hB⟩ := kps_addr E.h h2
    refine ⟨94, 95, #[pB x.b3], #[pB x.b5], decide (x1 < 2), rfl, enters_of Tryz.func94 (by kernel_rfl) rfl, enters_of Tryz.func95 (by kernel_rfl) rfl, fGuard_true p a base g x.b3 x.b2 rb ro c x0 x1 V E.h E.d.k.2.1 E.d.k.1 hrV hx0 hx1 (by have := E.lk; omega) (by rw [h4]; simp), fun e => ?_, fun e W' hb => ?_⟩
    · rw [hap]; unfold guardB; rw [if_neg (by rw [h3]; simp), if_neg (by simpa using e)]
    · rw [hap]; unfold guardB; rw [if_neg (by rw [h3]; simp), if_pos (by simpa using e), setK_set h1 h2]
      have hh := dGuard p a base g x.b5 x.b2 rb ro c x0 x1 b i y W' (E.h.under hb) (E.d.k.2.2.2.under hb) (E.d.k.1.under hb) (Nat.lt_of_lt_of_le hrV hb.size) ((hb.cell (p := ⟨rb, ro, none⟩) hrV).trans hx0) ((hb.cell (p := ⟨rb, ro + 1, none⟩) hrV).trans hx1) (by have := E.lk; omega) h1 h2 hB
      rw [beq_dec] at hh
      exact hh

set_option maxRecDepth 100000 in
set_option maxHeartbeats 1000000 in
theorem deed10 (E : DEnv base g B V p a x) (hr : Rd V B A n (iv zs)) (hmay : mayB 10 zs = true) : DeedOk p base g 10 zs x (.slice A n c) V := by
  have hl_ : zs.length = 1 := by
    have h1 := len_of hmay (by decide)
    have e : manyB ((10 : Nat) : Int) = 1 := by decide
    omega
  obtain ⟨x0, rfl⟩ := len1 hl_
  clear hl_
  obtain ⟨rb, ro, rfl, hrb, hn, hcell⟩ := rd_at hr (by simp)
  simp only [List.length_cons, List.length_nil] at hn
  subst hn
  have hx0 := hcell 0 x0 rfl
  simp only [Nat.add_zero] at hx0
  have hrV : rb < V.heap.size := Nat.lt_of_lt_of_le hrb E.hB
  have hap : applyB p ((10 : Nat) : Int) [x0] = doneB p x0 := by rw [apply_fit hmay (by decide)]; rfl
  rcases kept_idx p x0 with ⟨h1, h2, h3⟩ | ⟨i, y, h1, h2, h3, h4⟩
  · refine ⟨96, 98, #[pB x.b3, pB x.b5], #[pB x.b5], false, rfl, enters_of Tryz.func96 (by kernel_rfl) rfl, enters_of Tryz.func98 (by kernel_rfl) rfl, fDone_false p a base g x.b3 x.b5 x.b2 rb ro c x0 V E.h E.d.k.2.1 E.d.k.2.2.2 E.d.k.1 hrV hx0 (by have := E.lk; omega) (by rw [h3]; rfl), fun _ => ?_, fun e => (by cases e)⟩
    rw [hap]; simp only [doneB, h2]
  · obtain ⟨b, hB⟩ := kps_addr E.h h2
    refine ⟨96, 98, #[pB x.b3, pB x.b5], #[pB x.b5], decide (y.phase = 1) || decide (y.phase = 7), rfl, enters_of Tryz.func96 (by kernel_rfl) rfl, enters_of Tryz.func98 (by kernel_rfl) rfl, fDone_true p a base g x.b3 x.b5 x.b2 rb ro c x0 b i y V E.h E.d.k.2.1 E.d.k.2.2.2 E.d.k.1 hrV hx0 (by have := E.lk; omega) h1 h2 hB, fun e => ?_, fun e W' hb => ?_⟩
    · rw [hap]; simp only [doneB, h3]
      rw [if_neg]
      rintro (g1 | g1) <;> simp [g1] at e
    · simp only [Bool.or_eq_true, decide_eq_true_eq] at e
      rw [hap]; simp only [doneB, h3]
      rw [if_pos e, setK_set h1 h2]
      exact dDone p a base g x.b5 x.b2 rb ro c x0 b i y W' (E.h.under hb) (E.d.k.2.2.2.under hb) (E.d.k.1.under hb) (Nat.lt_of_lt_of_le hrV hb.size) ((hb.cell (p := ⟨rb, ro, none⟩) hrV).trans hx0) (by have := E.lk; omega) h1 h2 hB

set_option maxRecDepth 100000 in
set_option maxHeartbeats 1000000 in
theorem deed11 (E : DEnv base g B V p a x) (hr : Rd V B A n (iv zs)) (hmay : mayB 11 zs = true) : DeedOk p base g 11 zs x (.slice A n c) V := by
  have hl_ : zs.length = 2 := by
    have h1 := len_of hmay (by decide)
    have e : manyB ((11 : Nat) : Int) = 2 := by decide
    omega
  obtain ⟨x0, x1, rfl⟩ := len2 hl_
  clear hl_
  obtain ⟨rb, ro, rfl, hrb, hn, hcell⟩ := rd_at hr (by simp)
  simp only [List.length_cons, List.length_nil] at hn
  subst hn
  have hx0 := hcell 0 x0 rfl
  have hx1 := hcell 1 x1 rfl
  simp only [Nat.add_zero] at hx0
  have hrV : rb < V.heap.size := Nat.lt_of_lt_of_le hrb E.hB
  have hap : applyB p ((11 : Nat) : Int) [x0, x1] = startB p x0 x1 := by rw [apply_fit hmay (by decide)]; rfl
  have hi : startF p x0 = true ↔ (p.set = true ∧ ¬ p.rf.st = 1 ∧ 1 ≤ x0) := by simp [startF]
  refine ⟨102, 103, #[pB x.b6, pB x.b8], #[pB x.b6, pB x.b7], startF p x0, rfl, enters_of Tryz.func102 (by kernel_rfl) rfl, enters_of Tryz.func103 (by kernel_rfl) rfl, fStart_any p a base g x.b6 x.b8 x.b7 rb ro c x0 V E.h E.d.r.1 E.d.r.2.2 E.d.r.2.1 hrV hx0, fun e => ?_, fun e W' hb => ?_⟩
  · rw [hap]; unfold startB; rw [if_neg (fun h => by rw [hi.2 h] at e; cases e)]
  · rw [hap]; unfold startB; rw [if_pos (hi.1 e)]
    exact dStart p a base g x.b6 x.b7 rb ro c x0 x1 W' (E.h.under hb) (E.d.r.1.under hb) (E.d.r.2.1.under hb) (Nat.lt_of_lt_of_le hrV hb.size) ((hb.cell (p := ⟨rb, ro, none⟩) hrV).trans hx0) ((hb.cell (p := ⟨rb, ro + 1, none⟩) hrV).trans hx1)

set_option maxRecDepth 100000 in
set_option maxHeartbeats 1000000 in
theorem deed12 (E : DEnv base g B V p a x) (hmay : mayB 12 zs = true) : DeedOk p base g 12 zs x (.slice A n c) V := by
  have hap : applyB p ((12 : Nat) : Int) zs = if p.rf.st = 1 then refB p ((12 : Nat) : Int) (zs.getD 0 0) else p := by rw [apply_fit hmay (by decide)]; rfl
  refine ⟨99, 104, #[pB x.b7], #[pB x.b7], p.rf.st == 1, rfl, enters_of Tryz.func99 (by kernel_rfl) rfl, enters_of Tryz.func104 (by kernel_rfl) rfl, active_any p a base g x.b7 A n c V E.h E.d.r.2.1, fun e => ?_, fun e W' hb => ?_⟩
  · rw [hap, if_neg (by simpa using e)]
  · rw [hap, if_pos (by simpa using e)]
    exact dCancel p a base g x.b7 A n c W' (E.h.under hb) (E.d.r.2.1.under hb)

set_option maxRecDepth 100000 in
set_option maxHeartbeats 1000000 in
theorem deed13 (E : DEnv base g B V p a x) (hmay : mayB 13 zs = true) : DeedOk p base g 13 zs x (.slice A n c) V := by
  have hap : applyB p ((13 : Nat) : Int) zs = if p.rf.st = 1 then refB p ((13 : Nat) : Int) (zs.getD 0 0) else p := by rw [apply_fit hmay (by decide)]; rfl
  refine ⟨99, 106, #[pB x.b7], #[pB x.b7], p.rf.st == 1, rfl, enters_of Tryz.func99 (by kernel_rfl) rfl, enters_of Tryz.func106 (by kernel_rfl) rfl, active_any p a base g x.b7 A n c V E.h E.d.r.2.1, fun e => ?_, fun e W' hb => ?_⟩
  · rw [hap, if_neg (by simpa using e)]
  · rw [hap, if_pos (by simpa using e)]
    exact dRoll p a base g x.b7 A n c W' (E.h.under hb) (E.d.r.2.1.under hb)

set_option maxRecDepth 100000 in
set_option maxHeartbeats 1000000 in
theorem deed14 (E : DEnv base g B V p a x) (hr : Rd V B A n (iv zs)) (hmay : mayB 14 zs = true) : DeedOk p base g 14 zs x (.slice A n c) V := by
  have hl_ : zs.length = 1 := by
    have h1 := len_of hmay (by decide)
    have e : manyB ((14 : Nat) : Int) = 1 := by decide
    omega
  obtain ⟨x0, rfl⟩ := len1 hl_
  clear hl_
  obtain ⟨rb, ro, rfl, hrb, hn, hcell⟩ := rd_at hr (by simp)
  simp only [List.length_cons, List.length_nil] at hn
  subst hn
  have hx0 := hcell 0 x0 rfl
  simp only [Nat.add_zero] at hx0
  have hrV : rb < V.heap.size := Nat.lt_of_lt_of_le hrb E.hB
  have hap : applyB p ((14 : Nat) : Int) [x0] = if p.rf.st = 1 then refB p ((14 : Nat) : Int) x0 else p := by rw [apply_fit hmay (by decide)]; rfl
  cases q0 : (p.rf.st == 1) with
  | false =>
    refine ⟨107, 108, #[pB x.b8, pB x.b7], #[pB x.b7], false, rfl, enters_of Tryz.func107 (by kernel_rfl) rfl, enters_of Tryz.func108 (by kernel_rfl) rfl, fPause_false p a base g x.b8 x.b7 (some ⟨rb, ro, none⟩) 1 c V E.h E.d.r.2.2 E.d.r.2.1 q0, fun _ => ?_, fun e => (by cases e)⟩
    rw [hap, if_neg (by simpa using q0)]
  | true =>
    refine ⟨107, 108, #[pB x.b8, pB x.b7], #[pB x.b7], !p.rf.paused, rfl, enters_of Tryz.func107 (by kernel_rfl) rfl, enters_of Tryz.func108 (by kernel_rfl) rfl, fPause_true p a base g x.b8 x.b7 (some ⟨rb, ro, none⟩) 1 c V E.h E.d.r.2.2 E.d.r.2.1 q0, fun e => ?_, fun e W' hb => ?_⟩
    · rw [hap, if_pos (by simpa using q0)]
      have h1 : p.rf.paused = true := by simpa using e
      have h2 : refB p ((14 : Nat) : Int) x0 = { p with rf := pauseR p.rf x0 } := rfl
      rw [h2]
      simp [pauseR, h1]
    · rw [hap, if_pos (by simpa using q0)]
      have h1 : p.rf.paused = false := by simpa using e
      have h2 : refB p ((14 : Nat) : Int) x0 = { p with rf := pauseR p.rf x0 } := rfl
      rw [h2]
      unfold pauseR
      rw [if_neg (by rw [h1]; simp)]
      exact dPause p a base g x.b7 rb ro c x0 W' (E.h.under hb) (E.d.r.2.1.under hb) (Nat.lt_of_lt_of_le hrb E.bB) ((hb.cell (p := ⟨rb, ro, none⟩) hrV).trans hx0)

set_option maxRecDepth 100000 in
set_option maxHeartbeats 1000000 in
theorem deed15 (E : DEnv base g B V p a x) (hmay : mayB 15 zs = true) : DeedOk p base g 15 zs x (.slice A n c) V := by
  have hap : applyB p ((15 : Nat) : Int) zs = if p.rf.st = 1 then refB p ((15 : Nat) : Int) (zs.getD 0 0) else p := by rw [apply_fit hmay (by decide)]; rfl
  cases q0 : (p.rf.st == 1) with
  | false =>
    refine ⟨109, 110, #[pB x.b8, pB x.b7], #[pB x.b7], false, rfl, enters_of Tryz.func109 (by kernel_rfl) rfl, enters_of Tryz.func110 (by kernel_rfl) rfl, fGo_false p a base g x.b8 x.b7 A n c V E.h E.d.r.2.2 E.d.r.2.1 q0, fun _ => ?_, fun e => (by cases e)⟩
    rw [hap, if_neg (by simpa using q0)]
  | true =>
    refine ⟨109, 110, #[pB x.b8, pB x.b7], #[pB x.b7], p.rf.paused, rfl, enters_of Tryz.func109 (by kernel_rfl) rfl, enters_of Tryz.func110 (by kernel_rfl) rfl, fGo_true p a base g x.b8 x.b7 A n c V E.h E.d.r.2.2 E.d.r.2.1 q0, fun e => ?_, fun e W' hb => ?_⟩
    · rw [hap, if_pos (by simpa using q0)]
      have h1 : p.rf.paused = false := by simpa using e
      have h2 : refB p ((15 : Nat) : Int) (zs.getD 0 0) = { p with rf := goR p.rf } := rfl
      rw [h2]
      simp [goR, h1]
    · rw [hap, if_pos (by simpa using q0)]
      have h1 : p.rf.paused = true := by simpa using e
      have h2 : refB p ((15 : Nat) : Int) (zs.getD 0 0) = { p with rf := goR p.rf } := rfl
      rw [h2]
      unfold goR
      rw [if_pos h1]
      exact dGo p a base g x.b7 A n c W' (E.h.under hb) (E.d.r.2.1.under hb)

set_option maxRecDepth 100000 in
set_option maxHeartbeats 1000000 in
theorem deed16 (E : DEnv base g B V p a x) (hmay : mayB 16 zs = true) : DeedOk p base g 16 zs x (.slice A n c) V := by
  have hap : applyB p ((16 : Nat) : Int) zs = if p.rf.st = 1 then refB p ((16 : Nat) : Int) (zs.getD 0 0) else p := by rw [apply_fit hmay (by decide)]; rfl
  refine ⟨99, 111, #[pB x.b7], #[pB x.b7, pB x.b6], p.rf.st == 1, rfl, enters_of Tryz.func99 (by kernel_rfl) rfl, enters_of Tryz.func111 (by kernel_rfl) rfl, active_any p a base g x.b7 A n c V E.h E.d.r.2.1, fun e => ?_, fun e W' hb => ?_⟩
  · rw [hap, if_neg (by simpa using e)]
  · rw [hap, if_pos (by simpa using e)]
    exact dOver p a base g x.b7 x.b6 A n c W' (E.h.under hb) (E.d.r.2.1.under hb) (E.d.r.1.under hb)

set_option maxRecDepth 100000 in
theorem deed_any {k : Nat} (E : DEnv base g B V p a x) (hr : Rd V B A n (iv zs)) (hc : n ≤ c) (hm : c ≤ maxLen) (hmay : mayB k zs = true) : DeedOk p base g k zs x (.slice A n c) V := by
  obtain ⟨h0, h17⟩ := mayB_kind hmay
  rcases kind_cases h17 with rfl | rfl | rfl | rfl | rfl | rfl | rfl | rfl | rfl | rfl | rfl | rfl | rfl | rfl | rfl | rfl | rfl
  · omega
  · exact deed1 E hmay
  · exact deed2 E hr hc hm hmay
  · exact deed3 E hr hmay
  · exact deed4 E hr hmay
  · exact deed5 E hr hmay
  · exact deed6 E hr hmay
  · exact deed7 E hr hmay
  · exact deed8 E hr hmay
  · exact deed9 E hr hmay
  · exact deed10 E hr hmay
  · exact deed11 E hr hmay
  · exact deed12 E hmay
  · exact deed13 E hmay
  · exact deed14 E hr hmay
  · exact deed15 E hmay
  · exact deed16 E hmay

end
end Go.Proofs.YtdaimejlcfhfiaaGreatDoor

/-
  The walks of 'right', 'add', 'Put' and 'Long' of package num. Conditions: those that each theorem names.
-/
namespace Go.Proofs.YtdaimejlcfhfiaaGreatDoor
open Go.RowKit Go.Shelf

def AddInv (base j : Nat) (ys : List Value) (w : World) (v : Value) (w' : World) : Prop :=
  w'.ownsRow base 5 1 v j ys ∧ Below base w w' ∧ KeepsOthers w w' ∧ base ≤ w'.heap.size
/-- No block that was there has turned, but the row of v0. -/
def AddFar (v0 : Value) (w : World) (v : Value) (w' : World) : Prop :=
  w.grownBy w' v0.ownBlock ∧ (v.ownBlock = v0.ownBlock ∨ ∃ g, v.ownBlock = some g ∧ w.heap.size ≤ g)
def AddPost (base : Nat) (k : Nat) (xs : List Value) (w : World) (v0 : Value) (e : Ending) (w' : World) : Prop :=
  ∃ v', e = .returned v' ∧ AddInv base k xs w v' w' ∧ AddFar v0 w v' w'

set_option maxRecDepth 100000 in
theorem addFar_step {w w' w1 : World} {v0 v v1 : Value} {o : Obj} (h : AddFar v0 w v w') (hg : (w'.alloc o).grownBy w1 v.ownBlock) (h1 : v1.ownBlock = v.ownBlock ∨ v1.ownBlock = some (w'.alloc o).heap.size) : AddFar v0 w v1 w1 := by
  obtain ⟨h2, h3⟩ := h
  have hs := h2.size
  refine ⟨⟨hg.os.trans h2.os, hg.tape.trans h2.tape, hg.output.trans h2.output, by have := hg.size; simp at this; omega, fun k hk hne => ?_⟩, ?_⟩
  · have hne' : some k ≠ v.ownBlock := by
      rcases h3 with h3 | ⟨g, h3, h4⟩
      · rw [h3]; exact hne
      · rw [h3]; intro e; injection e with e; omega
    rw [hg.block k (by simp; omega) hne', Below.heap_alloc _ _ _ (by omega), h2.block k hk hne]
  · rcases h1 with h1 | h1
    · rw [h1]; exact h3
    · exact .inr ⟨_, h1, by simp; omega⟩

set_option maxRecDepth 100000 in
theorem addInv_step {base j : Nat} {ys : List Value} {w w' w1 : World} {v v1 : Value} {o : Obj} {u : Value} (h : AddInv base j ys w v w') (h1 : w1.ownsRow base 5 1 v1 (j + 1) (ys ++ [u])) (hg : (w'.alloc o).grownBy w1 v.ownBlock) :
    AddInv base (j + 1) (ys ++ [u]) w v1 w1 := by
  obtain ⟨hr, hb, hk, hs⟩ := h
  refine ⟨h1, ?_, ?_, ?_⟩
  · exact (hb.alloc hs o).trans (below_row (hr.alloc o) hg (by simp; omega))
  · exact (hk.trans (KeepsOthers.alloc _ o)).trans (keeps_row (hr.alloc o) hg)
  · have := hg.size; simp at this; omega

end Go.Proofs.YtdaimejlcfhfiaaGreatDoor

/-
  The walk of 'first' of package num: what comes of taking a number from bytes. Conditions: those that each theorem names.
-/
namespace Go.Proofs.YtdaimejlcfhfiaaGreatDoor
open Go.RowKit Go.Shelf

def takenV (t : Nat × Nat × Nat) : Value := .agg #[.int .i64 (t.1 : Int), .int .i64 (t.2.1 : Int), .int .i64 (t.2.2 : Int)]

def FirstPost (bs : List Nat) (w : World) (e : Ending) (w' : World) : Prop :=
  e = .returned (takenV (first bs)) ∧ Below w.heap.size w w' ∧ KeepsOthers w w'

/-- What holds of the numbers at each digit. -/
structure FirstInv (bs : List Nat) (n N k P : Nat) : Prop where
  le : k ≤ n
  five : k ≤ 5
  pow : P = 128 ^ k
  val : N < P
  same : first bs = scan N k (bs.drop k)

set_option maxRecDepth 100000 in
theorem FirstInv.start (bs : List Nat) (n : Nat) : FirstInv bs n 0 0 1 := ⟨by omega, by omega, rfl, by omega, rfl⟩
set_option maxRecDepth 100000 in
theorem FirstInv.bound {bs : List Nat} {n N k P : Nat} (h : FirstInv bs n N k P) : 1 ≤ P ∧ P ≤ 34359738368 := by
  have h1 : 128 ^ k ≤ 128 ^ 5 := Nat.pow_le_pow_right (by omega) h.five
  have h2 : 0 < 128 ^ k := Nat.pow_pos (by omega)
  rw [h.pow]; exact ⟨h2, by omega⟩
set_option maxRecDepth 100000 in
theorem digit_bound (d P : Nat) (hP : P ≤ 34359738368) : d % 128 * P ≤ 4363686772736 := by
  have h : d % 128 * P ≤ 127 * 34359738368 := Nat.mul_le_mul (by omega) hP
  omega
set_option maxRecDepth 100000 in
theorem big_cast {N d P : Nat} : N + d % 128 * P ≤ 1099511627776 ↔ (N : Int) + (d : Int) % 128 * (P : Int) ≤ 1099511627776 := by
  have hc : ((d % 128 * P : Nat) : Int) = (d : Int) % 128 * (P : Int) := by simp
  omega
set_option maxRecDepth 100000 in
theorem FirstInv.end_ {bs : List Nat} {n N k P : Nat} (h : FirstInv bs n N k P) (hl : bs.length = n) (hk : k = n) : first bs = (0, 0, 10) := by
  rw [h.same, List.drop_of_length_le (by omega)]; rfl
set_option maxRecDepth 100000 in
theorem FirstInv.look {bs : List Nat} {n N k P d : Nat} (h : FirstInv bs n N k P) (hd : bs[k]? = some d) :
    first bs = if 128 ≤ d ∧ k + 1 < 6 then scan (N + d % 128 * P) (k + 1) (bs.drop (k + 1)) else if 128 ≤ d ∨ (d = 0 ∧ 1 < k + 1) ∨ 1099511627776 < N + d % 128 * P then (0, 0, 11) else (N + d % 128 * P, k + 1, 0) := by
  rw [h.same, h.pow]
  have hk : k < bs.length := (List.getElem?_eq_some_iff.1 hd).1
  rw [List.drop_eq_getElem_cons hk]
  have e : bs[k] = d := by rw [List.getElem?_eq_getElem hk] at hd; exact Option.some.inj hd
  rw [e]; rfl
set_option maxRecDepth 100000 in
theorem FirstInv.next {bs : List Nat} {n N k P d : Nat} (h : FirstInv bs n N k P) (hl : bs.length = n) (hd : bs[k]? = some d) (h1 : 128 ≤ d) (h2 : k + 1 < 6) :
    FirstInv bs n (N + d % 128 * P) (k + 1) (P * 128) := by
  have hk : k < bs.length := (List.getElem?_eq_some_iff.1 hd).1
  refine ⟨by omega, by omega, by rw [h.pow, Nat.pow_succ], ?_, ?_⟩
  · have h3 := h.val
    have h4 : d % 128 * P ≤ 127 * P := Nat.mul_le_mul (by omega) (Nat.le_refl _)
    omega
  · rw [h.look hd, if_pos ⟨h1, h2⟩]

end Go.Proofs.YtdaimejlcfhfiaaGreatDoor

/-
  The walk of 'bytes.Clone', and bytes as strings. Conditions: those that each theorem names.
-/
namespace Go.Proofs.YtdaimejlcfhfiaaGreatDoor
open Go.RowKit Go.Shelf

set_option maxRecDepth 100000 in
theorem AddInv.form {base j : Nat} {ys : List Value} {w w' : World} {v : Value} (h : AddInv base j ys w v w') : ∃ A c, v = .slice A j c := by
  rcases h.1.2 with ⟨rfl, rfl⟩ | ⟨g, cap, cur, rfl, _⟩
  · exact ⟨_, _, rfl⟩
  · exact ⟨_, _, rfl⟩

def TwoPost (base k : Nat) (xs : List Value) (w : World) (e : Ending) (w' : World) : Prop :=
  ∃ A c, e = .returned (.tuple #[.slice A k c, .int .i64 0]) ∧ AddInv base k xs w (.slice A k c) w'

/-- A slice of the same elements, of the call's own. -/
def OwnPost (base k : Nat) (xs : List Value) (w : World) (e : Ending) (w' : World) : Prop :=
  ∃ A c, e = .returned (.slice A k c) ∧ AddInv base k xs w (.slice A k c) w'

end Go.Proofs.YtdaimejlcfhfiaaGreatDoor

/-
  What is behind a number: pieces of what 'Take', 'TakeRow' and the iterators need. Conditions: those that each theorem names.
-/
namespace Go.Proofs.YtdaimejlcfhfiaaGreatDoor
open Go.RowKit Go.Shelf

/-- What is behind the number. -/
def behind (bs : List Nat) : List Nat := if (first bs).2.2 = 0 then bs.drop (first bs).2.1 else []

set_option maxRecDepth 100000 in
/-- What a callee has made, said of the caller's start. -/
theorem AddInv.after {base base' j : Nat} {ys : List Value} {w w1 w2 : World} {v : Value} (h : AddInv base' j ys w1 v w2) (hb : Below base w w1) (hk : KeepsOthers w w1) (hbb : base ≤ base') : AddInv base j ys w v w2 :=
  ⟨own_weaker h.1 hbb, hb.trans (h.2.1.mono hbb), hk.trans h.2.2.1, by have := h.2.2.2; omega⟩

set_option maxRecDepth 100000 in
theorem nil_inv {w w' : World} (hb : Below w.heap.size w w') (hk : KeepsOthers w w') : AddInv w.heap.size 0 [] w (.slice none 0 0) w' :=
  ⟨World.ownsRow_nil _ _ _ _, hb, hk, hb.size⟩

end Go.Proofs.YtdaimejlcfhfiaaGreatDoor

/-
  The walks of 'each' and of the iterator that it hands back (package num). Conditions: those that each theorem names.
-/
namespace Go.Proofs.YtdaimejlcfhfiaaGreatDoor
open Go.RowKit Go.Shelf
attribute [local go_sem] Oper.semAt_some

end Go.Proofs.YtdaimejlcfhfiaaGreatDoor

/-
  The walk of 'Row' of package num. Conditions: those that each theorem names.
-/
namespace Go.Proofs.YtdaimejlcfhfiaaGreatDoor
open Go.RowKit Go.Shelf
attribute [local go_sem] Oper.semAt_some

/-- A row that is one. -/
def numRow (l : List Int) : Bool := decide (l.length ≤ 40) && l.all isNum

/-- The bytes that have been put when so many numbers have been gone over. -/
def sofar (n : Nat) (pre : List Int) : List Nat := put n ++ puts (nats pre)
set_option maxRecDepth 100000 in
theorem sofar_pos (n : Nat) (pre : List Int) : 0 < (sofar n pre).length := by have := put_pos n; rw [sofar, List.length_append]; omega
set_option maxRecDepth 100000 in
theorem sofar_snoc (n : Nat) (pre : List Int) (m : Nat) : sofar n (pre ++ [(m : Int)]) = sofar n pre ++ put m := by
  have hn : nats (pre ++ [(m : Int)]) = nats pre ++ [m] := by simp [nats]
  rw [sofar, sofar, hn, puts_snoc, ← List.append_assoc]

set_option maxRecDepth 100000 in
theorem puts_six : ∀ (l : List Int), l.all isNum = true → (puts (nats l)).length ≤ 6 * l.length := by
  intro l
  induction l with
  | nil => intro _; simp [nats, puts]
  | cons x l ih =>
    intro h
    simp only [List.all_cons, Bool.and_eq_true] at h
    have h1 := isNum_iff.1 h.1
    have h2 := put_six (n := x.toNat) (by omega)
    have h3 := ih h.2
    have e : nats (x :: l) = x.toNat :: nats l := rfl
    rw [e, puts_cons, List.length_append, List.length_cons]
    omega
set_option maxRecDepth 100000 in
theorem sofar_six {n : Nat} {l : List Int} (hn : n ≤ 40) (h : l.all isNum = true) : (sofar n l).length ≤ 6 + 6 * l.length := by
  have h1 := put_six (n := n) (by omega)
  have h2 := puts_six l h
  rw [sofar, List.length_append]; omega
set_option maxRecDepth 100000 in
theorem sofar_row (l : List Int) : sofar l.length l = row (nats l) := by simp [sofar, row, nats]
set_option maxRecDepth 100000 in
theorem below_keeps {w w' : World} (h : Below w.heap.size w w') : KeepsOthers w w' :=
  ⟨h.size, fun k o hk _ => (h.block k (by rcases Nat.lt_or_ge k w.heap.size with h1 | h1; exact h1; rw [Array.getElem?_eq_none h1] at hk; cases hk)).trans hk⟩

def RowPost (zs : List Int) (w : World) (e : Ending) (w' : World) : Prop :=
  (numRow zs = true ∧ ∃ A c, e = .returned (.tuple #[.slice A (row (nats zs)).length c, .int .i64 0]) ∧ AddInv w.heap.size (row (nats zs)).length (bv (row (nats zs))) w (.slice A (row (nats zs)).length c) w') ∨
  (numRow zs = false ∧ e = .returned (.tuple #[.slice none 0 0, .int .i64 2]) ∧ Below w.heap.size w w')

end Go.Proofs.YtdaimejlcfhfiaaGreatDoor

/-
  The walks of 'takes' and of the iterator that it hands back (package num). Conditions: those that each theorem names.
-/
namespace Go.Proofs.YtdaimejlcfhfiaaGreatDoor
open Go.RowKit Go.Shelf
attribute [local go_sem] Oper.semAt_some

/-- What may come of taking a number: at most six bytes, and no number above the greatest one. -/
abbrev Tk := { x : Nat × Nat × Nat // x.2.1 ≤ 6 ∧ x.1 ≤ 1099511627776 }
set_option maxRecDepth 100000 in
theorem scan_six : ∀ (bs : List Nat) (n long : Nat), long ≤ 5 → (scan n long bs).2.1 ≤ 6 := by
  intro bs
  induction bs with
  | nil => intro n long _; simp [scan]
  | cons d r ih =>
    intro n long h
    simp only [scan]
    split
    · exact ih _ _ (by omega)
    · split
      · simp
      · simp; omega
set_option maxRecDepth 100000 in
theorem first_le {bs : List Nat} {N K E : Nat} (h : first bs = (N, K, E)) : K ≤ bs.length ∧ N ≤ 1099511627776 ∧ E ≤ 11 := by
  rcases scan_cases bs 0 0 with hc | hc | ⟨N', K', hc, h1, _, h2⟩
  all_goals
    unfold first at h
    rw [hc] at h
    simp only [Prod.mk.injEq] at h
    omega
def firstT (bs : List Nat) : Tk := ⟨first bs, scan_six bs 0 0 (by omega), (first_le (N := (first bs).1) (K := (first bs).2.1) (E := (first bs).2.2) rfl).2.1⟩

/-- What comes of taking, number by number: each with how many bytes it has, up to the first error. -/
def items : Nat → List Nat → List Tk
  | 0, _ => []
  | k + 1, bs => firstT bs :: (if (first bs).2.2 = 0 then items k (bs.drop (first bs).2.1) else [])

/-- What has been taken so far, and what is still to come. -/
structure TakesInv (bs : List Nat) (k n₀ Bs : Nat) (A : Option Addr) (n c : Nat) (J : List Tk → World → Prop) (pre : List Tk) (at_ left : Nat) (W : World) : Prop where
  all : pre ++ items left (bs.drop at_) = items k bs
  le : at_ ≤ n
  many : left ≤ k
  box : W.cell? ⟨Bs, 0, none⟩ = some (.slice A n c)
  rd : Rd W n₀ A n (bv bs)
  inv : J pre W

end Go.Proofs.YtdaimejlcfhfiaaGreatDoor

/-
  The walk of 'TakeRow' of package num. Conditions: those that each theorem names.
-/
namespace Go.Proofs.YtdaimejlcfhfiaaGreatDoor
open Go.RowKit Go.Shelf
attribute [local go_sem] Oper.semAt_some

def ints (l : List Nat) : List Int := l.map fun x : Nat => (x : Int)

/-- What TakeRow answers: the numbers l, the bytes behind, an error's number. -/
def NRowIs (l rest : List Nat) (E : Nat) (w : World) (e : Ending) (w' : World) : Prop :=
  ∃ A1 c1 A2 c2, e = .returned (.tuple #[.slice A1 l.length c1, .slice A2 rest.length c2, .int .i64 (E : Int)]) ∧
    w'.ownsRow w.heap.size 3 1 (.slice A1 l.length c1) l.length (iv (ints l)) ∧ w'.ownsRow w.heap.size 5 1 (.slice A2 rest.length c2) rest.length (bv rest) ∧ Below w.heap.size w w'

set_option maxRecDepth 100000 in
theorem rowIs_nil {E : Nat} {w w' : World} (hb : Below w.heap.size w w') : NRowIs [] [] E w (.returned (.tuple #[.slice none 0 0, .slice none 0 0, .int .i64 (E : Int)])) w' :=
  ⟨none, 0, none, 0, rfl, World.ownsRow_nil _ _ _ _, World.ownsRow_nil _ _ _ _, hb⟩

/-- The bytes behind a row. -/
def behindRow (bs : List Nat) : List Nat := if (takeRow bs).2.2 = 0 then bs.drop (takeRow bs).1 else []
def TRPost (bs : List Nat) (w : World) (e : Ending) (w' : World) : Prop := NRowIs (takeRow bs).2.1 (behindRow bs) (takeRow bs).2.2 w e w'

set_option maxRecDepth 100000 in
theorem boxed_underN {W W' : World} {B : Nat} {t : TypeId} {v : Value} (h : Boxed W B t v) (hb : Below W.heap.size W W') : Boxed W' B t v := (hb.block B h.lt).trans h

/-- How many bytes, and which numbers, have been taken. -/
def sumK (l : List Tk) : Nat := (l.map fun x => x.1.2.1).sum
def vals (l : List Tk) : List Nat := l.map fun x => x.1.1
set_option maxRecDepth 100000 in
theorem sumK_snoc (l : List Tk) (x : Tk) : sumK (l ++ [x]) = sumK l + x.1.2.1 := by simp [sumK]
set_option maxRecDepth 100000 in
theorem vals_snoc (l : List Tk) (x : Tk) : iv (ints (vals (l ++ [x]))) = iv (ints (vals l)) ++ [.int .i64 (x.1.1 : Int)] := by simp [iv, ints, vals]
set_option maxRecDepth 100000 in
theorem sumK_le (l : List Tk) : sumK l ≤ 6 * l.length := by
  induction l with
  | nil => simp [sumK]
  | cons x l ih =>
    have := x.2.1
    simp only [sumK, List.map_cons, List.sum_cons, List.length_cons] at ih ⊢
    omega
set_option maxRecDepth 100000 in
theorem items_err : ∀ (k : Nat) (bs : List Nat) (p : List Tk) (x : Tk), (p ++ [x]) <+: items k bs → x.1.2.2 ≠ 0 → (takes k bs).2.2 = x.1.2.2 := by
  intro k
  induction k with
  | zero => intro bs p x h _; simp [items] at h
  | succ k ih =>
    intro bs p x h hx
    simp only [items] at h
    simp only [takes]
    cases p with
    | nil =>
      simp only [List.nil_append, List.cons_prefix_cons] at h
      have h1 : x.1 = first bs := by rw [h.1]; rfl
      rw [h1] at hx ⊢
      rw [if_neg hx]
    | cons y p =>
      simp only [List.cons_append, List.cons_prefix_cons] at h
      by_cases h0 : (first bs).2.2 = 0
      · rw [if_pos h0] at h ⊢
        exact ih _ p x h.2 hx
      · rw [if_neg h0] at h
        simp at h
set_option maxRecDepth 100000 in
theorem items_ok : ∀ (k : Nat) (bs : List Nat), (∀ x ∈ items k bs, x.1.2.2 = 0) → takes k bs = (sumK (items k bs), vals (items k bs), 0) := by
  intro k
  induction k with
  | zero => intro bs _; rfl
  | succ k ih =>
    intro bs h
    have h0 : (first bs).2.2 = 0 := h (firstT bs) (by simp [items])
    simp only [items, if_pos h0] at h ⊢
    simp only [takes]
    rw [if_pos h0, ih _ (fun x hx => h x (by simp [hx]))]
    simp [sumK, vals, firstT]
set_option maxRecDepth 100000 in
theorem takeRow_ok {bs : List Nat} {N K : Nat} (hF : first bs = (N, K, 0)) (hN : N ≤ 40) (h : ∀ x ∈ items N (bs.drop K), x.1.2.2 = 0) : takeRow bs = (K + sumK (items N (bs.drop K)), vals (items N (bs.drop K)), 0) := by
  have h1 := items_ok _ _ h
  unfold takeRow
  simp only [hF, h1]
  rw [if_neg (by simp), if_neg (by omega), if_neg (by simp)]
set_option maxRecDepth 100000 in
theorem takeRow_bad {bs : List Nat} {N K : Nat} (hF : first bs = (N, K, 0)) (hN : N ≤ 40) {p : List Tk} {x : Tk} (h : (p ++ [x]) <+: items N (bs.drop K)) (hx : x.1.2.2 ≠ 0) : takeRow bs = (0, [], x.1.2.2) := by
  have h1 := items_err _ _ p x h hx
  unfold takeRow
  simp only [hF, h1]
  rw [if_neg (by simp), if_neg (by omega), if_pos hx]

set_option maxRecDepth 100000 in
theorem items_len : ∀ (k : Nat) (bs : List Nat), (items k bs).length ≤ k := by
  intro k
  induction k with
  | zero => intro bs; simp [items]
  | succ k ih =>
    intro bs
    simp only [items, List.length_cons]
    split
    · have := ih (bs.drop (first bs).2.1); omega
    · simp

end Go.Proofs.YtdaimejlcfhfiaaGreatDoor

/-
  Small words for what calls package num: literals, appends, slices cut, rows put and taken. Conditions: those that each theorem names.
-/
namespace Go.Proofs.YtdaimejlcfhfiaaGreatDoor
open Go.RowKit Go.Shelf

set_option maxRecDepth 100000 in
theorem AddInv.rd {base j : Nat} {ys : List Value} {w w' : World} {A : Option Addr} {c : Nat} (h : AddInv base j ys w (.slice A j c) w') : Rd w' w'.heap.size A j ys := Rd.of_own h.1

set_option maxRecDepth 100000 in
theorem AddInv.cap {base j : Nat} {ys : List Value} {w w' : World} {A : Option Addr} {c : Nat} (h : AddInv base j ys w (.slice A j c) w') : j ≤ c := by
  rcases h.1.2 with ⟨h1, h2⟩ | ⟨g, cap, cur, h1, _, _, h2, _⟩
  · omega
  · injection h1 with _ _ h3
    omega

set_option maxRecDepth 100000 in
theorem put_take_iff {N M : Nat} : put N = (put M).take (put N).length ↔ N = M := by
  refine ⟨fun h => ?_, fun h => by subst h; rw [List.take_length]⟩
  have h1 : put N ++ (put M).drop (put N).length = put M ++ [] := by
    conv => lhs; lhs; rw [h]
    rw [List.take_append_drop, List.append_nil]
  exact (put_prefix N M _ _ h1).1

set_option maxRecDepth 100000 in
theorem nats_ints (l : List Nat) : nats (ints l) = l := by
  induction l with
  | nil => rfl
  | cons x l ih => simp only [nats, ints, List.map_cons, Int.toNat_natCast] at ih ⊢; rw [ih]

set_option maxRecDepth 100000 in
theorem ints_all {l : List Nat} (h : ∀ n ∈ l, n ≤ 1099511627776) : (ints l).all isNum = true := by
  simp only [List.all_eq_true, ints, List.mem_map]
  rintro x ⟨y, hy, rfl⟩
  exact isNum_yes (by omega) (by have := h y hy; omega)

set_option maxRecDepth 100000 in
theorem row_pos (l : List Nat) : 0 < (row l).length := by have := put_pos l.length; rw [row, List.length_append]; omega

set_option maxRecDepth 100000 in
theorem puts_len (l : List Nat) (h : ∀ n ∈ l, n ≤ 1099511627776) : (puts l).length ≤ 6 * l.length := by
  have := puts_six (ints l) (ints_all h)
  rw [nats_ints] at this
  simpa [ints] using this

set_option maxRecDepth 100000 in
theorem put_all {N : Nat} {k : Nat} : ∀ x ∈ (put N).take k, x < 256 := fun x hx => put_bytes N x (List.mem_of_mem_take hx)

set_option maxRecDepth 100000 in
theorem row_bytes (l : List Nat) : ∀ x ∈ row l, x < 256 := by
  intro x hx
  simp only [row, puts, List.mem_append, List.mem_flatMap] at hx
  rcases hx with hx | ⟨y, _, hx⟩
  · exact put_bytes _ x hx
  · exact put_bytes _ x hx

end Go.Proofs.YtdaimejlcfhfiaaGreatDoor

/-
  The walks of 'row' of package record and of the iterator that it hands back: a record's kind, then its numbers. Conditions: those that each theorem names.
-/
namespace Go.Proofs.YtdaimejlcfhfiaaGreatDoor
open Go.RowKit Go.Shelf
attribute [local go_sem] Oper.semAt_some

set_option maxRecDepth 100000 in
set_option maxHeartbeats 400000 in
theorem rowOf_any (k : Nat) (A : Option Addr) (n c : Nat) (w : World) :
    Calls Tryz.prog 61 #[.agg #[.int .u8 (k : Int), .slice A n c]] w fun e w' => e = .returned (.func (.func 112) #[] #[.pointer (some ⟨w.heap.size, 0, none⟩)]) ∧ w' = w.alloc (.cells #[.int .u8 (k : Int), .slice A n c] 32) := by
  go_enter Tryz.func61, Tryz.ntmps61
  go_wp2
  go_ret
  exact ⟨rfl, rfl⟩

/-- Where the iterator stands: what has been handed over, what is next. -/
def IterAt (l Bn n₀ : Nat) (A : Option Addr) (n c : Nat) (zs xs : List Int) (J : List Int → World → Prop) (a' : Act) (w' : World) : Prop :=
  ∃ (pre rest : List Int) (x : Int) (u5 u6 u7 u8 u9 u10 u11 u12 u13 u14 u15 u16 u17 u18 u19 u20 u21 u22 u23 u24 u25 : Value), a' = { tmps := #[.func (.yield l) #[] #[], .pointer (some ⟨Bn, 0, none⟩), undef, .int .i64 x, .int .i64 (pre.length : Int), u5, u6, u7, u8, u9, u10, u11, u12, u13, u14, u15, u16, u17, u18, u19, u20, u21, u22, u23, u24, u25], defers := [] } ∧ xs = pre ++ x :: rest ∧ w'.cell? ⟨Bn, 1, none⟩ = some (.slice A n c) ∧ Rd w' n₀ A n (iv zs) ∧ J pre w'

set_option maxRecDepth 100000 in
set_option maxHeartbeats 1000000 in
theorem rowOf1_in (m l Bn n₀ : Nat) (k : Nat) (hk : k < 256) (A : Option Addr) (n c : Nat) (zs : List Int) (hn : n ≤ maxLen) (J Jx : List Int → World → Prop)
    (hY : ∀ pre x W, J pre W → pre.length < ((k : Int) :: zs).length → YieldAt Fence.wide (m - 1) Tryz.prog l #[.int .i64 x] W fun e W' =>
      (e = .returned (.bool true) ∧ J (pre ++ [x]) W' ∧ KpB n₀ Bn W W') ∨ (e = .returned (.bool false) ∧ Jx (pre ++ [x]) W'))
    (W : World) (hBn : W.cell? ⟨Bn, 0, none⟩ = some (.int .u8 (k : Int))) (hBn1 : W.cell? ⟨Bn, 1, none⟩ = some (.slice A n c)) (hr : Rd W n₀ A n (iv zs)) (h0 : J [] W) :
    CallsIn Fence.wide m Tryz.prog 112 #[.func (.yield l) #[] #[], .pointer (some ⟨Bn, 0, none⟩)] W fun e W' => (∃ v, e = .returned v) ∧
      ((∃ ys, ys = (k : Int) :: zs ∧ J ys W') ∨ (∃ pre, pre <+: ((k : Int) :: zs) ∧ Jx pre W')) := by
  unfold maxLen at hn
  have HY := Lib.hid hY
  clear hY
  have Hr := Lib.hid hr
  clear hr
  obtain ⟨xs, hxs⟩ : ∃ xs, (k : Int) :: zs = xs := ⟨_, rfl⟩
  have hlen : xs.length = n + 1 := by have := Hr.out.1; rw [iv_length] at this; rw [← hxs]; simp [this]
  rw [hxs] at HY ⊢
  have Hxs := Lib.hid hxs
  clear hxs
  have hk' : (k : Int) < 256 := by omega
  refine callsIn_of_wp Tryz.func112 rfl trivial ?_ rfl
  simp only [Tryz.ntmps112, List.size_toArray, List.length_cons, List.length_nil, Nat.reduceAdd, Nat.reduceSub, Array.replicate_succ, Array.replicate_zero, List.push_toArray, List.append_toArray, List.nil_append, List.cons_append]
  gi_wp2_with fail
  refine wpIn_wide.2 (wp_scope_back_behind 0 (IterAt l Bn n₀ A n c zs xs J)
    (fun a' _ => n + 1 - (intOf (a'.tmps.getD 4 undef)).toNat) rfl (wpIn_wide (n := m).1 ?ahead) (fun a' w' hJ' => wpIn_wide (n := m).1 ?pass))
  case ahead =>
    gi_wp2_with fail
    exact ⟨[], zs, k, _, _, _, _, _, _, _, _, _, _, _, _, _, _, _, _, _, _, _, _, _, rfl, Hxs.out.symm, hBn1, Hr.out, h0⟩
  case pass =>
    obtain ⟨pre, rest, x, u5, u6, u7, u8, u9, u10, u11, u12, u13, u14, u15, u16, u17, u18, u19, u20, u21, u22, u23, u24, u25, rfl, hx, hBn', hr', hJp⟩ := hJ'
    clear hBn hBn1
    have Hr' := Lib.hid hr'
    have Hx := Lib.hid hx
    have HJ := Lib.hid hJp
    have hl : pre.length + rest.length = n := by rw [hx, List.length_append] at hlen; simp at hlen; omega
    clear hr' hx hJp h0 Hr hlen
    have hpn : pre.length ≤ n := by omega
    obtain ⟨fn, tmps, assign, body, hy, hR⟩ := HY.out pre x w' HJ.out (by rw [Hx.out]; simp)
    have HR := Lib.hid hR
    have Hl := Lib.hid hl
    clear hR hl
    gi_wp2_with fail
    refine ⟨fun h => (by cases h), HR.out.mono ?_⟩
    rintro e W3 (⟨rfl, hJ3, hk3⟩ | ⟨rfl, hJx3⟩)
    · have hb3 : W3.cell? ⟨Bn, 1, none⟩ = some (.slice A n c) := (World.cell?_of_block (a := ⟨Bn, 1, none⟩) hk3.2).trans hBn'
      have HJ3 := Lib.hid hJ3
      have HK3 := Lib.hid hk3
      clear hJ3 hk3
      cases rest with
      | nil =>
        have he : pre.length = n := by have := Hl.out; simpa using this
        have heq : ((pre.length : Int) == (n : Int)) = true := by simp [he]
        clear he
        gi_wp2_with fail
        simp only [Exit.jump]
        refine bodyPost_ret (results_none rfl _ _ _) rfl ?_
        exact ⟨⟨_, rfl⟩, .inl ⟨pre ++ [x], Hx.out.symm, HJ3.out⟩⟩
      | cons y rest =>
        have hlt : (pre.length : Int) < (n : Int) := by have := Hl.out; simp at this; omega
        have hltn : pre.length < n := by omega
        have hne : ((pre.length : Int) == (n : Int)) = false := by rw [beq_eq_false_iff_ne]; omega
        have Hr3 := Lib.hid (Hr'.out.below HK3.out.1)
        obtain ⟨b, off, rfl, hb, hc⟩ := Hr3.out.2 (by omega)
        have hcell := hc pre.length hltn
        have e1 : (iv zs)[pre.length]? = some (.int .i64 y) := by
          have h1 : xs[pre.length + 1]? = some y := by rw [Hx.out]; simp
          rw [← Hxs.out, List.getElem?_cons_succ] at h1
          simp [iv, h1]
        rw [e1] at hcell
        clear e1 hc
        gi_wp2_with fail
        refine wpIn_goto ?_
        have el : ((pre.length : Int) + 1) = ((pre ++ [x]).length : Int) := by simp
        rw [el]
        refine ⟨rfl, ⟨pre ++ [x], rest, y, _, _, _, _, _, _, _, _, _, _, _, _, _, _, _, _, _, _, _, _, _, rfl, by rw [Hx.out]; simp, hb3, Hr3.out, HJ3.out⟩, ?_⟩
        simp [intOf]; omega
    · have HJx := Lib.hid hJx3
      clear hJx3
      gi_wp2_with fail
      simp only [Exit.jump]
      refine bodyPost_ret (results_none rfl _ _ _) rfl ?_
      exact ⟨⟨_, rfl⟩, .inr ⟨pre ++ [x], ⟨rest, by rw [Hx.out]; simp⟩, HJx.out⟩⟩

set_option maxRecDepth 100000 in
/-- The iterator hands over the record's kind, then its numbers. -/
theorem rowOf_stops (m Bn n₀ : Nat) (k : Nat) (hk : k < 256) (A : Option Addr) (n c : Nat) (zs : List Int) (hn : n ≤ maxLen) (w : World) (hBl : Bn < w.heap.size) (hn₀ : n₀ ≤ w.heap.size) (hBn : w.cell? ⟨Bn, 0, none⟩ = some (.int .u8 (k : Int))) (hBn1 : w.cell? ⟨Bn, 1, none⟩ = some (.slice A n c)) (hr : Rd w n₀ A n (iv zs)) :
    SeqStopsK Fence.wide m Tryz.prog 112 #[.pointer (some ⟨Bn, 0, none⟩)] (fun x : Int => #[Value.int .i64 x]) (KpB n₀ Bn) (fun ys => ys = (k : Int) :: zs) (fun pre => pre <+: ((k : Int) :: zs)) ((k : Int) :: zs).length w := fun l J Jx W hW _ _ hY h0 =>
  rowOf1_in m l Bn n₀ k hk A n c zs hn J Jx hY W ((hW.cell (p := ⟨Bn, 0, none⟩) hBl).trans hBn) ((hW.cell (p := ⟨Bn, 1, none⟩) hBl).trans hBn1) (hr.below (hW.mono hn₀)) h0

end Go.Proofs.YtdaimejlcfhfiaaGreatDoor
