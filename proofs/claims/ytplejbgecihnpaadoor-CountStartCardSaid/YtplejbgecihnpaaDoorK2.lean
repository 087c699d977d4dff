/-
  Texts that the walk of a statement over brains leans on, joined (KpRow, BrRow, WalkAt, BrRefA, CfFloor, RegionIn, RangeMem, Scope2, BrIter, BrPlace, BrBool, BrRising). Conditions: those that each theorem names.
-/
import Derived.Test.YtplejbgecihnpaaDoorK0
import Derived.Test.YtplejbgecihnpaaDoorK1
import Derived.Laws.StructEq
import Derived.ProofKit
import Derived.Below
import Derived.Deep.Draws
import Derived.Deep.DeepCutAuto
import Derived.WalkLawsBesides
import Derived.OrdersIn
import Derived.RangeFuncNested

namespace Go.Proofs.YtplejbgecihnpaaDoor
open Go.RowKit Go.Shelf

def Kp.vs (x : Kp) : List Value := [.int .i64 x.id, .int .i64 x.tok, .int .i64 x.ver, .int .i64 x.zone, .int .u8 x.phase, .int .i64 x.since, .bool x.guard, .bool x.done]
abbrev Kp.v (x : Kp) : Value := .agg #[.int .i64 x.id, .int .i64 x.tok, .int .i64 x.ver, .int .i64 x.zone, .int .u8 x.phase, .int .i64 x.since, .bool x.guard, .bool x.done]
abbrev Kp.cells (x : Kp) : Array Value := #[.int .i64 x.id, .int .i64 x.tok, .int .i64 x.ver, .int .i64 x.zone, .int .u8 x.phase, .int .i64 x.since, .bool x.guard, .bool x.done]
set_option maxRecDepth 100000 in
theorem Kp.vs_len (x : Kp) : x.vs.length = 8 := rfl
set_option maxRecDepth 100000 in
theorem Kp.vs_one (x : Kp) : ∀ u ∈ x.vs, u.oneCell' = true := by
  intro u hu
  simp only [Kp.vs, List.mem_cons, List.not_mem_nil, or_false] at hu
  rcases hu with rfl | rfl | rfl | rfl | rfl | rfl | rfl | rfl <;> rfl
set_option maxRecDepth 100000 in
theorem info_kp : (Tryd.prog.info? 32).map (fun i => (i.zero, i.size, i.bytes)) = some (some (.agg (Kp.vs ⟨0, 0, 0, 0, 0, 0, false, false⟩).toArray), 8, 56) := by kernel_rfl

structure KpAt (w : World) (b o : Nat) (x : Kp) : Prop where
  c0 : w.cell? ⟨b, o, none⟩ = some (.int .i64 x.id)
  c1 : w.cell? ⟨b, o + 1, none⟩ = some (.int .i64 x.tok)
  c2 : w.cell? ⟨b, o + 2, none⟩ = some (.int .i64 x.ver)
  c3 : w.cell? ⟨b, o + 3, none⟩ = some (.int .i64 x.zone)
  c4 : w.cell? ⟨b, o + 4, none⟩ = some (.int .u8 x.phase)
  c5 : w.cell? ⟨b, o + 5, none⟩ = some (.int .i64 x.since)
  c6 : w.cell? ⟨b, o + 6, none⟩ = some (.bool x.guard)
  c7 : w.cell? ⟨b, o + 7, none⟩ = some (.bool x.done)
abbrev RdK (w : World) (B : Nat) (A : Option Addr) (n : Nat) (l : List Kp) : Prop := RdF 8 Kp.vs w B A n l
set_option maxRecDepth 100000 in
theorem RdK.at_ {w : World} {B n : Nat} {A : Option Addr} {l : List Kp} (h : RdK w B A n l) (hn : 0 < n) : ∃ b off, A = some ⟨b, off, none⟩ ∧ b < B ∧ ∀ j x, l[j]? = some x → KpAt w b (off + j * 8) x := by
  obtain ⟨b, off, e, hlt, hc⟩ := h.2 hn
  exact ⟨b, off, e, hlt, fun j x hx => ⟨hc j x hx 0 (by omega), hc j x hx 1 (by omega), hc j x hx 2 (by omega), hc j x hx 3 (by omega), hc j x hx 4 (by omega), hc j x hx 5 (by omega), hc j x hx 6 (by omega), hc j x hx 7 (by omega)⟩⟩
/-- A row of one's own. -/
def KpsAt (base : Nat) (w : World) (v : Value) (l : List Kp) : Prop := w.ownsRow base 32 8 v l.length (l.flatMap Kp.vs)
section
variable {base base' : Nat} {w w' : World} {v : Value} {m : List Kp}
set_option maxRecDepth 100000 in
theorem KpsAt.nil_ (base : Nat) (w : World) : KpsAt base w (.slice none 0 0) [] := World.ownsRow_nil _ _ _ _
set_option maxRecDepth 100000 in
theorem KpsAt.form (h : KpsAt base w v m) : ∃ A c, v = .slice A m.length c := own_formF h
set_option maxRecDepth 100000 in
theorem KpsAt.under (h : KpsAt base w v m) (hb : Below w.heap.size w w') : KpsAt base w' v m := own_under h hb
set_option maxRecDepth 100000 in
theorem KpsAt.weaker (h : KpsAt base' w v m) (hb : base ≤ base') : KpsAt base w v m := own_weaker h hb
set_option maxRecDepth 100000 in
theorem KpsAt.only {g : Nat} {t : TypeId} {cs : Array Value} (h : KpsAt base w v m) (k : Only g w w') (hw : Whole w g t cs) (hne : 32 ≠ t) : KpsAt base w' v m := k.own h hw hne
set_option maxRecDepth 100000 in
theorem KpsAt.read {A : Option Addr} {c : Nat} (h : KpsAt base w (.slice A m.length c) m) : RdK w w.heap.size A m.length m := RdF.of_own Kp.vs_len (by omega) h
end
set_option maxRecDepth 100000 in
theorem kps_app (w : World) (base : Nat) (v : Value) (l : List Kp) (h : KpsAt base w v l) (B : Nat) (A : Option Addr) (m c : Nat) (l' : List Kp) (hr : RdK w B A m l') (hm : l.length + m ≤ 1000000) (hbase : base ≤ w.heap.size) :
    ∃ A' c' w', (Builtin.append_ #[26, 26] 26 #[v, .slice A m c]).run Tryd.prog w = .ok (.slice A' (l.length + m) c') w' ∧ KpsAt base w' (.slice A' (l.length + m) c') (l ++ l') ∧ w.grownBy w' v.ownBlock ∧ (∀ b t cs, Whole w b t cs → 32 ≠ t → Whole w' b t cs) := by
  obtain ⟨v', w', g1, g2, g3⟩ := run_appF Tryd.underlying26 info_kp rfl (by decide) Kp.vs_len Kp.vs_one w base v l.length _ h B A m c l' hr (by unfold maxLen; omega) (by omega) hbase
  obtain ⟨A', c', rfl⟩ := own_formF g2
  refine ⟨A', c', w', g1, ?_, g3, fun b t cs hw hne => hw.grown g3 (Ne.symm (own_apart_F hne h hw))⟩
  unfold KpsAt
  rw [List.length_append, hr.len, List.flatMap_append]
  exact g2
set_option maxRecDepth 100000 in
theorem rdK_whole {W : World} {b : Nat} {x : Kp} (h : Whole W b 32 #[.int .i64 x.id, .int .i64 x.tok, .int .i64 x.ver, .int .i64 x.zone, .int .u8 x.phase, .int .i64 x.since, .bool x.guard, .bool x.done]) : RdK W (b + 1) (some ⟨b, 0, none⟩) 1 [x] := by
  refine ⟨rfl, fun _ => ⟨b, 0, rfl, by omega, ?_⟩⟩
  rintro (_ | j) y hy i hi
  · simp only [List.getElem?_cons_zero, Option.some.injEq] at hy
    subst hy
    simp only [Nat.zero_mul, Nat.zero_add]
    rcases (by omega : i = 0 ∨ i = 1 ∨ i = 2 ∨ i = 3 ∨ i = 4 ∨ i = 5 ∨ i = 6 ∨ i = 7) with rfl | rfl | rfl | rfl | rfl | rfl | rfl | rfl
    · exact h.cell 0
    · exact h.cell 1
    · exact h.cell 2
    · exact h.cell 3
    · exact h.cell 4
    · exact h.cell 5
    · exact h.cell 6
    · exact h.cell 7
  · simp at hy

end Go.Proofs.YtplejbgecihnpaaDoor

namespace Go.Proofs.YtplejbgecihnpaaDoor
open Go.RowKit Go.Shelf

def It.vs (x : It) : List Value := [.int .i64 x.tok, .int .i64 x.ver, .int .i64 x.zone, .bool x.warm]
set_option maxRecDepth 100000 in
theorem It.vs_len (x : It) : x.vs.length = 4 := rfl
set_option maxRecDepth 100000 in
theorem It.vs_one (x : It) : ∀ u ∈ x.vs, u.oneCell' = true := by
  intro u hu
  simp only [It.vs, List.mem_cons, List.not_mem_nil, or_false] at hu
  rcases hu with rfl | rfl | rfl | rfl <;> rfl
set_option maxRecDepth 100000 in
theorem info_it : (Tryd.prog.info? 34).map (fun i => (i.zero, i.size, i.bytes)) = some (some (.agg (It.vs ⟨0, 0, 0, false⟩).toArray), 4, 32) := by kernel_rfl
structure ItAt (w : World) (b o : Nat) (x : It) : Prop where
  c0 : w.cell? ⟨b, o, none⟩ = some (.int .i64 x.tok)
  c1 : w.cell? ⟨b, o + 1, none⟩ = some (.int .i64 x.ver)
  c2 : w.cell? ⟨b, o + 2, none⟩ = some (.int .i64 x.zone)
  c3 : w.cell? ⟨b, o + 3, none⟩ = some (.bool x.warm)
abbrev RdI (w : World) (B : Nat) (A : Option Addr) (n : Nat) (l : List It) : Prop := RdF 4 It.vs w B A n l
set_option maxRecDepth 100000 in
theorem RdI.at_ {w : World} {B n : Nat} {A : Option Addr} {l : List It} (h : RdI w B A n l) (hn : 0 < n) : ∃ b off, A = some ⟨b, off, none⟩ ∧ b < B ∧ ∀ j x, l[j]? = some x → ItAt w b (off + j * 4) x := by
  obtain ⟨b, off, e, hlt, hc⟩ := h.2 hn
  exact ⟨b, off, e, hlt, fun j x hx => ⟨hc j x hx 0 (by omega), hc j x hx 1 (by omega), hc j x hx 2 (by omega), hc j x hx 3 (by omega)⟩⟩
/-- Rows of one's own. -/
def ItsAt (base : Nat) (w : World) (v : Value) (l : List It) : Prop := w.ownsRow base 34 4 v l.length (l.flatMap It.vs)
section
variable {base base' : Nat} {w w' : World} {v : Value} {l : List It}
set_option maxRecDepth 100000 in
theorem ItsAt.nil_ (base : Nat) (w : World) : ItsAt base w (.slice none 0 0) [] := World.ownsRow_nil _ _ _ _
set_option maxRecDepth 100000 in
theorem ItsAt.form (h : ItsAt base w v l) : ∃ A c, v = .slice A l.length c := own_formF h
set_option maxRecDepth 100000 in
theorem ItsAt.under (h : ItsAt base w v l) (hb : Below w.heap.size w w') : ItsAt base w' v l := own_under h hb
set_option maxRecDepth 100000 in
theorem ItsAt.weaker (h : ItsAt base' w v l) (hb : base ≤ base') : ItsAt base w v l := own_weaker h hb
set_option maxRecDepth 100000 in
theorem ItsAt.only {g : Nat} {t : TypeId} {cs : Array Value} (h : ItsAt base w v l) (k : Only g w w') (hw : Whole w g t cs) (hne : 34 ≠ t) : ItsAt base w' v l := k.own h hw hne
set_option maxRecDepth 100000 in
theorem ItsAt.read {A : Option Addr} {c : Nat} (h : ItsAt base w (.slice A l.length c) l) : RdI w w.heap.size A l.length l := RdF.of_own It.vs_len (by omega) h
end
set_option maxRecDepth 100000 in
/-- 'append(v, x...)' of what is meant. -/
theorem its_app (w : World) (base : Nat) (v : Value) (l : List It) (h : ItsAt base w v l) (B : Nat) (A : Option Addr) (m c : Nat) (l' : List It) (hr : RdI w B A m l') (hm : l.length + m ≤ 1000000) (hbase : base ≤ w.heap.size) :
    ∃ A' c' w', (Builtin.append_ #[25, 25] 25 #[v, .slice A m c]).run Tryd.prog w = .ok (.slice A' (l.length + m) c') w' ∧ ItsAt base w' (.slice A' (l.length + m) c') (l ++ l') ∧ w.grownBy w' v.ownBlock ∧ (∀ b t cs, Whole w b t cs → 34 ≠ t → Whole w' b t cs) := by
  obtain ⟨v', w', g1, g2, g3⟩ := run_appF Tryd.underlying25 info_it rfl (by decide) It.vs_len It.vs_one w base v l.length _ h B A m c l' hr (by unfold maxLen; omega) (by omega) hbase
  obtain ⟨A', c', rfl⟩ := own_formF g2
  refine ⟨A', c', w', g1, ?_, g3, fun b t cs hw hne => hw.grown g3 (Ne.symm (own_apart_F hne h hw))⟩
  unfold ItsAt
  rw [List.length_append, hr.len, List.flatMap_append]
  exact g2
abbrev Rf.cells (r : Rf) : Array Value := #[.int .u8 r.st, .int .i64 r.fr, .int .i64 r.to_, .int .i64 r.step, .bool r.paused, .int .i64 r.since, .int .i64 r.fails]
/-- Where a brain's rows lie: its marks, what is meant, what is kept. -/
structure Ad where
  C : Option Addr
  e : Nat
  A : Option Addr
  c : Nat
  B : Option Addr
  d : Nat
abbrev brC (p : Br) (a : Ad) : Array Value := #[.int .i64 p.ep, .int .i64 p.sq, .bool p.set, .int .i64 p.cf.f0, .int .i64 p.cf.f1, .int .i64 p.cf.f2, .int .i64 p.cf.f3, .int .i64 p.cf.f4, .int .i64 p.cf.f5, .int .i64 p.cf.f6, .int .i64 p.cf.f7, .int .i64 p.cf.f8, .int .i64 p.cf.f9, .int .i64 p.cf.f10, .int .i64 p.cf.f11, .int .i64 p.cf.f12, .bool p.cf.sk, .slice a.C p.cf.ms.length a.e, .slice a.A p.its.length a.c, .slice a.B p.kps.length a.d, .int .u8 p.rf.st, .int .i64 p.rf.fr, .int .i64 p.rf.to_, .int .i64 p.rf.step, .bool p.rf.paused, .int .i64 p.rf.since, .int .i64 p.rf.fails]
abbrev brV (p : Br) (a : Ad) : Value := .agg #[.int .i64 p.ep, .int .i64 p.sq, .bool p.set, .int .i64 p.cf.f0, .int .i64 p.cf.f1, .int .i64 p.cf.f2, .int .i64 p.cf.f3, .int .i64 p.cf.f4, .int .i64 p.cf.f5, .int .i64 p.cf.f6, .int .i64 p.cf.f7, .int .i64 p.cf.f8, .int .i64 p.cf.f9, .int .i64 p.cf.f10, .int .i64 p.cf.f11, .int .i64 p.cf.f12, .bool p.cf.sk, .slice a.C p.cf.ms.length a.e, .slice a.A p.its.length a.c, .slice a.B p.kps.length a.d, .int .u8 p.rf.st, .int .i64 p.rf.fr, .int .i64 p.rf.to_, .int .i64 p.rf.step, .bool p.rf.paused, .int .i64 p.rf.since, .int .i64 p.rf.fails]
/-- A brain's rows read below B. -/
structure RdB_ (w : World) (Z : Nat) (p : Br) (a : Ad) : Prop where
  ms : Rd w Z a.C p.cf.ms.length (iv p.cf.ms)
  its : RdI w Z a.A p.its.length p.its
  kps : RdK w Z a.B p.kps.length p.kps
  ce : p.cf.ms.length ≤ a.e
  em : a.e ≤ maxLen
  cc : p.its.length ≤ a.c
  cd : p.kps.length ≤ a.d
set_option maxRecDepth 100000 in
theorem RdB_.below {w w' : World} {Z : Nat} {p : Br} {a : Ad} (h : RdB_ w Z p a) (hb : Below Z w w') : RdB_ w' Z p a := ⟨h.ms.below hb, h.its.below hb, h.kps.below hb, h.ce, h.em, h.cc, h.cd⟩
set_option maxRecDepth 100000 in
theorem RdB_.more {w : World} {Z Z' : Nat} {p : Br} {a : Ad} (h : RdB_ w Z p a) (hZ : Z ≤ Z') : RdB_ w Z' p a := ⟨h.ms.more hZ, h.its.more hZ, h.kps.more hZ, h.ce, h.em, h.cc, h.cd⟩
set_option maxRecDepth 100000 in
theorem RdB_.up {w w' : World} {p : Br} {a : Ad} (h : RdB_ w w.heap.size p a) (hb : Below w.heap.size w w') : RdB_ w' w'.heap.size p a := (h.below hb).more hb.size
/-- A brain's rows are one's own, from base on. -/
structure OwB (base : Nat) (w : World) (p : Br) (a : Ad) : Prop where
  ms : w.ownsRow base 3 1 (.slice a.C p.cf.ms.length a.e) p.cf.ms.length (iv p.cf.ms)
  its : ItsAt base w (.slice a.A p.its.length a.c) p.its
  kps : KpsAt base w (.slice a.B p.kps.length a.d) p.kps
set_option maxRecDepth 100000 in
theorem OwB.under {base : Nat} {w w' : World} {p : Br} {a : Ad} (h : OwB base w p a) (hb : Below w.heap.size w w') : OwB base w' p a := ⟨own_under h.ms hb, h.its.under hb, h.kps.under hb⟩
set_option maxRecDepth 100000 in
theorem OwB.weaker {base base' : Nat} {w : World} {p : Br} {a : Ad} (h : OwB base' w p a) (hb : base ≤ base') : OwB base w p a := ⟨own_weaker h.ms hb, h.its.weaker hb, h.kps.weaker hb⟩
/-- A brain's group, as it lies. -/
abbrev cfM (p : Br) (a : Ad) : Cf := { p.cf with A := a.C, n := p.cf.ms.length, c := a.e }
set_option maxRecDepth 100000 in
theorem RdB_.lies {w : World} {Z : Nat} {p : Br} {a : Ad} (h : RdB_ w Z p a) : Lies (cfM p a) w Z := ⟨h.ms, h.ce, h.em⟩
/-- What comes of a call that tells a brain, whose own everything from base on is. -/
def BrPost (base : Nat) (p : Br) (w : World) (e : Ending) (w' : World) : Prop :=
  ∃ a, e = .returned (brV p a) ∧ OwB base w' p a ∧ Below base w w'

end Go.Proofs.YtplejbgecihnpaaDoor

namespace Go.Proofs.YtplejbgecihnpaaDoor
open Go.RowKit

set_option maxRecDepth 100000 in
theorem wpV {P : Program} {c : Code} {Q : Exit → Act → World → Prop} {a : Act} {W : World} (h : ∀ V, W = V → c.wp P Q a V) : c.wp P Q a W := h W rfl
set_option maxRecDepth 100000 in
theorem below_drewB {B : Nat} {w w' : World} (h : Below B w w') (k : Nat) : Below B w (w'.drewN k) := ⟨h.os, h.tape, h.output, h.size, h.block⟩

end Go.Proofs.YtplejbgecihnpaaDoor

namespace Go.Proofs.YtplejbgecihnpaaDoor
open Go.RowKit Go.Shelf

set_option maxRecDepth 100000 in
theorem findIdx_first {α : Type} {l : List α} {p : α → Bool} {j : Nat} {x : α} (hx : l[j]? = some x) (hp : p x = true) (hno : ∀ y ∈ l.take j, p y = false) : l.findIdx? p = some j := by
  induction l generalizing j with
  | nil => simp at hx
  | cons a l ih =>
    rw [List.findIdx?_cons]
    cases j with
    | zero =>
      simp only [List.getElem?_cons_zero, Option.some.injEq] at hx
      subst hx
      simp [hp]
    | succ j =>
      have ha := hno a (by simp)
      rw [ha, ih (by simpa using hx) (fun y hy => hno y (by simp [hy]))]
      rfl

set_option maxRecDepth 100000 in
set_option maxHeartbeats 1000000 in
theorem rfindB_any (p : Br) (a : Ad) (id : Int) (Z : Nat) (w : World) (hr : RdB_ w Z p a) (hZ : Z ≤ w.heap.size) (hn : p.kps.length ≤ 1000) :
    Calls Tryd.prog 63 #[brV p a, .int .i64 id] w fun e w' => e = .returned (.int .i64 (findB p id)) ∧ Below w.heap.size w w' := by
  have hb : Below w.heap.size w (w.alloc (.cells (brC p a) 30)) := (Below.refl _ _).alloc (Nat.le_refl _) _
  have w0 := Whole.new w 30 (brC p a)
  obtain ⟨V, hV⟩ : ∃ V, w.alloc (.cells (brC p a) 30) = V := ⟨_, rfl⟩
  rw [hV] at hb w0
  have c0 : V.cell? ⟨w.heap.size, 19, none⟩ = some (.slice a.B p.kps.length a.d) := w0.cell 19
  have HR := Lib.hid (show RdK V Z a.B p.kps.length p.kps from hr.kps.below (hb.mono hZ))
  have HB := Lib.hid hb
  obtain ⟨n, hn2⟩ : ∃ n, p.kps.length = n := ⟨_, rfl⟩
  obtain ⟨l, hl⟩ : ∃ l, p.kps = l := ⟨_, rfl⟩
  have hspec : findB p id = match l.findIdx? (fun x => decide (x.id = id)) with | some i => (i : Int) | none => -1 := by rw [← hl]; rfl
  obtain ⟨v, hv⟩ : ∃ v, findB p id = v := ⟨_, rfl⟩
  have HS := Lib.hid (hv.symm.trans hspec)
  rw [hv]
  have HL := Lib.hid (show l.length = n by rw [← hl]; exact hn2)
  have HV := Lib.hid hV
  rw [hn2] at c0 hn HR
  rw [hl] at HR
  clear w0 hb hr hZ hV hspec hl hv hn2
  go_enter Tryd.func63, Tryd.ntmps63
  go_upto_region 1 with fail
  refine wpV (fun V2 hV2 => ?_)
  obtain rfl : V = V2 := HV.out.symm.trans hV2
  clear HV hV2
  go_wp2_with fail
  go_loopw [5] (fun i wr => ∃ j : Nat, i = .int .i64 (j : Int) ∧ j ≤ n ∧ (∀ y ∈ l.take j, decide (y.id = id) = false) ∧ wr = V) (fun i _ => n - (intOf i).toNat)
  case atStart => exact ⟨0, rfl, Nat.zero_le _, by simp, rfl⟩
  case round =>
    obtain ⟨j, rfl, hj, hT, rfl⟩ := hrel
    have HT := Lib.hid hT
    clear hT
    by_cases hlt : j < n
    · obtain ⟨b, off, hA, _, hc⟩ := RdK.at_ HR.out (by omega)
      rw [hA] at c0
      obtain ⟨x, hx⟩ : ∃ x, l[j]? = some x := ⟨_, List.getElem?_eq_getElem (by rw [HL.out]; exact hlt)⟩
      obtain ⟨g0, g1, g2, g3, g4, g5, g6, g7⟩ := hc j x hx
      have hI : (j : Int) < (n : Int) := by omega
      have HX := Lib.hid hx
      clear hc hx hA
      by_cases h1 : x.id = id
      · have q0 : (x.id == id) = true := by simp [h1]
        have HF := Lib.hid (show l.findIdx? (fun x => decide (x.id = id)) = some j from findIdx_first HX.out (by simp [h1]) HT.out)
        clear h1
        go_wp2_with fail
        go_ret
        exact ⟨by rw [HS.out, HF.out]; rfl, HB.out⟩
      · have q0 : (x.id == id) = false := by simp [h1]
        have HN : Hid (∀ y ∈ l.take (j + 1), decide (y.id = id) = false) := Lib.hid (fun y hy => by
          rw [List.take_succ_eq_append_getElem (List.getElem?_eq_some_iff.1 HX.out).1, (List.getElem?_eq_some_iff.1 HX.out).2, List.mem_append, List.mem_singleton] at hy
          rcases hy with hy | rfl
          · exact HT.out y hy
          · exact decide_eq_false h1)
        clear h1
        go_wp2_with fail
        go_roundw
        case rel => exact ⟨j + 1, by go_num, by omega, HN.out, by first | rfl | trivial⟩
        case measure => simp [intOf]; omega
    · have HF := Lib.hid (show l.findIdx? (fun x => decide (x.id = id)) = none from by
        rw [List.findIdx?_eq_none_iff]
        intro y hy
        exact HT.out y (by rw [List.take_of_length_le (by have := HL.out; omega)]; exact hy))
      go_wp2_with fail
      go_ret
      exact ⟨by rw [HS.out, HF.out]; rfl, HB.out⟩

set_option maxRecDepth 100000 in
set_option maxHeartbeats 1000000 in
theorem rtokenB_any (p : Br) (a : Ad) (id : Int) (Z : Nat) (w : World) (hr : RdB_ w Z p a) (hZ : Z ≤ w.heap.size) (hn : p.its.length ≤ 1000) :
    Calls Tryd.prog 62 #[brV p a, .int .i64 id] w fun e w' => e = .returned (.int .i64 (tokenB p id)) ∧ Below w.heap.size w w' := by
  have hb : Below w.heap.size w (w.alloc (.cells (brC p a) 30)) := (Below.refl _ _).alloc (Nat.le_refl _) _
  have w0 := Whole.new w 30 (brC p a)
  obtain ⟨V, hV⟩ : ∃ V, w.alloc (.cells (brC p a) 30) = V := ⟨_, rfl⟩
  rw [hV] at hb w0
  have c0 : V.cell? ⟨w.heap.size, 18, none⟩ = some (.slice a.A p.its.length a.c) := w0.cell 18
  have HR := Lib.hid (show RdI V Z a.A p.its.length p.its from hr.its.below (hb.mono hZ))
  have HB := Lib.hid hb
  obtain ⟨n, hn2⟩ : ∃ n, p.its.length = n := ⟨_, rfl⟩
  obtain ⟨l, hl⟩ : ∃ l, p.its = l := ⟨_, rfl⟩
  have hspec : tokenB p id = match l.findIdx? (fun x => decide (x.tok = id)) with | some i => (i : Int) | none => -1 := by rw [← hl]; rfl
  obtain ⟨v, hv⟩ : ∃ v, tokenB p id = v := ⟨_, rfl⟩
  have HS := Lib.hid (hv.symm.trans hspec)
  rw [hv]
  have HL := Lib.hid (show l.length = n by rw [← hl]; exact hn2)
  have HV := Lib.hid hV
  rw [hn2] at c0 hn HR
  rw [hl] at HR
  clear w0 hb hr hZ hV hspec hl hv hn2
  go_enter Tryd.func62, Tryd.ntmps62
  go_upto_region 1 with fail
  refine wpV (fun V2 hV2 => ?_)
  obtain rfl : V = V2 := HV.out.symm.trans hV2
  clear HV hV2
  go_wp2_with fail
  go_loopw [5] (fun i wr => ∃ j : Nat, i = .int .i64 (j : Int) ∧ j ≤ n ∧ (∀ y ∈ l.take j, decide (y.tok = id) = false) ∧ wr = V) (fun i _ => n - (intOf i).toNat)
  case atStart => exact ⟨0, rfl, Nat.zero_le _, by simp, rfl⟩
  case round =>
    obtain ⟨j, rfl, hj, hT, rfl⟩ := hrel
    have HT := Lib.hid hT
    clear hT
    by_cases hlt : j < n
    · obtain ⟨b, off, hA, _, hc⟩ := RdI.at_ HR.out (by omega)
      rw [hA] at c0
      obtain ⟨x, hx⟩ : ∃ x, l[j]? = some x := ⟨_, List.getElem?_eq_getElem (by rw [HL.out]; exact hlt)⟩
      obtain ⟨g0, g1, g2, g3⟩ := hc j x hx
      have hI : (j : Int) < (n : Int) := by omega
      have HX := Lib.hid hx
      clear hc hx hA
      by_cases h1 : x.tok = id
      · have q0 : (x.tok == id) = true := by simp [h1]
        have HF := Lib.hid (show l.findIdx? (fun x => decide (x.tok = id)) = some j from findIdx_first HX.out (by simp [h1]) HT.out)
        clear h1
        go_wp2_with fail
        go_ret
        exact ⟨by rw [HS.out, HF.out]; rfl, HB.out⟩
      · have q0 : (x.tok == id) = false := by simp [h1]
        have HN : Hid (∀ y ∈ l.take (j + 1), decide (y.tok = id) = false) := Lib.hid (fun y hy => by
          rw [List.take_succ_eq_append_getElem (List.getElem?_eq_some_iff.1 HX.out).1, (List.getElem?_eq_some_iff.1 HX.out).2, List.mem_append, List.mem_singleton] at hy
          rcases hy with hy | rfl
          · exact HT.out y hy
          · exact decide_eq_false h1)
        clear h1
        go_wp2_with fail
        go_roundw
        case rel => exact ⟨j + 1, by go_num, by omega, HN.out, by first | rfl | trivial⟩
        case measure => simp [intOf]; omega
    · have HF := Lib.hid (show l.findIdx? (fun x => decide (x.tok = id)) = none from by
        rw [List.findIdx?_eq_none_iff]
        intro y hy
        exact HT.out y (by rw [List.take_of_length_le (by have := HL.out; omega)]; exact hy))
      go_wp2_with fail
      go_ret
      exact ⟨by rw [HS.out, HF.out]; rfl, HB.out⟩

set_option maxRecDepth 100000 in
theorem rmany_any (k : Int) (w : World) : Calls Tryd.prog 41 #[.int .u8 k] w fun e w' => e = .returned (.int .i64 (manyB k)) ∧ w' = w := by
  unfold manyB
  by_cases h : k = 1 ∨ k = 2 ∨ k = 3 ∨ k = 4 ∨ k = 5 ∨ k = 6 ∨ k = 7 ∨ k = 8 ∨ k = 9 ∨ k = 10 ∨ k = 11 ∨ k = 12 ∨ k = 13 ∨ k = 14 ∨ k = 15 ∨ k = 16
  · rcases h with rfl | rfl | rfl | rfl | rfl | rfl | rfl | rfl | rfl | rfl | rfl | rfl | rfl | rfl | rfl | rfl
    all_goals
      go_enter Tryd.func41, Tryd.ntmps41
      go_wp2_with fail
      go_ret
      exact ⟨by rfl, rfl⟩
  · have h1 : (k == 1) = false := by simp; omega
    have h2 : (k == 2) = false := by simp; omega
    have h3 : (k == 3) = false := by simp; omega
    have h4 : (k == 4) = false := by simp; omega
    have h5 : (k == 5) = false := by simp; omega
    have h6 : (k == 6) = false := by simp; omega
    have h7 : (k == 7) = false := by simp; omega
    have h8 : (k == 8) = false := by simp; omega
    have h9 : (k == 9) = false := by simp; omega
    have h10 : (k == 10) = false := by simp; omega
    have h11 : (k == 11) = false := by simp; omega
    have h12 : (k == 12) = false := by simp; omega
    have h13 : (k == 13) = false := by simp; omega
    have h14 : (k == 14) = false := by simp; omega
    have h15 : (k == 15) = false := by simp; omega
    have h16 : (k == 16) = false := by simp; omega
    have e : (if k = 1 ∨ k = 12 ∨ k = 13 ∨ k = 15 ∨ k = 16 then (0 : Int) else if k = 5 ∨ k = 7 ∨ k = 10 ∨ k = 14 then 1 else if k = 9 ∨ k = 11 then 2 else if k = 3 ∨ k = 4 ∨ k = 6 then 3 else if k = 8 then 5 else -1) = -1 := by
      rw [if_neg (by omega), if_neg (by omega), if_neg (by omega), if_neg (by omega), if_neg (by omega)]
    rw [e]
    clear e h
    go_enter Tryd.func41, Tryd.ntmps41
    go_wp2_with fail
    go_ret
    exact ⟨rfl, rfl⟩

set_option linter.unusedSimpArgs false in
set_option maxRecDepth 100000 in
set_option maxHeartbeats 2000000 in
theorem rlegal_any (a b : Int) (w : World) : Calls Tryd.prog 65 #[.int .u8 a, .int .u8 b] w fun e w' => e = .returned (.bool (legalB a b)) ∧ w' = w := by
  unfold legalB
  by_cases h : a = 1 ∨ a = 2 ∨ a = 3 ∨ a = 4 ∨ a = 5 ∨ a = 6 ∨ a = 7 ∨ a = 9 ∨ a = 10
  · rcases h with rfl | rfl | rfl | rfl | rfl | rfl | rfl | rfl | rfl
    · by_cases h2 : b = 2
      · subst h2
        go_enter Tryd.func65, Tryd.ntmps65
        go_wp2_with fail
        go_ret
        exact ⟨by rfl, rfl⟩
      have q2 : (b == 2) = false := by simp [h2]
      by_cases h8 : b = 8
      · subst h8
        go_enter Tryd.func65, Tryd.ntmps65
        go_wp2_with fail
        go_ret
        exact ⟨by rfl, rfl⟩
      have q8 : (b == 8) = false := by simp [h8]
      go_enter Tryd.func65, Tryd.ntmps65
      go_wp2_with fail
      go_ret
      exact ⟨by simp [h2, h8], rfl⟩
    · by_cases h3 : b = 3
      · subst h3
        go_enter Tryd.func65, Tryd.ntmps65
        go_wp2_with fail
        go_ret
        exact ⟨by rfl, rfl⟩
      have q3 : (b == 3) = false := by simp [h3]
      by_cases h8 : b = 8
      · subst h8
        go_enter Tryd.func65, Tryd.ntmps65
        go_wp2_with fail
        go_ret
        exact ⟨by rfl, rfl⟩
      have q8 : (b == 8) = false := by simp [h8]
      go_enter Tryd.func65, Tryd.ntmps65
      go_wp2_with fail
      go_ret
      exact ⟨by simp [h3, h8], rfl⟩
    · by_cases h4 : b = 4
      · subst h4
        go_enter Tryd.func65, Tryd.ntmps65
        go_wp2_with fail
        go_ret
        exact ⟨by rfl, rfl⟩
      have q4 : (b == 4) = false := by simp [h4]
      go_enter Tryd.func65, Tryd.ntmps65
      go_wp2_with fail
      go_ret
      exact ⟨by simp [h4], rfl⟩
    · by_cases h5 : b = 5
      · subst h5
        go_enter Tryd.func65, Tryd.ntmps65
        go_wp2_with fail
        go_ret
        exact ⟨by rfl, rfl⟩
      have q5 : (b == 5) = false := by simp [h5]
      by_cases h3 : b = 3
      · subst h3
        go_enter Tryd.func65, Tryd.ntmps65
        go_wp2_with fail
        go_ret
        exact ⟨by rfl, rfl⟩
      have q3 : (b == 3) = false := by simp [h3]
      go_enter Tryd.func65, Tryd.ntmps65
      go_wp2_with fail
      go_ret
      exact ⟨by simp [h5, h3], rfl⟩
    · by_cases h6 : b = 6
      · subst h6
        go_enter Tryd.func65, Tryd.ntmps65
        go_wp2_with fail
        go_ret
        exact ⟨by rfl, rfl⟩
      have q6 : (b == 6) = false := by simp [h6]
      by_cases h4 : b = 4
      · subst h4
        go_enter Tryd.func65, Tryd.ntmps65
        go_wp2_with fail
        go_ret
        exact ⟨by rfl, rfl⟩
      have q4 : (b == 4) = false := by simp [h4]
      go_enter Tryd.func65, Tryd.ntmps65
      go_wp2_with fail
      go_ret
      exact ⟨by simp [h6, h4], rfl⟩
    · by_cases h7 : b = 7
      · subst h7
        go_enter Tryd.func65, Tryd.ntmps65
        go_wp2_with fail
        go_ret
        exact ⟨by rfl, rfl⟩
      have q7 : (b == 7) = false := by simp [h7]
      go_enter Tryd.func65, Tryd.ntmps65
      go_wp2_with fail
      go_ret
      exact ⟨by simp [h7], rfl⟩
    · by_cases h8 : b = 8
      · subst h8
        go_enter Tryd.func65, Tryd.ntmps65
        go_wp2_with fail
        go_ret
        exact ⟨by rfl, rfl⟩
      have q8 : (b == 8) = false := by simp [h8]
      go_enter Tryd.func65, Tryd.ntmps65
      go_wp2_with fail
      go_ret
      exact ⟨by simp [h8], rfl⟩
    · by_cases h10 : b = 10
      · subst h10
        go_enter Tryd.func65, Tryd.ntmps65
        go_wp2_with fail
        go_ret
        exact ⟨by rfl, rfl⟩
      have q10 : (b == 10) = false := by simp [h10]
      by_cases h8 : b = 8
      · subst h8
        go_enter Tryd.func65, Tryd.ntmps65
        go_wp2_with fail
        go_ret
        exact ⟨by rfl, rfl⟩
      have q8 : (b == 8) = false := by simp [h8]
      go_enter Tryd.func65, Tryd.ntmps65
      go_wp2_with fail
      go_ret
      exact ⟨by simp [h10, h8], rfl⟩
    · by_cases h1 : b = 1
      · subst h1
        go_enter Tryd.func65, Tryd.ntmps65
        go_wp2_with fail
        go_ret
        exact ⟨by rfl, rfl⟩
      have q1 : (b == 1) = false := by simp [h1]
      go_enter Tryd.func65, Tryd.ntmps65
      go_wp2_with fail
      go_ret
      exact ⟨by simp [h1], rfl⟩
  · have h1 : (a == 1) = false := by simp; omega
    have h2 : (a == 2) = false := by simp; omega
    have h3 : (a == 3) = false := by simp; omega
    have h4 : (a == 4) = false := by simp; omega
    have h5 : (a == 5) = false := by simp; omega
    have h6 : (a == 6) = false := by simp; omega
    have h7 : (a == 7) = false := by simp; omega
    have h9 : (a == 9) = false := by simp; omega
    have h10 : (a == 10) = false := by simp; omega
    have e : ∀ x1 x2 x3 x4 x5 x6 x7 x9 x10 : Bool, (if a = 1 then x1 else if a = 2 then x2 else if a = 3 then x3 else if a = 4 then x4 else if a = 5 then x5 else if a = 6 then x6 else if a = 7 then x7 else if a = 9 then x9 else if a = 10 then x10 else false) = false := by
      intros
      rw [if_neg (by omega), if_neg (by omega), if_neg (by omega), if_neg (by omega), if_neg (by omega), if_neg (by omega), if_neg (by omega), if_neg (by omega), if_neg (by omega)]
    rw [e]
    clear e h
    go_enter Tryd.func65, Tryd.ntmps65
    go_wp2_with fail
    go_ret
    exact ⟨rfl, rfl⟩

end Go.Proofs.YtplejbgecihnpaaDoor

namespace Go.Proofs.YtplejbgecihnpaaDoor
open Go.RowKit Go.Shelf

def IntPost (v : Int) (w : World) (e : Ending) (w' : World) : Prop := e = .returned (.int .i64 v) ∧ Below w.heap.size w w'

set_option maxRecDepth 100000 in
/-- A group in a box. -/
theorem Whole.conf {w : World} {b : Nat} {x : Cf} (h : Whole w b 24 x.cells) :
    w.cell? ⟨b, 0, none⟩ = some (.int .i64 x.f0) ∧ w.cell? ⟨b, 1, none⟩ = some (.int .i64 x.f1) ∧ w.cell? ⟨b, 2, none⟩ = some (.int .i64 x.f2) ∧ w.cell? ⟨b, 3, none⟩ = some (.int .i64 x.f3) ∧ w.cell? ⟨b, 4, none⟩ = some (.int .i64 x.f4) ∧ w.cell? ⟨b, 5, none⟩ = some (.int .i64 x.f5) ∧ w.cell? ⟨b, 6, none⟩ = some (.int .i64 x.f6) ∧ w.cell? ⟨b, 7, none⟩ = some (.int .i64 x.f7) ∧ w.cell? ⟨b, 8, none⟩ = some (.int .i64 x.f8) ∧ w.cell? ⟨b, 9, none⟩ = some (.int .i64 x.f9) ∧ w.cell? ⟨b, 10, none⟩ = some (.int .i64 x.f10) ∧ w.cell? ⟨b, 11, none⟩ = some (.int .i64 x.f11) ∧ w.cell? ⟨b, 12, none⟩ = some (.int .i64 x.f12) ∧ w.cell? ⟨b, 13, none⟩ = some (.bool x.sk) ∧ w.cell? ⟨b, 14, none⟩ = some (.slice x.A x.n x.c) :=
  ⟨h.cell 0, h.cell 1, h.cell 2, h.cell 3, h.cell 4, h.cell 5, h.cell 6, h.cell 7, h.cell 8, h.cell 9, h.cell 10, h.cell 11, h.cell 12, h.cell 13, h.cell 14⟩
set_option maxRecDepth 100000 in
theorem Whole.confK {w : World} {b : Nat} {x : Cf} (h : Whole w b 24 x.cells) {k : Nat} (hk : k < 13) : w.cell? ⟨b, k, none⟩ = some (.int .i64 (x.at k)) := by
  rcases (by omega : k = 0 ∨ k = 1 ∨ k = 2 ∨ k = 3 ∨ k = 4 ∨ k = 5 ∨ k = 6 ∨ k = 7 ∨ k = 8 ∨ k = 9 ∨ k = 10 ∨ k = 11 ∨ k = 12) with rfl | rfl | rfl | rfl | rfl | rfl | rfl | rfl | rfl | rfl | rfl | rfl | rfl
  all_goals exact h.cell _

set_option maxRecDepth 100000 in
set_option maxHeartbeats 1000000 in
theorem floor_any (x : Cf) (hx : inB x = true) (w : World) : Calls Tryd.prog 46 #[x.v] w (IntPost (fl x) w) := by
  obtain ⟨h0, h1, h2, h3⟩ := fl_bd hx
  have e1 : fl x = (x.f0 * x.f1 + 99) / 100 := rfl
  generalize hP : x.f0 * x.f1 = p at *
  go_enter Tryd.func46, Tryd.ntmps46
  go_wp2_with fail
  go_ret
  exact ⟨by show Ending.returned (.int .i64 ((p + 100 - 1) / 100)) = _; rw [e1, show p + 100 - 1 = p + 99 by omega], (Below.refl _ w).alloc (Nat.le_refl _) _⟩

set_option maxRecDepth 100000 in
set_option maxHeartbeats 1000000 in
theorem refFloor_any (x : Cf) (hx : inB x = true) (w : World) : Calls Tryd.prog 47 #[x.v] w (IntPost (fl x) w) := by
  obtain ⟨h0, h1, h2, h3⟩ := fl_bd hx
  have e1 : fl x = (x.f0 * x.f1 + 99) / 100 := rfl
  generalize hP : x.f0 * x.f1 = p at *
  go_enter Tryd.func47, Tryd.ntmps47
  go_wp2_with fail
  go_ret
  exact ⟨by show Ending.returned (.int .i64 ((p + 99) / 100)) = _; rw [e1], (Below.refl _ w).alloc (Nat.le_refl _) _⟩

set_option maxRecDepth 100000 in
theorem within_any (n a b : Int) (w : World) : Calls Tryd.prog 61 #[.int .i64 n, .int .i64 a, .int .i64 b] w fun e w' => e = .returned (.bool (decide (a ≤ n) && decide (n ≤ b))) ∧ w' = w := by
  by_cases h : a ≤ n
  · have HH := Lib.hid (decide_eq_true h)
    go_enter Tryd.func61, Tryd.ntmps61
    go_wp2_with fail
    go_ret
    exact ⟨by rw [HH.out]; simp, rfl⟩
  · have HH := Lib.hid (decide_eq_false h)
    go_enter Tryd.func61, Tryd.ntmps61
    go_wp2_with fail
    go_ret
    exact ⟨by rw [HH.out]; simp, rfl⟩

/-- What a box of a group gives. -/
def InBox (x : Cf) (w W : World) : Prop := Whole W w.heap.size 24 x.cells ∧ Below w.heap.size w W
set_option maxRecDepth 100000 in
theorem InBox.new (x : Cf) (w : World) : InBox x w (w.alloc (.cells x.cells 24)) := ⟨Whole.new w _ _, (Below.refl _ w).alloc (Nat.le_refl _) _⟩
set_option maxRecDepth 100000 in
theorem InBox.drew {x : Cf} {w W : World} (h : InBox x w W) : InBox x w W.drew := ⟨h.1, h.2.drew⟩
set_option maxRecDepth 100000 in
theorem InBox.under {x : Cf} {w W W' : World} (h : InBox x w W) (hb : Below W.heap.size W W') : InBox x w W' := ⟨h.1.under hb, h.2.trans (hb.mono h.2.size)⟩

set_option maxRecDepth 100000 in
set_option maxHeartbeats 1000000 in
theorem roomy_any (x : Cf) (hx : inB x = true) (w : World) : Calls Tryd.prog 68 #[x.v] w (BoolPost (roomB x) w) := by
  obtain ⟨p0, p1, p2, p3⟩ := fl_bd hx
  obtain ⟨⟨⟨a0, a1⟩, ⟨b0, b1⟩, ⟨c0, c1⟩, _⟩, _⟩ := inB_iff.1 hx
  have HX := Lib.hid hx
  clear hx p0 p1 b0 b1
  by_cases h0 : x.f0 = 0
  · have e0 : (x.f0 == 0) = true := by simp [h0]
    have HR : Hid (roomB x = true) := by unfold roomB; rw [decide_eq_true h0]; rfl
    go_enter Tryd.func68, Tryd.ntmps68
    go_wp2_with fail
    go_quiet (fail)
    go_wp2_with fail
    go_ret
    exact ⟨by rw [HR.out]; rfl, below_drewN ((Below.refl _ w).alloc (Nat.le_refl _) _) _⟩
  · have e0 : (x.f0 == 0) = false := by rw [beq_eq_false_iff_ne]; exact h0
    have HR : Hid (roomB x = decide (1 ≤ IntKind.i64.wrap (IntKind.i64.wrap (x.f2 + x.f0) - fl x))) := by unfold roomB; rw [decide_eq_false h0, show IntKind.i64.wrap (x.f2 + x.f0) = x.f2 + x.f0 by rw [IntKind.wrap_i64]; omega, show IntKind.i64.wrap (x.f2 + x.f0 - fl x) = x.f2 + x.f0 - fl x by rw [IntKind.wrap_i64]; omega]; rfl
    have HF := Lib.hid (floor_any x HX.out)
    go_enter Tryd.func68, Tryd.ntmps68
    go_wp2_with fail
    have HC := Lib.hid (InBox.new x w).drew
    have HL := Lib.hid (fun W (hW : InBox x w W) => hW.1.conf)
    refine wp_region_held_drew (S := InBox x w) (by kernel_rfl) HC.out (fun _ => ?_)
    refine takeH (i := 0) (v := ?_) rfl (by kernel_rfl) (by kernel_rfl) (by kernel_rfl) (fun _ _ _ h => h) (by rfl) ?_ HC.out ?_
    rotate_left
    · intro W hW; obtain ⟨c0, c1, c2, c3, c4, c5, c6, c7, c8, c9, c10, c11, c12, c13, c14⟩ := HL.out W hW; go_simp <;> with_reducible rfl
    simp only [Act.put, List.setIfInBounds_toArray, List.set_cons_zero, List.set_cons_succ]
    refine takeH (i := 1) (v := ?_) rfl (by kernel_rfl) (by kernel_rfl) (by kernel_rfl) (fun _ _ _ h => h) (by rfl) ?_ HC.out ?_
    rotate_left
    · intro W hW; obtain ⟨c0, c1, c2, c3, c4, c5, c6, c7, c8, c9, c10, c11, c12, c13, c14⟩ := HL.out W hW; go_simp <;> with_reducible rfl
    simp only [Act.put, List.setIfInBounds_toArray, List.set_cons_zero, List.set_cons_succ]
    refine takeH (i := 2) (v := ?_) rfl (by kernel_rfl) (by kernel_rfl) (by kernel_rfl) (fun _ _ _ h => h) (by rfl) ?_ HC.out ?_
    rotate_left
    · intro W hW; obtain ⟨c0, c1, c2, c3, c4, c5, c6, c7, c8, c9, c10, c11, c12, c13, c14⟩ := HL.out W hW; go_simp <;> with_reducible rfl
    simp only [Act.put, List.setIfInBounds_toArray, List.set_cons_zero, List.set_cons_succ]
    refine takeH (i := 3) (v := ?_) rfl (by kernel_rfl) (by kernel_rfl) (by kernel_rfl) (fun _ _ _ h => h) (by rfl) ?_ HC.out ?_
    rotate_left
    · intro W hW; obtain ⟨c0, c1, c2, c3, c4, c5, c6, c7, c8, c9, c10, c11, c12, c13, c14⟩ := HL.out W hW; go_simp <;> with_reducible rfl
    simp only [Act.put, List.setIfInBounds_toArray, List.set_cons_zero, List.set_cons_succ]
    refine takeH (i := 4) (v := ?_) rfl (by kernel_rfl) (by kernel_rfl) (by kernel_rfl) (fun _ _ _ h => h) (by rfl) ?_ HC.out ?_
    rotate_left
    · intro W hW; obtain ⟨c0, c1, c2, c3, c4, c5, c6, c7, c8, c9, c10, c11, c12, c13, c14⟩ := HL.out W hW; go_simp <;> with_reducible rfl
    simp only [Act.put, List.setIfInBounds_toArray, List.set_cons_zero, List.set_cons_succ]
    refine takeH (i := 5) (v := ?_) rfl (by kernel_rfl) (by kernel_rfl) (by kernel_rfl) (fun _ _ _ h => h) (by rfl) ?_ HC.out ?_
    rotate_left
    · intro W hW; obtain ⟨c0, c1, c2, c3, c4, c5, c6, c7, c8, c9, c10, c11, c12, c13, c14⟩ := HL.out W hW; go_simp <;> with_reducible rfl
    simp only [Act.put, List.setIfInBounds_toArray, List.set_cons_zero, List.set_cons_succ]
    refine takeH (i := 6) (v := ?_) rfl (by kernel_rfl) (by kernel_rfl) (by kernel_rfl) (fun _ _ _ h => h) (by rfl) ?_ HC.out ?_
    rotate_left
    · intro W hW; obtain ⟨c0, c1, c2, c3, c4, c5, c6, c7, c8, c9, c10, c11, c12, c13, c14⟩ := HL.out W hW; go_simp <;> with_reducible rfl
    simp only [Act.put, List.setIfInBounds_toArray, List.set_cons_zero, List.set_cons_succ]
    refine takeH (i := 7) (v := ?_) rfl (by kernel_rfl) (by kernel_rfl) (by kernel_rfl) (fun _ _ _ h => h) (by rfl) ?_ HC.out ?_
    rotate_left
    · intro W hW; obtain ⟨c0, c1, c2, c3, c4, c5, c6, c7, c8, c9, c10, c11, c12, c13, c14⟩ := HL.out W hW; go_simp <;> with_reducible rfl
    simp only [Act.put, List.setIfInBounds_toArray, List.set_cons_zero, List.set_cons_succ]
    refine takeH (i := 8) (v := ?_) rfl (by kernel_rfl) (by kernel_rfl) (by kernel_rfl) (fun _ _ _ h => h) (by rfl) ?_ HC.out ?_
    rotate_left
    · intro W hW; obtain ⟨c0, c1, c2, c3, c4, c5, c6, c7, c8, c9, c10, c11, c12, c13, c14⟩ := HL.out W hW; go_simp <;> with_reducible rfl
    simp only [Act.put, List.setIfInBounds_toArray, List.set_cons_zero, List.set_cons_succ]
    refine takeH (i := 9) (v := ?_) rfl (by kernel_rfl) (by kernel_rfl) (by kernel_rfl) (fun _ _ _ h => h) (by rfl) ?_ HC.out ?_
    rotate_left
    · intro W hW; obtain ⟨c0, c1, c2, c3, c4, c5, c6, c7, c8, c9, c10, c11, c12, c13, c14⟩ := HL.out W hW; go_simp <;> with_reducible rfl
    simp only [Act.put, List.setIfInBounds_toArray, List.set_cons_zero, List.set_cons_succ]
    refine oneH (i := 10) rfl (by kernel_rfl) (by rfl) (fun K hK => ?_)
    go_simp
    go_at_call 46
    refine (HF.out _).mono ?_
    rintro e w1 ⟨rfl, b1⟩
    have HC2 := Lib.hid (HC.out.under b1)
    clear HC
    have HC := HC2
    clear HC2 b1
    refine hK.out _ _ HC.out (fun _ => ?_)
    clear hK K
    refine takeH (i := 11) (v := ?_) rfl (by kernel_rfl) (by kernel_rfl) (by kernel_rfl) (fun _ _ _ h => h) (by rfl) ?_ HC.out ?_
    rotate_left
    · intro W hW; obtain ⟨c0, c1, c2, c3, c4, c5, c6, c7, c8, c9, c10, c11, c12, c13, c14⟩ := HL.out W hW; go_simp <;> with_reducible rfl
    simp only [Act.put, List.setIfInBounds_toArray, List.set_cons_zero, List.set_cons_succ]
    refine takeH (i := 12) (v := ?_) rfl (by kernel_rfl) (by kernel_rfl) (by kernel_rfl) (fun _ _ _ h => h) (by rfl) ?_ HC.out ?_
    rotate_left
    · intro W hW; obtain ⟨c0, c1, c2, c3, c4, c5, c6, c7, c8, c9, c10, c11, c12, c13, c14⟩ := HL.out W hW; go_simp <;> with_reducible rfl
    simp only [Act.put, List.setIfInBounds_toArray, List.set_cons_zero, List.set_cons_succ]
    refine takeH (i := 13) (v := ?_) rfl (by kernel_rfl) (by kernel_rfl) (by kernel_rfl) (fun _ _ _ h => h) (by rfl) ?_ HC.out ?_
    rotate_left
    · intro W hW; obtain ⟨c0, c1, c2, c3, c4, c5, c6, c7, c8, c9, c10, c11, c12, c13, c14⟩ := HL.out W hW; go_simp <;> with_reducible rfl
    simp only [Act.put, List.setIfInBounds_toArray, List.set_cons_zero, List.set_cons_succ]
    refine takeH (i := 14) (v := ?_) rfl (by kernel_rfl) (by kernel_rfl) (by kernel_rfl) (fun _ _ _ h => h) (by rfl) ?_ HC.out ?_
    rotate_left
    · intro W hW; obtain ⟨c0, c1, c2, c3, c4, c5, c6, c7, c8, c9, c10, c11, c12, c13, c14⟩ := HL.out W hW; go_simp <;> with_reducible rfl
    simp only [Act.put, List.setIfInBounds_toArray, List.set_cons_zero, List.set_cons_succ]
    refine wpAnyH_done (by kernel_rfl) ?_ _
    go_wp2_with fail
    go_ret
    exact ⟨by rw [HR.out]; rfl, HC.out.2⟩

end Go.Proofs.YtplejbgecihnpaaDoor

namespace Go.Proofs.YtplejbgecihnpaaDoor
open Go.RowKit Go.Shelf

section
variable {F : Fence} {m : Nat} {P : Program} {ops : Array Oper} {Q : Exit → Act → World → Prop}

end

section
variable {m l : Nat} {K : Act → World → Prop} {Q : Exit → Act → World → Prop} {a : Act} {w : World} {dst : Option Tmp} {t : TypeId} {pos : String} {after : Array Edge} {x y : Operand}

end

end Go.Proofs.YtplejbgecihnpaaDoor

namespace Go.Proofs.YtplejbgecihnpaaDoor
open Go.RowKit Go.Shelf

section
variable {α : Type} {P : Program} {n : Nat}

/-- What such an iterator keeps: whatever the rounds tell of themselves (J), as long as each element is taken when Ok holds of it. -/
def SeqMem (n : Nat) (P : Program) (g : Nat) (lb : Array Value) (encs : α → Array Value) (Ok : List α → α → World → Prop) (Kp : World → World → Prop) (S : List α → Prop) (w : World) : Prop :=
  ∀ (l : Nat) (J : List α → World → Prop) (Jx : World → Prop) (W : World), Below w.heap.size w W → AbidesFrom W.heap.size J →
    (∀ pre x V, J pre V → Ok pre x V → YieldAt Fence.wide (n - 1) P l (encs x) V fun e V' => (e = .returned (.bool true) ∧ J (pre ++ [x]) V' ∧ Kp V V') ∨ (e = .returned (.bool false) ∧ Jx V')) →
    J [] W → CallsIn Fence.wide n P g (#[.func (.yield l) #[] #[]] ++ lb) W fun e W' => (∃ v, e = .returned v) ∧ ((∃ xs, S xs ∧ J xs W') ∨ Jx W')

/-- The loop's record, as it lies in its block. -/
def Rec (W : World) (D fn : Nat) (a : Act) (ps : Array Tmp) (assign body : Code) (st : LoopState) (pe : Option Code) : Prop :=
  W.heap[D + 1]? = some (.loop { state := st, pending := pe, fn := fn, tmps := a.tmps, params := ps, assign := assign, body := body, defers := D }) ∧ W.heap[D]? = some (.deferred (some []))

section
variable {W V : World} {D fn : Nat} {a : Act} {ps : Array Tmp} {assign body : Code} {st : LoopState} {pe : Option Code}
set_option maxRecDepth 100000 in
theorem Rec.lt (h : Rec W D fn a ps assign body st pe) : D + 1 < W.heap.size := (Array.getElem?_eq_some_iff.1 h.1).1
set_option maxRecDepth 100000 in
theorem Rec.turn {row : Option Nat} (h : Rec W D fn a ps assign body st pe) (hg : W.grownBy V row) (hr : ∀ r, row = some r → ∃ o : Obj, W.heap[r]? = some o ∧ o.isWalk = true) : Rec V D fn a ps assign body st pe :=
  ⟨(grownBy_keeps hg hr h.1 rfl).trans h.1, (grownBy_keeps hg hr h.2 rfl).trans h.2⟩
set_option maxRecDepth 100000 in
theorem Rec.kept {B : Nat} (h : Rec W D fn a ps assign body st pe) (hB : B ≤ D) (hk : KeepsFrom B W V) : Rec V D fn a ps assign body st pe :=
  ⟨hk.same _ _ (by omega) h.1 rfl, hk.same _ _ hB h.2 rfl⟩
set_option maxRecDepth 100000 in
theorem Rec.put (h : Rec W D fn a ps assign body st pe) (st' : LoopState) (pe' : Option Code) :
    Rec (W.putObj (D + 1) (.loop { state := st', pending := pe', fn := fn, tmps := a.tmps, params := ps, assign := assign, body := body, defers := D })) D fn a ps assign body st' pe' :=
  ⟨World.putObj_heap_same h.lt, (World.putObj_heap_other (by omega)).trans h.2⟩
set_option maxRecDepth 100000 in
theorem Rec.begins (h : Rec W D fn a ps assign body .ready none) :
    (Instr.beginRound (D + 1)).run P W = .ok () (W.putObj (D + 1) (.loop { state := .busy, pending := none, fn := fn, tmps := a.tmps, params := ps, assign := assign, body := body, defers := D })) := run_beginRound h.1 rfl
set_option maxRecDepth 100000 in
/-- A round's end: behind the body, the record says how it was left. -/
theorem Rec.ends (h : Rec W D fn a ps assign body .busy none) (jump : Option Code) :
    (Instr.endRound (D + 1) jump).run P W = .ok (.bool jump.isNone) (W.putObj (D + 1) (.loop { state := if jump.isNone then .ready else .done, pending := jump, fn := fn, tmps := a.tmps, params := ps, assign := assign, body := body, defers := D })) := run_endRound jump h.1
set_option maxRecDepth 100000 in
theorem Rec.over (h : Rec W D fn a ps assign body st pe) (hb : st ≠ .busy) :
    (Instr.endLoop (D + 1)).run P W = .ok pe (W.putObj (D + 1) (.loop { state := .exhausted, pending := pe, fn := fn, tmps := a.tmps, params := ps, assign := assign, body := body, defers := D })) := run_endLoop h.1 hb
set_option maxRecDepth 100000 in
theorem Rec.yields (h : Rec W D fn a ps assign body st pe) {args : Array Value} (hs : args.size = ps.size) :
    (Instr.yield (D + 1) args).run P W = .ok (.round (D + 1) fn ((ps.zip args).foldl (fun t (p, v) => t.setIfInBounds p v) a.tmps) assign body) W := run_yield h.1 hs
end

set_option maxRecDepth 100000 in
theorem wpIn_range_mem {g : Operand} {ps : Array Tmp} {assign body : Code} {Q : Exit → Act → World → Prop} {a : Act} {w : World}
    (h1 : 1 ≤ n) {gf : Nat} {lb : Array Value} (hg : a.eval g = .func (.func gf) #[] lb) (eg : ∀ args w, (callFunc gf args).run P w = .ok (.enter gf args) w)
    {encs : α → Array Value} {Ok : List α → α → World → Prop} {Kp : World → World → Prop} {S : List α → Prop} {w0 : World} (hseq : SeqMem (n - 1) P gf lb encs Ok Kp S w0)
    (hKt : ∀ {A B C : World}, Kp A B → Kp B C → Kp A C) (hKb : ∀ (W : World) (l : Nat) (o o' : Obj), w.heap.size ≤ l → W.heap[l]? = some o → o.isCells = false → o.isWalk = false → Kp W (W.putObj l o')) (hb0 : Below w0.heap.size w0 w) (hps : ∀ x, (encs x).size = ps.size)
    (I : List α → World → Prop) (Ix : Code → World → Prop) (hI : OwnFrom w.heap.size I) (hIx : OwnFrom w.heap.size Ix) (h0 : I [] w)
    (Ax : List α → α → Act → World → Prop) (hAx : ∀ a', OwnFrom w.heap.size (fun (p : List α × α) W => Ax p.1 p.2 a' W))
    (hassign : ∀ (l : Nat) (pre : List α) (x : α) (W : World) (K : Act → World → Prop), I pre W → Ok pre x W → (∀ a' W', KeepsFrom w.heap.size W W' → Kp W W' → I pre W' → Ax pre x a' W' → K a' W') →
      assign.wpIn (Fence.wide.inRound l) (n - 1 - 1) P (Exit.then K (fun _ _ _ => False)) { tmps := (ps.zip (encs x)).foldl (fun t (p, v) => t.setIfInBounds p v) a.tmps, defers := [] } W)
    (hbody : ∀ (l : Nat) (pre : List α) (x : α) (a' : Act) (W : World), w.heap.size ≤ l → I pre W → Ax pre x a' W →
      body.wpIn (Fence.wide.inRound l) (n - 1 - 1) P (ownPostG w.heap.size Kp I (fun c _ => Ix c) (pre ++ [x]) W) a' W)
    (hdone : ∀ (D : Nat) (xs : List α) (W : World), w.heap.size ≤ D → S xs → I xs W → W.heap[D]? = some (.deferred (some [])) → Q .normal { a with defers := { target := .collected D, args := #[] } :: a.defers } W)
    (hstop : ∀ (D : Nat) (c : Code) (W : World), w.heap.size ≤ D → Ix c W → W.heap[D]? = some (.deferred (some [])) → c.wpIn Fence.wide n P Q { a with defers := { target := .collected D, args := #[] } :: a.defers } W) :
    (Code.rangeFunc g ps assign body).wpIn Fence.wide n P Q a w := by
  refine wpIn_rangeFunc fun fn _ => ?_
  have hsz2 : ((w.alloc (.deferred (some []))).alloc (.loop { state := .ready, pending := none, fn := fn, tmps := a.tmps, params := ps, assign := assign, body := body, defers := w.heap.size })).heap.size = w.heap.size + 2 := by simp
  have hR0 : Rec ((w.alloc (.deferred (some []))).alloc (.loop { state := .ready, pending := none, fn := fn, tmps := a.tmps, params := ps, assign := assign, body := body, defers := w.heap.size })) w.heap.size fn a ps assign body .ready none := by
    constructor
    · have := World.alloc_heap_new (w.alloc (.deferred (some []))) (.loop { state := .ready, pending := none, fn := fn, tmps := a.tmps, params := ps, assign := assign, body := body, defers := w.heap.size })
      rwa [World.size_alloc] at this
    · exact (Below.heap_alloc _ _ _ (by simp)).trans (World.alloc_heap_new w _)
  have hB0 : Below w0.heap.size w0 ((w.alloc (.deferred (some []))).alloc (.loop { state := .ready, pending := none, fn := fn, tmps := a.tmps, params := ps, assign := assign, body := body, defers := w.heap.size })) := (hb0.alloc hb0.size _).alloc (by have := hb0.size; simp; omega) _
  have hI0 := hI.alloc (Obj.loop { state := .ready, pending := none, fn := fn, tmps := a.tmps, params := ps, assign := assign, body := body, defers := w.heap.size }) (hI.alloc (.deferred (some [])) h0)
  have hent := run_enterLoop_outer (P := P) (w := w) fn a.tmps ps assign body
  revert hsz2 hR0 hB0 hI0 hent
  generalize (w.alloc (.deferred (some []))).alloc (.loop { state := .ready, pending := none, fn := fn, tmps := a.tmps, params := ps, assign := assign, body := body, defers := w.heap.size }) = W1
  intro hsz2 hR0 hB0 hI0 hent
  refine ⟨w.heap.size + 1, [{ target := .collected w.heap.size, args := #[] }], W1, { target := .fn (.func gf) lb, args := #[.func (.yield (w.heap.size + 1)) #[] #[]] }, W1, gf,
    #[.func (.yield (w.heap.size + 1)) #[] #[]] ++ lb, W1, hent, ?_, fun _ _ => trivial, ?_, fun _ => h1, ?_⟩
  · simp only [resolve, hg]
    simp [go_sem]
  · simp [invoke, go_sem, eg]
  have hnw : ∀ {A : World} {row : Option Nat}, (∀ r, row = some r → W1.heap.size ≤ r ∧ ∃ o : Obj, A.heap[r]? = some o ∧ o.isWalk = true) → (∀ r, row = some r → w.heap.size ≤ r ∧ ∃ o : Obj, A.heap[r]? = some o ∧ o.isCells = false) :=
    fun hr r e => by
      obtain ⟨hB, o, ho, hw⟩ := hr r e
      exact ⟨by omega, o, ho, Obj.not_cells_of_walk hw⟩
  refine (hseq (w.heap.size + 1) (fun pre W => I pre W ∧ Rec W w.heap.size fn a ps assign body .ready none) (fun W => ∃ c, Ix c W ∧ Rec W w.heap.size fn a ps assign body .done (some c)) W1 hB0
    (fun s A B row hs hg' hr => ⟨hI s A B row hs.1 hg' (hnw hr), hs.2.turn hg' (fun r e => (hr r e).2)⟩) ?round ⟨hI0, hR0⟩).mono ?behind
  case round =>
    rintro pre x V ⟨hi, hrec⟩ hok
    refine ⟨_, _, _, _, hrec.yields (hps x), roundIn_of_wpIn trivial (hassign _ pre x V _ hi hok ?_)⟩
    intro a' V2 hk2 hp2 hi2 hx2
    have hrec2 := hrec.kept (Nat.le_refl _) hk2
    refine ⟨_, hrec2.begins, ?_⟩
    have hrec3 := hrec2.put .busy none
    have hi3 := hI.putObj (Obj.loop { state := .busy, pending := none, fn := fn, tmps := a.tmps, params := ps, assign := assign, body := body, defers := w.heap.size }) hi2 (by omega) hrec2.1 rfl
    have hx3 := (hAx a').putObj (s := (pre, x)) (Obj.loop { state := .busy, pending := none, fn := fn, tmps := a.tmps, params := ps, assign := assign, body := body, defers := w.heap.size }) hx2 (by omega) hrec2.1 rfl
    have hp3 := hKb V2 (w.heap.size + 1) _ (Obj.loop { state := .busy, pending := none, fn := fn, tmps := a.tmps, params := ps, assign := assign, body := body, defers := w.heap.size }) (by omega) hrec2.1 rfl rfl
    refine wpIn_mono (hbody _ pre x a' _ (by omega) hi3 hx3) ?_
    have leaves : ∀ (c : Code) (V4 : World), KeepsFrom w.heap.size (V2.putObj (w.heap.size + 1) (.loop { state := .busy, pending := none, fn := fn, tmps := a.tmps, params := ps, assign := assign, body := body, defers := w.heap.size })) V4 → Ix c V4 →
        ∃ v W', (Instr.endRound (w.heap.size + 1) (some c)).run P V4 = .ok v W' ∧ ((Ending.returned v = .returned (.bool true) ∧ (I (pre ++ [x]) W' ∧ Rec W' w.heap.size fn a ps assign body .ready none) ∧ Kp V W') ∨
          (Ending.returned v = .returned (.bool false) ∧ ∃ c, Ix c W' ∧ Rec W' w.heap.size fn a ps assign body .done (some c))) := fun c V4 hk4 hx4 => by
      have hrec4 := hrec3.kept (Nat.le_refl _) hk4
      exact ⟨_, _, hrec4.ends (some c), .inr ⟨rfl, c, hIx.putObj _ hx4 (by omega) hrec4.1 rfl, hrec4.put _ _⟩⟩
    intro e a4 V4 hp
    cases e with
    | normal =>
      obtain ⟨hk4, hp4, hi4⟩ := hp
      have hrec4 := hrec3.kept (Nat.le_refl _) hk4
      exact ⟨_, _, hrec4.ends none, .inl ⟨rfl, ⟨hI.putObj _ hi4 (by omega) hrec4.1 rfl, hrec4.put _ _⟩, hKt hp2 (hKt hp3 (hKt hp4 (hKb _ _ _ _ (by omega) hrec4.1 rfl rfl)))⟩⟩
    | ret => exact leaves _ _ hp.1 hp.2
    | exit id => exact leaves _ _ hp.1 hp.2
    | goto t => exact leaves _ _ hp.1 hp.2
    | panic ch => exact hp.elim
    | outgrown => exact hp.elim
  case behind =>
    rintro e W2 ⟨⟨v, rfl⟩, h⟩
    rcases h with ⟨xs, hS, hi, hrec⟩ | ⟨c, hx, hrec⟩
    · exact ⟨none, _, hrec.over (by simp), hdone _ xs _ (Nat.le_refl _) hS (hI.putObj _ hi (by omega) hrec.1 rfl) (hrec.put _ _).2⟩
    · exact ⟨some c, _, hrec.over (by simp), hstop _ c _ (Nat.le_refl _) (hIx.putObj _ hx (by omega) hrec.1 rfl) (hrec.put _ _).2⟩
end

set_option maxRecDepth 100000 in
/-- An append whose run is known, inside a round. -/
theorem wpListIn_app {F : Fence} {m : Nat} {P : Program} {w : World} {ops : Array Oper} {rest : List Oper} {o : Oper} {a : Act} {Q : Exit → Act → World → Prop} (hg : o.guard = none) (s x : Operand) (t : TypeId)
    (ho : o.op = .call { callee := .builtin .append, args := #[s, x], argTypes := #[t, t] }) (vs vx v' : Value) (w' : World) (hs : a.eval s = vs) (hx : a.eval x = vx)
    (hr : (Builtin.append_ #[t, t] o.type #[vs, vx]).run P w = .ok v' w') (h : wpListIn F m P ops Q rest (a.put o.dst v') w') : wpListIn F m P ops Q (o :: rest) a w := by
  refine wpListIn_plain hg fun K hK => ?_
  unfold Oper.wpIn
  refine ⟨by simp [Oper.about, ho, resolve, Target.leads, Sem.run_pure], ?_⟩
  rw [Oper.semAt_plain F _ _ (by rw [ho]; intro c hc; cases hc)]
  simp only [execOp, ho, resolve, invoke, builtin, Sem.run_bind, Sem.run_pure, Result.andThen_ok, List.map_toArray, List.map_cons, List.map_nil, hs, hx, hr]
  exact hK _ _ h

end Go.Proofs.YtplejbgecihnpaaDoor

namespace Go.Proofs.YtplejbgecihnpaaDoor
open Go.RowKit Go.Shelf

set_option maxRecDepth 100000 in
/-- A scope at whose label, behind two pieces of code, the run comes back. -/
theorem wp_scope_back_behind2 {P : Program} {a : Act} {w : World} {Q : Exit → Act → World → Prop} {pre pre2 rest : Code} (l : Nat) (J : Act → World → Prop) (μ : Act → World → Nat) (hn : findLabel pre l = none) (hn2 : findLabel pre2 l = none)
    (h0 : pre.wp P (fun e a w => e = .normal ∧ pre2.wp P (fun e a w => e = .normal ∧ J a w) a w) a w)
    (pass : ∀ a w, J a w → rest.wp P (Exit.jump l (fun a' w' => J a' w' ∧ μ a' w' < μ a w) Q) a w) : (Code.scope (pre.seq (pre2.seq ((Code.label l).seq rest)))).wp P Q a w := by
  refine wp_scope_jumps l J μ (rest := Code.skip.seq rest) (by simp [findLabel, hn, hn2]) (wp_seq (wp_mono h0 ?_)) (fun a w hJ => wp_seq (wp_skip (pass a w hJ)))
  rintro e a1 w1 ⟨rfl, h1⟩
  refine wp_seq (wp_mono h1 ?_)
  rintro e a1 w1 ⟨rfl, h1⟩
  refine wp_seq (wp_label (wp_mono (pass a1 w1 h1) ?_))
  rintro (_ | _ | l | _ | _ | _) a2 w2 h
  all_goals first | exact h | exact ⟨h.1, h.2.1⟩

end Go.Proofs.YtplejbgecihnpaaDoor

namespace Go.Proofs.YtplejbgecihnpaaDoor
open Go.RowKit Go.Shelf
attribute [local go_sem] Oper.semAt_some

set_option maxRecDepth 100000 in
theorem below_dr {B : Nat} {w w' : World} (h : Below B w w') (k : Nat) : Below B w (w'.drewN k) := ⟨h.os, h.tape, h.output, h.size, h.block⟩
set_option maxRecDepth 100000 in
theorem ItAt_below {w w' : World} {N b o : Nat} {x : It} (h : ItAt w b o x) (hb : Below N w w') (hlt : b < N) : ItAt w' b o x :=
  ⟨(hb.cell (p := ⟨b, o, none⟩) hlt).trans h.c0, (hb.cell (p := ⟨b, o + 1, none⟩) hlt).trans h.c1, (hb.cell (p := ⟨b, o + 2, none⟩) hlt).trans h.c2, (hb.cell (p := ⟨b, o + 3, none⟩) hlt).trans h.c3⟩
set_option maxRecDepth 100000 in
theorem KpAt_below {w w' : World} {N b o : Nat} {x : Kp} (h : KpAt w b o x) (hb : Below N w w') (hlt : b < N) : KpAt w' b o x :=
  ⟨(hb.cell (p := ⟨b, o, none⟩) hlt).trans h.c0, (hb.cell (p := ⟨b, o + 1, none⟩) hlt).trans h.c1, (hb.cell (p := ⟨b, o + 2, none⟩) hlt).trans h.c2, (hb.cell (p := ⟨b, o + 3, none⟩) hlt).trans h.c3, (hb.cell (p := ⟨b, o + 4, none⟩) hlt).trans h.c4, (hb.cell (p := ⟨b, o + 5, none⟩) hlt).trans h.c5, (hb.cell (p := ⟨b, o + 6, none⟩) hlt).trans h.c6, (hb.cell (p := ⟨b, o + 7, none⟩) hlt).trans h.c7⟩

end Go.Proofs.YtplejbgecihnpaaDoor

namespace Go.Proofs.YtplejbgecihnpaaDoor
open Go.RowKit Go.Shelf
attribute [local go_sem] Oper.semAt_some

end Go.Proofs.YtplejbgecihnpaaDoor

namespace Go.Proofs.YtplejbgecihnpaaDoor
open Go.RowKit Go.Shelf

def itsOk (sq : Int) : Int → List It → Bool
  | _, [] => true
  | last, x :: l => (decide (last < x.tok) && decide (x.tok ≤ sq)) && itsOk sq x.tok l
def kpsOk : Int → List Kp → Bool
  | _, [] => true
  | last, x :: l => ((decide (last < x.id) && decide (x.id ≤ brMax)) && (decide (1 ≤ x.phase) && decide (x.phase ≤ 10))) && kpsOk x.id l
def rfOk (r : Rf) : Bool := !decide (r.st = 1) || ((decide (1 ≤ r.fr) && decide (r.fr ≤ brMax)) && (decide (1 ≤ r.to_) && decide (r.to_ ≤ brMax)))
def setOk (p : Br) : Bool := if p.set = true then may p.cf else decide (p.its = []) && decide (p.rf.st = 0)
def rightBb (p : Br) : Bool := (isNum p.ep && isNum p.sq) && (itsOk p.sq 0 p.its && (kpsOk 0 p.kps && (rfOk p.rf && setOk p)))

end Go.Proofs.YtplejbgecihnpaaDoor

namespace Go.Proofs.YtplejbgecihnpaaDoor
open Go.RowKit Go.Shelf
attribute [local go_sem] Oper.semAt_some

end Go.Proofs.YtplejbgecihnpaaDoor
