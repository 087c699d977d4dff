/-
  Texts that the walk of a statement over brains leans on, joined (BrOwnP, ScopeIn, BrAll, BrApply). Conditions: those that each theorem names.
-/
import Derived.Test.YtdaimejlcfhfiaaGreatDoorKQ
import Derived.Test.YtdaimejlcfhfiaaGreatDoorK2
import Derived.Test.YtdaimejlcfhfiaaGreatDoorK6
import Derived.Test.YtdaimejlcfhfiaaGreatDoorK16
import Derived.ScopeJumps
set_option maxRecDepth 100000

namespace Go.Proofs.YtdaimejlcfhfiaaGreatDoor
open Go.RowKit Go.Shelf

/-- 'append([]int(nil), l...)'. -/
theorem nil_ms (V : World) (Z : Nat) (A : Option Addr) (n c : Nat) (ms : List Int) (hr : Rd V Z A n (iv ms)) (_ : Z ≤ V.heap.size) (hn : n ≤ 1000) :
    ∃ A' c' W1, (Builtin.append_ #[22, 22] 22 #[.slice none 0 0, .slice A n c]).run Tryz.prog V = .ok (.slice A' n c') W1 ∧ W1.ownsRow V.heap.size 3 1 (.slice A' n c') n (iv ms) ∧ Below V.heap.size V W1 := by
  obtain ⟨v', W1, h1, h2, h3⟩ := run_appI V V.heap.size _ 0 [] (World.ownsRow_nil _ _ _ _) Z A n c ms hr (by omega) (Nat.le_refl _)
  rw [Nat.zero_add, List.nil_append] at h2
  obtain ⟨A', c', rfl⟩ := own_form h2
  exact ⟨A', c', W1, h1, h2, (Below.refl _ V).grown h3 (Nat.le_refl _) (by simp [Value.ownBlock])⟩
theorem nil_its (V : World) (Z : Nat) (A : Option Addr) (c : Nat) (l : List It) (hr : RdI V Z A l.length l) (_ : Z ≤ V.heap.size) (hn : l.length ≤ 1000) :
    ∃ A' c' W1, (Builtin.append_ #[25, 25] 25 #[.slice none 0 0, .slice A l.length c]).run Tryz.prog V = .ok (.slice A' l.length c') W1 ∧ ItsAt V.heap.size W1 (.slice A' l.length c') l ∧ Below V.heap.size V W1 := by
  obtain ⟨A', c', W1, h1, h2, h3, _⟩ := its_app V V.heap.size _ [] (ItsAt.nil_ _ _) Z A l.length c l hr (by simp; omega) (Nat.le_refl _)
  simp only [List.length_nil, Nat.zero_add, List.nil_append] at h1 h2
  exact ⟨A', c', W1, h1, h2, (Below.refl _ V).grown h3 (Nat.le_refl _) (by simp [Value.ownBlock])⟩
theorem nil_kps (V : World) (Z : Nat) (A : Option Addr) (c : Nat) (l : List Kp) (hr : RdK V Z A l.length l) (_ : Z ≤ V.heap.size) (hn : l.length ≤ 1000) :
    ∃ A' c' W1, (Builtin.append_ #[26, 26] 26 #[.slice none 0 0, .slice A l.length c]).run Tryz.prog V = .ok (.slice A' l.length c') W1 ∧ KpsAt V.heap.size W1 (.slice A' l.length c') l ∧ Below V.heap.size V W1 := by
  obtain ⟨A', c', W1, h1, h2, h3, _⟩ := kps_app V V.heap.size _ [] (KpsAt.nil_ _ _) Z A l.length c l hr (by simp; omega) (Nat.le_refl _)
  simp only [List.length_nil, Nat.zero_add, List.nil_append] at h1 h2
  exact ⟨A', c', W1, h1, h2, (Below.refl _ V).grown h3 (Nat.le_refl _) (by simp [Value.ownBlock])⟩

set_option maxHeartbeats 4000000 in
theorem bownB_any (p : Br) (a : Ad) (Z : Nat) (w : World) (hr : RdB_ w Z p a) (hZ : Z ≤ w.heap.size) (hm : p.cf.ms.length ≤ 1000) (hi : p.its.length ≤ 1000) (hk : p.kps.length ≤ 1000) :
    Calls Tryz.prog 16 #[brV p a] w (BrPost w.heap.size p w) := by
  obtain ⟨hb, w0, w1⟩ := two_new w 30 30 (brC p a) (brC br0 ad0)
  obtain ⟨V, hV⟩ : ∃ V, (w.alloc (.cells (brC p a) 30)).alloc (.cells (brC br0 ad0) 30) = V := ⟨_, rfl⟩
  rw [hV] at hb w0 w1
  have HR := Lib.hid (hr.below (hb.mono hZ))
  have HB := Lib.hid hb
  have X0 := Lib.hid w0
  have X1 := Lib.hid w1
  have HV := Lib.hid hV
  have HZ := Lib.hid (show Z ≤ V.heap.size from Nat.le_trans hZ hb.size)
  have HZw := Lib.hid hZ
  clear hb w0 w1 hr hZ hV
  go_enter Tryz.func16, Tryz.ntmps16
  go_upto_region 1 with fail
  refine wpV (fun V2 hV2 => ?_)
  obtain rfl : V = V2 := HV.out.symm.trans hV2
  clear HV hV2
  obtain ⟨C1, e1, W1, hrun, ho, hb⟩ := nil_ms V Z a.C p.cf.ms.length a.e p.cf.ms HR.out.ms HZ.out hm
  have s0 : V.cell? ⟨w.heap.size, 17, none⟩ = some (.slice a.C p.cf.ms.length a.e) := X0.out.cell 17
  have g0 := X0.out.under hb
  have x0 : W1.cell? ⟨w.heap.size, 17, none⟩ = some (.slice a.C p.cf.ms.length a.e) := g0.cell 17
  have y0 := g0.frozen 17
  have HRun := Lib.hid hrun
  have G0 := Lib.hid g0
  have O1 := Lib.hid ho
  have X1_ := Lib.hid (X1.out.under hb)
  have HB_ := Lib.hid (HB.out.trans (hb.mono HB.out.size))
  have HR_ := Lib.hid (HR.out.below (hb.mono HZ.out))
  have HZ_ := Lib.hid (Nat.le_trans HZ.out hb.size)
  have Sz1 := Lib.hid HB.out.size
  clear hrun g0 ho hb X0 X1 HB HR HZ 
  go_upto_region 2 with (at_builtin; refine wpList_app (by rfl) _ _ 22 rfl _ _ _ W1 (by rfl) (by rfl) HRun.out ?_)
  refine wpV (fun V1 hV1 => ?_)
  have k := Only.set W1 w.heap.size 17 (.slice C1 p.cf.ms.length e1)
  have e0 := set17 G0.out C1 e1
  rw [hV1] at k e0
  have X0 := Lib.hid e0
  have X1 := Lib.hid (k.far X1_.out (by omega))
  have HB := Lib.hid (k.bel HB_.out (Nat.le_refl _))
  have HR := Lib.hid (show RdB_ V1 Z p a from HR_.out.below (k.bel (Below.refl Z _) HZw.out))
  have HZ := Lib.hid (show Z ≤ V1.heap.size by rw [k.size]; exact HZ_.out)
  have O1' := Lib.hid (k.own O1.out G0.out (by decide))
  clear k e0 hV1 s0 x0 y0 HRun G0 X1_ HB_ HR_ HZ_  O1
  have O1 := O1'
  clear O1'
  obtain ⟨A1, c1, W2, hrun, ho, hb⟩ := nil_its V1 Z a.A a.c p.its HR.out.its HZ.out hi
  have s0 : V1.cell? ⟨w.heap.size, 18, none⟩ = some (.slice a.A p.its.length a.c) := X0.out.cell 18
  have g0 := X0.out.under hb
  have x0 : W2.cell? ⟨w.heap.size, 18, none⟩ = some (.slice a.A p.its.length a.c) := g0.cell 18
  have y0 := g0.frozen 18
  have HRun := Lib.hid hrun
  have G0 := Lib.hid g0
  have O2 := Lib.hid ho
  have X1_ := Lib.hid (X1.out.under hb)
  have HB_ := Lib.hid (HB.out.trans (hb.mono HB.out.size))
  have HR_ := Lib.hid (HR.out.below (hb.mono HZ.out))
  have HZ_ := Lib.hid (Nat.le_trans HZ.out hb.size)
  have Sz2 := Lib.hid HB.out.size
  have O1_ := Lib.hid (own_under O1.out hb)
  clear hrun g0 ho hb X0 X1 HB HR HZ O1
  go_upto_region 3 with (at_builtin; refine wpList_app (by rfl) _ _ 25 rfl _ _ _ W2 (by rfl) (by rfl) HRun.out ?_)
  refine wpV (fun V2 hV2 => ?_)
  have k := Only.set W2 w.heap.size 18 (.slice A1 p.its.length c1)
  have e0 := set18 G0.out A1 c1
  rw [hV2] at k e0
  have X0 := Lib.hid e0
  have X1 := Lib.hid (k.far X1_.out (by omega))
  have HB := Lib.hid (k.bel HB_.out (Nat.le_refl _))
  have HR := Lib.hid (show RdB_ V2 Z p a from HR_.out.below (k.bel (Below.refl Z _) HZw.out))
  have HZ := Lib.hid (show Z ≤ V2.heap.size by rw [k.size]; exact HZ_.out)
  have O1' := Lib.hid (k.own O1_.out G0.out (by decide))
  have O2' := Lib.hid (O2.out.only k G0.out (by decide))
  clear k e0 hV2 s0 x0 y0 HRun G0 X1_ HB_ HR_ HZ_ O1_ O2
  have O1 := O1'
  clear O1'
  have O2 := O2'
  clear O2'
  obtain ⟨B1, d1, W3, hrun, ho, hb⟩ := nil_kps V2 Z a.B a.d p.kps HR.out.kps HZ.out hk
  have s0 : V2.cell? ⟨w.heap.size, 19, none⟩ = some (.slice a.B p.kps.length a.d) := X0.out.cell 19
  have g0 := X0.out.under hb
  have x0 : W3.cell? ⟨w.heap.size, 19, none⟩ = some (.slice a.B p.kps.length a.d) := g0.cell 19
  have y0 := g0.frozen 19
  have HRun := Lib.hid hrun
  have G0 := Lib.hid g0
  have O3 := Lib.hid ho
  have X1_ := Lib.hid (X1.out.under hb)
  have HB_ := Lib.hid (HB.out.trans (hb.mono HB.out.size))
  have HR_ := Lib.hid (HR.out.below (hb.mono HZ.out))
  have HZ_ := Lib.hid (Nat.le_trans HZ.out hb.size)
  have Sz3 := Lib.hid HB.out.size
  have O1_ := Lib.hid (own_under O1.out hb)
  have O2_ := Lib.hid (O2.out.under hb)
  clear hrun g0 ho hb X0 X1 HB HR HZ O1 O2
  go_upto_region 4 with (at_builtin; refine wpList_app (by rfl) _ _ 26 rfl _ _ _ W3 (by rfl) (by rfl) HRun.out ?_)
  refine wpV (fun V3 hV3 => ?_)
  have k := Only.set W3 w.heap.size 19 (.slice B1 p.kps.length d1)
  have e0 := set19 G0.out B1 d1
  rw [hV3] at k e0
  have X0 := Lib.hid e0
  have X1 := Lib.hid (k.far X1_.out (by omega))
  have HB := Lib.hid (k.bel HB_.out (Nat.le_refl _))
  have HR := Lib.hid (show RdB_ V3 Z p a from HR_.out.below (k.bel (Below.refl Z _) HZw.out))
  have HZ := Lib.hid (show Z ≤ V3.heap.size by rw [k.size]; exact HZ_.out)
  have O1' := Lib.hid (k.own O1_.out G0.out (by decide))
  have O2' := Lib.hid (O2_.out.only k G0.out (by decide))
  have O3' := Lib.hid (O3.out.only k G0.out (by decide))
  clear k e0 hV3 s0 x0 y0 HRun G0 X1_ HB_ HR_ HZ_ O1_ O2_ O3
  have O1 := O1'
  clear O1'
  have O2 := O2'
  clear O2'
  have O3 := O3'
  clear O3'
  have HA : Hid ((brC p ⟨C1, e1, A1, c1, B1, d1⟩).all (·.oneCell') = true) := Lib.hid (brC_one _ _)
  go_wp2_with (first | refine wpList_load_row (by rfl) 30 _ rfl w.heap.size (by rfl) 30 _ (0, 0) _ X0.out Tryz.underlying30 rfl (by kernel_rfl) ?_ | refine wpList_store_row (by rfl) 30 _ _ rfl (w.heap.size + 1) (brC p ⟨C1, e1, A1, c1, B1, d1⟩) (by rfl) (by rfl) 30 _ X1.out (by kernel_rfl) rfl HA.out ?_)
  have hown : OwB w.heap.size V3 p ⟨C1, e1, A1, c1, B1, d1⟩ := ⟨own_weaker O1.out Sz1.out, O2.out.weaker Sz2.out, O3.out.weaker Sz3.out⟩
  exact brain_end (k := 2) rfl (by rfl) (setRow_heap _ _ _ _ _ _ X1.out) rfl ⟨⟨C1, e1, A1, c1, B1, d1⟩, rfl, hown.rowset X1.out (by decide) (by decide) (by decide) _, below_rowsetB HB.out (by omega) _⟩

end Go.Proofs.YtdaimejlcfhfiaaGreatDoor

namespace Go.Proofs.YtdaimejlcfhfiaaGreatDoor
open Go.RowKit Go.Shelf

section
variable {P : Program} {b : Frame} {a : Act} {k : List Item} {cs : List Frame} {w : World}
theorem stepR_scope {c : Code} : step P (lone (b.atR a (.code (.scope c) :: k)) cs w) = .next (lone (b.atR a (.code c :: .inScope c :: k)) cs w) :=
  step_lone_go (by simp [stepG, stepG.exec, Frame.atR])
theorem stepR_inScope {c : Code} : step P (lone (b.atR a (.inScope c :: k)) cs w) = .next (lone (b.atR a k) cs w) :=
  step_lone_go (by simp [stepG, stepG.exec, Frame.atR])
end
theorem wpIn_scope_fwd {F : Fence} {n : Nat} {P : Program} {a : Act} {w : World} {Q : Exit → Act → World → Prop} {c rest : Code} (l : Nat) (J : Act → World → Prop) (hf : findLabel c l = some rest)
    (first : c.wpIn F n P (Exit.jump l J Q) a w) (tail : ∀ a w, J a w → rest.wpIn F n P (Exit.noGoto Q) a w) : (Code.scope c).wpIn F n P Q a w := by
  intro b k cs hro hb hr
  have h0 : (lone (b.atR a (.code (.scope c) :: k)) cs w).fenced P F := fenced_calm hb hr rfl
  have hg : gotoIn l (.inScope c :: k) = some (.code rest :: .inScope c :: k) := by simp [gotoIn, hf]
  have hx : ∀ id, exitTo id (.inScope c :: k) = exitTo id k := fun id => by simp [exitTo]
  have fin : ∀ a w, J a w → ∃ e a' w', Q e a' w' ∧ ArrivesIn (Machine.fenced P F) P (lone (b.atR a (.code rest :: .inScope c :: k)) cs w) b k cs e a' w' := by
    intro a w hJ
    obtain ⟨e, a₁, w₁, hq, harr⟩ := tail a w hJ b (.inScope c :: k) cs hro hb hr
    cases e with
    | normal => exact ⟨.normal, a₁, w₁, hq, StepsIn.trans harr (.one (fenced_calm hb hr rfl) stepR_inScope)⟩
    | exit id => exact ⟨.exit id, a₁, w₁, hq, fun k' hk => harr.1 k' (by rw [hx]; exact hk), fun hr' hk => harr.2 hr' (by rw [hx]; exact hk)⟩
    | goto l' => exact hq.elim
    | ret => exact ⟨_, a₁, w₁, hq, harr⟩
    | panic ch => exact ⟨_, a₁, w₁, hq, harr⟩
    | outgrown => exact ⟨_, a₁, w₁, hq, harr⟩
  obtain ⟨e, a₁, w₁, hq, harr⟩ := first b (.inScope c :: k) cs hro hb hr
  cases e with
  | normal => exact ⟨.normal, a₁, w₁, hq, .head h0 stepR_scope (StepsIn.trans harr (.one (fenced_calm hb hr rfl) stepR_inScope))⟩
  | exit id => exact ⟨.exit id, a₁, w₁, hq, fun k' hk => .head h0 stepR_scope (harr.1 k' (by rw [hx]; exact hk)), fun hr' hk => let ⟨k₁, h1, h2⟩ := harr.2 hr' (by rw [hx]; exact hk); ⟨k₁, h1, .head h0 stepR_scope h2⟩⟩
  | goto l' =>
    obtain ⟨rfl, hJ'⟩ := hq
    obtain ⟨e₂, a₂, w₂, hq₂, harr₂⟩ := fin a₁ w₁ hJ'
    exact ⟨e₂, a₂, w₂, hq₂, .of_steps (.head h0 stepR_scope (harr.1 _ hg)) harr₂⟩
  | ret => exact ⟨_, a₁, w₁, hq, .of_steps (.one h0 stepR_scope) harr⟩
  | panic ch => exact ⟨_, a₁, w₁, hq, .of_steps (.one h0 stepR_scope) harr⟩
  | outgrown => exact ⟨_, a₁, w₁, hq, .of_steps (.one h0 stepR_scope) harr⟩

end Go.Proofs.YtdaimejlcfhfiaaGreatDoor

namespace Go.Proofs.YtdaimejlcfhfiaaGreatDoor
open Go.RowKit Go.Shelf Go.Maps
attribute [local go_sem] Oper.semAt_some

def recsB (xs : List RE) : List (Int × List Int) := xs.map fun x => ((x.k : Int), x.zs)
def AllPost (p : Br) (xs : List RE) (w : World) (e : Ending) (w' : World) : Prop :=
  ∃ a, e = .returned (brV (allB p (recsB xs)) a) ∧ OwB w.heap.size w' (allB p (recsB xs)) a ∧ Below w.heap.size w w'

/-- A brain into its box. -/
theorem wpList_storeB {ops : Array Oper} {rest : List Oper} {o : Oper} {a : Act} {w : World} {Q : Exit → Act → World → Prop} (hgd : o.guard = none) (x y : Operand) (ho : o.op = .store 30 x y) (g : Nat) (p : Br) (ad : Ad) (old : Array Value) (hs : old.size = 27)
    (hx : a.eval x = .pointer (some ⟨g, 0, none⟩)) (hy : a.eval y = brV p ad) (hW : Whole w g 30 old)
    (h : ∀ W2, W2 = w.setRow g (brC p ad) → wpList Tryz.prog ops Q rest (a.put o.dst undef) W2) : wpList Tryz.prog ops Q (o :: rest) a w := by
  refine wpList_store_at hgd 30 x y ho g 0 (brC p ad) hx hy 30 old hW (by kernel_rfl) (by rw [hs]; exact Nat.le_refl _) (by simp [Value.oneCell']) (h _ ?_)
  have e : old.toList.drop (0 + (brC p ad).size) = [] := List.drop_of_length_le (by rw [Array.length_toList, hs]; exact Nat.le_refl _)
  rw [e]
  simp

/-- What holds between two rounds. -/
structure AlAt (g m tb : Nat) (sl : Value) (w : World) (x : Bx) (p : Br) (pre : List RE) (W : World) : Prop where
  br : ∃ a', BrIn g g W (allB p (recsB pre)) a'
  d : DBox W g x
  mp : deedM W m 16 (deedL x allK)
  mb : Whole W tb 63 #[.map (some m)]
  bn : Whole W (tb + 1) 33 #[sl]
  rs : ∃ cs, Whole W (g + 1) 30 cs ∧ cs.size = 27
  below : Below g w W
section
variable {g m tb : Nat} {sl : Value} {w : World} {x : Bx} {p : Br} {pre : List RE} {W W' : World}
theorem OwB.turn {base : Nat} {a : Ad} {row : Option Nat} (h : OwB base W p a) (hg : W.grownBy W' row) (hr : ∀ r, row = some r → ∃ o : Obj, W.heap[r]? = some o ∧ o.isCells = false) : OwB base W' p a :=
  ⟨own_turn h.ms hg hr, own_turn h.its hg hr, own_turn h.kps hg hr⟩
theorem DBox.turn {row : Option Nat} (h : DBox W g x) (hg : W.grownBy W' row) (hr : ∀ r, row = some r → ∃ o : Obj, W.heap[r]? = some o ∧ o.isCells = false) : DBox W' g x :=
  ⟨h.e1.turn hg hr, ⟨h.k.1.turn hg hr, h.k.2.1.turn hg hr, h.k.2.2.1.turn hg hr, h.k.2.2.2.turn hg hr⟩, ⟨h.r.1.turn hg hr, h.r.2.1.turn hg hr, h.r.2.2.turn hg hr⟩⟩
theorem AlAt.turn {row : Option Nat} {B : Nat} (h : AlAt g m tb sl w x p pre W) (hB : w.heap.size ≤ B) (hmB : m < B) (hgw : g = w.heap.size) (hg : W.grownBy W' row) (hr : ∀ r, row = some r → B ≤ r ∧ ∃ o : Obj, W.heap[r]? = some o ∧ o.isCells = false) : AlAt g m tb sl w x p pre W' := by
  have hr' : ∀ r, row = some r → ∃ o : Obj, W.heap[r]? = some o ∧ o.isCells = false := fun r e => (hr r e).2
  obtain ⟨a', ha⟩ := h.br
  obtain ⟨cs, h1, h2⟩ := h.rs
  refine ⟨⟨a', ha.box.turn hg hr', ha.own.turn hg hr', ha.ge⟩, h.d.turn hg hr', h.mp.kept hg (fun e => ?_), h.mb.turn hg hr', h.bn.turn hg hr', ⟨cs, h1.turn hg hr', h2⟩, h.below.grown hg (by have := h.below.size; omega) (fun k e => by have := (hr k e).1; omega)⟩
  have := (hr m e.symm).1
  omega
theorem AlAt.under (h : AlAt g m tb sl w x p pre W) (hgw : g ≤ W.heap.size) (hb : Below W.heap.size W W') : AlAt g m tb sl w x p pre W' := by
  obtain ⟨a', ha⟩ := h.br
  obtain ⟨cs, h1, h2⟩ := h.rs
  exact ⟨⟨a', ha.under hb⟩, h.d.under hb, World.ownsMap.kept h.mp (row := none) ⟨hb.os, hb.tape, hb.output, hb.size, fun i hi _ => hb.block i hi⟩ (by simp), h.mb.under hb, h.bn.under hb, ⟨cs, h1.under hb, h2⟩, h.below.trans (hb.mono hgw)⟩
/-- Behind a deed. -/
theorem AlAt.stp {q : Br} {pre' : List RE} (h : AlAt g m tb sl w x p pre W) (hs : Stp g W W') (hq : q = allB p (recsB pre')) {a' : Ad} (hb : BrIn g g W' q a') : AlAt g m tb sl w x p pre' W' := by
  obtain ⟨cs, h1, h2⟩ := h.rs
  obtain ⟨cs', h3, h4⟩ := hs.brn (g + 1) cs h1
  refine ⟨⟨a', by rw [← hq]; exact hb⟩, h.d.stp hs, ?_, hs.whole h.mb (by decide), hs.whole h.bn (by decide), ⟨cs', h3, h4.trans h2⟩, h.below.trans hs.below⟩
  obtain ⟨es, clock, e1, e2, e3, e4⟩ := h.mp
  exact ⟨es, clock, hs.keeps m _ e1 rfl, e2, e3, e4⟩
end

theorem good_mono {m m' : Nat} {p : Br} (h : Good m p) (hm : m ≤ m') : Good m' p := ⟨Nat.le_trans h.len hm, h.ep, h.sq, h.ph⟩
theorem recs_snoc (p : Br) (pre : List RE) (x : RE) : allB p (recsB (pre ++ [x])) = applyB (allB p (recsB pre)) (x.k : Int) x.zs := by simp [recsB, allB]
theorem good_all {m : Nat} {p : Br} (h : Good m p) (xs : List RE) : Good (m + xs.length) (allB p (recsB xs)) := by
  induction xs generalizing m p with
  | nil => exact h
  | cons x l ih =>
    have h1 := ih (good_apply h (x.k : Int) x.zs)
    rw [List.length_cons, show m + (l.length + 1) = m + 1 + l.length by omega]
    exact h1
def zeroD : Value := .agg #[.nilFunc, .nilFunc]
theorem deedR_held {v : Value} {y : DataW Value} {ps : List MemPlace} (h : deedR v = some (y, ps)) : y = .held v := by
  cases v with
  | agg cs =>
    simp only [deedR] at h
    split at h
    · cases h; rfl
    · cases h
  | _ => cases h
def knownB (k : Nat) : Bool := decide (1 ≤ k ∧ k ≤ 16)
theorem atKey_yes (x : Bx) (z : DataW Value) (k : Nat) (h : knownB k = true) : (deedL x allK).atKey (.int .u8 (k : Int)) z = .held (deedV x k) ∧ Maps.has (deedL x allK) (.int .u8 (k : Int)) = true := by
  have h1 : 1 ≤ k ∧ k ≤ 16 := by simpa [knownB] using h
  rcases kind_cases (show k < 17 by omega) with rfl | rfl | rfl | rfl | rfl | rfl | rfl | rfl | rfl | rfl | rfl | rfl | rfl | rfl | rfl | rfl | rfl
  · omega
  all_goals exact ⟨by kernel_rfl, by kernel_rfl⟩
theorem atKey_no (x : Bx) (z : DataW Value) (k : Nat) (h : knownB k = false) : (deedL x allK).atKey (.int .u8 (k : Int)) z = z ∧ Maps.has (deedL x allK) (.int .u8 (k : Int)) = false := by
  have h1 : ¬ (1 ≤ k ∧ k ≤ 16) := by simpa [knownB] using h
  have hk : ∀ q : Nat, 1 ≤ q → q ≤ 16 → (q : Int) ≠ (k : Int) := fun q h2 h3 e => by omega
  have hf : ((allK.map fun k => (k, deedV x k)).map fun y => ((.int .u8 (y.1 : Int) : Lit), (DataW.held y.2 : DataW Value))).find? (fun p => p.1.sameKey (.int .u8 (k : Int))) = none := by
    rw [List.find?_eq_none]
    intro q hq
    simp only [List.mem_map, allK] at hq
    obtain ⟨y, ⟨c, hc, rfl⟩, rfl⟩ := hq
    have h5 : 1 ≤ c ∧ c ≤ 16 := by
      simp only [List.mem_cons, List.not_mem_nil, or_false] at hc
      omega
    simp only [Lit.sameKey, true_and, decide_eq_true_eq]
    exact hk c h5.1 h5.2
  refine ⟨?_, ?_⟩
  · simp only [deedL, mapD, DataW.atKey, hf]
  · simp only [deedL, mapD, Maps.has]
    rw [List.find?_eq_none] at hf
    rw [List.any_eq_false]
    exact hf
theorem look_deed {W : World} {m : Nat} {x : Bx} (h : deedM W m 16 (deedL x allK)) (k : Nat) (hk : k < 256) :
    (Instr.lookup 63 (.map (some m)) (.int .u8 (k : Int)) true).run Tryz.prog W = .ok (.tuple #[if knownB k then deedV x k else zeroD, .bool (knownB k)]) W := by
  obtain ⟨v, ps, hrun, hv⟩ := h.look_ok (int_keyed Tryz.underlying5) Tryz.underlying63 (z := zeroD) (by kernel_rfl) (zd := .held zeroD) (zp := []) rfl (keyOf_int_mk (q := .u8) (a := (k : Int)) Tryz.underlying5 (by
    have h1 : IntKind.u8.min = 0 := rfl
    have h2 : IntKind.u8.max = 255 := rfl
    simp [Lit.wf, h1, h2]; omega))
  have hh := deedR_held hv
  rw [hrun]
  cases hb : knownB k with
  | true =>
    obtain ⟨e1, e2⟩ := atKey_yes x (.held zeroD) k hb
    rw [e1] at hh
    rw [e2]
    cases hh
    rfl
  | false =>
    obtain ⟨e1, e2⟩ := atKey_no x (.held zeroD) k hb
    rw [e1] at hh
    rw [e2]
    cases hh
    rfl
theorem deedV_shape (x : Bx) (k : Nat) (h : knownB k = true) : ∃ (f1 f2 : Nat) (c1 c2 : Array Value), deedV x k = .agg #[clo f1 c1, clo f2 c2] := by
  have h1 : 1 ≤ k ∧ k ≤ 16 := by simpa [knownB] using h
  rcases kind_cases (show k < 17 by omega) with rfl | rfl | rfl | rfl | rfl | rfl | rfl | rfl | rfl | rfl | rfl | rfl | rfl | rfl | rfl | rfl | rfl
  · omega
  all_goals exact ⟨_, _, _, _, rfl⟩
theorem known_may {k : Nat} {zs : List Int} (h : mayB k zs = true) : knownB k = true := by
  have := mayB_kind h
  simp only [knownB, decide_eq_true_eq]
  omega
theorem keepsFrom_alloc (B : Nat) (W : World) (o : Obj) : KeepsFrom B W (W.alloc o) := (keeps_under ((Below.refl _ W).alloc (Nat.le_refl _) o)).from _
theorem kpB_under {n₀ Bn : Nat} {W W' : World} (h : Below W.heap.size W W') (h0 : n₀ ≤ W.heap.size) (h1 : Bn < W.heap.size) : KpB n₀ Bn W W' := ⟨h.mono h0, h.block _ h1⟩
theorem kpB_stp {g Bn : Nat} {W W' : World} {t : TypeId} {cs : Array Value} (hs : Stp g W W') (hw : Whole W Bn t cs) (ht : mutT t = false) : KpB g Bn W W' := ⟨hs.below, by
  have h2 := hs.whole hw ht
  unfold Whole at h2 hw
  rw [h2, hw]⟩
theorem keepsFrom_stp {g B : Nat} {W W' : World} (hs : Stp g W W') : KeepsFrom B W W' := ⟨hs.size, fun k o _ ho hc => hs.keeps k o ho (by cases o <;> first | rfl | cases hc)⟩

theorem all_end {fn : Func} {k b : Nat} (hres : fn.results = #[.cell k 30]) {tm : Array Value} {n : Nat} {F : Fence} {W : World} {cs : Array Value} {R : Ending → World → Prop} (D : Nat) (h2 : tm[k]? = some (.pointer (some ⟨b, 0, none⟩))) (hW : Whole W b 30 cs) (hc : cs.size = 27) (hK : W.heap[D]? = some (.deferred (some [])))
    (h : R (.returned (.agg cs)) (W.putObj D (.deferred none))) : bodyPostM F n Tryz.prog fn R .ret { tmps := tm, defers := [{ target := .collected D, args := #[] }] } W := by
  have hg' := grownBy_putObj' W D (.deferred none)
  have hr' : ∀ q, (some D) = some q → ∃ o : Obj, W.heap[q]? = some o ∧ o.isCells = false := fun q e => by cases e; exact ⟨_, hK, rfl⟩
  have hW' := hW.turn hg' hr'
  refine ⟨by simp, .inl ⟨_, _, rfl, run_takeDeferred hK, ?_⟩⟩
  have hl := run_loadVar_row (P := Tryz.prog) (W.putObj D (.deferred none)) b 30 30 cs (0, 0) _ hW' Tryz.underlying30 rfl (by rw [hc]; kernel_rfl)
  refine ⟨.agg cs, ?_, h⟩
  simp [results, hres, h2, hl, asAddr]

set_option maxHeartbeats 4000000 in
theorem all_any (p : Br) (a : Ad) (A : Option Addr) (n c : Nat) (xs : List RE) (Z : Nat) (w : World) (hr : RdB_ w Z p a) (hZ : Z ≤ w.heap.size) (hx : RdR w Z A n xs) (hm : p.cf.ms.length ≤ 1000) (hcap : ∀ x ∈ xs, x.n ≤ x.c ∧ x.c ≤ maxLen) (hn : n ≤ 300) (hg : Good 400 p) (hT : Tab w) (hH : TabH w) :
    Calls Tryz.prog 14 #[brV p a, .slice A n c] w (AllPost p xs w) := by
  obtain ⟨hb0, w0, w1⟩ := two_new w 30 30 (brC p a) (brC br0 ad0)
  obtain ⟨V, hV⟩ : ∃ V, (w.alloc (.cells (brC p a) 30)).alloc (.cells (brC br0 ad0) 30) = V := ⟨_, rfl⟩
  rw [hV] at hb0 w0 w1
  have HV := Lib.hid hV
  have X0 := Lib.hid w0
  have X1 := Lib.hid w1
  have HB0 := Lib.hid hb0
  have hown := bownB_any p a Z V (hr.below (hb0.mono hZ)) (Nat.le_trans hZ hb0.size) hm (by have := hg.len; omega) (by have := hg.len; omega)
  have HOwn := Lib.hid hown
  have HX := Lib.hid hx
  have HZ := Lib.hid hZ
  have HG := Lib.hid hg
  have HT := Lib.hid hT
  have HH := Lib.hid hH
  have HN := Lib.hid hn
  have HCap := Lib.hid hcap
  clear hV w0 w1 hb0 hown hx hZ hg hT hH hr hm hn hcap
  refine (callsIn_wide (n := 6)).1 ?_
  refine callsIn_of_wp_marks Tryz.func14 rfl trivial ?_ rfl
  simp only [Tryz.ntmps14, List.size_toArray, List.length_cons, List.length_nil, Nat.reduceAdd, Nat.reduceSub, Array.replicate_succ, Array.replicate_zero, List.push_toArray, List.append_toArray, List.nil_append, List.cons_append]
  refine wpIn_wide.2 ?_
  go_upto_region 1 with fail
  refine wpV (fun V2 hV2 => ?_)
  obtain rfl : V = V2 := HV.out.symm.trans hV2
  clear HV hV2
  go_wp2_with (refine wpList_loadB (by rfl) _ rfl w.heap.size p a (by rfl) X0.out ?_)
  refine HOwn.out.mono ?_
  rintro e V1 ⟨a1, rfl, ho1, hb1⟩
  have Y0 := Lib.hid (X0.out.under hb1)
  have Y1 := Lib.hid (X1.out.under hb1)
  have HB1 := Lib.hid (HB0.out.trans (hb1.mono HB0.out.size))
  have HO1 := Lib.hid (ho1.weaker HB0.out.size)
  clear ho1 hb1 X0 X1 HOwn HB0
  go_upto_region 2 with (refine wpList_storeB rfl _ _ rfl w.heap.size p a1 _ (by rfl) (by rfl) (by rfl) Y0.out ?_; intro W2 hW2)
  have X0 : Whole W2 w.heap.size 30 (brC p a1) := by rw [hW2]; exact setRow_heap _ _ _ _ _ _ Y0.out
  have X1 : Whole W2 (w.heap.size + 1) 30 (brC br0 ad0) := by rw [hW2]; exact (setRow_other _ _ _ _ (by omega)).trans Y1.out
  have hB2 : Below w.heap.size w W2 := by rw [hW2]; exact below_rowsetB HB1.out (Nat.le_refl _) _
  have hO2 : OwB w.heap.size W2 p a1 := by rw [hW2]; exact HO1.out.rowset Y0.out (by decide) (by decide) (by decide) _
  have HIn := Lib.hid (show BrIn w.heap.size w.heap.size W2 p a1 from ⟨X0, hO2, Nat.le_refl _⟩)
  have HX1 := Lib.hid X1
  have HB2 := Lib.hid hB2
  clear X0 X1 hB2 hO2 hW2 Y0 Y1 HB1 HO1
  go_wp2_with fail
  refine (deeds_any w.heap.size w.heap.size W2 HIn.out).mono ?_
  rintro e W3 ⟨m, x, rfl, hm, hb, hd, hmap⟩
  have HM := Lib.hid hm
  have hml := Lib.hid hmap.lt
  have hs3 := Lib.hid hb.size
  have HL := Lib.hid (HIn.out.lt)
  have HB3 := Lib.hid (HB2.out.trans (hb.mono HB2.out.size))
  have HIn3 := Lib.hid (HIn.out.under hb)
  have HX3 := Lib.hid (HX1.out.under hb)
  have HD3 := Lib.hid hd
  have HMap3 := Lib.hid hmap
  clear hm hb hd hmap HIn HX1 HB2
  go_wp2_with fail
  refine (vals_any A n c _).mono ?_
  rintro e W5 ⟨rfl, hW5⟩
  obtain ⟨hb5, e0, e1⟩ := two_new W3 63 33 #[.map (some m)] #[.slice A n c]
  rw [← hW5] at hb5 e0 e1
  have hs5 : W5.heap.size = W3.heap.size + 1 + 1 := by rw [hW5]; simp
  have hinv : AlAt w.heap.size m W3.heap.size (.slice A n c) w x p [] W5 :=
    ⟨⟨a1, HIn3.out.under hb5⟩, HD3.out.under hb5, World.ownsMap.kept HMap3.out (row := none) ⟨hb5.os, hb5.tape, hb5.output, hb5.size, fun i hi _ => hb5.block i hi⟩ (by simp), e0, e1, ⟨_, HX3.out.under hb5, rfl⟩, HB3.out.trans (hb5.mono (by have := HL.out; have := hs3.out; omega))⟩
  have HInv := Lib.hid hinv
  have HS5 := Lib.hid hs5
  have hgw : w.heap.size < W3.heap.size := Nat.lt_of_lt_of_le HL.out hs3.out
  have HGw := Lib.hid hgw
  have HRR := Lib.hid (show RdR W5 w.heap.size A n xs from (HX.out.more HZ.out).below hinv.below)
  clear hW5 hb5 e0 e1 hs5 hinv hgw HIn3 HX3 HD3 HMap3 HB3
  go_wp2_with fail
  refine (wpIn_wide (n := 6)).1 ?_
  refine wpIn_range_mem (by omega) (gf := 59) (lb := #[.pointer (some ⟨W3.heap.size + 1, 0, none⟩)]) rfl (enters_of Tryz.func59 (by kernel_rfl) rfl) (encs := encRE)
    (vals_mem 5 (W3.heap.size + 1) w.heap.size A n c xs (by have := HN.out; omega) W5 (by have := HS5.out; have := HGw.out; omega) HInv.out.bn HRR.out)
    (fun h k => kpB_t h k) (kpB_b (by have := HS5.out; have := HGw.out; omega) (by have := HS5.out; omega)) (Below.refl _ _) (fun _ => rfl)
    (AlAt w.heap.size m W3.heap.size (.slice A n c) w x p) (fun _ _ => False)
    (fun pre W W' row h hg hr => h.turn (by have := HS5.out; have := HGw.out; omega) (by have := HS5.out; have := hml.out; omega) rfl hg hr) (fun _ _ _ _ h _ _ => h.elim) HInv.out
    (fun pre y a' W => OkRE xs pre y W ∧ ∃ gb, a' = { tmps := #[brV p a, .slice A n c, .pointer (some ⟨w.heap.size, 0, none⟩), undef, .pointer (some ⟨w.heap.size + 1, 0, none⟩), .pointer (some ⟨W3.heap.size, 0, none⟩), .pointer (some ⟨gb, 0, none⟩), undef, undef, brV p a, brV p a1, .map (some m), .slice A n c, .func (.func 59) #[] #[.pointer (some ⟨W3.heap.size + 1, 0, none⟩)], .agg #[.int .u8 (y.k : Int), .slice y.A y.n y.c], undef, undef, undef, undef, undef, undef, undef, undef, undef, undef, undef, undef, undef, undef, undef, undef, undef, undef, undef, undef, undef, undef, undef, undef, undef, undef], defers := [] } ∧ Whole W gb 32 #[.int .u8 (y.k : Int), .slice y.A y.n y.c])
    (fun a' p X Y row hs hg hr => ⟨hs.1, by obtain ⟨g, e, hb⟩ := hs.2; exact ⟨g, e, Whole.turn hb hg (fun r e => (hr r e).2)⟩⟩) ?assign ?body ?done ?stop
  case assign =>
    rintro lp pre y W K hI hOk hK
    have HOk := Lib.hid hOk
    have HI := Lib.hid hI
    clear hOk hI
    unfold encRE
    gi_wp2
    have hbu : Below W.heap.size W (W.alloc (.cells #[.int .u8 (y.k : Int), .slice y.A y.n y.c] 32)) := (Below.refl _ _).alloc (Nat.le_refl _) _
    exact hK _ _ (keepsFrom_alloc _ _ _) (kpB_under hbu HI.out.below.size HI.out.bn.lt) (HI.out.under HI.out.below.size hbu) ⟨HOk.out, _, rfl, Whole.new _ _ _⟩
  case stop =>
    rintro D c W hD h hK
    exact h.elim
  case body =>
    rintro lp pre y a' W hlp hI ⟨hOk, gb, rfl, hbx⟩
    have HI := Lib.hid hI
    have HOk := Lib.hid hOk
    have HBX := Lib.hid hbx
    clear hI hOk hbx
    obtain ⟨j, hj, hy⟩ := HOk.out
    have hym : y ∈ xs := List.mem_of_getElem? hy
    have hjn : j < n := by
      have := (List.getElem?_eq_some_iff.1 hy).1
      have := HX.out.1
      omega
    have hk256 : y.k < 256 := (HX.out.2.2 y hym).1
    have HGood := Lib.hid (good_mono (good_all HG.out pre) (show 400 + pre.length ≤ 800 by
      have := HN.out
      rw [hj, List.length_take]
      omega))
    have HRow := Lib.hid ((HX.out.2.2 y hym).2)
    have HCp := Lib.hid (HCap.out y hym)
    have HK256 := Lib.hid hk256
    clear hj hy hym hjn hk256 j HOk
    refine wpIn_block ?_
    refine wpIn_scope_fwd 0 (fun _ W' => Stp w.heap.size W W' ∧ ∃ a'', BrIn w.heap.size w.heap.size W' (allB p (recsB (pre ++ [y]))) a'') rfl ?first ?tail
    case tail =>
      rintro a' W' ⟨hs, a'', hb⟩
      have HS := Lib.hid hs
      have HBr := Lib.hid hb
      clear hs hb
      refine wpIn_skip ?_
      exact ⟨keepsFrom_stp HS.out, kpB_stp HS.out HI.out.bn (by decide), HI.out.stp HS.out rfl HBr.out⟩
    case first =>
      have c5 := HI.out.mb.cell 0
      have k0 := HBX.out.cell 0
      have k1 := HBX.out.cell 1
      simp only [List.getElem?_toArray, List.getElem?_cons_zero, List.getElem?_cons_succ] at c5 k0 k1
      have hl := look_deed HI.out.mp y.k HK256.out
      cases hkb : knownB y.k with
      | false =>
        rw [hkb] at hl
        simp only [Bool.false_eq_true, if_false, zeroD] at hl
        gi_wp2_with fail
        refine ⟨trivial, ?_⟩
        gi_wp2_with fail
        refine wpIn_goto ?_
        have hap : applyB (allB p (recsB pre)) (y.k : Int) y.zs = allB p (recsB pre) := apply_not (by
          cases hmy : mayB y.k y.zs with
          | true => rw [known_may hmy] at hkb; cases hkb
          | false => rfl)
        obtain ⟨a1', hbr⟩ := HI.out.br
        have hbu : Below W.heap.size W (W.alloc (.cells #[.nilFunc, .nilFunc] 71)) := (Below.refl _ W).alloc (Nat.le_refl _) _
        refine ⟨rfl, Stp.of_below hbu HI.out.below.size, a1', ?_⟩
        rw [recs_snoc, hap]
        exact hbr.under hbu
      | true =>
        obtain ⟨f1, f2, q1, q2, hsh⟩ := deedV_shape x y.k hkb
        rw [hkb] at hl
        simp only [if_true, hsh] at hl
        have HSh := Lib.hid hsh
        have HRt := Lib.hid (fun W' (hB : Z ≤ W'.heap.size) (h : Below Z w W') => right_rec y.k HK256.out y.A y.n y.c y.zs Z W' (HRow.out.below h) hB)
        clear hsh
        have hB1 : Below W.heap.size W (W.alloc (.cells #[.func (.func f1) #[] q1, .func (.func f2) #[] q2] 71)) := (Below.refl _ W).alloc (Nat.le_refl _) _
        have hZ1 : Z ≤ (W.alloc (.cells #[.func (.func f1) #[] q1, .func (.func f2) #[] q2] 71)).heap.size := Nat.le_trans HZ.out (Nat.le_trans HI.out.below.size hB1.size)
        have hZ2 := HI.out.below.trans (hB1.mono HI.out.below.size)
        have k0' := (HBX.out.under hB1).cell 0
        have k1' := (HBX.out.under hB1).cell 1
        simp only [List.getElem?_toArray, List.getElem?_cons_zero, List.getElem?_cons_succ] at k0' k1'
        have HR1 := Lib.hid (HRt.out _ hZ1 (hZ2.mono HZ.out))
        have HB1 := Lib.hid hB1
        have HDb := Lib.hid (Whole.new W 71 #[.func (.func f1) #[] q1, .func (.func f2) #[] q2])
        clear hB1 hZ1 hZ2 HRt
        cases hmy : mayB y.k y.zs with
        | false =>
          rw [hmy] at HR1
          have HMy := Lib.hid hmy
          clear hmy hkb
          gi_wp2_with fail
          refine ⟨trivial, (CallsIn.inRound lp (callsIn_wide.2 HR1.out)).mono ?_⟩
          rintro e W2 ⟨rfl, b2⟩
          have HB2 := Lib.hid (HB1.out.trans (b2.mono HB1.out.size))
          clear b2 HR1
          gi_wp2_with fail
          refine wpIn_goto ?_
          obtain ⟨a1', hbr⟩ := HI.out.br
          refine ⟨rfl, Stp.of_below HB2.out HI.out.below.size, a1', ?_⟩
          rw [recs_snoc, apply_not HMy.out]
          exact hbr.under HB2.out
        | true =>
          rw [hmy] at HR1
          have HMy := Lib.hid hmy
          clear hmy hkb
          gi_wp2_with fail
          refine ⟨trivial, (CallsIn.inRound lp (callsIn_wide.2 HR1.out)).mono ?_⟩
          rintro e W2 ⟨rfl, b2⟩
          have HDb2 := Lib.hid (HDb.out.under b2)
          have HB2 := Lib.hid (HB1.out.trans (b2.mono HB1.out.size))
          clear b2 HR1 k0' k1' k0 k1 c5 hl HDb HB1
          obtain ⟨a1', hbr⟩ := HI.out.br
          have hbw := HI.out.below.trans (HB2.out.mono HI.out.below.size)
          have E : DEnv w.heap.size w.heap.size Z W2 (allB p (recsB pre)) a1' x := ⟨hbr.under HB2.out, HI.out.d.under HB2.out, HT.out.bel HT.out.1 hbw, HH.out.below HH.out.1 hbw, HGood.out, HZ.out⟩
          obtain ⟨g1, g2, u1, u2, fit, hsh', en1, en2, hf, hno, hyes⟩ := deed_any E (HRow.out.below (hbw.mono HZ.out)) HCp.out.1 HCp.out.2 HMy.out
          cases HSh.out.symm.trans hsh'
          have HF := Lib.hid hf
          have HNo := Lib.hid hno
          have HYes := Lib.hid hyes
          have HBr := Lib.hid hbr
          clear hf hno hyes hsh' E hbw hbr HSh
          have k0 := (HBX.out.under HB2.out).cell 0
          have k1 := (HBX.out.under HB2.out).cell 1
          have d0 := HDb2.out.cell 0
          simp only [List.getElem?_toArray, List.getElem?_cons_zero, List.getElem?_cons_succ] at k0 k1 d0
          cases hfit : fit with
          | false =>
            rw [hfit] at HF HNo
            clear hfit
            gi_wp2_with fail
            refine ⟨trivial, (CallsIn.inRound lp (callsIn_wide.2 HF.out)).mono ?_⟩
            rintro e W4 ⟨rfl, b4⟩
            have HB4 := Lib.hid (HB2.out.trans (b4.mono HB2.out.size))
            clear b4 HF k0 k1 d0
            gi_wp2_with fail
            refine wpIn_goto ?_
            refine ⟨rfl, Stp.of_below HB4.out HI.out.below.size, a1', ?_⟩
            rw [recs_snoc, HNo.out trivial]
            exact HBr.out.under HB4.out
          | true =>
            rw [hfit] at HF HYes
            clear hfit
            gi_wp2_with fail
            refine ⟨trivial, (CallsIn.inRound lp (callsIn_wide.2 HF.out)).mono ?_⟩
            rintro e W4 ⟨rfl, b4⟩
            have HB4 := Lib.hid (HB2.out.trans (b4.mono HB2.out.size))
            have HD := Lib.hid (HYes.out trivial W4 b4)
            have k0 := (HBX.out.under HB4.out).cell 0
            have k1 := (HBX.out.under HB4.out).cell 1
            have d1 := (HDb2.out.under b4).cell 1
            simp only [List.getElem?_toArray, List.getElem?_cons_zero, List.getElem?_cons_succ] at k0 k1 d1
            clear b4 HF d0 en1
            gi_wp2_with fail
            refine ⟨trivial, (CallsIn.inRound lp (callsIn_wide.2 HD.out)).mono ?_⟩
            rintro e W6 ⟨rfl, hs6, a6, h6⟩
            have HS6 := Lib.hid ((Stp.of_below HB4.out HI.out.below.size).trans hs6)
            have H6 := Lib.hid h6
            clear hs6 h6 k0 k1 d1 HD
            gi_wp2_with fail
            refine wpIn_label ?_
            exact ⟨keepsFrom_stp HS6.out, kpB_stp HS6.out HI.out.bn (by decide), HI.out.stp HS6.out (recs_snoc p pre y).symm H6.out⟩
  case done =>
    rintro D ys W hD rfl hI hK
    have HK := Lib.hid hK
    have HI := Lib.hid hI
    clear hI hK
    obtain ⟨a', hbr⟩ := HI.out.br
    obtain ⟨cs, hr1, hr2⟩ := HI.out.rs
    obtain ⟨q, hq⟩ : ∃ q, allB p (recsB ys) = q := ⟨_, rfl⟩
    have HQ := Lib.hid hq
    rw [hq] at hbr
    have HBr := Lib.hid hbr
    have HR1 := Lib.hid hr1
    have HBel := Lib.hid HI.out.below
    clear hq hbr hr1
    go_wp2_with (first | (refine wpList_loadB (by rfl) _ rfl w.heap.size q a' (by rfl) HBr.out.box ?_) | (refine wpList_storeB rfl _ _ rfl (w.heap.size + 1) q a' cs hr2 (by rfl) (by rfl) HR1.out ?_; intro W7 hW7))
    have e7 : Whole W7 (w.heap.size + 1) 30 (brC q a') := by rw [hW7]; exact setRow_heap _ _ _ _ _ _ HR1.out
    have o7 : OwB w.heap.size W7 q a' := by rw [hW7]; exact HBr.out.own.rowset HR1.out (by decide) (by decide) (by decide) _
    have b7 : Below w.heap.size w W7 := by rw [hW7]; exact below_rowsetB HBel.out (Nat.le_succ _) _
    have k7 : W7.heap[D]? = some (.deferred (some [])) := by
      rw [hW7]
      refine (setRow_other _ _ _ _ ?_).trans HK.out
      have := HS5.out
      have := HGw.out
      omega
    have hr7 : ∀ r, (some D) = some r → ∃ o : Obj, W7.heap[r]? = some o ∧ o.isCells = false := fun r e => by cases e; exact ⟨_, k7, rfl⟩
    refine all_end rfl D (by rfl) e7 rfl k7 ⟨a', by rw [HQ.out], ?_, ?_⟩
    · rw [HQ.out]; exact o7.turn (grownBy_putObj' W7 D (.deferred none)) hr7
    · exact b7.trans ((Below.refl _ _).grown (grownBy_putObj' W7 D (.deferred none)) b7.size (fun k e => by cases e; have := HS5.out; have := HGw.out; omega))

end Go.Proofs.YtdaimejlcfhfiaaGreatDoor

namespace Go.Proofs.YtdaimejlcfhfiaaGreatDoor
open Go.RowKit Go.Shelf Go.Maps

/-- A brain is handed back, in memory of its own. -/
def ApPost (q : Br) (w : World) (e : Ending) (w' : World) : Prop :=
  ∃ a, e = .returned (brV q a) ∧ OwB w.heap.size w' q a ∧ Below w.heap.size w w'

set_option maxHeartbeats 4000000 in
theorem apply_any (p : Br) (a : Ad) (y : RE) (Z : Nat) (w : World) (hr : RdB_ w Z p a) (hZ : Z ≤ w.heap.size) (hk : y.k < 256) (hy : Rd w Z y.A y.n (iv y.zs)) (hcap : y.n ≤ y.c ∧ y.c ≤ maxLen) (hm : p.cf.ms.length ≤ 1000) (hg : Good 400 p) (hT : Tab w) (hH : TabH w) :
    Calls Tryz.prog 12 #[brV p a, .agg #[.int .u8 (y.k : Int), .slice y.A y.n y.c]] w (ApPost (applyB p (y.k : Int) y.zs) w) := by
  obtain ⟨hb0, w0, w1, w2⟩ := three_new w 30 32 30 (brC p a) #[.int .u8 (y.k : Int), .slice y.A y.n y.c] (brC br0 ad0)
  obtain ⟨V, hV⟩ : ∃ V, ((w.alloc (.cells (brC p a) 30)).alloc (.cells #[.int .u8 (y.k : Int), .slice y.A y.n y.c] 32)).alloc (.cells (brC br0 ad0) 30) = V := ⟨_, rfl⟩
  have hsV : V.heap.size = w.heap.size + 1 + 1 + 1 := by rw [← hV]; simp
  rw [hV] at hb0 w0 w1 w2
  have k0 := w1.cell 0
  have k1 := w1.cell 1
  simp only [List.getElem?_toArray, List.getElem?_cons_zero, List.getElem?_cons_succ] at k0 k1
  obtain ⟨V1, hV1⟩ : ∃ V1, V.alloc (.cells #[.int .u8 (y.k : Int), .slice y.A y.n y.c] 32) = V1 := ⟨_, rfl⟩
  have hb1 : Below V.heap.size V V1 := by rw [← hV1]; exact (Below.refl _ _).alloc (Nat.le_refl _) _
  have hb2 := hb0.trans (hb1.mono hb0.size)
  have hrow : RdR V1 (V.heap.size + 1) (some ⟨V.heap.size, 0, none⟩) 1 [y] := by
    rw [← hV1]
    exact rdR_one V y Z (Nat.le_trans hZ hb0.size) hk (hy.below (hb0.mono hZ)) V.heap.size rfl
  have hsz1 : V1.heap.size = V.heap.size + 1 := by rw [← hV1]; simp
  have hall := all_any p a (some ⟨V.heap.size, 0, none⟩) 1 1 [y] (V.heap.size + 1) V1 ((hr.below (hb2.mono hZ)).more (by have := hb0.size; omega)) (by omega) hrow hm (fun x hx => by simp only [List.mem_singleton] at hx; rw [hx]; exact hcap) (by omega) hg (hT.under hb2) (hH.under hb2)
  rw [hsV] at hall
  have HV := Lib.hid hV
  have HV1 := Lib.hid hV1
  have X0 := Lib.hid w0
  have X2 := Lib.hid (w2.under hb1)
  have HB := Lib.hid hb2
  have HAll := Lib.hid hall
  have HSz := Lib.hid hsz1
  clear hb0 w0 w1 w2 hV hV1 hb1 hb2 hrow hall hr hZ hy hcap hm hg hT hH hsz1
  go_enter Tryz.func12, Tryz.ntmps12
  go_upto_region 1 with fail
  refine wpV (fun V2 hV2 => ?_)
  obtain rfl : V = V2 := HV.out.symm.trans hV2
  clear HV hV2
  go_wp2_with (refine wpList_loadB (by rfl) _ rfl w.heap.size p a (by rfl) X0.out ?_)
  refine ((by rw [HV1.out]; exact HAll.out) : Calls Tryz.prog 14 #[brV p a, .slice (some ⟨w.heap.size + 1 + 1 + 1, 0, none⟩) 1 1] (V.alloc (.cells #[.int .u8 (y.k : Int), .slice y.A y.n y.c] 32)) (AllPost p [y] V1)).mono ?_
  rintro e W1 ⟨a1, rfl, ho1, hb1⟩
  have hq : allB p (recsB [y]) = applyB p (y.k : Int) y.zs := by simp [recsB, allB]
  rw [hq] at ho1 ⊢
  have X3 := Lib.hid (X2.out.under hb1)
  have hle : w.heap.size ≤ V1.heap.size := HB.out.size
  have HO := Lib.hid (ho1.weaker hle)
  have HB1 := Lib.hid (HB.out.trans (hb1.mono hle))
  clear ho1 hb1 X2 hq
  go_wp2_with (refine wpList_storeB rfl _ _ rfl (w.heap.size + 1 + 1) _ a1 _ (by rfl) (by rfl) (by rfl) X3.out ?_; intro W7 hW7)
  have e7 : Whole W7 (w.heap.size + 1 + 1) 30 (brC (applyB p (y.k : Int) y.zs) a1) := by rw [hW7]; exact setRow_heap _ _ _ _ _ _ X3.out
  refine brain_end (k := 4) rfl (by rfl) e7 rfl ⟨a1, rfl, ?_, ?_⟩
  · rw [hW7]; exact HO.out.rowset X3.out (by decide) (by decide) (by decide) _
  · rw [hW7]; exact below_rowsetB HB1.out (by omega) _

end Go.Proofs.YtdaimejlcfhfiaaGreatDoor
