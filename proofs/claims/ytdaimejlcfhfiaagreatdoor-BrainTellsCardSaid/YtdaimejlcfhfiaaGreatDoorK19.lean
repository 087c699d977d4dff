/-
  Texts that the walk of a statement over brains leans on, joined (BrOps, BrOpen, BrTab, BrReach, BrWakes). Conditions: those that each theorem names.
-/
import Derived.Test.YtdaimejlcfhfiaaGreatDoorKQ
import Derived.Test.YtdaimejlcfhfiaaGreatDoorK0
import Derived.Test.YtdaimejlcfhfiaaGreatDoorK7
import Derived.Test.YtdaimejlcfhfiaaGreatDoorK8
import Derived.Test.YtdaimejlcfhfiaaGreatDoorK18
import Derived.LaidMore
import Derived.Stop.Joined
import Derived.Test.YtdaimejlcfhfiaaGreatDoorRows
import Derived.SizedLaws
import Derived.ChangeArms
set_option maxRecDepth 100000

namespace Go.Proofs.YtdaimejlcfhfiaaGreatDoor
open Go.RowKit Go.Shelf

/-- A row of records that reads; a brain that reads; a box with a brain of nothing. -/
def RecsIs (ks : List (Int × List Int)) (v : Value) (w : World) : Prop :=
  ∃ A c xs, v = .slice A xs.length c ∧ RdR w w.heap.size A xs.length xs ∧ recsB xs = ks ∧ ∀ x ∈ xs, x.n ≤ x.c ∧ x.c ≤ maxLen
def BrIs (q : Br) (v : Value) (w : World) : Prop := ∃ a, v = brV q a ∧ OwB 0 w q a
def BoxIs (lo : Nat) (v : Value) (w : World) : Prop := ∃ b, v = .pointer (some ⟨b, 0, none⟩) ∧ lo ≤ b ∧ Whole w b 30 (brC br0 ad0)
section
variable {v : Value} {w w' : World}
theorem RecsIs.under {ks : List (Int × List Int)} (hb : Below w.heap.size w w') (h : RecsIs ks v w) : RecsIs ks v w' := by
  obtain ⟨A, c, xs, h1, h2, h3⟩ := h
  exact ⟨A, c, xs, h1, (h2.below hb).more hb.size, h3⟩
theorem BrIs.under {q : Br} (hb : Below w.heap.size w w') (h : BrIs q v w) : BrIs q v w' := by
  obtain ⟨a, h1, h2⟩ := h
  exact ⟨a, h1, h2.under hb⟩
theorem BoxIs.under {lo : Nat} (hb : Below w.heap.size w w') (h : BoxIs lo v w) : BoxIs lo v w' := by
  obtain ⟨b, h1, h2, h3⟩ := h
  exact ⟨b, h1, h2, h3.under hb⟩
end
def recF (x : RE) : List Value := [.int .u8 (x.k : Int), .slice x.A x.n x.c]
theorem recF_len (x : RE) : (recF x).length = 2 := rfl
/-- Records in one row of one's own making. -/
theorem recs_new (w : World) (xs : List RE) (h : ∀ x ∈ xs, x.k < 256 ∧ Rd w w.heap.size x.A x.n (iv x.zs)) : RdR (w.alloc (.cells (xs.flatMap recF).toArray 32)) (w.alloc (.cells (xs.flatMap recF).toArray 32)).heap.size (some ⟨w.heap.size, 0, none⟩) xs.length xs := by
  refine ⟨rfl, fun _ => ⟨w.heap.size, 0, rfl, by simp, fun j x hx => ?_⟩, fun x hx => ⟨(h x hx).1, ((h x hx).2.alloc (Nat.le_refl _) _).more (by simp)⟩⟩
  have e0 := flatF_at recF_len hx (i := 0) (by omega)
  have e1 := flatF_at recF_len hx (i := 1) (by omega)
  refine ⟨?_, ?_⟩
  · rw [Nat.zero_add, cell_new, List.getElem?_toArray]
    exact e0
  · rw [Nat.zero_add, cell_new, List.getElem?_toArray]
    exact e1
theorem recIs_RE {k : Nat} {zs : List Int} {v : Value} {w : World} (hk : k < 256) (h : RecIs k zs v w) : ∃ x : RE, v = .agg (recF x).toArray ∧ x.k = k ∧ x.zs = zs ∧ (x.k < 256 ∧ Rd w w.heap.size x.A x.n (iv x.zs)) ∧ x.n ≤ x.c ∧ x.c ≤ maxLen := by
  obtain ⟨A, c, h1, h2, h3⟩ := h
  exact ⟨⟨k, A, zs.length, c, zs⟩, h1, rfl, rfl, ⟨hk, h2⟩, h3⟩

section
variable {K : Act → World → Prop} {Q : Exit → Act → World → Prop} {a : Act} {w : World} {d : Tmp} {t : TypeId} {pos : String} {after : Array Edge} {x y : Operand}
set_option maxHeartbeats 2000000 in
theorem opB_load {b : Nat} {p : Br} {ad : Ad} (hx : a.eval x = .pointer (some ⟨b, 0, none⟩)) (hW : Whole w b 30 (brC p ad)) (h : K (a.put (some d) (brV p ad)) w) :
    ({ dst := some d, op := .load 30 x, type := t, pos := pos, after := after, guard := none } : Oper).wp Tryz.prog a w K Q := by
  unfold Oper.wp execOp
  simp only [hx, Instr.loadAt, Instr.sureAddr, Sem.run_bind, Sem.run_pure, Result.andThen_ok, run_loadVar_row (P := Tryz.prog) w b 30 30 (brC p ad) (0, 0) _ hW Tryz.underlying30 rfl (by kernel_rfl)]
  exact h
set_option maxHeartbeats 2000000 in
theorem opB_rec (k : Nat) {zs : List Int} (hy : SlIs zs (a.eval y) w) (h : ∀ v w', Below w.heap.size w w' → RecIs k zs v w' → K (a.put (some d) v) w') :
    ({ dst := some d, op := .call { callee := .value (.func 27), args := #[.const (.int .u8 (k : Int)), y], argTypes := #[5, 22] }, type := t, pos := pos, after := after, guard := none } : Oper).wp Tryz.prog a w K Q := by
  obtain ⟨A, c, e, hr⟩ := hy
  have hf : a.eval (.func 27) = .func (.func 27) #[] #[] := rfl
  have hc : a.eval (.const (.int .u8 (k : Int))) = .int .u8 (k : Int) := rfl
  unfold Oper.wp execOp
  simp only [resolve, List.map_toArray, List.map_cons, List.map_nil, e, hc, hf]
  go_simp
  refine (rec_any k A zs.length c w).mono ?_
  rintro e w' ⟨rfl, hb⟩
  exact h _ _ hb (RecIs.under hb ⟨A, c, rfl, hr⟩)
set_option maxHeartbeats 2000000 in
theorem opB_group (h : ∀ v w', Below w.heap.size w w' → RecIs 2 gZ v w' → K (a.put (some d) v) w') :
    ({ dst := some d, op := .call { callee := .value (.func 28), args := #[], argTypes := #[] }, type := t, pos := pos, after := after, guard := none } : Oper).wp Tryz.prog a w K Q := by
  have hf : a.eval (.func 28) = .func (.func 28) #[] #[] := rfl
  unfold Oper.wp execOp
  simp only [resolve, List.map_toArray, List.map_nil, hf]
  go_simp
  refine (group_any w).mono ?_
  rintro e w' ⟨v, rfl, hv, hb⟩
  exact h _ _ hb hv
set_option maxRecDepth 100000 in
set_option maxHeartbeats 2000000 in
theorem opB_alloc {lo : Nat} (hlo : lo ≤ w.heap.size) (h : ∀ v w', Below w.heap.size w w' → BoxIs lo v w' → K (a.put (some d) v) w') :
    ({ dst := some d, op := .alloc 30, type := t, pos := pos, after := after, guard := none } : Oper).wp Tryz.prog a w K Q := by
  have hw := Whole.new w 30 (brC br0 ad0)
  have hb : Below w.heap.size w (w.alloc (.cells (brC br0 ad0) 30)) := (Below.refl _ _).alloc (Nat.le_refl _) _
  have HW := Lib.hid hw
  have HB := Lib.hid hb
  clear hw hb
  unfold Oper.wp execOp
  go_simp
  exact h _ _ HB.out ⟨_, rfl, hlo, HW.out⟩
set_option maxHeartbeats 2000000 in
theorem opB_all {ks : List (Int × List Int)} {p : Br} (hx : BrIs p (a.eval x) w) (hy : RecsIs ks (a.eval y) w) (hk : ks.length ≤ 300) (hm : p.cf.ms.length ≤ 1000) (hg : Good 400 p) (hT : Tab w) (hH : TabH w)
    (h : ∀ v w', Below w.heap.size w w' → BrIs (allB p ks) v w' → K (a.put (some d) v) w') :
    ({ dst := some d, op := .call { callee := .value (.func 14), args := #[x, y], argTypes := #[30, 33] }, type := t, pos := pos, after := after, guard := none } : Oper).wp Tryz.prog a w K Q := by
  obtain ⟨ad, e1, hr⟩ := hx
  obtain ⟨A, c, xs, e2, hrs, rfl, hcap⟩ := hy
  have hl : xs.length = (recsB xs).length := by simp [recsB]
  have hf : a.eval (.func 14) = .func (.func 14) #[] #[] := rfl
  have HA := Lib.hid (all_any p ad A xs.length c xs w.heap.size w hr.reads (Nat.le_refl _) hrs hm hcap (by omega) hg hT hH)
  clear hr hrs hm hcap hg hT hH hl hk
  unfold Oper.wp execOp
  simp only [resolve, List.map_toArray, List.map_cons, List.map_nil, e1, e2, hf]
  go_simp
  refine HA.out.mono ?_
  rintro e w' ⟨a', rfl, ho, hb⟩
  exact h _ _ hb ⟨a', rfl, ho.weaker (Nat.zero_le _)⟩
set_option maxHeartbeats 2000000 in
theorem opB_apply {k : Nat} {zs : List Int} {p : Br} (hx : BrIs p (a.eval x) w) (hy : RecIs k zs (a.eval y) w) (hk : k < 256) (hm : p.cf.ms.length ≤ 1000) (hg : Good 400 p) (hT : Tab w) (hH : TabH w)
    (h : ∀ v w', Below w.heap.size w w' → BrIs (applyB p (k : Int) zs) v w' → K (a.put (some d) v) w') :
    ({ dst := some d, op := .call { callee := .value (.func 12), args := #[x, y], argTypes := #[30, 32] }, type := t, pos := pos, after := after, guard := none } : Oper).wp Tryz.prog a w K Q := by
  obtain ⟨ad, e1, hr⟩ := hx
  obtain ⟨A, c, e2, hrd, hcap⟩ := hy
  have hf : a.eval (.func 12) = .func (.func 12) #[] #[] := rfl
  have HA := Lib.hid (apply_any p ad ⟨k, A, zs.length, c, zs⟩ w.heap.size w hr.reads (Nat.le_refl _) hk hrd hcap hm hg hT hH)
  clear hr hrd hm hcap hg hT hH
  unfold Oper.wp execOp
  simp only [resolve, List.map_toArray, List.map_cons, List.map_nil, e1, e2, hf]
  go_simp
  refine HA.out.mono ?_
  rintro e w' ⟨a', rfl, ho, hb⟩
  exact h _ _ hb ⟨a', rfl, ho.weaker (Nat.zero_le _)⟩
set_option maxHeartbeats 2000000 in
theorem opB_ints3 (z0 z1 z2 : Int) (h : ∀ v w', Below w.heap.size w w' → SlIs [z0, z1, z2] v w' → K (a.put (some d) v) w') :
    ({ dst := some d, op := .buildSlice 22 3 #[(0, .const (.int .i64 z0)), (1, .const (.int .i64 z1)), (2, .const (.int .i64 z2))], type := t, pos := pos, after := after, guard := none } : Oper).wp Tryz.prog a w K Q := by
  have hb : Below w.heap.size w (w.alloc (.cells #[.int .i64 z0, .int .i64 z1, .int .i64 z2] 3)) := (Below.refl _ _).alloc (Nat.le_refl _) _
  have hr := (rd_lit w [.int .i64 z0, .int .i64 z1, .int .i64 z2] 3 3 rfl)
  have HB := Lib.hid hb
  have HR := Lib.hid hr
  clear hb hr
  unfold Oper.wp execOp
  go_simp
  exact h _ _ HB.out ⟨_, 3, rfl, HR.out.more (by simp), Nat.le_refl _, by unfold maxLen; omega⟩
set_option maxHeartbeats 2000000 in
theorem opB_ints5 (z0 z1 z2 z3 z4 : Int) (h : ∀ v w', Below w.heap.size w w' → SlIs [z0, z1, z2, z3, z4] v w' → K (a.put (some d) v) w') :
    ({ dst := some d, op := .buildSlice 22 5 #[(0, .const (.int .i64 z0)), (1, .const (.int .i64 z1)), (2, .const (.int .i64 z2)), (3, .const (.int .i64 z3)), (4, .const (.int .i64 z4))], type := t, pos := pos, after := after, guard := none } : Oper).wp Tryz.prog a w K Q := by
  have hb : Below w.heap.size w (w.alloc (.cells #[.int .i64 z0, .int .i64 z1, .int .i64 z2, .int .i64 z3, .int .i64 z4] 3)) := (Below.refl _ _).alloc (Nat.le_refl _) _
  have hr := (rd_lit w [.int .i64 z0, .int .i64 z1, .int .i64 z2, .int .i64 z3, .int .i64 z4] 3 5 rfl)
  have HB := Lib.hid hb
  have HR := Lib.hid hr
  clear hb hr
  unfold Oper.wp execOp
  go_simp
  exact h _ _ HB.out ⟨_, 5, rfl, HR.out.more (by simp), Nat.le_refl _, by unfold maxLen; omega⟩
set_option maxHeartbeats 2000000 in
theorem opB_recs2 {k0 k1 : Nat} {l0 l1 : List Int} {x0 x1 : Operand} (h0 : RecIs k0 l0 (a.eval x0) w) (h1 : RecIs k1 l1 (a.eval x1) w) (hk0 : k0 < 256) (hk1 : k1 < 256)
    (h : ∀ v w', Below w.heap.size w w' → RecsIs [((k0 : Int), l0), ((k1 : Int), l1)] v w' → K (a.put (some d) v) w') :
    ({ dst := some d, op := .buildSlice 33 2 #[(0, x0), (1, x1)], type := t, pos := pos, after := after, guard := none } : Oper).wp Tryz.prog a w K Q := by
  obtain ⟨r0, e0, rfl, rfl, g0, q0⟩ := recIs_RE hk0 h0
  obtain ⟨r1, e1, rfl, rfl, g1, q1⟩ := recIs_RE hk1 h1
  have hb : Below w.heap.size w (w.alloc (.cells ([r0, r1].flatMap recF).toArray 32)) := (Below.refl _ _).alloc (Nat.le_refl _) _
  have hr := recs_new w [r0, r1] (by intro x hx; simp only [List.mem_cons, List.not_mem_nil, or_false] at hx; rcases hx with rfl | rfl <;> first | exact g0 | exact g1)
  have HB := Lib.hid hb
  have HR := Lib.hid hr
  have HQ := Lib.hid (show ∀ x ∈ [r0, r1], x.n ≤ x.c ∧ x.c ≤ maxLen by intro x hx; simp only [List.mem_cons, List.not_mem_nil, or_false] at hx; rcases hx with rfl | rfl <;> first | exact q0 | exact q1)
  clear hb hr g0 g1 q0 q1 h0 h1
  simp only [recF] at e0 e1
  unfold Oper.wp execOp
  simp only [e0, e1, List.map_toArray, List.map_cons, List.map_nil]
  go_simp
  exact h _ _ HB.out ⟨_, 2, _, rfl, HR.out, rfl, HQ.out⟩
set_option maxHeartbeats 2000000 in
theorem opB_recs6 {k0 k1 k2 k3 k4 k5 : Nat} {l0 l1 l2 l3 l4 l5 : List Int} {x0 x1 x2 x3 x4 x5 : Operand} (h0 : RecIs k0 l0 (a.eval x0) w) (h1 : RecIs k1 l1 (a.eval x1) w) (h2 : RecIs k2 l2 (a.eval x2) w) (h3 : RecIs k3 l3 (a.eval x3) w) (h4 : RecIs k4 l4 (a.eval x4) w) (h5 : RecIs k5 l5 (a.eval x5) w) (hk0 : k0 < 256) (hk1 : k1 < 256) (hk2 : k2 < 256) (hk3 : k3 < 256) (hk4 : k4 < 256) (hk5 : k5 < 256)
    (h : ∀ v w', Below w.heap.size w w' → RecsIs [((k0 : Int), l0), ((k1 : Int), l1), ((k2 : Int), l2), ((k3 : Int), l3), ((k4 : Int), l4), ((k5 : Int), l5)] v w' → K (a.put (some d) v) w') :
    ({ dst := some d, op := .buildSlice 33 6 #[(0, x0), (1, x1), (2, x2), (3, x3), (4, x4), (5, x5)], type := t, pos := pos, after := after, guard := none } : Oper).wp Tryz.prog a w K Q := by
  obtain ⟨r0, e0, rfl, rfl, g0, q0⟩ := recIs_RE hk0 h0
  obtain ⟨r1, e1, rfl, rfl, g1, q1⟩ := recIs_RE hk1 h1
  obtain ⟨r2, e2, rfl, rfl, g2, q2⟩ := recIs_RE hk2 h2
  obtain ⟨r3, e3, rfl, rfl, g3, q3⟩ := recIs_RE hk3 h3
  obtain ⟨r4, e4, rfl, rfl, g4, q4⟩ := recIs_RE hk4 h4
  obtain ⟨r5, e5, rfl, rfl, g5, q5⟩ := recIs_RE hk5 h5
  have hb : Below w.heap.size w (w.alloc (.cells ([r0, r1, r2, r3, r4, r5].flatMap recF).toArray 32)) := (Below.refl _ _).alloc (Nat.le_refl _) _
  have hr := recs_new w [r0, r1, r2, r3, r4, r5] (by intro x hx; simp only [List.mem_cons, List.not_mem_nil, or_false] at hx; rcases hx with rfl | rfl | rfl | rfl | rfl | rfl <;> first | exact g0 | exact g1 | exact g2 | exact g3 | exact g4 | exact g5)
  have HB := Lib.hid hb
  have HR := Lib.hid hr
  have HQ := Lib.hid (show ∀ x ∈ [r0, r1, r2, r3, r4, r5], x.n ≤ x.c ∧ x.c ≤ maxLen by intro x hx; simp only [List.mem_cons, List.not_mem_nil, or_false] at hx; rcases hx with rfl | rfl | rfl | rfl | rfl | rfl <;> first | exact q0 | exact q1 | exact q2 | exact q3 | exact q4 | exact q5)
  clear hb hr g0 q0 h0 g1 q1 h1 g2 q2 h2 g3 q3 h3 g4 q4 h4 g5 q5 h5
  simp only [recF] at e0 e1 e2 e3 e4 e5
  unfold Oper.wp execOp
  simp only [e0, e1, e2, e3, e4, e5, List.map_toArray, List.map_cons, List.map_nil]
  go_simp
  exact h _ _ HB.out ⟨_, 6, _, rfl, HR.out, rfl, HQ.out⟩
end

end Go.Proofs.YtdaimejlcfhfiaaGreatDoor

namespace Go.Proofs.YtdaimejlcfhfiaaGreatDoor
open Go.RowKit Go.Shelf Go.ChangeShapes Go.WideShapes Go.Deep Go.Joins

section
variable {H : Type} {enc : TypeId × Value → H} {W : World} {base : Nat} {held : Bool} {d : DataW H} {p : List MemPlace} {v : Value}
set_option maxHeartbeats 1000000 in
theorem i64_lo {z : Int} (h : (Lit.int .i64 z).wf = true) : -9223372036854775808 ≤ z := by
  simp only [Lit.wf, Bool.and_eq_true, decide_eq_true_eq] at h
  exact h.1
set_option maxHeartbeats 1000000 in
theorem open_itC {f : Nat} {c : List Value} {y : DataW H × List MemPlace} (hsz : c.length = 4) (h : DataW.trod enc Tryz.prog W 0 (fun _ => true) held f 45 c = some y) : ∃ x : It, c = x.vs ∧ True := by
  have k0 : Tryz.prog.cellsOf 3 = 1 := by kernel_rfl
  have k1 : Tryz.prog.cellsOf 4 = 1 := by kernel_rfl
  obtain ⟨xs, n, _, _, _, hlen, hel⟩ := DataW.trod_struct Tryz.underlying45 h
  match c, hsz, xs, hlen with
  | [c0, c1, c2, c3], _, [y0, y1, y2, y3], _ =>
    have g0 : DataW.trod enc Tryz.prog W 0 (fun _ => true) held n 3 [c0] = some y0 := by simpa [Value.cells, k0, k1] using hel 0 _ rfl
    have g1 : DataW.trod enc Tryz.prog W 0 (fun _ => true) held n 3 [c1] = some y1 := by simpa [Value.cells, k0, k1] using hel 1 _ rfl
    have g2 : DataW.trod enc Tryz.prog W 0 (fun _ => true) held n 3 [c2] = some y2 := by simpa [Value.cells, k0, k1] using hel 2 _ rfl
    have g3 : DataW.trod enc Tryz.prog W 0 (fun _ => true) held n 4 [c3] = some y3 := by simpa [Value.cells, k0, k1] using hel 3 _ rfl
    obtain ⟨z0, e0, _, w0⟩ := DataW.trod_int Tryz.underlying3 g0
    obtain ⟨z1, e1, _, w1⟩ := DataW.trod_int Tryz.underlying3 g1
    obtain ⟨z2, e2, _, w2⟩ := DataW.trod_int Tryz.underlying3 g2
    obtain ⟨z3, e3, _⟩ := DataW.trod_bool Tryz.underlying4 g3
    simp only [List.cons.injEq, and_true] at e0 e1 e2 e3
    exact ⟨⟨z0, z1, z2, z3⟩, by rw [e0, e1, e2, e3]; rfl, trivial⟩
set_option maxHeartbeats 1000000 in
theorem open_kpC {f : Nat} {c : List Value} {y : DataW H × List MemPlace} (hsz : c.length = 8) (h : DataW.trod enc Tryz.prog W 0 (fun _ => true) held f 47 c = some y) : ∃ x : Kp, c = x.vs ∧ 0 ≤ x.phase := by
  have k0 : Tryz.prog.cellsOf 3 = 1 := by kernel_rfl
  have k1 : Tryz.prog.cellsOf 5 = 1 := by kernel_rfl
  have k2 : Tryz.prog.cellsOf 4 = 1 := by kernel_rfl
  obtain ⟨xs, n, _, _, _, hlen, hel⟩ := DataW.trod_struct Tryz.underlying47 h
  match c, hsz, xs, hlen with
  | [c0, c1, c2, c3, c4, c5, c6, c7], _, [y0, y1, y2, y3, y4, y5, y6, y7], _ =>
    have g0 : DataW.trod enc Tryz.prog W 0 (fun _ => true) held n 3 [c0] = some y0 := by simpa [Value.cells, k0, k1, k2] using hel 0 _ rfl
    have g1 : DataW.trod enc Tryz.prog W 0 (fun _ => true) held n 3 [c1] = some y1 := by simpa [Value.cells, k0, k1, k2] using hel 1 _ rfl
    have g2 : DataW.trod enc Tryz.prog W 0 (fun _ => true) held n 3 [c2] = some y2 := by simpa [Value.cells, k0, k1, k2] using hel 2 _ rfl
    have g3 : DataW.trod enc Tryz.prog W 0 (fun _ => true) held n 3 [c3] = some y3 := by simpa [Value.cells, k0, k1, k2] using hel 3 _ rfl
    have g4 : DataW.trod enc Tryz.prog W 0 (fun _ => true) held n 5 [c4] = some y4 := by simpa [Value.cells, k0, k1, k2] using hel 4 _ rfl
    have g5 : DataW.trod enc Tryz.prog W 0 (fun _ => true) held n 3 [c5] = some y5 := by simpa [Value.cells, k0, k1, k2] using hel 5 _ rfl
    have g6 : DataW.trod enc Tryz.prog W 0 (fun _ => true) held n 4 [c6] = some y6 := by simpa [Value.cells, k0, k1, k2] using hel 6 _ rfl
    have g7 : DataW.trod enc Tryz.prog W 0 (fun _ => true) held n 4 [c7] = some y7 := by simpa [Value.cells, k0, k1, k2] using hel 7 _ rfl
    obtain ⟨z0, e0, _, w0⟩ := DataW.trod_int Tryz.underlying3 g0
    obtain ⟨z1, e1, _, w1⟩ := DataW.trod_int Tryz.underlying3 g1
    obtain ⟨z2, e2, _, w2⟩ := DataW.trod_int Tryz.underlying3 g2
    obtain ⟨z3, e3, _, w3⟩ := DataW.trod_int Tryz.underlying3 g3
    obtain ⟨z4, e4, _, w4⟩ := DataW.trod_int Tryz.underlying5 g4
    obtain ⟨z5, e5, _, w5⟩ := DataW.trod_int Tryz.underlying3 g5
    obtain ⟨z6, e6, _⟩ := DataW.trod_bool Tryz.underlying4 g6
    obtain ⟨z7, e7, _⟩ := DataW.trod_bool Tryz.underlying4 g7
    simp only [List.cons.injEq, and_true] at e0 e1 e2 e3 e4 e5 e6 e7
    exact ⟨⟨z0, z1, z2, z3, z4, z5, z6, z7⟩, by rw [e0, e1, e2, e3, e4, e5, e6, e7]; rfl, (bounds_u8 w4).1⟩
set_option maxHeartbeats 1000000 in
theorem open_rfC {f : Nat} {c : List Value} {y : DataW H × List MemPlace} (hsz : c.length = 7) (h : DataW.trod enc Tryz.prog W 0 (fun _ => true) held f 28 c = some y) : ∃ x : Rf, c = (Rf.cells x).toList := by
  have k0 : Tryz.prog.cellsOf 5 = 1 := by kernel_rfl
  have k1 : Tryz.prog.cellsOf 3 = 1 := by kernel_rfl
  have k2 : Tryz.prog.cellsOf 4 = 1 := by kernel_rfl
  obtain ⟨xs, n, _, _, _, hlen, hel⟩ := DataW.trod_struct Tryz.underlying28 h
  match c, hsz, xs, hlen with
  | [c0, c1, c2, c3, c4, c5, c6], _, [y0, y1, y2, y3, y4, y5, y6], _ =>
    have g0 : DataW.trod enc Tryz.prog W 0 (fun _ => true) held n 5 [c0] = some y0 := by simpa [Value.cells, k0, k1, k2] using hel 0 _ rfl
    have g1 : DataW.trod enc Tryz.prog W 0 (fun _ => true) held n 3 [c1] = some y1 := by simpa [Value.cells, k0, k1, k2] using hel 1 _ rfl
    have g2 : DataW.trod enc Tryz.prog W 0 (fun _ => true) held n 3 [c2] = some y2 := by simpa [Value.cells, k0, k1, k2] using hel 2 _ rfl
    have g3 : DataW.trod enc Tryz.prog W 0 (fun _ => true) held n 3 [c3] = some y3 := by simpa [Value.cells, k0, k1, k2] using hel 3 _ rfl
    have g4 : DataW.trod enc Tryz.prog W 0 (fun _ => true) held n 4 [c4] = some y4 := by simpa [Value.cells, k0, k1, k2] using hel 4 _ rfl
    have g5 : DataW.trod enc Tryz.prog W 0 (fun _ => true) held n 3 [c5] = some y5 := by simpa [Value.cells, k0, k1, k2] using hel 5 _ rfl
    have g6 : DataW.trod enc Tryz.prog W 0 (fun _ => true) held n 3 [c6] = some y6 := by simpa [Value.cells, k0, k1, k2] using hel 6 _ rfl
    obtain ⟨z0, e0, _, w0⟩ := DataW.trod_int Tryz.underlying5 g0
    obtain ⟨z1, e1, _, w1⟩ := DataW.trod_int Tryz.underlying3 g1
    obtain ⟨z2, e2, _, w2⟩ := DataW.trod_int Tryz.underlying3 g2
    obtain ⟨z3, e3, _, w3⟩ := DataW.trod_int Tryz.underlying3 g3
    obtain ⟨z4, e4, _⟩ := DataW.trod_bool Tryz.underlying4 g4
    obtain ⟨z5, e5, _, w5⟩ := DataW.trod_int Tryz.underlying3 g5
    obtain ⟨z6, e6, _, w6⟩ := DataW.trod_int Tryz.underlying3 g6
    simp only [List.cons.injEq, and_true] at e0 e1 e2 e3 e4 e5 e6
    exact ⟨⟨z0, z1, z2, z3, z4, z5, z6⟩, by rw [e0, e1, e2, e3, e4, e5, e6]⟩
set_option maxHeartbeats 1000000 in
theorem open_cfC {f : Nat} {c : List Value} {y : DataW H × List MemPlace} (hsz : c.length = 15) (h : DataW.trod enc Tryz.prog W 0 (fun _ => true) held f 24 c = some y) : ∃ x : Cf, c = x.cells.toList ∧ Lies x W W.heap.size := by
  have k0 : Tryz.prog.cellsOf 3 = 1 := by kernel_rfl
  have k1 : Tryz.prog.cellsOf 4 = 1 := by kernel_rfl
  have k2 : Tryz.prog.cellsOf 22 = 1 := by kernel_rfl
  obtain ⟨xs, n, _, _, _, hlen, hel⟩ := DataW.trod_struct Tryz.underlying24 h
  match c, hsz, xs, hlen with
  | [c0, c1, c2, c3, c4, c5, c6, c7, c8, c9, c10, c11, c12, c13, c14], _, [y0, y1, y2, y3, y4, y5, y6, y7, y8, y9, y10, y11, y12, y13, y14], _ =>
    have g0 : DataW.trod enc Tryz.prog W 0 (fun _ => true) held n 3 [c0] = some y0 := by simpa [Value.cells, k0, k1, k2] using hel 0 _ rfl
    have g1 : DataW.trod enc Tryz.prog W 0 (fun _ => true) held n 3 [c1] = some y1 := by simpa [Value.cells, k0, k1, k2] using hel 1 _ rfl
    have g2 : DataW.trod enc Tryz.prog W 0 (fun _ => true) held n 3 [c2] = some y2 := by simpa [Value.cells, k0, k1, k2] using hel 2 _ rfl
    have g3 : DataW.trod enc Tryz.prog W 0 (fun _ => true) held n 3 [c3] = some y3 := by simpa [Value.cells, k0, k1, k2] using hel 3 _ rfl
    have g4 : DataW.trod enc Tryz.prog W 0 (fun _ => true) held n 3 [c4] = some y4 := by simpa [Value.cells, k0, k1, k2] using hel 4 _ rfl
    have g5 : DataW.trod enc Tryz.prog W 0 (fun _ => true) held n 3 [c5] = some y5 := by simpa [Value.cells, k0, k1, k2] using hel 5 _ rfl
    have g6 : DataW.trod enc Tryz.prog W 0 (fun _ => true) held n 3 [c6] = some y6 := by simpa [Value.cells, k0, k1, k2] using hel 6 _ rfl
    have g7 : DataW.trod enc Tryz.prog W 0 (fun _ => true) held n 3 [c7] = some y7 := by simpa [Value.cells, k0, k1, k2] using hel 7 _ rfl
    have g8 : DataW.trod enc Tryz.prog W 0 (fun _ => true) held n 3 [c8] = some y8 := by simpa [Value.cells, k0, k1, k2] using hel 8 _ rfl
    have g9 : DataW.trod enc Tryz.prog W 0 (fun _ => true) held n 3 [c9] = some y9 := by simpa [Value.cells, k0, k1, k2] using hel 9 _ rfl
    have g10 : DataW.trod enc Tryz.prog W 0 (fun _ => true) held n 3 [c10] = some y10 := by simpa [Value.cells, k0, k1, k2] using hel 10 _ rfl
    have g11 : DataW.trod enc Tryz.prog W 0 (fun _ => true) held n 3 [c11] = some y11 := by simpa [Value.cells, k0, k1, k2] using hel 11 _ rfl
    have g12 : DataW.trod enc Tryz.prog W 0 (fun _ => true) held n 3 [c12] = some y12 := by simpa [Value.cells, k0, k1, k2] using hel 12 _ rfl
    have g13 : DataW.trod enc Tryz.prog W 0 (fun _ => true) held n 4 [c13] = some y13 := by simpa [Value.cells, k0, k1, k2] using hel 13 _ rfl
    have g14 : DataW.trod enc Tryz.prog W 0 (fun _ => true) held n 22 [c14] = some y14 := by simpa [Value.cells, k0, k1, k2] using hel 14 _ rfl
    obtain ⟨z0, e0, _, w0⟩ := DataW.trod_int Tryz.underlying3 g0
    obtain ⟨z1, e1, _, w1⟩ := DataW.trod_int Tryz.underlying3 g1
    obtain ⟨z2, e2, _, w2⟩ := DataW.trod_int Tryz.underlying3 g2
    obtain ⟨z3, e3, _, w3⟩ := DataW.trod_int Tryz.underlying3 g3
    obtain ⟨z4, e4, _, w4⟩ := DataW.trod_int Tryz.underlying3 g4
    obtain ⟨z5, e5, _, w5⟩ := DataW.trod_int Tryz.underlying3 g5
    obtain ⟨z6, e6, _, w6⟩ := DataW.trod_int Tryz.underlying3 g6
    obtain ⟨z7, e7, _, w7⟩ := DataW.trod_int Tryz.underlying3 g7
    obtain ⟨z8, e8, _, w8⟩ := DataW.trod_int Tryz.underlying3 g8
    obtain ⟨z9, e9, _, w9⟩ := DataW.trod_int Tryz.underlying3 g9
    obtain ⟨z10, e10, _, w10⟩ := DataW.trod_int Tryz.underlying3 g10
    obtain ⟨z11, e11, _, w11⟩ := DataW.trod_int Tryz.underlying3 g11
    obtain ⟨z12, e12, _, w12⟩ := DataW.trod_int Tryz.underlying3 g12
    obtain ⟨z13, e13, _⟩ := DataW.trod_bool Tryz.underlying4 g13
    obtain ⟨A, m, k, zs, e14, hr, hc, hm⟩ := open_intsC g14
    simp only [List.cons.injEq, and_true] at e0 e1 e2 e3 e4 e5 e6 e7 e8 e9 e10 e11 e12 e13
    exact ⟨⟨z0, z1, z2, z3, z4, z5, z6, z7, z8, z9, z10, z11, z12, z13, A, m, k, zs⟩, by rw [e0, e1, e2, e3, e4, e5, e6, e7, e8, e9, e10, e11, e12, e13, e14], ⟨hr, hc, hm⟩⟩
set_option maxHeartbeats 1000000 in
theorem open_itsC {f : Nat} {y : DataW H × List MemPlace} (h : DataW.trod enc Tryz.prog W 0 (fun _ => true) held f 25 [v] = some y) : ∃ A m c l, v = .slice A m c ∧ RdI W W.heap.size A m l ∧ m ≤ maxLen ∧ m ≤ c ∧ ∀ x ∈ l, True :=
  open_rowF (f := It.vs) (P := fun _ => True) Tryz.underlying25 (size := 4) (by kernel_rfl) (by decide) It.vs_len (fun fu c y hc hy => open_itC hc hy) h
set_option maxHeartbeats 1000000 in
theorem open_kpsC {f : Nat} {y : DataW H × List MemPlace} (h : DataW.trod enc Tryz.prog W 0 (fun _ => true) held f 26 [v] = some y) : ∃ A m c l, v = .slice A m c ∧ RdK W W.heap.size A m l ∧ m ≤ maxLen ∧ m ≤ c ∧ ∀ x ∈ l, 0 ≤ x.phase :=
  open_rowF (f := Kp.vs) (P := fun x => 0 ≤ x.phase) Tryz.underlying26 (size := 8) (by kernel_rfl) (by decide) Kp.vs_len (fun fu c y hc hy => open_kpC hc hy) h
/-- What is true of a brain that is handed in. -/
structure BrAny (W : World) (p : Br) (a : Ad) : Prop where
  rd : RdB_ W W.heap.size p a
  ep : -9223372036854775808 ≤ p.ep
  sq : -9223372036854775808 ≤ p.sq
  ph : ∀ x ∈ p.kps, 0 ≤ x.phase
set_option maxHeartbeats 1000000 in
theorem open_brC {f : Nat} {c : List Value} {y : DataW H × List MemPlace} (hsz : c.length = 27) (h : DataW.trod enc Tryz.prog W 0 (fun _ => true) held f 30 c = some y) : ∃ (p : Br) (a : Ad), c = (brC p a).toList ∧ BrAny W p a := by
  have k0 : Tryz.prog.cellsOf 3 = 1 := by kernel_rfl
  have k1 : Tryz.prog.cellsOf 4 = 1 := by kernel_rfl
  have k2 : Tryz.prog.cellsOf 24 = 15 := by kernel_rfl
  have k3 : Tryz.prog.cellsOf 25 = 1 := by kernel_rfl
  have k4 : Tryz.prog.cellsOf 26 = 1 := by kernel_rfl
  have k5 : Tryz.prog.cellsOf 28 = 7 := by kernel_rfl
  obtain ⟨xs, n, _, _, _, hlen, hel⟩ := DataW.trod_struct Tryz.underlying30 h
  match c, hsz, xs, hlen with
  | [c0, c1, c2, c3, c4, c5, c6, c7, c8, c9, c10, c11, c12, c13, c14, c15, c16, c17, c18, c19, c20, c21, c22, c23, c24, c25, c26], _, [y0, y1, y2, y3, y4, y5, y6], _ =>
    have g0 : DataW.trod enc Tryz.prog W 0 (fun _ => true) held n 3 [c0] = some y0 := by simpa [Value.cells, k0, k1, k2, k3, k4, k5] using hel 0 _ rfl
    have g1 : DataW.trod enc Tryz.prog W 0 (fun _ => true) held n 3 [c1] = some y1 := by simpa [Value.cells, k0, k1, k2, k3, k4, k5] using hel 1 _ rfl
    have g2 : DataW.trod enc Tryz.prog W 0 (fun _ => true) held n 4 [c2] = some y2 := by simpa [Value.cells, k0, k1, k2, k3, k4, k5] using hel 2 _ rfl
    have g3 : DataW.trod enc Tryz.prog W 0 (fun _ => true) held n 24 [c3, c4, c5, c6, c7, c8, c9, c10, c11, c12, c13, c14, c15, c16, c17] = some y3 := by simpa [Value.cells, k0, k1, k2, k3, k4, k5] using hel 3 _ rfl
    have g4 : DataW.trod enc Tryz.prog W 0 (fun _ => true) held n 25 [c18] = some y4 := by simpa [Value.cells, k0, k1, k2, k3, k4, k5] using hel 4 _ rfl
    have g5 : DataW.trod enc Tryz.prog W 0 (fun _ => true) held n 26 [c19] = some y5 := by simpa [Value.cells, k0, k1, k2, k3, k4, k5] using hel 5 _ rfl
    have g6 : DataW.trod enc Tryz.prog W 0 (fun _ => true) held n 28 [c20, c21, c22, c23, c24, c25, c26] = some y6 := by simpa [Value.cells, k0, k1, k2, k3, k4, k5] using hel 6 _ rfl
    obtain ⟨z0, e0, _, w0⟩ := DataW.trod_int Tryz.underlying3 g0
    obtain ⟨z1, e1, _, w1⟩ := DataW.trod_int Tryz.underlying3 g1
    obtain ⟨z2, e2, _⟩ := DataW.trod_bool Tryz.underlying4 g2
    obtain ⟨x, ex, hL⟩ := open_cfC (by rfl) g3
    obtain ⟨A, m, k, li, e4, hi, _, hik, _⟩ := open_itsC g4
    obtain ⟨B, m2, kk, lk, e5, hkp, _, hkk, hph⟩ := open_kpsC g5
    obtain ⟨r, er⟩ := open_rfC (by rfl) g6
    simp only [List.cons.injEq, and_true] at e0 e1 e2
    have hms : x.ms.length = x.n := by have := hL.rd.1; rwa [iv_length] at this
    have hli : li.length = m := hi.1
    have hlk : lk.length = m2 := hkp.1
    simp only [List.cons.injEq, and_true] at ex er
    obtain ⟨q0, q1, q2, q3, q4, q5, q6, q7, q8, q9, q10, q11, q12, q13, q14⟩ := ex
    obtain ⟨r0, r1, r2, r3, r4, r5, r6⟩ := er
    refine ⟨⟨z0, z1, z2, { x with A := none, n := 0, c := 0 }, li, lk, r⟩, ⟨x.A, x.c, A, k, B, kk⟩, ?_, ⟨?_, ?_, ?_, ?_, ?_, ?_, ?_⟩, i64_lo w0, i64_lo w1, hph⟩
    · rw [e0, e1, e2, e4, e5, q0, q1, q2, q3, q4, q5, q6, q7, q8, q9, q10, q11, q12, q13, q14, r0, r1, r2, r3, r4, r5, r6, ← hms, ← hli, ← hlk]
    · show Rd W W.heap.size x.A x.ms.length (iv x.ms)
      rw [hms]; exact hL.rd
    · show RdI W W.heap.size A li.length li
      rw [hli]; exact hi
    · show RdK W W.heap.size B lk.length lk
      rw [hlk]; exact hkp
    · show x.ms.length ≤ x.c
      rw [hms]; exact hL.cap
    · exact hL.max
    · show li.length ≤ k
      omega
    · show lk.length ≤ kk
      omega
/-- A brain, as it is handed over. -/
theorem open_brV (hv : Value.okWide Tryz.prog W .any base 30 v) (h : DataW.Trod enc Tryz.prog W 0 (fun _ => true) held 30 v d p) : ∃ (q : Br) (a : Ad), v = brV q a ∧ BrAny W q a := by
  obtain ⟨cs, rfl, hsz⟩ := okWide_struct Tryz.underlying30 hv
  have hC : Tryz.prog.cellsOf 30 = 27 := by kernel_rfl
  rw [hC] at hsz
  obtain ⟨l⟩ := cs
  obtain ⟨fuel, hf⟩ := h
  obtain ⟨q, a, e, h1⟩ := open_brC (c := l) (by simpa using hsz) (by simpa [Value.cells] using hf)
  exact ⟨q, a, by rw [e], h1⟩
def ReOk (W : World) (x : RE) : Prop := x.k < 256 ∧ Rd W W.heap.size x.A x.n (iv x.zs) ∧ x.n ≤ x.c ∧ x.c ≤ maxLen
set_option maxHeartbeats 1000000 in
theorem open_reC {f : Nat} {c : List Value} {y : DataW H × List MemPlace} (hsz : c.length = 2) (h : DataW.trod enc Tryz.prog W 0 (fun _ => true) held f 32 c = some y) : ∃ x : RE, c = recF x ∧ ReOk W x := by
  have k0 : Tryz.prog.cellsOf 5 = 1 := by kernel_rfl
  have k1 : Tryz.prog.cellsOf 22 = 1 := by kernel_rfl
  obtain ⟨xs, n, _, _, _, hlen, hel⟩ := DataW.trod_struct Tryz.underlying32 h
  match c, hsz, xs, hlen with
  | [c0, c1], _, [y0, y1], _ =>
    have g0 : DataW.trod enc Tryz.prog W 0 (fun _ => true) held n 5 [c0] = some y0 := by simpa [Value.cells, k0, k1] using hel 0 _ rfl
    have g1 : DataW.trod enc Tryz.prog W 0 (fun _ => true) held n 22 [c1] = some y1 := by simpa [Value.cells, k0, k1] using hel 1 _ rfl
    obtain ⟨k, e0, hk⟩ := open_kindC g0
    obtain ⟨A, m, c, zs, e1, hr, hc, hm⟩ := open_intsC g1
    exact ⟨⟨k, A, m, c, zs⟩, by rw [e0, e1]; rfl, hk, hr, hc, hm⟩
/-- A record, as it is handed over; a slice of them. -/
theorem open_reV (hv : Value.okWide Tryz.prog W .any base 32 v) (h : DataW.Trod enc Tryz.prog W 0 (fun _ => true) held 32 v d p) : ∃ x : RE, v = .agg #[.int .u8 (x.k : Int), .slice x.A x.n x.c] ∧ ReOk W x := by
  obtain ⟨cs, rfl, hsz⟩ := okWide_struct Tryz.underlying32 hv
  have hC : Tryz.prog.cellsOf 32 = 2 := by kernel_rfl
  rw [hC] at hsz
  obtain ⟨l⟩ := cs
  obtain ⟨fuel, hf⟩ := h
  obtain ⟨x, e, h1⟩ := open_reC (c := l) (by simpa using hsz) (by simpa [Value.cells] using hf)
  exact ⟨x, by rw [e]; rfl, h1⟩
set_option maxHeartbeats 1000000 in
theorem open_resV (hv : Value.okWide Tryz.prog W .any base 33 v) (h : DataW.Trod enc Tryz.prog W 0 (fun _ => true) held 33 v d p) : ∃ A n c xs, v = .slice A n c ∧ RdR W W.heap.size A n xs ∧ n ≤ maxLen ∧ n ≤ c ∧ ∀ x ∈ xs, x.n ≤ x.c ∧ x.c ≤ maxLen := by
  obtain ⟨A, n, c, rfl⟩ := okWide_slice Tryz.underlying33 hv
  obtain ⟨fuel, hf⟩ := h
  obtain ⟨A', m, c', l, e, hr, hm, hc, hP⟩ := open_rowF (f := recF) (P := ReOk W) Tryz.underlying33 (size := 2) (by kernel_rfl) (by decide) recF_len (fun fu c y hc hy => open_reC hc hy) (by simpa [Value.cells] using hf)
  refine ⟨A', m, c', l, e, ⟨hr.1, fun hn => ?_, fun x hx => ⟨(hP x hx).1, (hP x hx).2.1⟩⟩, hm, hc, fun x hx => (hP x hx).2.2⟩
  obtain ⟨b, off, e2, hlt, hcell⟩ := hr.2 hn
  exact ⟨b, off, e2, hlt, fun j x hx => ⟨hcell j x hx 0 (by omega), hcell j x hx 1 (by omega)⟩⟩
end

end Go.Proofs.YtdaimejlcfhfiaaGreatDoor

namespace Go.Proofs.YtdaimejlcfhfiaaGreatDoor
open Go.RowKit Go.Shelf Go.ChangeShapes Go.WideShapes Go.ChangeAt

theorem gBoundsB : Tryz.prog.globalNamed "herd/conf.bounds" = some 1 := by kernel_rfl
theorem tBoundsB : (Tryz.prog.globals[1]?).map (·.type) = some 130 := by kernel_rfl
theorem gChanges : Tryz.prog.globalNamed "herd/brain.changes" = some 0 := by kernel_rfl
theorem tChanges : (Tryz.prog.globals[0]?).map (·.type) = some 125 := by kernel_rfl

/-- The data, element by element. -/
def bDB (i : Nat) : DataW Unit := .agg [.lit (.int .i64 (loB i)), .lit (.int .i64 (hiB i))]
def cDB (i : Nat) : DataW Unit := .agg [.lit (.int .u8 (chA i)), .lit (.int .u8 (chB i))]
theorem laid_listB : (Rows.laid_herd_conf_bounds : DataW Unit) = .agg ((List.range 13).map bDB) := rfl
theorem laid_listC : (Rows.laid_herd_brain_changes : DataW Unit) = .agg ((List.range 11).map cDB) := rfl

theorem tabs_of_laid {W : World} (h : laidMetH Tryz.prog [("herd/conf.bounds", Rows.laid_herd_conf_bounds), ("herd/brain.changes", Rows.laid_herd_brain_changes)] W) : Tab W ∧ TabH W := by
  rw [MakeChecks.laidMetH_plain _ _ _ (by kernel_rfl)] at h
  obtain ⟨ps, ⟨g0, t0, cs0, f0, p0, q0, hg0, ht0, hv0, hd0, ⟨g1, t1, cs1, f1, p1, q1, hg1, ht1, hv1, hd1, _, _⟩, _⟩, _, _⟩ := h
  obtain rfl := Option.some.inj (gBoundsB.symm.trans hg0)
  obtain rfl := Option.some.inj (tBoundsB.symm.trans ht0)
  obtain rfl := Option.some.inj (gChanges.symm.trans hg1)
  obtain rfl := Option.some.inj (tChanges.symm.trans ht1)
  have c3 : Tryz.prog.cellsOf 3 = 1 := by kernel_rfl
  have c4 : Tryz.prog.cellsOf 5 = 1 := by kernel_rfl
  constructor
  · obtain ⟨xs, m1, rfl, hx1, hlen, hn3, hel⟩ := DataW.trod_array Tryz.underlying130 hd0
    rw [laid_listB] at hx1
    simp only [Prod.mk.injEq, DataW.agg.injEq] at hx1
    have cC : Tryz.prog.cellsOf 129 = 2 := by kernel_rfl
    have each : ∀ k, k < 13 → W.cell? ⟨1, k * 2, none⟩ = some (.int .i64 (loB k)) ∧ W.cell? ⟨1, k * 2 + 1, none⟩ = some (.int .i64 (hiB k)) := by
      intro k hk
      obtain ⟨y, hy⟩ : ∃ y, xs[k]? = some y := ⟨_, List.getElem?_eq_getElem (by omega)⟩
      have e1 : bDB k = y.1 := by
        have := congrArg (fun l : List (DataW Unit) => l[k]?) hx1.1
        simpa [hy, hk] using this
      have h1 := hel k hk
      rw [cC, hy] at h1
      obtain ⟨u0, u1, m, hx, _, k0, k1⟩ := trod_struct2 Tryz.underlying129 h1
      obtain ⟨z0, e0, r0, _⟩ := DataW.trod_int Tryz.underlying3 k0
      obtain ⟨z1, e2, r1, _⟩ := DataW.trod_int Tryz.underlying3 k1
      rw [hx, r0, r1] at e1
      simp only [bDB, DataW.agg.injEq, List.cons.injEq, DataW.lit.injEq, Lit.int.injEq, true_and, and_true] at e1
      obtain ⟨q0, q1⟩ := e1
      have v0 := World.var?_cell hg0 hv0 (k * 2)
      have v1 := World.var?_cell hg0 hv0 (k * 2 + 1)
      have a0 := congrArg (fun l : List Value => l[0]?) e0
      have a1 := congrArg (fun l : List Value => l[0]?) e2
      rw [c3] at a0 a1
      simp [List.getElem?_drop] at a0 a1
      rw [q0, q1]
      exact ⟨v0.trans a0, v1.trans a1⟩
    exact ⟨World.block_lt_of_cell? W _ (each 0 (by omega)).1, each⟩
  · obtain ⟨xs, m1, rfl, hx1, hlen, hn3, hel⟩ := DataW.trod_array Tryz.underlying125 hd1
    rw [laid_listC] at hx1
    simp only [Prod.mk.injEq, DataW.agg.injEq] at hx1
    have cC : Tryz.prog.cellsOf 124 = 2 := by kernel_rfl
    have each : ∀ k, k < 11 → W.cell? ⟨0, k * 2, none⟩ = some (.int .u8 (chA k)) ∧ W.cell? ⟨0, k * 2 + 1, none⟩ = some (.int .u8 (chB k)) := by
      intro k hk
      obtain ⟨y, hy⟩ : ∃ y, xs[k]? = some y := ⟨_, List.getElem?_eq_getElem (by omega)⟩
      have e1 : cDB k = y.1 := by
        have := congrArg (fun l : List (DataW Unit) => l[k]?) hx1.1
        simpa [hy, hk] using this
      have h1 := hel k hk
      rw [cC, hy] at h1
      obtain ⟨ys, m2, ey, hy1, hylen, hyn, hyel⟩ := DataW.trod_array Tryz.underlying124 h1
      match ys, hylen with
      | [y0, y1], _ =>
        have k0 := hyel 0 (by omega)
        have k1 := hyel 1 (by omega)
        simp only [List.getElem?_cons_zero, List.getElem?_cons_succ] at k0 k1
        obtain ⟨z0, e0, r0, _⟩ := DataW.trod_int Tryz.underlying5 k0
        obtain ⟨z1, e2, r1, _⟩ := DataW.trod_int Tryz.underlying5 k1
        have e3 := hy1
        rw [e3] at e1
        simp only [List.map_cons, List.map_nil] at e1
        rw [r0, r1] at e1
        simp only [cDB, DataW.agg.injEq, List.cons.injEq, DataW.lit.injEq, Lit.int.injEq, true_and, and_true] at e1
        obtain ⟨q0, q1⟩ := e1
        have v0 := World.var?_cell hg1 hv1 (k * 2)
        have v1 := World.var?_cell hg1 hv1 (k * 2 + 1)
        have a0 := congrArg (fun l : List Value => l[0]?) e0
        have a1 := congrArg (fun l : List Value => l[0]?) e2
        rw [c4] at a0 a1
        simp [List.getElem?_drop] at a0 a1
        rw [q0, q1]
        exact ⟨v0.trans a0, v1.trans a1⟩
    exact ⟨World.block_lt_of_cell? W _ (each 0 (by omega)).1, each⟩

end Go.Proofs.YtdaimejlcfhfiaaGreatDoor

namespace Go.Proofs.YtdaimejlcfhfiaaGreatDoor
open Go.RowKit Go.Shelf Go.ChangeShapes Go.WideShapes

theorem recs_reach {H : Type} {enc : TypeId × Value → H} {W : World} {held : Bool} {d : DataW H} {p : List MemPlace} {A : Option Addr} {n c : Nat} {ts : List TypeId} {ds : List (DataW H)} {j : Nat}
    (h : DataW.Trod enc Tryz.prog W 0 (fun _ => true) held 33 (.slice A n c) d p) (hsz : (DataW.weightsEach Tryz.prog ts ds).all (· ≤ reachBytes) = true) (ht : ts[j]? = some 33) (hd : ds[j]? = some d) : n * 32 ≤ 140737488351232 := by
  obtain ⟨fu, hf⟩ := h
  have hb : Tryz.prog.bytesOf 32 = 32 := by kernel_rfl
  rcases DataW.trod_slice Tryz.underlying33 hf with ⟨e, _⟩ | ⟨a, len, cap, elems, rest, m, _, e, e2, _, _, _, hl, _⟩
  · simp only [Value.cells, List.cons.injEq, and_true] at e
    injection e with _ e3 _
    subst e3
    omega
  · simp only [Value.cells, List.cons.injEq, and_true] at e
    injection e with _ e3 _
    subst e3
    injection e2 with e2 _
    subst e2
    have h2 := sized_slice hsz ht hd Tryz.underlying33
    rw [hb, List.length_map, List.length_map, hl] at h2
    have h3 : reachBytes = 140737488351232 := rfl
    omega

end Go.Proofs.YtdaimejlcfhfiaaGreatDoor

namespace Go.Proofs.YtdaimejlcfhfiaaGreatDoor
open Go.RowKit Go.Shelf

theorem wp_storeB {K : Act → World → Prop} {o : Oper} {a : Act} {w : World} {Q : Exit → Act → World → Prop} (x y : Operand) (ho : o.op = .store 30 x y) (g : Nat) (p : Br) (ad : Ad) (old : Array Value) (hs : old.size = 27)
    (hx : a.eval x = .pointer (some ⟨g, 0, none⟩)) (hy : a.eval y = brV p ad) (hW : Whole w g 30 old) (h : ∀ W2, W2 = w.setRow g (brC p ad) → K (a.put o.dst undef) W2) : o.wp Tryz.prog a w K Q := by
  refine wp_store_at 30 x y ho g 0 (brC p ad) hx hy 30 old hW (by kernel_rfl) (by rw [hs]; exact Nat.le_refl _) (by simp [Value.oneCell']) (h _ ?_)
  have e : old.toList.drop (0 + (brC p ad).size) = [] := List.drop_of_length_le (by rw [Array.length_toList, hs]; exact Nat.le_refl _)
  rw [e]
  simp
def q2 : Br := allB br0 [((1 : Nat), []), ((1 : Nat), [])]
def q3 : Br := applyB br0 (3 : Nat) [1, 0, 0]
def d4 : Br := allB br0 [((2 : Nat), gZ), ((3 : Nat), [4, 1, 0]), ((4 : Nat), [1, 7, 30]), ((6 : Nat), [7, 2, 31]), ((6 : Nat), [7, 4, 32]), ((8 : Nat), [3, 0, 9, 0, 33])]
def k0_ : Kp := ⟨3, 0, 9, 0, 8, 33, false, false⟩
def k1_ : Kp := ⟨7, 1, 4, 1, 2, 31, false, false⟩
theorem d4_kps : d4.kps = [k0_, k1_] := by kernel_rfl
theorem d4_its : d4.its = [] := by kernel_rfl
theorem d4_sq : d4.sq = 1 := by kernel_rfl
theorem d4_set : d4.set = true := by kernel_rfl
theorem q2_ep : q2.ep = 2 := by kernel_rfl
theorem q3_its : q3.its = [] := by kernel_rfl
theorem good0 : Good 400 br0 := ⟨by decide, by decide, by decide, by simp [br0]⟩
theorem slNil (a : Act) (w : World) : SlIs [] (a.eval (.const (.slice none 0 0))) w := ⟨none, 0, rfl, Rd.nil_ _ _ _, Nat.le_refl _, Nat.zero_le _⟩
theorem own0 (w : World) : OwB 0 w br0 ad0 := ⟨World.ownsRow_nil _ _ _ _, ItsAt.nil_ _ _, KpsAt.nil_ _ _⟩

set_option maxHeartbeats 8000000 in
theorem wakes_any (w : World) (hT : Tab w) (hH : TabH w) : Calls Tryz.prog 10 #[] w (BoolPost true w) := by
  obtain ⟨V, hV⟩ : ∃ V, w.alloc (.cells (brC br0 ad0) 30) = V := ⟨_, rfl⟩
  have hw : Whole V w.heap.size 30 (brC br0 ad0) := by rw [← hV]; exact Whole.new _ _ _
  have hb : Below w.heap.size w V := by rw [← hV]; exact (Below.refl _ _).alloc (Nat.le_refl _) _
  have HV := Lib.hid hV
  have HW := Lib.hid hw
  have HB := Lib.hid hb
  have HT := Lib.hid (hT.under hb)
  have HH := Lib.hid (hH.under hb)
  clear hV hw hb hT hH
  go_enter Tryz.func10, Tryz.ntmps10
  go_upto_region 2 with fail
  refine wpV (fun V2 hV2 => ?_)
  obtain rfl : V = V2 := HV.out.symm.trans hV2
  clear HV hV2
  refine region_grow (by kernel_rfl) (by kernel_rfl) 6 [5, 6, 7, 8, 9, 2] (by kernel_rfl) (by simp)
    (fun i v w => match i with | 0 => BrIs br0 v w | 1 => RecIs 1 [] v w | 2 => RecIs 1 [] v w | 3 => RecsIs [((1 : Nat), []), ((1 : Nat), [])] v w | 4 => BrIs q2 v w | 5 => BoxIs V.heap.size v w | _ => True) ?_ ?_ ?_
  · intro i v w w' hb h
    match i, h with
    | 0, h => exact BrIs.under hb h
    | 1, h => exact RecIs.under hb h
    | 2, h => exact RecIs.under hb h
    | 3, h => exact RecsIs.under hb h
    | 4, h => exact BrIs.under hb h
    | 5, h => exact BoxIs.under hb h
    | n + 6, h => trivial
  · intro i o d a w hi ho hd hag hbel hgot K hK
    rcases (by omega : i = 0 ∨ i = 1 ∨ i = 2 ∨ i = 3 ∨ i = 4 ∨ i = 5) with rfl | rfl | rfl | rfl | rfl | rfl
    all_goals
      simp only [List.getElem?_toArray, List.getElem?_cons_zero, List.getElem?_cons_succ, Option.some.injEq] at ho
      subst ho
      injection hd with hd
      subst hd
    · exact opB_load (hag.eval (t := 1) (by decide)) (HW.out.under hbel) (hK _ _ (Below.refl _ _) ⟨ad0, rfl, own0 w⟩)
    · exact opB_rec 1 (slNil a w) hK
    · exact opB_rec 1 (slNil a w) hK
    · exact opB_recs2 (hgot 1 6 (by kernel_rfl) rfl) (hgot 2 7 (by kernel_rfl) rfl) (by decide) (by decide) hK
    · exact opB_all (hgot 0 5 (by kernel_rfl) rfl) (hgot 3 8 (by kernel_rfl) rfl) (by decide) (by decide) good0 (HT.out.under hbel) (HH.out.under hbel) hK
    · exact opB_alloc hbel.size hK
  intro o a w1_ ho hag hbel hgot K hK
  simp only [List.getElem?_toArray, List.getElem?_cons_zero, List.getElem?_cons_succ, Option.some.injEq] at ho
  subst ho
  obtain ⟨b2, e2, hlo2, hw2⟩ := hgot 5 2 (by decide) rfl
  obtain ⟨a2, f2, ho2⟩ := hgot 4 9 (by decide) rfl
  refine wp_storeB _ _ rfl b2 q2 a2 _ (by rfl) e2 f2 hw2 (fun V3 hW_ => hK _ _ ?_)
  have X2 := Lib.hid (show Whole V3 b2 30 (brC q2 a2) by rw [hW_]; exact setRow_heap _ _ _ _ _ _ hw2)
  have O2 := Lib.hid (show OwB 0 V3 q2 a2 by rw [hW_]; exact ho2.rowset hw2 (by decide) (by decide) (by decide) _)
  have HBel2 := Lib.hid (show Below V.heap.size V V3 by rw [hW_]; exact below_rowsetB hbel hlo2 _)
  have HW_ := Lib.hid (HW.out.under HBel2.out)
  have HT_ := Lib.hid (HT.out.under HBel2.out)
  have HH_ := Lib.hid (HH.out.under HBel2.out)
  have HB_ := Lib.hid (HB.out.trans (HBel2.out.mono HB.out.size))
  clear HW HT HH HB
  have HW := HW_
  have HT := HT_
  have HH := HH_
  have HB := HB_
  clear HW_ HT_ HH_ HB_
  obtain ⟨σ, hσ⟩ : ∃ σ : Nat → Value, (fun d => a.eval (.tmp d)) = σ := ⟨_, rfl⟩
  have ha := hag.lay (by simp)
  rw [hσ] at ha
  have s_ : σ 2 = .pointer (some ⟨b2, 0, none⟩) := by rw [← hσ]; exact e2
  clear hσ hag hgot hK hbel hW_ e2 f2 ho2 hw2 hlo2 HBel2
  subst ha
  simp only [lay, List.foldl_cons, List.foldl_nil, Act.put, List.setIfInBounds_toArray, List.set_cons_zero, List.set_cons_succ, s_]
  obtain ⟨u5, hu5⟩ : ∃ u, σ 5 = u := ⟨_, rfl⟩
  rw [hu5]
  obtain ⟨u6, hu6⟩ : ∃ u, σ 6 = u := ⟨_, rfl⟩
  rw [hu6]
  obtain ⟨u7, hu7⟩ : ∃ u, σ 7 = u := ⟨_, rfl⟩
  rw [hu7]
  obtain ⟨u8, hu8⟩ : ∃ u, σ 8 = u := ⟨_, rfl⟩
  rw [hu8]
  obtain ⟨u9, hu9⟩ : ∃ u, σ 9 = u := ⟨_, rfl⟩
  rw [hu9]
  clear hu5 hu6 hu7 hu8 hu9 s_
  go_upto_region 3 with fail
  clear O2
  refine region_grow (by kernel_rfl) (by kernel_rfl) 5 [10, 11, 12, 13, 3] (by kernel_rfl) (by simp)
    (fun i v w => match i with | 0 => BrIs br0 v w | 1 => SlIs [1, 0, 0] v w | 2 => RecIs 3 [1, 0, 0] v w | 3 => BrIs q3 v w | 4 => BoxIs V3.heap.size v w | _ => True) ?_ ?_ ?_
  · intro i v w w' hb h
    match i, h with
    | 0, h => exact BrIs.under hb h
    | 1, h => exact SlIs.under hb h
    | 2, h => exact RecIs.under hb h
    | 3, h => exact BrIs.under hb h
    | 4, h => exact BoxIs.under hb h
    | n + 5, h => trivial
  · intro i o d a w hi ho hd hag hbel hgot K hK
    rcases (by omega : i = 0 ∨ i = 1 ∨ i = 2 ∨ i = 3 ∨ i = 4) with rfl | rfl | rfl | rfl | rfl
    all_goals
      simp only [List.getElem?_toArray, List.getElem?_cons_zero, List.getElem?_cons_succ, Option.some.injEq] at ho
      subst ho
      injection hd with hd
      subst hd
    · exact opB_load (hag.eval (t := 1) (by decide)) (HW.out.under hbel) (hK _ _ (Below.refl _ _) ⟨ad0, rfl, own0 w⟩)
    · exact opB_ints3 1 0 0 hK
    · exact opB_rec 3 (hgot 1 11 (by kernel_rfl) rfl) hK
    · exact opB_apply (hgot 0 10 (by kernel_rfl) rfl) (hgot 2 12 (by kernel_rfl) rfl) (by decide) (by decide) good0 (HT.out.under hbel) (HH.out.under hbel) hK
    · exact opB_alloc hbel.size hK
  intro o a w1_ ho hag hbel hgot K hK
  simp only [List.getElem?_toArray, List.getElem?_cons_zero, List.getElem?_cons_succ, Option.some.injEq] at ho
  subst ho
  obtain ⟨b3, e3, hlo3, hw3⟩ := hgot 4 3 (by decide) rfl
  obtain ⟨a3, f3, ho3⟩ := hgot 3 13 (by decide) rfl
  refine wp_storeB _ _ rfl b3 q3 a3 _ (by rfl) e3 f3 hw3 (fun V4 hW_ => hK _ _ ?_)
  have X3 := Lib.hid (show Whole V4 b3 30 (brC q3 a3) by rw [hW_]; exact setRow_heap _ _ _ _ _ _ hw3)
  have O3 := Lib.hid (show OwB 0 V4 q3 a3 by rw [hW_]; exact ho3.rowset hw3 (by decide) (by decide) (by decide) _)
  have HBel3 := Lib.hid (show Below V3.heap.size V3 V4 by rw [hW_]; exact below_rowsetB hbel hlo3 _)
  have HW_ := Lib.hid (HW.out.under HBel3.out)
  have HT_ := Lib.hid (HT.out.under HBel3.out)
  have HH_ := Lib.hid (HH.out.under HBel3.out)
  have HB_ := Lib.hid (HB.out.trans (HBel3.out.mono HB.out.size))
  have X2_ := Lib.hid (X2.out.under HBel3.out)
  clear HW HT HH HB X2
  have HW := HW_
  have HT := HT_
  have HH := HH_
  have HB := HB_
  have X2 := X2_
  clear HW_ HT_ HH_ HB_ X2_
  obtain ⟨σ, hσ⟩ : ∃ σ : Nat → Value, (fun d => a.eval (.tmp d)) = σ := ⟨_, rfl⟩
  have ha := hag.lay (by simp)
  rw [hσ] at ha
  have s_ : σ 3 = .pointer (some ⟨b3, 0, none⟩) := by rw [← hσ]; exact e3
  clear hσ hag hgot hK hbel hW_ e3 f3 ho3 hw3 hlo3 HBel3
  subst ha
  simp only [lay, List.foldl_cons, List.foldl_nil, Act.put, List.setIfInBounds_toArray, List.set_cons_zero, List.set_cons_succ, s_]
  obtain ⟨u10, hu10⟩ : ∃ u, σ 10 = u := ⟨_, rfl⟩
  rw [hu10]
  obtain ⟨u11, hu11⟩ : ∃ u, σ 11 = u := ⟨_, rfl⟩
  rw [hu11]
  obtain ⟨u12, hu12⟩ : ∃ u, σ 12 = u := ⟨_, rfl⟩
  rw [hu12]
  obtain ⟨u13, hu13⟩ : ∃ u, σ 13 = u := ⟨_, rfl⟩
  rw [hu13]
  clear hu10 hu11 hu12 hu13 s_
  go_upto_region 4 with fail
  clear O3
  refine region_grow (by kernel_rfl) (by kernel_rfl) 15 [14, 15, 16, 17, 18, 19, 20, 21, 22, 23, 24, 25, 26, 27, 4] (by kernel_rfl) (by simp)
    (fun i v w => match i with | 0 => BrIs br0 v w | 1 => RecIs 2 gZ v w | 2 => SlIs [4, 1, 0] v w | 3 => RecIs 3 [4, 1, 0] v w | 4 => SlIs [1, 7, 30] v w | 5 => RecIs 4 [1, 7, 30] v w | 6 => SlIs [7, 2, 31] v w | 7 => RecIs 6 [7, 2, 31] v w | 8 => SlIs [7, 4, 32] v w | 9 => RecIs 6 [7, 4, 32] v w | 10 => SlIs [3, 0, 9, 0, 33] v w | 11 => RecIs 8 [3, 0, 9, 0, 33] v w | 12 => RecsIs [((2 : Nat), gZ), ((3 : Nat), [4, 1, 0]), ((4 : Nat), [1, 7, 30]), ((6 : Nat), [7, 2, 31]), ((6 : Nat), [7, 4, 32]), ((8 : Nat), [3, 0, 9, 0, 33])] v w | 13 => BrIs d4 v w | 14 => BoxIs V4.heap.size v w | _ => True) ?_ ?_ ?_
  · intro i v w w' hb h
    match i, h with
    | 0, h => exact BrIs.under hb h
    | 1, h => exact RecIs.under hb h
    | 2, h => exact SlIs.under hb h
    | 3, h => exact RecIs.under hb h
    | 4, h => exact SlIs.under hb h
    | 5, h => exact RecIs.under hb h
    | 6, h => exact SlIs.under hb h
    | 7, h => exact RecIs.under hb h
    | 8, h => exact SlIs.under hb h
    | 9, h => exact RecIs.under hb h
    | 10, h => exact SlIs.under hb h
    | 11, h => exact RecIs.under hb h
    | 12, h => exact RecsIs.under hb h
    | 13, h => exact BrIs.under hb h
    | 14, h => exact BoxIs.under hb h
    | n + 15, h => trivial
  · intro i o d a w hi ho hd hag hbel hgot K hK
    rcases (by omega : i = 0 ∨ i = 1 ∨ i = 2 ∨ i = 3 ∨ i = 4 ∨ i = 5 ∨ i = 6 ∨ i = 7 ∨ i = 8 ∨ i = 9 ∨ i = 10 ∨ i = 11 ∨ i = 12 ∨ i = 13 ∨ i = 14) with rfl | rfl | rfl | rfl | rfl | rfl | rfl | rfl | rfl | rfl | rfl | rfl | rfl | rfl | rfl
    all_goals
      simp only [List.getElem?_toArray, List.getElem?_cons_zero, List.getElem?_cons_succ, Option.some.injEq] at ho
      subst ho
      injection hd with hd
      subst hd
    · exact opB_load (hag.eval (t := 1) (by decide)) (HW.out.under hbel) (hK _ _ (Below.refl _ _) ⟨ad0, rfl, own0 w⟩)
    · exact opB_group hK
    · exact opB_ints3 4 1 0 hK
    · exact opB_rec 3 (hgot 2 16 (by kernel_rfl) rfl) hK
    · exact opB_ints3 1 7 30 hK
    · exact opB_rec 4 (hgot 4 18 (by kernel_rfl) rfl) hK
    · exact opB_ints3 7 2 31 hK
    · exact opB_rec 6 (hgot 6 20 (by kernel_rfl) rfl) hK
    · exact opB_ints3 7 4 32 hK
    · exact opB_rec 6 (hgot 8 22 (by kernel_rfl) rfl) hK
    · exact opB_ints5 3 0 9 0 33 hK
    · exact opB_rec 8 (hgot 10 24 (by kernel_rfl) rfl) hK
    · exact opB_recs6 (hgot 1 15 (by kernel_rfl) rfl) (hgot 3 17 (by kernel_rfl) rfl) (hgot 5 19 (by kernel_rfl) rfl) (hgot 7 21 (by kernel_rfl) rfl) (hgot 9 23 (by kernel_rfl) rfl) (hgot 11 25 (by kernel_rfl) rfl) (by decide) (by decide) (by decide) (by decide) (by decide) (by decide) hK
    · exact opB_all (hgot 0 14 (by kernel_rfl) rfl) (hgot 12 26 (by kernel_rfl) rfl) (by decide) (by decide) good0 (HT.out.under hbel) (HH.out.under hbel) hK
    · exact opB_alloc hbel.size hK
  intro o a w1_ ho hag hbel hgot K hK
  simp only [List.getElem?_toArray, List.getElem?_cons_zero, List.getElem?_cons_succ, Option.some.injEq] at ho
  subst ho
  obtain ⟨b4, e4, hlo4, hw4⟩ := hgot 14 4 (by decide) rfl
  obtain ⟨a4, f4, ho4⟩ := hgot 13 27 (by decide) rfl
  refine wp_storeB _ _ rfl b4 d4 a4 _ (by rfl) e4 f4 hw4 (fun V5 hW_ => hK _ _ ?_)
  have X4 := Lib.hid (show Whole V5 b4 30 (brC d4 a4) by rw [hW_]; exact setRow_heap _ _ _ _ _ _ hw4)
  have O4 := Lib.hid (show OwB 0 V5 d4 a4 by rw [hW_]; exact ho4.rowset hw4 (by decide) (by decide) (by decide) _)
  have HBel4 := Lib.hid (show Below V4.heap.size V4 V5 by rw [hW_]; exact below_rowsetB hbel hlo4 _)
  have HW_ := Lib.hid (HW.out.under HBel4.out)
  have HT_ := Lib.hid (HT.out.under HBel4.out)
  have HH_ := Lib.hid (HH.out.under HBel4.out)
  have HB_ := Lib.hid (HB.out.trans (HBel4.out.mono HB.out.size))
  have X2_ := Lib.hid (X2.out.under HBel4.out)
  have X3_ := Lib.hid (X3.out.under HBel4.out)
  clear HW HT HH HB X2 X3
  have HW := HW_
  have HT := HT_
  have HH := HH_
  have HB := HB_
  have X2 := X2_
  have X3 := X3_
  clear HW_ HT_ HH_ HB_ X2_ X3_
  obtain ⟨σ, hσ⟩ : ∃ σ : Nat → Value, (fun d => a.eval (.tmp d)) = σ := ⟨_, rfl⟩
  have ha := hag.lay (by simp)
  rw [hσ] at ha
  have s_ : σ 4 = .pointer (some ⟨b4, 0, none⟩) := by rw [← hσ]; exact e4
  clear hσ hag hgot hK hbel hW_ e4 f4 ho4 hw4 hlo4 HBel4
  subst ha
  simp only [lay, List.foldl_cons, List.foldl_nil, Act.put, List.setIfInBounds_toArray, List.set_cons_zero, List.set_cons_succ, s_]
  obtain ⟨u14, hu14⟩ : ∃ u, σ 14 = u := ⟨_, rfl⟩
  rw [hu14]
  obtain ⟨u15, hu15⟩ : ∃ u, σ 15 = u := ⟨_, rfl⟩
  rw [hu15]
  obtain ⟨u16, hu16⟩ : ∃ u, σ 16 = u := ⟨_, rfl⟩
  rw [hu16]
  obtain ⟨u17, hu17⟩ : ∃ u, σ 17 = u := ⟨_, rfl⟩
  rw [hu17]
  obtain ⟨u18, hu18⟩ : ∃ u, σ 18 = u := ⟨_, rfl⟩
  rw [hu18]
  obtain ⟨u19, hu19⟩ : ∃ u, σ 19 = u := ⟨_, rfl⟩
  rw [hu19]
  obtain ⟨u20, hu20⟩ : ∃ u, σ 20 = u := ⟨_, rfl⟩
  rw [hu20]
  obtain ⟨u21, hu21⟩ : ∃ u, σ 21 = u := ⟨_, rfl⟩
  rw [hu21]
  obtain ⟨u22, hu22⟩ : ∃ u, σ 22 = u := ⟨_, rfl⟩
  rw [hu22]
  obtain ⟨u23, hu23⟩ : ∃ u, σ 23 = u := ⟨_, rfl⟩
  rw [hu23]
  obtain ⟨u24, hu24⟩ : ∃ u, σ 24 = u := ⟨_, rfl⟩
  rw [hu24]
  obtain ⟨u25, hu25⟩ : ∃ u, σ 25 = u := ⟨_, rfl⟩
  rw [hu25]
  obtain ⟨u26, hu26⟩ : ∃ u, σ 26 = u := ⟨_, rfl⟩
  rw [hu26]
  obtain ⟨u27, hu27⟩ : ∃ u, σ 27 = u := ⟨_, rfl⟩
  rw [hu27]
  clear hu14 hu15 hu16 hu17 hu18 hu19 hu20 hu21 hu22 hu23 hu24 hu25 hu26 hu27 s_
  have hO := O4.out.reads
  have hkp := hO.kps
  rw [d4_kps] at hkp
  obtain ⟨b, off, eB, hbl, hc⟩ := hkp.2 (by decide)
  have hoff : off = 0 := by
    rcases O4.out.kps.2 with ⟨_, h2⟩ | ⟨g, cap, cur, h1, _⟩
    · rw [d4_kps] at h2; cases h2
    · injection h1 with h1 _ _
      rw [eB] at h1
      injection h1 with h1
      injection h1
  subst hoff
  have c0 : V5.cell? ⟨b, 0, none⟩ = some (.int .i64 3) := hc 0 k0_ rfl 0 (by omega)
  have c4 : V5.cell? ⟨b, 4, none⟩ = some (.int .u8 8) := hc 0 k0_ rfl 4 (by omega)
  have c8 : V5.cell? ⟨b, 8, none⟩ = some (.int .i64 7) := hc 1 k1_ rfl 0 (by omega)
  have c9 : V5.cell? ⟨b, 9, none⟩ = some (.int .i64 1) := hc 1 k1_ rfl 1 (by omega)
  have c10 : V5.cell? ⟨b, 10, none⟩ = some (.int .i64 4) := hc 1 k1_ rfl 2 (by omega)
  have c11 : V5.cell? ⟨b, 11, none⟩ = some (.int .i64 1) := hc 1 k1_ rfl 3 (by omega)
  have c12 : V5.cell? ⟨b, 12, none⟩ = some (.int .u8 2) := hc 1 k1_ rfl 4 (by omega)
  have c13 : V5.cell? ⟨b, 13, none⟩ = some (.int .i64 31) := hc 1 k1_ rfl 5 (by omega)
  have c14 : V5.cell? ⟨b, 14, none⟩ = some (.bool false) := hc 1 k1_ rfl 6 (by omega)
  have c15 : V5.cell? ⟨b, 15, none⟩ = some (.bool false) := hc 1 k1_ rfl 7 (by omega)
  have k1 : V5.cell? ⟨b4, 1, none⟩ = some (.int .i64 1) := by
    have h := X4.out.cell 1
    rw [show (brC d4 a4)[1]? = some (.int .i64 d4.sq) from rfl, d4_sq] at h
    exact h
  have k2 : V5.cell? ⟨b4, 2, none⟩ = some (.bool true) := by
    have h := X4.out.cell 2
    rw [show (brC d4 a4)[2]? = some (.bool d4.set) from rfl, d4_set] at h
    exact h
  have k18 : V5.cell? ⟨b4, 18, none⟩ = some (.slice a4.A 0 a4.c) := by
    have h := X4.out.cell 18
    rw [show (brC d4 a4)[18]? = some (.slice a4.A d4.its.length a4.c) from rfl, d4_its] at h
    exact h
  have k19 : V5.cell? ⟨b4, 19, none⟩ = some (.slice (some ⟨b, 0, none⟩) 2 a4.d) := by
    have h := X4.out.cell 19
    rw [show (brC d4 a4)[19]? = some (.slice a4.B d4.kps.length a4.d) from rfl, d4_kps, eB] at h
    exact h
  have j0 : V5.cell? ⟨b2, 0, none⟩ = some (.int .i64 2) := by
    have h := X2.out.cell 0
    rw [show (brC q2 a2)[0]? = some (.int .i64 q2.ep) from rfl, q2_ep] at h
    exact h
  have j18 : V5.cell? ⟨b3, 18, none⟩ = some (.slice a3.A 0 a3.c) := by
    have h := X3.out.cell 18
    rw [show (brC q3 a3)[18]? = some (.slice a3.A q3.its.length a3.c) from rfl, q3_its] at h
    exact h
  have HO := Lib.hid hO
  clear hO hkp hc eB hbl X2 X3 HW HH
  go_wp2_with (refine wpList_loadB (by rfl) _ rfl b4 d4 a4 (by rfl) X4.out ?_)
  refine (bfind_any d4 a4 7 _ V5 HO.out (Nat.le_refl _) (by decide)).mono ?_
  rintro e V6 ⟨rfl, b6⟩
  rw [show findB d4 7 = 1 by kernel_rfl]
  have X6 := Lib.hid (X4.out.under b6)
  have HO6 := Lib.hid (HO.out.up b6)
  have HT6 := Lib.hid (HT.out.under b6)
  have HB6 := Lib.hid (HB.out.trans (b6.mono HB.out.size))
  clear b6 X4 O4 HO HT HB c0 c4 c8 c9 c10 c11 c12 c13 c14 c15 k1 k2 k18 k19 j0 j18
  go_wp2_with (refine wpList_loadB (by rfl) _ rfl b4 d4 a4 (by rfl) X6.out ?_)
  refine (btoken_any d4 a4 1 _ V6 HO6.out (Nat.le_refl _) (by decide)).mono ?_
  rintro e V7 ⟨rfl, b7⟩
  rw [show tokenB d4 1 = -1 by kernel_rfl]
  have X7 := Lib.hid (X6.out.under b7)
  have HO7 := Lib.hid (HO6.out.up b7)
  have HT7 := Lib.hid (HT6.out.under b7)
  have HB7 := Lib.hid (HB6.out.trans (b7.mono HB6.out.size))
  clear b7 X6 HO6 HT6 HB6
  go_wp2_with (refine wpList_loadB (by rfl) _ rfl b4 d4 a4 (by rfl) X7.out ?_)
  refine (bright_any d4 a4 _ V7 HO7.out (Nat.le_refl _) (by decide) (by decide) HT7.out).mono ?_
  rintro e V8 ⟨rfl, b8⟩
  rw [show rightBb d4 = true by kernel_rfl]
  have HB8 := Lib.hid (HB7.out.trans (b8.mono HB7.out.size))
  clear b8 X7 HO7 HT7 HB7
  go_wp2_with fail
  go_ret
  exact ⟨rfl, HB8.out⟩

end Go.Proofs.YtdaimejlcfhfiaaGreatDoor
