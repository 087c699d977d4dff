/-
  Texts that the walk of a statement over brains leans on, joined (NumMath, NumKit, Mem, CfMath, KpMath, BrMath, PhMath, CtMath, Hand, RegRound, RegionInv). Conditions: those that each theorem names.
-/
import Derived.RangeFuncNested
import Derived.RangeFuncBound
import Derived.RangeFuncCalls
import Derived.RangeFuncLeaves
import Derived.RangeFuncBox
import Derived.Shelf.Abstract
import Derived.Shelf.RegionOpen
import Derived.WalkKit
import Derived.WalkSpells
import Derived.WalkLawsBesides
import Derived.OwnWalkIn
import Derived.TacticsInMore
import Derived.LoopNIn
import Derived.LoopIn
import Derived.Maps.AppendAt
import Derived.Lib.Hide
import Derived.ScopeJumps
import Derived.Deep.QuietTactic
import Derived.BigQuiet
import Derived.Deep.Draws
import Derived.Deep.AppendLies
import Derived.Test.YtplejbgecihnpaaDoorRows
import Derived.Laws.BytesArg
import Derived.Deep.RegionHeld3
import Derived.OpenShut
import Derived.Laws.AppendOwnNone
import Derived.OrdersIn

namespace Go.Proofs.YtplejbgecihnpaaDoor

/-- The bytes of a number. -/
def put (n : Nat) : List Nat := if n < 128 then [n] else (n % 128 + 128) :: put (n / 128)
  termination_by n
  decreasing_by omega

/-- What comes of taking a number: the number, how many bytes it has, an error's number. -/
def scan (n long : Nat) : List Nat → Nat × Nat × Nat
  | [] => (0, 0, 10)
  | d :: r =>
    if 128 ≤ d ∧ long + 1 < 6 then scan (n + d % 128 * 128 ^ long) (long + 1) r
    else if 128 ≤ d ∨ (d = 0 ∧ 1 < long + 1) ∨ 1099511627776 < n + d % 128 * 128 ^ long then (0, 0, 11)
    else (n + d % 128 * 128 ^ long, long + 1, 0)

def first (bs : List Nat) : Nat × Nat × Nat := scan 0 0 bs

/-! ### rows -/

/-- The bytes of a row's numbers, one behind the other. -/
def puts (l : List Nat) : List Nat := l.flatMap put

def row (l : List Nat) : List Nat := put l.length ++ puts l

end Go.Proofs.YtplejbgecihnpaaDoor

namespace Go.Proofs.YtplejbgecihnpaaDoor
open Go.RowKit Go.Shelf

def iv (l : List Int) : List Value := l.map (Value.int .i64)

set_option maxRecDepth 100000 in
theorem iv_length (l : List Int) : (iv l).length = l.length := by simp [iv]
set_option maxRecDepth 100000 in
theorem iv_one (l : List Int) : ∀ u ∈ iv l, u.oneCell' = true := by
  intro u hu
  simp only [iv, List.mem_map] at hu
  obtain ⟨x, _, rfl⟩ := hu
  rfl

/-- A slice of n one-cell elements that reads as the list xs, in a block below B. -/
def Rd (w : World) (B : Nat) (A : Option Addr) (n : Nat) (xs : List Value) : Prop :=
  xs.length = n ∧ (0 < n → ∃ b off, A = some ⟨b, off, none⟩ ∧ b < B ∧ ∀ j, j < n → w.cell? ⟨b, off + j, none⟩ = xs[j]?)

section
variable {w w' : World} {B B' n : Nat} {A : Option Addr} {xs : List Value}
set_option maxRecDepth 100000 in
theorem Rd.nil_ (w : World) (B : Nat) (A : Option Addr) : Rd w B A 0 [] := ⟨rfl, fun h => absurd h (by omega)⟩
set_option maxRecDepth 100000 in
theorem Rd.keep (h : Rd w B A n xs) (hk : ∀ p : Addr, p.block < B → w'.cell? p = w.cell? p) : Rd w' B A n xs :=
  ⟨h.1, fun hn => by
    obtain ⟨b, off, e, hb, hc⟩ := h.2 hn
    exact ⟨b, off, e, hb, fun j hj => (hk ⟨b, off + j, none⟩ hb).trans (hc j hj)⟩⟩
set_option maxRecDepth 100000 in
theorem Rd.more (h : Rd w B A n xs) (hB : B ≤ B') : Rd w B' A n xs :=
  ⟨h.1, fun hn => by
    obtain ⟨b, off, e, hb, hc⟩ := h.2 hn
    exact ⟨b, off, e, by omega, hc⟩⟩
set_option maxRecDepth 100000 in
theorem Rd.below (h : Rd w B A n xs) (hb : Below B w w') : Rd w' B A n xs := h.keep fun _ hp => hb.cell hp
set_option maxRecDepth 100000 in
theorem Rd.alloc (h : Rd w B A n xs) (hB : B ≤ w.heap.size) (o : Obj) : Rd (w.alloc o) B A n xs := h.below ((Below.refl B w).alloc hB o)
set_option maxRecDepth 100000 in
theorem Rd.of_own {base : Nat} {e : TypeId} {c : Nat} (h : w.ownsRow base e 1 (.slice A n c) n xs) : Rd w w.heap.size A n xs := by
  refine ⟨by have := h.1; omega, fun hn => ?_⟩
  obtain ⟨g, cap, hv, _, hlt⟩ := h.form hn
  injection hv with hA _ hc
  subst hA; subst hc
  refine ⟨g, 0, rfl, hlt, fun j hj => ?_⟩
  rw [Nat.zero_add]
  exact h.cellAt j (by omega)
set_option maxRecDepth 100000 in
/-- The slice's rest from k on, as the model cuts it. -/
theorem Rd.cut {k : Nat} (h : Rd w B A n xs) (hk : k ≤ n) (A' : Option Addr) (hA : k < n → ∀ b off, A = some ⟨b, off, none⟩ → A' = some ⟨b, off + k, none⟩) : Rd w B A' (n - k) (xs.drop k) := by
  refine ⟨by rw [List.length_drop, h.1], fun hn => ?_⟩
  obtain ⟨b, off, e, hb, hc⟩ := h.2 (by omega)
  refine ⟨b, off + k, hA (by omega) b off e, hb, fun j hj => ?_⟩
  rw [Nat.add_assoc, hc (k + j) (by omega), List.getElem?_drop]
end

set_option maxRecDepth 100000 in
theorem cell_new (w : World) (cs : Array Value) (t : TypeId) (i : Nat) : (w.alloc (.cells cs t)).cell? ⟨w.heap.size, i, none⟩ = cs[i]? := cell_of_row _ _ i cs t (0, 0) (heap_alloc_new w _)

set_option maxRecDepth 100000 in
/-- A row of the call's own holds cells: what is no cells stays while it grows. -/
theorem keeps_row {W W' : World} {base : Nat} {e : TypeId} {size n : Nat} {v : Value} {xs : List Value} (hr : W.ownsRow base e size v n xs) (hg : W.grownBy W' v.ownBlock) : KeepsOthers W W' :=
  KeepsOthers.of_grownBy hg fun j o hj ho => by
    rcases hr.2 with ⟨rfl, _⟩ | ⟨g, cap, cur, rfl, _, hc, _⟩
    · simp [Value.ownBlock] at hj
    · simp only [Value.ownBlock, Option.some.injEq] at hj
      subst hj
      rw [hc] at ho
      injection ho with ho
      subst ho
      rfl

set_option maxRecDepth 100000 in
theorem below_row {W W' : World} {base : Nat} {e : TypeId} {size n : Nat} {v : Value} {xs : List Value} (hr : W.ownsRow base e size v n xs) (hg : W.grownBy W' v.ownBlock) (hb : base ≤ W.heap.size) : Below base W W' :=
  (Below.refl base W).grown hg hb fun k hk => (hr.lt k hk).1

set_option maxRecDepth 100000 in
/-- The same where code without the label stands ahead of it. -/
theorem wp_scope_back_behind {P : Program} {a : Act} {w : World} {Q : Exit → Act → World → Prop} {pre rest : Code} (l : Nat) (J : Act → World → Prop) (μ : Act → World → Nat) (hn : findLabel pre l = none)
    (h0 : pre.wp P (fun e a w => e = .normal ∧ J a w) a w)
    (pass : ∀ a w, J a w → rest.wp P (Exit.jump l (fun a' w' => J a' w' ∧ μ a' w' < μ a w) Q) a w) : (Code.scope (pre.seq ((Code.label l).seq rest))).wp P Q a w := by
  refine wp_scope_jumps l J μ (rest := Code.skip.seq rest) (by simp [findLabel, hn]) (wp_seq (wp_mono h0 ?_)) (fun a w hJ => wp_seq (wp_skip (pass a w hJ)))
  rintro e a1 w1 ⟨rfl, h1⟩
  refine wp_seq (wp_label (wp_mono (pass a1 w1 h1) ?_))
  rintro (_ | _ | l | _ | _ | _) a2 w2 h
  all_goals first | exact h | exact ⟨h.1, h.2.1⟩

/-- A number that is one. -/
def isNum (n : Int) : Bool := decide (0 ≤ n) && decide (n ≤ 1099511627776)
set_option maxRecDepth 100000 in
theorem isNum_yes {n : Int} (h0 : 0 ≤ n) (h1 : n ≤ 1099511627776) : isNum n = true := by simp [isNum, h0, h1]
set_option maxRecDepth 100000 in
theorem isNum_iff {n : Int} : isNum n = true ↔ 0 ≤ n ∧ n ≤ 1099511627776 := by simp [isNum]

end Go.Proofs.YtplejbgecihnpaaDoor

namespace Go.Proofs.YtplejbgecihnpaaDoor
open Go.RowKit Go.Shelf

set_option maxRecDepth 100000 in
theorem own_form {w : World} {base : Nat} {e : TypeId} {n : Nat} {v : Value} {xs : List Value} (h : w.ownsRow base e 1 v n xs) : ∃ A c, v = .slice A n c := by
  rcases h.2 with ⟨rfl, rfl⟩ | ⟨g, cap, cur, rfl, _⟩
  · exact ⟨_, _, rfl⟩
  · exact ⟨_, _, rfl⟩

set_option maxRecDepth 100000 in
theorem info_int : (Tryd.prog.info? 3).map (fun i => (i.zero, i.size, i.bytes)) = some (some (.int .i64 0), 1, 8) := by kernel_rfl

set_option maxRecDepth 100000 in
theorem own_weaker {w : World} {base base' : Nat} {e : TypeId} {size n : Nat} {v : Value} {xs : List Value} (h : w.ownsRow base' e size v n xs) (hb : base ≤ base') : w.ownsRow base e size v n xs := by
  refine ⟨h.1, ?_⟩
  rcases h.2 with h2 | ⟨g, cap, cur, h2, h3, h4⟩
  · exact .inl h2
  · exact .inr ⟨g, cap, cur, h2, by omega, h4⟩

/-- Block b is just these cells, all of which may be written. -/
def Whole (w : World) (b : Nat) (t : TypeId) (cs : Array Value) : Prop := w.heap[b]? = some (.cells cs t (0, 0))
section
variable {w w' : World} {b : Nat} {t : TypeId} {cs : Array Value}
set_option maxRecDepth 100000 in
theorem Whole.new (w : World) (t : TypeId) (cs : Array Value) : Whole (w.alloc (.cells cs t)) w.heap.size t cs := heap_alloc_new w _
set_option maxRecDepth 100000 in
theorem Whole.lt (h : Whole w b t cs) : b < w.heap.size := by
  rcases Nat.lt_or_ge b w.heap.size with h1 | h1
  · exact h1
  · unfold Whole at h; rw [Array.getElem?_eq_none h1] at h; cases h
set_option maxRecDepth 100000 in
theorem Whole.cell (h : Whole w b t cs) (i : Nat) : w.cell? ⟨b, i, none⟩ = cs[i]? := cell_of_row w b i cs t (0, 0) h
set_option maxRecDepth 100000 in
theorem Whole.frozen (h : Whole w b t cs) (i : Nat) : w.frozen? ⟨b, i, none⟩ = false := by unfold Whole at h; simp [World.frozen?, h]
set_option maxRecDepth 100000 in
theorem Whole.alloc (h : Whole w b t cs) (o : Obj) : Whole (w.alloc o) b t cs := (Below.heap_alloc w o b h.lt).trans h
set_option maxRecDepth 100000 in
theorem Whole.below (h : Whole w b t cs) {B : Nat} (hb : Below B w w') (hB : b < B) : Whole w' b t cs := (hb.block b hB).trans h
set_option maxRecDepth 100000 in
theorem Whole.under (h : Whole w b t cs) (hb : Below w.heap.size w w') : Whole w' b t cs := h.below hb h.lt
set_option maxRecDepth 100000 in
theorem Whole.grown (h : Whole w b t cs) {row : Option Nat} (hg : w.grownBy w' row) (hne : some b ≠ row) : Whole w' b t cs := (hg.block b h.lt hne).trans h
set_option maxRecDepth 100000 in
theorem Whole.set (h : Whole w b t cs) (i : Nat) (u : Value) : Whole (w.setCell ⟨b, i, none⟩ u) b t (cs.setIfInBounds i u) := by
  unfold Whole at h ⊢
  simp [World.setCell, Array.getElem?_modify, h]
set_option maxRecDepth 100000 in
theorem Whole.far (h : Whole w b t cs) {p : Addr} (hp : b ≠ p.block) (u : Value) : Whole (w.setCell p u) b t cs := (Below.heap_setCell w p u b hp).trans h
end

set_option maxRecDepth 100000 in
/-- A literal slice reads as it is written. -/
theorem rd_lit (W : World) (cs : List Value) (t : TypeId) (n : Nat) (hn : cs.length = n) : Rd (W.alloc (.cells cs.toArray t)) (W.heap.size + 1) (some ⟨W.heap.size, 0, none⟩) n cs := by
  refine ⟨hn, fun _ => ⟨W.heap.size, 0, rfl, by omega, fun j hj => ?_⟩⟩
  rw [Nat.zero_add, cell_new]
  simp

set_option maxRecDepth 100000 in
/-- It reads so behind whatever leaves what was there. -/
theorem Rd.on {W W' : World} {B n : Nat} {A : Option Addr} {xs : List Value} (h : Rd W B A n xs) (hB : B ≤ W.heap.size) (hb : Below W.heap.size W W') : Rd W' B A n xs := h.below (hb.mono hB)

set_option maxRecDepth 100000 in
theorem Rd.take {w : World} {B n k : Nat} {A : Option Addr} {xs : List Value} (h : Rd w B A n xs) (hk : k ≤ n) : Rd w B A k (xs.take k) := by
  refine ⟨by rw [List.length_take, h.1]; omega, fun hp => ?_⟩
  obtain ⟨b, off, e, hb, hc⟩ := h.2 (by omega)
  refine ⟨b, off, e, hb, fun j hj => ?_⟩
  rw [hc j (by omega), List.getElem?_take, if_pos hj]

set_option maxRecDepth 100000 in
/-- What came in as a slice of integers reads as a list. -/
theorem rd_of_ints {w : World} {a : Option Addr} {len cap : Nat} {zs : List Int}
    (h : (a = none ∧ len = 0 ∧ cap = 0 ∧ zs = []) ∨ ∃ x, a = some x ∧ len ≤ cap ∧ cap ≤ maxLen ∧ zs.length = cap ∧ (∀ i, i < zs.length → w.cell? (x.add i) = some (.int .i64 (zs.getD i 0))) ∧ ∀ n ∈ zs, (Lit.int .i64 n).wf = true) :
    Rd w w.heap.size a len (iv (zs.take len)) ∧ len ≤ cap ∧ cap ≤ maxLen := by
  rcases h with ⟨rfl, rfl, rfl, rfl⟩ | ⟨x, rfl, hl, hm, hz, hc, _⟩
  · exact ⟨⟨rfl, fun h => absurd h (by omega)⟩, Nat.le_refl _, by omega⟩
  · refine ⟨⟨by rw [iv_length, List.length_take]; omega, fun hp => ?_⟩, hl, hm⟩
    obtain ⟨b, off, rfl, hc'⟩ := ints_at hc (by omega)
    refine ⟨b, off, rfl, World.block_lt_of_cell? w _ (hc' 0 (by omega)), fun j hj => ?_⟩
    rw [hc' j (by omega), iv, List.getElem?_map, List.getElem?_take, if_pos hj, List.getElem?_eq_getElem (by omega)]
    simp [List.getD, List.getElem?_eq_getElem (show j < zs.length by omega)]

set_option maxRecDepth 100000 in
/-- An append whose run is known, guarded or not. -/
theorem wpList_app {P : Program} {w : World} {ops : Array Oper} {rest : List Oper} {o : Oper} {a : Act} {Q : Exit → Act → World → Prop} (hw : Region.wanted o (yielded ops a.tmps) = true) (s x : Operand) (t : TypeId)
    (ho : o.op = .call { callee := .builtin .append, args := #[s, x], argTypes := #[t, t] }) (vs vx v' : Value) (w' : World) (hs : a.eval s = vs) (hx : a.eval x = vx)
    (hr : (Builtin.append_ #[t, t] o.type #[vs, vx]).run P w = .ok v' w') (h : wpList P ops Q rest (a.put o.dst v') w') : wpList P ops Q (o :: rest) a w := by
  unfold wpList
  rw [if_pos hw]
  left
  unfold Oper.wp execOp
  simp only [ho, resolve, invoke, builtin, Sem.run_bind, Sem.run_pure, Result.andThen_ok, List.map_toArray, List.map_cons, List.map_nil, hs, hx, hr]
  exact h

def BoolPost (v : Bool) (w : World) (e : Ending) (w' : World) : Prop := e = .returned (.bool v) ∧ Below w.heap.size w w'

set_option maxRecDepth 100000 in
/-- A scope in which the run jumps ahead to one label: what holds there. -/
theorem wp_scope_fwd {P : Program} {a : Act} {w : World} {Q : Exit → Act → World → Prop} {c rest : Code} (l : Nat) (J : Act → World → Prop) (hf : findLabel c l = some rest)
    (first : c.wp P (Exit.jump l J Q) a w) (tail : ∀ a w, J a w → rest.wp P (Exit.jump l (fun _ _ => False) Q) a w) : (Code.scope c).wp P Q a w := by
  refine wp_scope_jumps l J (fun _ _ => 0) hf first (fun a w hJ => wp_mono (tail a w hJ) ?_)
  rintro (_ | _ | l | _ | _ | _) a1 w1 h
  all_goals first | exact h | exact h.2.elim

set_option maxRecDepth 100000 in
/-- 'x[k:]' of integers, as the model cuts it: the address under one name. -/
theorem run_restI (A : Option Addr) (n c k : Nat) (hk : k ≤ n) : ∃ A', (∀ w : World, (Instr.slice 22 (.slice A n c) (some (.int .i64 (k : Int))) none none).run Tryd.prog w = .ok (.slice A' (n - k) (c - k)) w) ∧
    ((k < n ∧ n ≤ c) → ∀ b off, A = some ⟨b, off, none⟩ → A' = some ⟨b, off + k, none⟩) := by
  obtain ⟨i0, hi, hz0, hz1, hz2⟩ := info_parts info_int
  refine ⟨if c = k then A else A.map (·.add (k * 1)), fun w => ?_, ?_⟩
  · have hz : (sizeOf (Tryd.prog.elem 22)).run Tryd.prog w = .ok 1 w := by
      have he : Tryd.prog.elem 22 = 3 := by kernel_rfl
      simp [he, Go.sizeOf, typeInfo, hi, hz1]
    have h63 : (k : Int).toNat = k := by omega
    rw [run_slice_l (P := Tryd.prog) w 22 A n c Tryd.underlying22 .i64 (k : Int) (by omega) (by omega), hz, h63]
    rfl
  · rintro ⟨h1, h2⟩ b off rfl
    rw [if_neg (by omega), Nat.mul_one, Option.map_some, Addr.add_lit]

set_option maxRecDepth 100000 in
theorem own_under {w w' : World} {base : Nat} {e : TypeId} {size n : Nat} {v : Value} {xs : List Value} (h : w.ownsRow base e size v n xs) (hb : Below w.heap.size w w') : w'.ownsRow base e size v n xs := by
  refine h.kept (row := none) ⟨hb.os, hb.tape, hb.output, hb.size, fun i hi _ => hb.block i hi⟩ ?_
  rcases h.2 with ⟨rfl, _⟩ | ⟨g, cap, cur, rfl, _⟩
  · exact .inl rfl
  · exact .inr (by simp [Value.ownBlock])

set_option maxRecDepth 100000 in
theorem own_cap {w : World} {base : Nat} {e : TypeId} {n c : Nat} {A : Option Addr} {xs : List Value} (h : w.ownsRow base e 1 (.slice A n c) n xs) : n ≤ c := by
  rcases h.2 with ⟨h1, h2⟩ | ⟨g, cap, cur, h1, _, _, h2, _⟩
  · omega
  · injection h1 with _ _ h3
    omega

set_option maxRecDepth 100000 in
/-- 'append(v, x...)' at integers: v of the call's own, x whatever reads. -/
theorem run_appI (w : World) (base : Nat) (v : Value) (n : Nat) (xs : List Value) (hown : w.ownsRow base 3 1 v n xs) (B : Nat) (A : Option Addr) (m c : Nat) (zs : List Int) (hr : Rd w B A m (iv zs)) (hm : n + m ≤ 1000000) (hbase : base ≤ w.heap.size) :
    ∃ v' w', (Builtin.append_ #[22, 22] 22 #[v, .slice A m c]).run Tryd.prog w = .ok v' w' ∧ w'.ownsRow base 3 1 v' (n + m) (xs ++ iv zs) ∧ w.grownBy w' v.ownBlock := by
  obtain ⟨i0, hi, hz0, hz1, hz2⟩ := info_parts info_int
  rcases A with _ | ad
  · have hm0 : m = 0 := by
      rcases Nat.eq_zero_or_pos m with h | h
      · exact h
      · obtain ⟨b, off, e, _⟩ := hr.2 h
        cases e
    subst hm0
    have hb : zs = [] := by have := hr.1; rw [iv_length] at this; exact List.eq_nil_of_length_eq_zero this
    subst hb
    have ht := Tryd.underlying22
    refine ⟨v, w, ?_, by simpa [iv] using hown, World.grownBy.refl w _⟩
    rcases hown.2 with ⟨rfl, _⟩ | ⟨g, cap, cur, rfl, _, _, hnc, _⟩
    · simp [Builtin.append_, run_underlying ht, sizeOf, typeInfo, hi, Builtin.lenOf, Builtin.firstCells]
    · simp [Builtin.append_, run_underlying ht, sizeOf, typeInfo, hi, Builtin.lenOf, Builtin.firstCells, hnc, storeCells]
  · have hcells : ∀ j u, (iv zs)[j]? = some u → w.cell? (ad.add j) = some u := by
      intro j u hu
      have hj : j < m := by rw [← hr.1]; exact (List.getElem?_eq_some_iff.1 hu).1
      obtain ⟨b, off, e, _, hc⟩ := hr.2 (by omega)
      injection e with e
      subst e
      rw [Addr.add_lit, hc j hj, hu]
    obtain ⟨v', w', h1, h2, h3, _⟩ := run_append_own (P := Tryd.prog) w base 22 22 3 i0 (.int .i64 0) 1 8 Tryd.underlying22 hi hz0 hz1 hz2 rfl (by decide) v n xs hown ad m c (iv zs) (by rw [hr.1, Nat.mul_one]) hcells (iv_one zs) (by unfold maxLen; omega) (by omega) hbase
    exact ⟨v', w', h1, h2, h3⟩

def TruePost (w : World) (e : Ending) (w' : World) : Prop := e = .returned (.bool true) ∧ Below w.heap.size w w'

set_option maxRecDepth 100000 in
/-- A row of one element type lies in no block of another one. -/
theorem own_apart_of {w : World} {base n b : Nat} {e t : TypeId} {v : Value} {xs : List Value} {cs : Array Value} (hne : e ≠ t) (ho : w.ownsRow base e 1 v n xs) (hw : Whole w b t cs) : v.ownBlock ≠ some b := by
  rcases ho.2 with ⟨rfl, _⟩ | ⟨g, cap, cur, rfl, _, hg, _⟩
  · simp [Value.ownBlock]
  · simp only [Value.ownBlock, ne_eq, Option.some.injEq]
    intro e
    subst e
    unfold Whole at hw
    rw [hw] at hg
    injection hg with hg
    injection hg with _ h _
    exact absurd h.symm hne

set_option maxRecDepth 100000 in
theorem own_turn {W W' : World} {base : Nat} {e : TypeId} {size k : Nat} {v : Value} {xs : List Value} {row : Option Nat} (h : W.ownsRow base e size v k xs) (hg : W.grownBy W' row) (hr : ∀ r, row = some r → ∃ o : Obj, W.heap[r]? = some o ∧ o.isCells = false) : W'.ownsRow base e size v k xs := by
  refine h.kept hg ?_
  rcases h.2 with ⟨rfl, _⟩ | ⟨g, cap, cur, rfl, _, hc, _⟩
  · exact .inl rfl
  · right
    intro e
    obtain ⟨o, ho, hcc⟩ := hr g e.symm
    rw [hc] at ho
    cases ho; cases hcc

set_option maxRecDepth 100000 in
theorem Whole.turn {W W' : World} {b : Nat} {t : TypeId} {cs : Array Value} {row : Option Nat} (h : Whole W b t cs) (hg : W.grownBy W' row) (hr : ∀ r, row = some r → ∃ o : Obj, W.heap[r]? = some o ∧ o.isCells = false) : Whole W' b t cs :=
  h.grown hg (fun e => by
    obtain ⟨o, ho, hc⟩ := hr b e.symm
    unfold Whole at h
    rw [h] at ho
    injection ho with ho
    subst ho
    cases hc)
set_option maxRecDepth 100000 in
/-- What leaves all that was there keeps what is no cells. -/
theorem keeps_under {W W' : World} (hb : Below W.heap.size W W') : KeepsOthers W W' :=
  ⟨hb.size, fun i o h _ => by
    have hlt := (Array.getElem?_eq_some_iff.1 h).1
    rw [hb.block i hlt]; exact h⟩

end Go.Proofs.YtplejbgecihnpaaDoor

namespace Go.Proofs.YtplejbgecihnpaaDoor
open Go.RowKit Go.Shelf

/-- A group, as it lies: its numbers, Skip, and the slice of its marks with what is read there. -/
structure Cf where
  f0 : Int
  f1 : Int
  f2 : Int
  f3 : Int
  f4 : Int
  f5 : Int
  f6 : Int
  f7 : Int
  f8 : Int
  f9 : Int
  f10 : Int
  f11 : Int
  f12 : Int
  sk : Bool
  A : Option Addr
  n : Nat
  c : Nat
  ms : List Int

abbrev Cf.cells (x : Cf) : Array Value := #[.int .i64 x.f0, .int .i64 x.f1, .int .i64 x.f2, .int .i64 x.f3, .int .i64 x.f4, .int .i64 x.f5, .int .i64 x.f6, .int .i64 x.f7, .int .i64 x.f8, .int .i64 x.f9, .int .i64 x.f10, .int .i64 x.f11, .int .i64 x.f12, .bool x.sk, .slice x.A x.n x.c]
abbrev Cf.v (x : Cf) : Value := .agg #[.int .i64 x.f0, .int .i64 x.f1, .int .i64 x.f2, .int .i64 x.f3, .int .i64 x.f4, .int .i64 x.f5, .int .i64 x.f6, .int .i64 x.f7, .int .i64 x.f8, .int .i64 x.f9, .int .i64 x.f10, .int .i64 x.f11, .int .i64 x.f12, .bool x.sk, .slice x.A x.n x.c]
/-- Its numbers, in the row's order. -/
def Cf.fs (x : Cf) : List Int := [x.f0, x.f1, x.f2, x.f3, x.f4, x.f5, x.f6, x.f7, x.f8, x.f9, x.f10, x.f11, x.f12]
def Cf.at (x : Cf) (k : Nat) : Int := x.fs.getD k 0
/-- From where to where. -/
def loB (k : Nat) : Int := [0, 0, 0, 0, 0, 0, 0, 0, 1, 1, 1, 0, 1].getD k 0
def hiB (k : Nat) : Int := [6, 100, 3, 3, 20, 20, 20, 20, 20, 20, 20, 20, 1099511627776].getD k 0
def fitK (x : Cf) (k : Nat) : Bool := decide (loB k ≤ x.at k) && decide (x.at k ≤ hiB k)
def inB (x : Cf) : Bool := (List.range 13).all (fitK x)
def upB : Int → List Int → Bool
  | _, [] => true
  | last, m :: r => decide (last < m) && decide (m ≤ 100) && upB m r
def fl (x : Cf) : Int := (x.f0 * x.f1 + 99) / 100
def roomB (x : Cf) : Bool := decide (x.f0 = 0) || decide (1 ≤ x.f2 + x.f0 - fl x)
def marksB (l : List Int) : Bool := decide (l.length ≤ 4) && upB 0 l
/-- A group may be. -/
def may (x : Cf) : Bool := inB x && (marksB x.ms && roomB x)
def er (b : Bool) : Int := if b = true then 0 else 70
def floorOf (x : Cf) : Int := if may x = true then fl x else 0
def boundOf (x : Cf) : Int := if may x = true then x.f0 + x.f2 + x.f3 else 0
set_option maxRecDepth 100000 in
theorem inB_iff {x : Cf} : inB x = true ↔ ((0 ≤ x.f0 ∧ x.f0 ≤ 6) ∧ (0 ≤ x.f1 ∧ x.f1 ≤ 100) ∧ (0 ≤ x.f2 ∧ x.f2 ≤ 3) ∧ (0 ≤ x.f3 ∧ x.f3 ≤ 3)) ∧ ((0 ≤ x.f4 ∧ x.f4 ≤ 20) ∧ (0 ≤ x.f5 ∧ x.f5 ≤ 20) ∧ (0 ≤ x.f6 ∧ x.f6 ≤ 20) ∧ (0 ≤ x.f7 ∧ x.f7 ≤ 20)) ∧ ((1 ≤ x.f8 ∧ x.f8 ≤ 20) ∧ (1 ≤ x.f9 ∧ x.f9 ≤ 20) ∧ (1 ≤ x.f10 ∧ x.f10 ≤ 20) ∧ (0 ≤ x.f11 ∧ x.f11 ≤ 20) ∧ (1 ≤ x.f12 ∧ x.f12 ≤ 1099511627776)) := by
  have e : List.range 13 = [0, 1, 2, 3, 4, 5, 6, 7, 8, 9, 10, 11, 12] := rfl
  simp only [inB, e, List.all_cons, List.all_nil, Bool.and_true, Bool.and_eq_true, fitK, decide_eq_true_eq, Cf.at, Cf.fs, loB, hiB, List.getD_cons_zero, List.getD_cons_succ]
  constructor
  · rintro ⟨h0, h1, h2, h3, h4, h5, h6, h7, h8, h9, h10, h11, h12⟩
    exact ⟨⟨h0, h1, h2, h3⟩, ⟨h4, h5, h6, h7⟩, h8, h9, h10, h11, h12⟩
  · rintro ⟨⟨h0, h1, h2, h3⟩, ⟨h4, h5, h6, h7⟩, h8, h9, h10, h11, h12⟩
    exact ⟨h0, h1, h2, h3, h4, h5, h6, h7, h8, h9, h10, h11, h12⟩

set_option maxRecDepth 100000 in
theorem not_inB {x : Cf} {k : Nat} (hk : k < 13) (h : x.at k < loB k ∨ hiB k < x.at k) : may x = false := by
  have h1 : fitK x k = false := by
    rcases h with h | h
    · simp [fitK, show ¬ loB k ≤ x.at k by omega]
    · simp [fitK, show ¬ x.at k ≤ hiB k by omega]
  have h2 : inB x = false := by
    cases hv : inB x with
    | false => rfl
    | true =>
      have := List.all_eq_true.1 hv k (List.mem_range.2 hk)
      rw [h1] at this; cases this
  simp [may, h2]

set_option maxRecDepth 100000 in
/-- What all rounds have found. -/
theorem inB_all {x : Cf} (h : ∀ k, k < 13 → fitK x k = true) : inB x = true := List.all_eq_true.2 fun k hk => h k (List.mem_range.1 hk)

set_option maxRecDepth 100000 in
theorem fl_bd {x : Cf} (h : inB x = true) : 0 ≤ x.f0 * x.f1 ∧ x.f0 * x.f1 ≤ 600 ∧ 0 ≤ fl x ∧ fl x ≤ x.f0 := by
  obtain ⟨⟨⟨a0, a1⟩, ⟨b0, b1⟩, _⟩, _⟩ := inB_iff.1 h
  have h1 : 0 ≤ x.f0 * x.f1 := Int.mul_nonneg a0 b0
  have h2 : x.f0 * x.f1 ≤ x.f0 * 100 := Int.mul_le_mul_of_nonneg_left b1 a0
  unfold fl
  exact ⟨h1, by omega, by omega, by omega⟩

/-- A group told by a row. -/
def ofRow (l : List Int) (A : Option Addr) (n c : Nat) : Cf := ⟨l.getD 0 0, l.getD 1 0, l.getD 2 0, l.getD 3 0, l.getD 4 0, l.getD 5 0, l.getD 6 0, l.getD 7 0, l.getD 8 0, l.getD 9 0, l.getD 10 0, l.getD 11 0, l.getD 12 0, decide (l.getD 13 0 = 1), A, n, c, l.drop 14⟩
def cf0 : Cf := ⟨0, 0, 0, 0, 0, 0, 0, 0, 0, 0, 0, 0, 0, false, none, 0, 0, []⟩
/-- A row that may be a group's, by its shape. -/
def shapeB (l : List Int) : Bool := decide (14 ≤ l.length) && (decide (l.getD 13 0 = 0) || decide (l.getD 13 0 = 1))
/-- Of this row a group is told. -/
def isRow (l : List Int) : Bool := shapeB l && may (ofRow l none 0 0)

/-- Groups as they lie: the slice of marks reads as they are. -/
structure Lies (x : Cf) (w : World) (B : Nat) : Prop where
  rd : Rd w B x.A x.n (iv x.ms)
  cap : x.n ≤ x.c
  max : x.c ≤ maxLen
set_option maxRecDepth 100000 in
theorem Lies.below {x : Cf} {w w' : World} {B : Nat} (h : Lies x w B) (hb : Below B w w') : Lies x w' B := ⟨h.rd.below hb, h.cap, h.max⟩
set_option maxRecDepth 100000 in
theorem Lies.more {x : Cf} {w : World} {B B' : Nat} (h : Lies x w B) (hB : B ≤ B') : Lies x w B' := ⟨h.rd.more hB, h.cap, h.max⟩
set_option maxRecDepth 100000 in
theorem Lies.len {x : Cf} {w : World} {B : Nat} (h : Lies x w B) : x.ms.length = x.n := by have := h.rd.1; rwa [iv_length] at this
set_option maxRecDepth 100000 in
theorem Lies.on {x : Cf} {w w' : World} {B : Nat} (h : Lies x w B) (hB : B ≤ w.heap.size) (hb : Below w.heap.size w w') : Lies x w' B := h.below (hb.mono hB)
/-- The table of bounds lies there, in the first block. -/
def Tab (w : World) : Prop := 0 < w.heap.size ∧ ∀ k, k < 13 → w.cell? ⟨0, k * 2, none⟩ = some (.int .i64 (loB k)) ∧ w.cell? ⟨0, k * 2 + 1, none⟩ = some (.int .i64 (hiB k))
set_option maxRecDepth 100000 in
theorem Tab.under {w w' : World} (h : Tab w) (hb : Below w.heap.size w w') : Tab w' :=
  ⟨Nat.lt_of_lt_of_le h.1 hb.size, fun k hk => ⟨(hb.cell (p := ⟨0, k * 2, none⟩) h.1).trans (h.2 k hk).1, (hb.cell (p := ⟨0, k * 2 + 1, none⟩) h.1).trans (h.2 k hk).2⟩⟩
set_option maxRecDepth 100000 in
theorem Tab.below {w w' : World} {B : Nat} (h : Tab w) (hB : w.heap.size ≤ B) (hb : Below B w w') : Tab w' := h.under (hb.mono hB)

end Go.Proofs.YtplejbgecihnpaaDoor

namespace Go.Proofs.YtplejbgecihnpaaDoor
open Go.RowKit Go.Shelf

structure Kp where
  id : Int
  tok : Int
  ver : Int
  zone : Int
  phase : Int
  since : Int
  guard : Bool
  done : Bool
  deriving DecidableEq

end Go.Proofs.YtplejbgecihnpaaDoor

namespace Go.Proofs.YtplejbgecihnpaaDoor
open Go.RowKit Go.Shelf

structure It where
  tok : Int
  ver : Int
  zone : Int
  warm : Bool
  deriving DecidableEq
structure Rf where
  st : Int
  fr : Int
  to_ : Int
  step : Int
  paused : Bool
  since : Int
  fails : Int
  deriving DecidableEq
/-- A brain; its group is told with no memory of its own (A none, n and c 0). -/
structure Br where
  ep : Int
  sq : Int
  set : Bool
  cf : Cf
  its : List It
  kps : List Kp
  rf : Rf
/-- A group without its memory. -/
def Cf.pl (x : Cf) : Cf := { x with A := none, n := 0, c := 0 }
def brMax : Int := 1099511627776
def numsB (l : List Int) : Bool := l.all isNum
/-- How many numbers a record of a kind has; -1: it is none, or a group's row. -/
def manyB (k : Int) : Int :=
  if k = 1 ∨ k = 12 ∨ k = 13 ∨ k = 15 ∨ k = 16 then 0 else if k = 5 ∨ k = 7 ∨ k = 10 ∨ k = 14 then 1 else if k = 9 ∨ k = 11 then 2 else if k = 3 ∨ k = 4 ∨ k = 6 then 3 else if k = 8 then 5 else -1
def legalB (a b : Int) : Bool :=
  if a = 1 then decide (b = 2 ∨ b = 8) else if a = 2 then decide (b = 3 ∨ b = 8) else if a = 3 then decide (b = 4) else if a = 4 then decide (b = 5 ∨ b = 3) else if a = 5 then decide (b = 6 ∨ b = 4) else if a = 6 then decide (b = 7) else if a = 7 then decide (b = 8) else if a = 9 then decide (b = 10 ∨ b = 8) else if a = 10 then decide (b = 1) else false
def keptB (b : Br) (id : Int) : Option Kp := b.kps.find? fun x => decide (x.id = id)
def meantB (b : Br) (t : Int) : Option It := b.its.find? fun x => decide (x.tok = t)
/-- The place of the one that counts; -1: there is none. -/
def findB (b : Br) (id : Int) : Int := match b.kps.findIdx? (fun x => decide (x.id = id)) with | some i => i | none => -1
def tokenB (b : Br) (t : Int) : Int := match b.its.findIdx? (fun x => decide (x.tok = t)) with | some i => i | none => -1
def putK (l : List Kp) (x : Kp) : List Kp := l.takeWhile (fun y => decide (y.id ≤ x.id)) ++ x :: l.dropWhile (fun y => decide (y.id ≤ x.id))
/-- The first one of an id, changed. -/
def setK (id : Int) (f : Kp → Kp) : List Kp → List Kp
  | [] => []
  | x :: l => if x.id = id then f x :: l else x :: setK id f l
def dropI (t : Int) (l : List It) : List It := l.eraseP fun x => decide (x.tok = t)
def dropK (id : Int) (l : List Kp) : List Kp := l.eraseP fun x => decide (x.id = id)

def confB (b : Br) (l : List Int) : Br :=
  if isRow l = true then { b with cf := if b.set then { ofRow l none 0 0 with f12 := b.cf.f12 } else ofRow l none 0 0, set := true } else b
def bootB (b : Br) : Br := if b.ep < brMax then { b with ep := b.ep + 1 } else b
def intentB (b : Br) (v z h : Int) : Br :=
  if b.set = true ∧ 1 ≤ v ∧ z < 4 ∧ h < 2 ∧ b.sq < brMax then { b with sq := b.sq + 1, its := b.its ++ [⟨b.sq + 1, v, z, decide (h = 1)⟩] } else b
def madeB (b : Br) (t id now : Int) : Br :=
  match meantB b t with
  | none => b
  | some i => if 1 ≤ id ∧ keptB b id = none then
      { b with its := dropI t b.its, kps := putK b.kps ⟨id, i.tok, i.ver, i.zone, if i.warm then 9 else 1, now, false, false⟩, rf := if b.rf.st = 1 then { b.rf with fails := 0 } else b.rf }
    else b
def takeB (b : Br) (id t v z now : Int) : Br :=
  if 1 ≤ id ∧ keptB b id = none then { b with kps := putK b.kps ⟨id, t, v, z, 8, now, false, false⟩ } else b
def phaseB (b : Br) (id p now : Int) : Br :=
  match keptB b id with
  | none => b
  | some x => if p < 11 ∧ legalB x.phase p = true then { b with kps := setK id (fun y => { y with phase := p, since := now, done := false }) b.kps } else b
def goneB_ (b : Br) (id : Int) : Br := if keptB b id = none then b else { b with kps := dropK id b.kps }
def guardB (b : Br) (id on : Int) : Br := if keptB b id = none then b else if on < 2 then { b with kps := setK id (fun y => { y with guard := decide (on = 1) }) b.kps } else b
def doneB (b : Br) (id : Int) : Br :=
  match keptB b id with
  | none => b
  | some x => if x.phase = 1 ∨ x.phase = 7 then { b with kps := setK id (fun y => { y with done := true }) b.kps } else b
def startB (b : Br) (to_ now : Int) : Br := if b.set = true ∧ ¬ b.rf.st = 1 ∧ 1 ≤ to_ then { b with rf := ⟨1, b.cf.f12, to_, 0, false, now, 0⟩ } else b
def failR (r : Rf) (m : Int) : Rf := if m ≤ wrap64 (r.fails + 1) then { r with to_ := r.fr, fails := 0 } else { r with fails := wrap64 (r.fails + 1) }
def goR (r : Rf) : Rf := if r.paused = true then { r with paused := false, step := wrap64 (r.step + 1) } else r
def pauseR (r : Rf) (now : Int) : Rf := if r.paused = true then r else { r with paused := true, since := now }
/-- What is done of a refresh that is active. -/
def refB (b : Br) (k x : Int) : Br :=
  if k = 5 then { b with rf := failR b.rf b.cf.f10 } else if k = 12 then { b with rf := { b.rf with st := 3, paused := false } } else if k = 13 then { b with rf := { b.rf with to_ := b.rf.fr } } else if k = 14 then { b with rf := pauseR b.rf x } else if k = 15 then { b with rf := goR b.rf } else if k = 16 then { b with rf := { b.rf with st := 2, paused := false }, cf := { b.cf with f12 := b.rf.to_ } } else b
def fitB (b : Br) (k x0 x1 x2 x3 x4 : Int) : Br :=
  if k = 1 then bootB b else if k = 3 then intentB b x0 x1 x2 else if k = 4 then madeB b x0 x1 x2 else if k = 6 then phaseB b x0 x1 x2 else if k = 7 then goneB_ b x0 else if k = 8 then takeB b x0 x1 x2 x3 x4 else if k = 9 then guardB b x0 x1 else if k = 10 then doneB b x0 else if k = 11 then startB b x0 x1 else if b.rf.st = 1 then refB b k x0 else b
/-- A brain behind a record. -/
def applyB (b : Br) (k : Int) (l : List Int) : Br :=
  if numsB l = true then (if k = 2 then confB b l else if manyB k = (l.length : Int) then fitB b k (l.getD 0 0) (l.getD 1 0) (l.getD 2 0) (l.getD 3 0) (l.getD 4 0) else b) else b
def allB (b : Br) (l : List (Int × List Int)) : Br := l.foldl (fun b r => applyB b r.1 r.2) b
def br0 : Br := ⟨0, 0, false, cf0, [], [], ⟨0, 0, 0, 0, false, 0, 0⟩⟩

section
variable {b : Br} {k : Int} {l : List Int}
set_option maxRecDepth 100000 in
theorem putK_mem {l : List Kp} {x y : Kp} : y ∈ putK l x ↔ y = x ∨ y ∈ l := by
  simp only [putK, List.mem_append, List.mem_cons]
  have : y ∈ l ↔ y ∈ l.takeWhile (fun y => decide (y.id ≤ x.id)) ∨ y ∈ l.dropWhile (fun y => decide (y.id ≤ x.id)) := by
    rw [← List.mem_append, List.takeWhile_append_dropWhile]
  rw [this]
  constructor
  · rintro (h | h | h) <;> simp [h]
  · rintro (h | h | h) <;> simp [h]
set_option maxRecDepth 100000 in
theorem putK_len (l : List Kp) (x : Kp) : (putK l x).length = l.length + 1 := by
  have h : (l.takeWhile (fun y => decide (y.id ≤ x.id)) ++ l.dropWhile (fun y => decide (y.id ≤ x.id))).length = l.length := by rw [List.takeWhile_append_dropWhile]
  simp only [putK, List.length_append, List.length_cons] at h ⊢
  omega
set_option maxRecDepth 100000 in
theorem setK_len (id : Int) (f : Kp → Kp) : ∀ l : List Kp, (setK id f l).length = l.length
  | [] => rfl
  | x :: l => by unfold setK; split <;> simp [setK_len id f l]
set_option maxRecDepth 100000 in
theorem setK_mem {id : Int} {f : Kp → Kp} {y : Kp} : ∀ {l : List Kp}, y ∈ setK id f l → y ∈ l ∨ ∃ x ∈ l, x.id = id ∧ y = f x
  | [], h => by simp [setK] at h
  | x :: l, h => by
    unfold setK at h
    split at h
    · rename_i e
      rcases List.mem_cons.1 h with rfl | h
      · exact .inr ⟨x, List.mem_cons_self .., e, rfl⟩
      · exact .inl (List.mem_cons_of_mem _ h)
    · rcases List.mem_cons.1 h with rfl | h
      · exact .inl (List.mem_cons_self ..)
      · rcases setK_mem h with h | ⟨z, hz, e⟩
        · exact .inl (List.mem_cons_of_mem _ h)
        · exact .inr ⟨z, List.mem_cons_of_mem _ hz, e⟩
set_option maxRecDepth 100000 in
/-- Where the changed one stands, and where the others do. -/
theorem setK_get {id : Int} {f : Kp → Kp} : ∀ {l : List Kp} {i : Nat}, l.findIdx? (fun x => decide (x.id = id)) = some i → ∀ j, (setK id f l)[j]? = if j = i then l[j]?.map f else l[j]?
  | [], i, h => by simp at h
  | x :: l, i, h => by
    intro j
    unfold setK
    rw [List.findIdx?_cons] at h
    by_cases hx : x.id = id
    · simp only [hx, decide_true, if_true] at h ⊢
      injection h with h
      subst h
      cases j <;> simp
    · simp only [hx, decide_false, Bool.false_eq_true, if_false] at h ⊢
      cases hl : l.findIdx? (fun x => decide (x.id = id)) with
      | none => rw [hl] at h; simp at h
      | some i' =>
        rw [hl] at h
        simp only [Option.map_some, Option.some.injEq] at h
        subst h
        cases j with
        | zero => simp
        | succ j => simp [setK_get hl j]
set_option maxRecDepth 100000 in
theorem kept_some {id : Int} {x : Kp} (h : keptB b id = some x) : x ∈ b.kps ∧ x.id = id := by
  refine ⟨List.mem_of_find?_eq_some h, ?_⟩
  have := List.find?_some h
  simpa using this
set_option maxRecDepth 100000 in
theorem meant_some {t : Int} {x : It} (h : meantB b t = some x) : x ∈ b.its ∧ x.tok = t := by
  refine ⟨List.mem_of_find?_eq_some h, ?_⟩
  have := List.find?_some h
  simpa using this
set_option maxRecDepth 100000 in
theorem legal_bd {a p : Int} (h : legalB a p = true) : 1 ≤ p ∧ p ≤ 10 := by
  unfold legalB at h
  repeat' split at h
  all_goals first | (simp only [decide_eq_true_eq] at h; omega) | simp at h
end

end Go.Proofs.YtplejbgecihnpaaDoor

namespace Go.Proofs.YtplejbgecihnpaaDoor
open Go.RowKit Go.Shelf

end Go.Proofs.YtplejbgecihnpaaDoor

namespace Go.Proofs.YtplejbgecihnpaaDoor
open Go.RowKit Go.Shelf

/-- The version that is wanted. -/
def verB (p : Br) : Int := if p.rf.st = 1 then p.rf.to_ else p.cf.f12
def goesI (z : Int) : Bool := decide (z = 5) || (decide (z = 6) || (decide (z = 7) || decide (z = 8)))
def standsI (z : Int) : Bool := decide (z = 1) || (decide (z = 2) || (decide (z = 3) || (decide (z = 4) || decide (z = 10))))
/-- Whether one that is meant, or kept, is old. -/
def oldI (p : Br) (x : It) : Bool := !decide (x.ver = verB p)
def oldK (p : Br) (x : Kp) : Bool := !goesI x.phase && (!decide (x.ver = verB p) && (!x.guard || !p.cf.sk))
/-- Counts. -/
structure Cn where
  ver : Int
  old : Nat
  st : Nat
  warm : Nat
  all : Nat
  serve : Nat
  want : Int
  fl : Int
  bd : Int
abbrev Cn.cells (c : Cn) : Array Value := #[.int .i64 c.ver, .int .i64 (c.old : Int), .int .i64 (c.st : Int), .int .i64 (c.warm : Int), .int .i64 (c.all : Int), .int .i64 (c.serve : Int), .int .i64 c.want, .int .i64 c.fl, .int .i64 c.bd]
abbrev Cn.v (c : Cn) : Value := .agg #[.int .i64 c.ver, .int .i64 (c.old : Int), .int .i64 (c.st : Int), .int .i64 (c.warm : Int), .int .i64 (c.all : Int), .int .i64 (c.serve : Int), .int .i64 c.want, .int .i64 c.fl, .int .i64 c.bd]
def itOld (p : Br) (l : List It) : Nat := l.countP (oldI p)
def itSt (l : List It) : Nat := l.countP fun x => !x.warm
def itWarm (l : List It) : Nat := l.countP It.warm
def kpOld (p : Br) (l : List Kp) : Nat := l.countP (oldK p)
def kpSt (l : List Kp) : Nat := l.countP fun x => standsI x.phase
def kpWarm (l : List Kp) : Nat := l.countP fun x => decide (x.phase = 9)
def kpServe (l : List Kp) : Nat := l.countP fun x => decide (x.phase = 4)
def oldB (p : Br) : Nat := itOld p p.its + kpOld p p.kps
def wantB (p : Br) : Int := if p.rf.st = 1 ∧ p.rf.paused = false ∧ 0 < oldB p then wrap64 (p.cf.f0 + p.cf.f2) else p.cf.f0
def countB (p : Br) : Cn := ⟨verB p, oldB p, itSt p.its + kpSt p.kps, itWarm p.its + kpWarm p.kps, p.its.length + p.kps.length, kpServe p.kps, wantB p, floorOf p.cf, boundOf p.cf⟩
def zonesB (p : Br) : List Int := (p.its.filter fun x => !x.warm).map It.zone ++ (p.kps.filter fun x => standsI x.phase).map Kp.zone
def fullB (p : Br) : Bool := decide (boundOf p.cf ≤ ((p.its.length + p.kps.length : Nat) : Int))
theorem countP_next {α : Type} (q : α → Bool) {l : List α} {j : Nat} {x : α} (h : l[j]? = some x) : (l.take (j + 1)).countP q = (l.take j).countP q + (if q x then 1 else 0) := by
  obtain ⟨h1, h2⟩ := List.getElem?_eq_some_iff.1 h
  rw [List.take_succ_eq_append_getElem h1, List.countP_append, h2]
  simp [List.countP_cons]
theorem countP_le' {α : Type} (q : α → Bool) (l : List α) (j : Nat) : (l.take j).countP q ≤ l.length := Nat.le_trans List.countP_le_length (by rw [List.length_take]; omega)
end Go.Proofs.YtplejbgecihnpaaDoor

namespace Go.Proofs.YtplejbgecihnpaaDoor
open Go.RowKit Go.Shelf

section
variable {P : Program} {ops : Array Oper} {Q : Exit → Act → World → Prop} {S : World → Prop} {md : Region.Mode} {fuel i : Nat} {listed : Array Bool} {a : Act} {w : World} {d : Option Tmp} {op : Op} {t : TypeId} {pos : String} {after : Array Edge} {g : Option (Nat × Bool)}

set_option maxRecDepth 100000 in
/-- An operation that yields v in every world that meets S. -/
theorem takeH {v : Value} (hi : ops[i]? = some { dst := d, op := op, type := t, pos := pos, after := after, guard := g })
    (hs : Region.noSelect ops = true) (hf : Region.free md ops listed i = true) (hr : (Region.ready md ops listed).contains i = true)
    (hQ : ∀ c a w, Q (.panic c) (a.put d v) w → Q (.panic c) a w) (hw : Region.wanted { dst := d, op := op, type := t, pos := pos, after := after, guard := g } (yielded ops a.tmps) = true)
    (hy : ∀ w, S w → (execOp a.eval { dst := d, op := op, type := t, pos := pos, after := after, guard := g }).run P w = .ok (.value v) w) (hS : S w)
    (h : wpAnyH P md ops Q S fuel (listed.setIfInBounds i true) (a.put d v) w) : wpAnyH P md ops Q S (fuel + 1) listed a w :=
  wpAnyH_take hi hs hf hr hQ (Or.inl ⟨hw, hy⟩) hS h

set_option maxRecDepth 100000 in
/-- An operation whose guard says no. -/
theorem skipH (hi : ops[i]? = some { dst := d, op := op, type := t, pos := pos, after := after, guard := g })
    (hs : Region.noSelect ops = true) (hf : Region.free md ops listed i = true) (hr : (Region.ready md ops listed).contains i = true)
    (hQ : ∀ c a w, Q (.panic c) (a.put d undef) w → Q (.panic c) a w) (hw : Region.wanted { dst := d, op := op, type := t, pos := pos, after := after, guard := g } (yielded ops a.tmps) = false) (hS : S w)
    (h : wpAnyH P md ops Q S fuel (listed.setIfInBounds i true) (a.put d undef) w) : wpAnyH P md ops Q S (fuel + 1) listed a w :=
  wpAnyH_take hi hs hf hr hQ (Or.inr ⟨hw, rfl⟩) hS h

set_option maxRecDepth 100000 in
/-- An operation that is all that may come up. -/
theorem oneH (hi : ops[i]? = some { dst := d, op := op, type := t, pos := pos, after := after, guard := g }) (hr : Region.ready md ops listed = [i])
    (hw : Region.wanted { dst := d, op := op, type := t, pos := pos, after := after, guard := g } (yielded ops a.tmps) = true)
    (h : ∀ K' : Act → World → Prop, Shut (∀ a w, S w → (S w → wpAnyH P md ops Q S fuel (listed.setIfInBounds i true) a w) → K' a w) → ({ dst := d, op := op, type := t, pos := pos, after := after, guard := g } : Oper).wp P a w K' Q) : wpAnyH P md ops Q S (fuel + 1) listed a w :=
  wpAnyH_ready hr (by simp) (AllReadyH.cons hi (fun K' hK => by rw [if_pos hw]; exact h K' hK) AllReadyH.nil)

set_option maxRecDepth 100000 in
/-- An append whose run is known. -/
theorem wp_appendH {P : Program} {K : Act → World → Prop} {Q : Exit → Act → World → Prop} {a : Act} {w w' : World} {dst : Option Tmp} {u t : TypeId} {pos : String} {after : Array Edge} {g : Option (Nat × Bool)} {x y : Operand} {vs vx v' : Value} (hx : a.eval x = vs) (hy : a.eval y = vx) (hr : (Builtin.append_ #[u, u] t #[vs, vx]).run P w = .ok v' w') (h : K (a.put dst v') w') :
    ({ dst := dst, op := .call { callee := .builtin .append, args := #[x, y], argTypes := #[u, u] }, type := t, pos := pos, after := after, guard := g } : Oper).wp P a w K Q := by
  unfold Oper.wp execOp
  simp only [resolve, invoke, builtin, Sem.run_bind, Sem.run_pure, Result.andThen_ok, List.map_toArray, List.map_cons, List.map_nil, hx, hy, hr]
  exact h
end

end Go.Proofs.YtplejbgecihnpaaDoor

namespace Go.Proofs.YtplejbgecihnpaaDoor
open Go.RowKit Go.Shelf

section
variable {F : Fence} {n : Nat} {P : Program} {ops : Array Oper} {Q : Exit → Act → World → Prop} {S : World → Prop}
end

end Go.Proofs.YtplejbgecihnpaaDoor

namespace Go.Proofs.YtplejbgecihnpaaDoor
open Go.RowKit Go.Shelf

section
variable {P : Program} {ops : Array Oper} {Q : Exit → Act → World → Prop}

/-- Every operation waits only for operations that stand ahead of it. -/
def lowOnly (ops : Array Oper) : Bool := (List.range ops.size).all fun i => ((ops[i]?).map (·.after.all fun e => !Region.binds .any e || decide (e.on < i))).getD true

set_option maxRecDepth 100000 in
theorem lowOnly_at (h : lowOnly ops = true) {i : Nat} {o : Oper} (ho : ops[i]? = some o) : ∀ e ∈ o.after, Region.binds .any e = true → e.on < i := by
  intro e he hb
  have hlt : i < ops.size := (Array.getElem?_eq_some_iff.1 ho).1
  have h1 := List.all_eq_true.1 h i (List.mem_range.2 hlt)
  simp only [ho, Option.map_some, Option.getD_some, Array.all_eq_true_iff_forall_mem] at h1
  have h2 := h1 e he
  simpa [hb] using h2

set_option maxRecDepth 100000 in
theorem ready_none {listed : Array Bool} (hl : lowOnly ops = true) (hs : listed.size = ops.size) (h : Region.ready .any ops listed = []) : ∀ n i, i < n → i < ops.size → listed.getD i false = true := by
  intro n
  induction n with
  | zero => intro i h; omega
  | succ n ih =>
    intro i hi hlt
    cases hv : listed.getD i false with
    | true => rfl
    | false =>
      exfalso
      have hm : i ∈ Region.ready .any ops listed := by
        refine mem_ready.2 ⟨?_, ops[i], Array.getElem?_eq_getElem hlt, fun e he hb => ?_⟩
        · have : i < listed.size := by omega
          simp [this] at hv ⊢
          exact hv
        · have := lowOnly_at hl (Array.getElem?_eq_getElem hlt) e he hb
          exact ih e.on (by omega) (by omega)
      rw [h] at hm
      cases hm

set_option maxRecDepth 100000 in
theorem count_zero_all {l : List Bool} (h : l.count false = 0) : ∀ i, i < l.length → l[i]? = some true := by
  intro i hi
  rw [List.getElem?_eq_getElem hi]
  cases hv : l[i] with
  | true => rfl
  | false => exact absurd (List.getElem_mem hi) (by rw [hv]; exact List.count_eq_zero.1 h)

set_option maxRecDepth 100000 in
theorem set_L {listed : Array Bool} {i : Nat} (hi : i < listed.size) : (fun j => (listed.setIfInBounds i true).getD j false) = fun j => if j = i then true else listed.getD j false := by
  funext j
  by_cases h : j = i
  · subst h; simp [hi]
  · rw [if_neg h, getD_set_ne false (Ne.symm h)]

set_option maxRecDepth 100000 in
theorem count_set {listed : Array Bool} {i : Nat} (h : listed.getD i true = false) : (listed.setIfInBounds i true).toList.count false < listed.toList.count false := by
  have hi : i < listed.size := by
    rcases Nat.lt_or_ge i listed.size with h' | h'
    · exact h'
    · simp [Array.getElem?_eq_none h'] at h
  have hv : listed.toList[i]'(by simpa using hi) = false := by simpa [hi] using h
  have hpos : 0 < listed.toList.count false := List.count_pos_iff.2 (hv ▸ List.getElem_mem _)
  rw [Array.toList_setIfInBounds, List.count_set (by simpa using hi)]
  simp only [hv]
  simp only [beq_self_eq_true, if_true, show ((true == false) = true) = False by simp, if_false]
  omega

set_option maxRecDepth 100000 in
theorem wpAny_inv (hl : lowOnly ops = true) (Φ : (Nat → Bool) → Act → World → Prop)
    (step : ∀ i o L a w, ops[i]? = some o → L i = false → (∀ e ∈ o.after, Region.binds .any e = true → L e.on = true) → Φ L a w → wpOp P ops Q i (Φ (fun j => if j = i then true else L j)) a w)
    (fin : ∀ L a w, (∀ i, i < ops.size → L i = true) → Φ L a w → Q .normal a w) :
    ∀ (fuel : Nat) (listed : Array Bool) (a : Act) (w : World), listed.size = ops.size → listed.toList.count false ≤ fuel → Φ (fun j => listed.getD j false) a w → wpAny P .any ops Q fuel listed a w := by
  intro fuel
  induction fuel with
  | zero =>
    intro listed a w hs hc hΦ
    have hall := count_zero_all (Nat.le_zero.1 hc)
    have hall' : ∀ i, i < ops.size → listed.getD i false = true := fun i hi => by
      have := hall i (by simp; omega)
      simp at this
      simp [this]
    refine ⟨?_, fin _ _ _ hall' hΦ⟩
    refine List.eq_nil_iff_forall_not_mem.2 fun i hm => ?_
    obtain ⟨h1, o, ho, _⟩ := mem_ready.1 hm
    have hlt : i < ops.size := (Array.getElem?_eq_some_iff.1 ho).1
    have h2 := hall' i hlt
    have : i < listed.size := by omega
    simp [this] at h1 h2
    rw [h1] at h2; cases h2
  | succ fuel ih =>
    intro listed a w hs hc hΦ
    refine ⟨fun h0 => fin _ _ _ (fun i hi => ready_none hl hs h0 (i + 1) i (by omega) hi) hΦ, fun i hi => ?_⟩
    obtain ⟨h1, o, ho, hall⟩ := mem_ready.1 hi
    have hlt : i < listed.size := by have := (Array.getElem?_eq_some_iff.1 ho).1; omega
    refine wpOp_mono (fun a' w' h => ih (listed.setIfInBounds i true) a' w' (by simpa using hs) ?_ (by rw [set_L hlt]; exact h)) (step i o _ a w ho (by simp [hlt] at h1 ⊢; exact h1) hall hΦ)
    have := count_set h1
    omega

set_option maxRecDepth 100000 in
theorem region_inv {id : Nat} {a : Act} {w : World} (hm : P.follows .mixedOrders = true) (hl : lowOnly ops = true) (Φ : (Nat → Bool) → Act → World → Prop) (h0 : Φ (fun _ => false) a w.drew)
    (step : ∀ i o L a w, ops[i]? = some o → L i = false → (∀ e ∈ o.after, Region.binds .any e = true → L e.on = true) → Φ L a w → wpOp P ops Q i (Φ (fun j => if j = i then true else L j)) a w)
    (fin : ∀ L a w, (∀ i, i < ops.size → L i = true) → Φ L a w → Q .normal a w) : (Code.region id ops true).wp P Q a w := by
  refine wp_region_any hm (wpAny_inv hl Φ step fin _ _ _ _ (by simp) ?_ ?_)
  · simp
  · have e : (fun j => (Array.replicate ops.size false).getD j false) = fun _ => false := by
      funext j
      by_cases h : j < ops.size <;> simp [h]
    rw [e]
    exact h0

/-- What has come up has come up behind what it waits for. -/
def Clo (ops : Array Oper) (L : Nat → Bool) : Prop := ∀ i o, ops[i]? = some o → L i = true → ∀ e ∈ o.after, Region.binds .any e = true → L e.on = true

set_option maxRecDepth 100000 in
/-- The same, and the steps know that what has come up has come up behind what it waits for. -/
theorem region_clo {id : Nat} {a : Act} {w : World} (hm : P.follows .mixedOrders = true) (hl : lowOnly ops = true) (Φ : (Nat → Bool) → Act → World → Prop) (h0 : Φ (fun _ => false) a w.drew)
    (step : ∀ i o L a w, ops[i]? = some o → L i = false → Clo ops L → (∀ e ∈ o.after, Region.binds .any e = true → L e.on = true) → Φ L a w → wpOp P ops Q i (Φ (fun j => if j = i then true else L j)) a w)
    (fin : ∀ L a w, (∀ i, i < ops.size → L i = true) → Φ L a w → Q .normal a w) : (Code.region id ops true).wp P Q a w := by
  refine region_inv hm hl (fun L a w => Clo ops L ∧ Φ L a w) ⟨fun _ _ _ h => (by cases h), h0⟩ ?_ (fun L a w hall h => fin L a w hall h.2)
  intro i o L a w ho hi hall h
  refine wpOp_mono (fun a' w' h' => ⟨?_, h'⟩) (step i o L a w ho hi h.1 hall h.2)
  intro j o' ho' hj e he hb
  by_cases hji : j = i
  · subst hji
    rw [ho] at ho'
    injection ho' with e'
    subst e'
    simp [hall e he hb]
  · have := h.1 j o' ho' (by simpa [hji] using hj) e he hb
    simp [this]

/-- Operation i of these is that one, without a guard, and waits for those. -/
def At (ops : Array Oper) (i : Nat) (dst : Option Tmp) (op : Op) (t : TypeId) (js : List Nat) : Prop :=
  ∃ o, ops[i]? = some o ∧ o.dst = dst ∧ o.op = op ∧ o.type = t ∧ o.guard = none ∧ (js.all fun j => o.after.any fun e => Region.binds .any e && e.on == j) = true

set_option maxRecDepth 100000 in
theorem At.needs {i : Nat} {dst : Option Tmp} {op : Op} {t : TypeId} {js : List Nat} (h : At ops i dst op t js) {o : Oper} (ho : ops[i]? = some o) {L : Nat → Bool} (hall : ∀ e ∈ o.after, Region.binds .any e = true → L e.on = true) : ∀ j ∈ js, L j = true := by
  obtain ⟨o', ho', _, _, _, _, hj⟩ := h
  rw [ho] at ho'
  injection ho' with e
  subst e
  intro j hjs
  have h1 := List.all_eq_true.1 hj j hjs
  rw [Array.any_eq_true'] at h1
  obtain ⟨e, he, h2⟩ := h1
  simp only [Bool.and_eq_true, beq_iff_eq] at h2
  rw [← h2.2]
  exact hall e he h2.1

set_option maxRecDepth 100000 in
theorem At.clo {i : Nat} {dst : Option Tmp} {op : Op} {t : TypeId} {js : List Nat} (h : At ops i dst op t js) {L : Nat → Bool} (hc : Clo ops L) (hi : L i = true) : ∀ j ∈ js, L j = true := by
  obtain ⟨o, ho, _⟩ := id h
  exact h.needs ho (hc i o ho hi)
set_option maxRecDepth 100000 in
theorem At.not {i : Nat} {dst : Option Tmp} {op : Op} {t : TypeId} {js : List Nat} (h : At ops i dst op t js) {L : Nat → Bool} (hc : Clo ops L) {j : Nat} (hj : j ∈ js) (hn : L j = false) : L i = false := by
  cases hv : L i with
  | false => rfl
  | true => have := h.clo hc hv j hj; rw [hn] at this; cases this

set_option maxRecDepth 100000 in
theorem At.run {i : Nat} {dst : Option Tmp} {op : Op} {t : TypeId} {js : List Nat} (h : At ops i dst op t js) {K : Act → World → Prop} {a : Act} {w : World}
    (hr : ∀ pos after, ({ dst := dst, op := op, type := t, pos := pos, after := after, guard := none } : Oper).wp P a w K Q) : wpOp P ops Q i K a w := by
  obtain ⟨o, ho, h1, h2, h3, h4, _⟩ := h
  unfold wpOp
  rw [ho]
  dsimp only
  rw [if_pos (by unfold Region.wanted; rw [h4])]
  left
  subst h1; subst h2; subst h3
  have := hr o.pos o.after
  rw [← h4] at this
  exact this

/-- What one frame has in common with another: all but these slots. -/
structure Agree (ds : List Nat) (a0 a : Act) : Prop where
  defers : a.defers = a0.defers
  size : a.tmps.size = a0.tmps.size
  out : ∀ t, t ∉ ds → a.tmps[t]? = a0.tmps[t]?

set_option maxRecDepth 100000 in
theorem Agree.refl (ds : List Nat) (a : Act) : Agree ds a a := ⟨rfl, rfl, fun _ _ => rfl⟩
set_option maxRecDepth 100000 in
theorem Agree.put {ds : List Nat} {a0 a : Act} (h : Agree ds a0 a) {d : Nat} (hd : d ∈ ds) (v : Value) : Agree ds a0 (a.put (some d) v) :=
  ⟨h.defers, by simpa [Act.put] using h.size, fun t ht => by
    have hne : d ≠ t := fun e => ht (e ▸ hd)
    simp only [Act.put]
    rw [Array.getElem?_setIfInBounds_ne hne]
    exact h.out t ht⟩
set_option maxRecDepth 100000 in
theorem Agree.eval {ds : List Nat} {a0 a : Act} (h : Agree ds a0 a) {t : Nat} (ht : t ∉ ds) : a.eval (.tmp t) = a0.eval (.tmp t) := by
  simp only [Act.eval, Array.getD_eq_getD_getElem?, h.out t ht]
set_option maxRecDepth 100000 in
theorem eval_new {a : Act} {d : Nat} (hd : d < a.tmps.size) (v : Value) : (a.put (some d) v).eval (.tmp d) = v := by
  simp [Act.eval, Act.put, hd]
set_option maxRecDepth 100000 in
theorem eval_old {a : Act} {d t : Nat} (hne : d ≠ t) (v : Value) : (a.put (some d) v).eval (.tmp t) = a.eval (.tmp t) :=
  Act.eval_put (dst := some d) fun d' e h => hne (by injection e with e; injection h with h; rw [e, h])

/-- The frame laid anew. -/
def lay (σ : Nat → Value) (ds : List Nat) (a : Act) : Act := ds.foldl (fun a d => a.put (some d) (σ d)) a
set_option maxRecDepth 100000 in
theorem lay_defers (σ : Nat → Value) (ds : List Nat) (a : Act) : (lay σ ds a).defers = a.defers := by
  induction ds generalizing a with
  | nil => rfl
  | cons d ds ih => exact (ih _).trans rfl
set_option maxRecDepth 100000 in
theorem lay_out (σ : Nat → Value) (ds : List Nat) (a : Act) (t : Nat) (ht : t ∉ ds) : (lay σ ds a).tmps[t]? = a.tmps[t]? := by
  induction ds generalizing a with
  | nil => rfl
  | cons d ds ih =>
    refine (ih _ fun h => ht (List.mem_cons_of_mem _ h)).trans ?_
    have hne : d ≠ t := fun e => ht (e ▸ List.mem_cons_self ..)
    simp only [Act.put]
    rw [Array.getElem?_setIfInBounds_ne hne]
set_option maxRecDepth 100000 in
theorem lay_in (σ : Nat → Value) (ds : List Nat) (a : Act) (t : Nat) (ht : t ∈ ds) (hs : t < a.tmps.size) : (lay σ ds a).tmps[t]? = some (σ t) := by
  induction ds generalizing a with
  | nil => cases ht
  | cons d ds ih =>
    by_cases h : t ∈ ds
    · exact ih _ h (by simpa [Act.put] using hs)
    · have e : t = d := by simpa [h] using ht
      subst e
      refine (lay_out σ ds _ t h).trans ?_
      simp [Act.put, hs]
set_option maxRecDepth 100000 in
theorem Agree.lay {ds : List Nat} {a0 a : Act} (h : Agree ds a0 a) (hds : ∀ d ∈ ds, d < a0.tmps.size) : a = lay (fun d => a.eval (.tmp d)) ds a0 := by
  have ht : a.tmps = (Proofs.YtplejbgecihnpaaDoor.lay (fun d => a.eval (.tmp d)) ds a0).tmps := by
    refine Array.ext_getElem? fun t => ?_
    by_cases hm : t ∈ ds
    · have hlt : t < a.tmps.size := by rw [h.size]; exact hds t hm
      rw [lay_in _ _ _ _ hm (hds t hm)]
      simp [Act.eval, hlt]
    · rw [lay_out _ _ _ _ hm, h.out t hm]
  have hd := (lay_defers (fun d => a.eval (.tmp d)) ds a0)
  cases a with
  | mk tm df =>
    cases hl : Proofs.YtplejbgecihnpaaDoor.lay (fun d => ({ tmps := tm, defers := df } : Act).eval (.tmp d)) ds a0 with
    | mk tm' df' =>
      rw [hl] at ht hd
      have := h.defers
      simp only at ht hd this
      rw [ht, hd, this]

end

end Go.Proofs.YtplejbgecihnpaaDoor
