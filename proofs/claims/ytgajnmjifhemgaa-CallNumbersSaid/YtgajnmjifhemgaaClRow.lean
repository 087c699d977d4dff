/-
  Calls in memory: rows of them, how they read, rows of one's own, appends, comparisons. Conditions: those that each theorem names.
-/
import Derived.Test.YtgajnmjifhemgaaBoxW
import Derived.Test.YtgajnmjifhemgaaClPlain
import Derived.Laws.StructEq
namespace Go.Proofs.Ytgajnmjifhemgaa
open Go.RowKit Go.Shelf

def Cl.vs (x : Cl) : List Value := [.int .i64 x.id, .int .u8 x.kind, .int .i64 x.key, .int .i64 x.sent]
theorem Cl.vs_len (x : Cl) : x.vs.length = 4 := rfl
theorem Cl.vs_one (x : Cl) : ∀ u ∈ x.vs, u.oneCell' = true := by
  intro u hu
  simp only [Cl.vs, List.mem_cons, List.not_mem_nil, or_false] at hu
  rcases hu with rfl | rfl | rfl | rfl <;> rfl
theorem info_cl : (Try.prog.info? 31).map (fun i => (i.zero, i.size, i.bytes)) = some (some (.agg (Cl.vs ⟨0, 0, 0, 0⟩).toArray), 4, 32) := by kernel_rfl

/-- A call, from o on in a block. -/
structure ClAt (w : World) (b o : Nat) (x : Cl) : Prop where
  c0 : w.cell? ⟨b, o, none⟩ = some (.int .i64 x.id)
  c1 : w.cell? ⟨b, o + 1, none⟩ = some (.int .u8 x.kind)
  c2 : w.cell? ⟨b, o + 2, none⟩ = some (.int .i64 x.key)
  c3 : w.cell? ⟨b, o + 3, none⟩ = some (.int .i64 x.sent)
theorem clAt_of {w : World} {b o : Nat} {x : Cl} (h : ∀ i, i < 4 → w.cell? ⟨b, o + i, none⟩ = x.vs[i]?) : ClAt w b o x := ⟨h 0 (by omega), h 1 (by omega), h 2 (by omega), h 3 (by omega)⟩
/-- A slice of calls that reads as the list. -/
abbrev RdC (w : World) (B : Nat) (A : Option Addr) (n : Nat) (l : List Cl) : Prop := RdF 4 Cl.vs w B A n l
theorem RdC.at_ {w : World} {B n : Nat} {A : Option Addr} {l : List Cl} (h : RdC w B A n l) (hn : 0 < n) : ∃ b off, A = some ⟨b, off, none⟩ ∧ b < B ∧ ∀ j x, l[j]? = some x → ClAt w b (off + j * 4) x := by
  obtain ⟨b, off, e, hlt, hc⟩ := h.2 hn
  exact ⟨b, off, e, hlt, fun j x hx => clAt_of fun i hi => hc j x hx i hi⟩

/-- A row of calls of one's own. -/
def CallsAt (base : Nat) (w : World) (v : Value) (l : List Cl) : Prop := w.ownsRow base 31 4 v l.length (l.flatMap Cl.vs)
section
variable {base base' : Nat} {w w' : World} {v : Value} {l : List Cl}
theorem CallsAt.nil_ (base : Nat) (w : World) : CallsAt base w (.slice none 0 0) [] := World.ownsRow_nil _ _ _ _
theorem CallsAt.form (h : CallsAt base w v l) : ∃ A c, v = .slice A l.length c := own_formF h
theorem CallsAt.under (h : CallsAt base w v l) (hb : Below w.heap.size w w') : CallsAt base w' v l := own_under h hb
theorem CallsAt.weaker (h : CallsAt base' w v l) (hb : base ≤ base') : CallsAt base w v l := own_weaker h hb
theorem CallsAt.turn {row : Option Nat} (h : CallsAt base w v l) (hg : w.grownBy w' row) (hr : ∀ r, row = some r → ∃ o : Obj, w.heap[r]? = some o ∧ o.isCells = false) : CallsAt base w' v l := own_turn h hg hr
theorem CallsAt.only {g : Nat} {t : TypeId} {cs : Array Value} (h : CallsAt base w v l) (k : Only g w w') (hw : Whole w g t cs) (hne : 31 ≠ t) : CallsAt base w' v l := k.own h hw hne
theorem CallsAt.read {A : Option Addr} {c : Nat} (h : CallsAt base w (.slice A l.length c) l) : RdC w w.heap.size A l.length l := RdF.of_own Cl.vs_len (by omega) h
end

/-- 'append(v, x...)' of calls. -/
theorem calls_app (w : World) (base : Nat) (v : Value) (l : List Cl) (h : CallsAt base w v l) (B : Nat) (A : Option Addr) (m c : Nat) (l' : List Cl) (hr : RdC w B A m l') (hm : l.length + m ≤ 1000000) (hbase : base ≤ w.heap.size) :
    ∃ A' c' w', (Builtin.append_ #[22, 22] 22 #[v, .slice A m c]).run Try.prog w = .ok (.slice A' (l.length + m) c') w' ∧ CallsAt base w' (.slice A' (l.length + m) c') (l ++ l') ∧ w.grownBy w' v.ownBlock ∧ (∀ b t cs, Whole w b t cs → 31 ≠ t → Whole w' b t cs) := by
  obtain ⟨v', w', g1, g2, g3⟩ := run_appF Try.underlying22 info_cl rfl (by decide) Cl.vs_len Cl.vs_one w base v l.length _ h B A m c l' hr (by unfold maxLen; omega) (by omega) hbase
  obtain ⟨A', c', rfl⟩ := own_formF g2
  refine ⟨A', c', w', g1, ?_, g3, fun b t cs hw hne => hw.grown g3 (Ne.symm (own_apart_F hne h hw))⟩
  unfold CallsAt
  rw [List.length_append, hr.len, List.flatMap_append]
  exact g2
/-- A literal of one call. -/
theorem rdC_one (W : World) (x : Cl) (b : Nat) (hb : W.heap.size = b) : RdC (W.alloc (.cells #[.int .i64 x.id, .int .u8 x.kind, .int .i64 x.key, .int .i64 x.sent] 31)) (b + 1) (some ⟨b, 0, none⟩) 1 [x] := by
  subst hb
  refine ⟨rfl, fun _ => ⟨W.heap.size, 0, rfl, by omega, ?_⟩⟩
  rintro (_ | j) y hy i hi
  · simp only [List.getElem?_cons_zero, Option.some.injEq] at hy
    subst hy
    simp only [Nat.zero_mul, Nat.zero_add]
    rw [cell_new]
    rcases (by omega : i = 0 ∨ i = 1 ∨ i = 2 ∨ i = 3) with rfl | rfl | rfl | rfl <;> rfl
  · simp at hy
/-- 'append(v, x)' with a literal of one call: the literal, the append, what stays. -/
theorem calls_put (W : World) (base : Nat) (v : Value) (l : List Cl) (h : CallsAt base W v l) (x : Cl) (hl : l.length ≤ 1000) (hb : base ≤ W.heap.size) :
    ∃ A' c' W', (Builtin.append_ #[22, 22] 22 #[v, .slice (some ⟨W.heap.size, 0, none⟩) 1 1]).run Try.prog (W.alloc (.cells #[.int .i64 x.id, .int .u8 x.kind, .int .i64 x.key, .int .i64 x.sent] 31)) = .ok (.slice A' (l.length + 1) c') W' ∧ CallsAt base W' (.slice A' (l.length + 1) c') (l ++ [x]) ∧ Below base W W' ∧ KeepsOthers W W' ∧ (∀ b t cs, Whole W b t cs → 31 ≠ t → Whole W' b t cs) ∧ (∀ b t cs, Whole W b t cs → v.ownBlock ≠ some b → Whole W' b t cs) := by
  have hbu : Below W.heap.size W (W.alloc (.cells #[.int .i64 x.id, .int .u8 x.kind, .int .i64 x.key, .int .i64 x.sent] 31)) := (Below.refl _ W).alloc (Nat.le_refl _) _
  have h1 := h.under hbu
  obtain ⟨A', c', W', g1, g2, g3, g4⟩ := calls_app _ base v l h1 (W.heap.size + 1) (some ⟨W.heap.size, 0, none⟩) 1 1 [x] (rdC_one W x _ rfl) (by omega) (by have := hbu.size; omega)
  refine ⟨A', c', W', g1, g2, (hbu.mono hb).trans (below_row h1 g3 (by have := hbu.size; omega)), (keeps_under hbu).trans (keeps_row h1 g3), fun b t cs hw hne => g4 b t cs (hw.under hbu) hne, fun b t cs hw hne => ?_⟩
  exact (hw.under hbu).grown g3 (fun e => hne e.symm)

theorem run_neqCl (w : World) (x y : Cl) : (binOp .neq 31 (.agg #[.int .i64 x.id, .int .u8 x.kind, .int .i64 x.key, .int .i64 x.sent]) (.agg #[.int .i64 y.id, .int .u8 y.kind, .int .i64 y.key, .int .i64 y.sent])).run Try.prog w = .ok (.bool (!decide (x = y))) w := by
  go_simp
  by_cases h : x = y
  · subst h; simp
  · rw [decide_eq_false h]
    repeat' (first | rfl | split)
    exfalso
    apply h
    cases x
    cases y
    simp_all

theorem put4 {w : World} {g : Nat} {t : TypeId} {x0 x1 x2 x3 : Value} (hA : Whole w g t #[x0, x1, x2, x3]) (v0 v1 v2 v3 : Value) : Whole ((((w.setCell ⟨g, 0, none⟩ v0).setCell ⟨g, 1, none⟩ v1).setCell ⟨g, 2, none⟩ v2).setCell ⟨g, 3, none⟩ v3) g t #[v0, v1, v2, v3] ∧ Only g w ((((w.setCell ⟨g, 0, none⟩ v0).setCell ⟨g, 1, none⟩ v1).setCell ⟨g, 2, none⟩ v2).setCell ⟨g, 3, none⟩ v3) := by
  have h0 := hA.set 0 v0
  simp only [List.setIfInBounds_toArray, List.set_cons_zero] at h0
  have h1 := h0.set 1 v1
  simp only [List.setIfInBounds_toArray, List.set_cons_zero, List.set_cons_succ] at h1
  have h2 := h1.set 2 v2
  simp only [List.setIfInBounds_toArray, List.set_cons_zero, List.set_cons_succ] at h2
  have h3 := h2.set 3 v3
  simp only [List.setIfInBounds_toArray, List.set_cons_zero, List.set_cons_succ] at h3
  exact ⟨h3, (((Only.set _ _ _ _).trans (Only.set _ _ _ _)).trans (Only.set _ _ _ _)).trans (Only.set _ _ _ _)⟩
theorem put3 {w : World} {g : Nat} {t : TypeId} {x0 x1 x2 : Value} (hA : Whole w g t #[x0, x1, x2]) (v0 v1 v2 : Value) : Whole (((w.setCell ⟨g, 0, none⟩ v0).setCell ⟨g, 1, none⟩ v1).setCell ⟨g, 2, none⟩ v2) g t #[v0, v1, v2] ∧ Only g w (((w.setCell ⟨g, 0, none⟩ v0).setCell ⟨g, 1, none⟩ v1).setCell ⟨g, 2, none⟩ v2) := by
  have h0 := hA.set 0 v0
  simp only [List.setIfInBounds_toArray, List.set_cons_zero] at h0
  have h1 := h0.set 1 v1
  simp only [List.setIfInBounds_toArray, List.set_cons_zero, List.set_cons_succ] at h1
  have h2 := h1.set 2 v2
  simp only [List.setIfInBounds_toArray, List.set_cons_zero, List.set_cons_succ] at h2
  exact ⟨h2, ((Only.set _ _ _ _).trans (Only.set _ _ _ _)).trans (Only.set _ _ _ _)⟩
theorem put1 {w : World} {g : Nat} {t : TypeId} {x0 : Value} (hA : Whole w g t #[x0]) (v0 : Value) : Whole (w.setCell ⟨g, 0, none⟩ v0) g t #[v0] ∧ Only g w (w.setCell ⟨g, 0, none⟩ v0) := by
  have h0 := hA.set 0 v0
  simp only [List.setIfInBounds_toArray, List.set_cons_zero] at h0
  exact ⟨h0, Only.set _ _ _ _⟩
theorem cells3 {w : World} {g : Nat} {t : TypeId} {v0 v1 v2 : Value} (h : Whole w g t #[v0, v1, v2]) : w.cell? ⟨g, 0, none⟩ = some v0 ∧ w.cell? ⟨g, 1, none⟩ = some v1 ∧ w.cell? ⟨g, 2, none⟩ = some v2 := ⟨h.cell 0, h.cell 1, h.cell 2⟩
theorem cells4 {w : World} {g : Nat} {t : TypeId} {v0 v1 v2 v3 : Value} (h : Whole w g t #[v0, v1, v2, v3]) : w.cell? ⟨g, 0, none⟩ = some v0 ∧ w.cell? ⟨g, 1, none⟩ = some v1 ∧ w.cell? ⟨g, 2, none⟩ = some v2 ∧ w.cell? ⟨g, 3, none⟩ = some v3 := ⟨h.cell 0, h.cell 1, h.cell 2, h.cell 3⟩
theorem cells1 {w : World} {g : Nat} {t : TypeId} {v0 : Value} (h : Whole w g t #[v0]) : w.cell? ⟨g, 0, none⟩ = some v0 := h.cell 0

/-- What comes of a call that tells calls: those, in memory of the call's own. -/
def CsPost (c : Cs) (w : World) (e : Ending) (w' : World) : Prop :=
  ∃ A k, e = .returned (.agg #[.int .i64 c.ep, .int .i64 c.nx, .slice A c.l.length k]) ∧ CallsAt w.heap.size w' (.slice A c.l.length k) c.l ∧ Below w.heap.size w w'
/-- Calls, with what else is told. -/
def CsPost2 (c : Cs) (u : Value) (w : World) (e : Ending) (w' : World) : Prop :=
  ∃ A k, e = .returned (.tuple #[.agg #[.int .i64 c.ep, .int .i64 c.nx, .slice A c.l.length k], u]) ∧ CallsAt w.heap.size w' (.slice A c.l.length k) c.l ∧ Below w.heap.size w w'
def CsPost3 (c : Cs) (u v : Value) (w : World) (e : Ending) (w' : World) : Prop :=
  ∃ A k, e = .returned (.tuple #[.agg #[.int .i64 c.ep, .int .i64 c.nx, .slice A c.l.length k], u, v]) ∧ CallsAt w.heap.size w' (.slice A c.l.length k) c.l ∧ Below w.heap.size w w'
/-- The one panic of the package: what may not be. -/
def boom : List PanicEntry := [{ v := .iface 27 (.int .i64 2), recovered := false }]
/-- It comes to its end just if b. -/
def EndsIf (b : Bool) (w : World) (e : Ending) (w' : World) : Prop := Below w.heap.size w w' ∧ ((b = true ∧ e = .returned (.tuple #[])) ∨ (b = false ∧ e = .panicked boom))

theorem wp_at {P : Program} {c : Code} {Q : Exit → Act → World → Prop} {a : Act} {W : World} (h : ∀ V, W = V → c.wp P Q a V) : c.wp P Q a W := h W rfl
theorem calls_at {P : Program} {f : FuncId} {args : Array Value} {W : World} {R : Ending → World → Prop} (h : ∀ V, W = V → Calls P f args V R) : Calls P f args W R := h W rfl
theorem q_at {Q : Exit → Act → World → Prop} {e : Exit} {a : Act} {W : World} (h : ∀ V, W = V → Q e a V) : Q e a W := h W rfl

end Go.Proofs.Ytgajnmjifhemgaa
