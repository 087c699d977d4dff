/-
  Instances that are kept, in memory: how they read; rows of one's own; what is the same. Conditions: those that each theorem names.
-/
import Derived.Test.YtgjipbhhdiacmaaDoorBoxW
import Derived.Test.YtgjipbhhdiacmaaDoorRdF
import Derived.Test.YtgjipbhhdiacmaaDoorKpMath
import Derived.Laws.StructEq
namespace Go.Proofs.YtgjipbhhdiacmaaDoor
open Go.RowKit Go.Shelf

def Kp.vs (x : Kp) : List Value := [.int .i64 x.id, .int .i64 x.tok, .int .i64 x.ver, .int .i64 x.zone, .int .u8 x.phase, .int .i64 x.since, .bool x.guard, .bool x.done]
abbrev Kp.v (x : Kp) : Value := .agg #[.int .i64 x.id, .int .i64 x.tok, .int .i64 x.ver, .int .i64 x.zone, .int .u8 x.phase, .int .i64 x.since, .bool x.guard, .bool x.done]
abbrev Kp.cells (x : Kp) : Array Value := #[.int .i64 x.id, .int .i64 x.tok, .int .i64 x.ver, .int .i64 x.zone, .int .u8 x.phase, .int .i64 x.since, .bool x.guard, .bool x.done]
theorem Kp.vs_len (x : Kp) : x.vs.length = 8 := rfl
theorem Kp.vs_one (x : Kp) : ∀ u ∈ x.vs, u.oneCell' = true := by
  intro u hu
  simp only [Kp.vs, List.mem_cons, List.not_mem_nil, or_false] at hu
  rcases hu with rfl | rfl | rfl | rfl | rfl | rfl | rfl | rfl <;> rfl
theorem info_kp : (Tryd.prog.info? 23).map (fun i => (i.zero, i.size, i.bytes)) = some (some (.agg (Kp.vs ⟨0, 0, 0, 0, 0, 0, false, false⟩).toArray), 8, 56) := by kernel_rfl

structure KpAt (w : World) (b o : Nat) (x : Kp) : Prop where
  c0 : w.cell? ⟨b, o, none⟩ = some (.int .i64 x.id)
  c1 : w.cell? ⟨b, o + 1, none⟩ = some (.int .i64 x.tok)
  c2 : w.cell? ⟨b, o + 2, none⟩ = some (.int .i64 x.ver)
  c3 : w.cell? ⟨b, o + 3, none⟩ = some (.int .i64 x.zone)
  c4 : w.cell? ⟨b, o + 4, none⟩ = some (.int .u8 x.phase)
  c5 : w.cell? ⟨b, o + 5, none⟩ = some (.int .i64 x.since)
  c6 : w.cell? ⟨b, o + 6, none⟩ = some (.bool x.guard)
  c7 : w.cell? ⟨b, o + 7, none⟩ = some (.bool x.done)
abbrev RdK (w : World) (B : Nat) (A : Option Addr) (n : Nat) (l : List Kp) : Prop := RdF 8 Kp.vs w B A n l
theorem RdK.at_ {w : World} {B n : Nat} {A : Option Addr} {l : List Kp} (h : RdK w B A n l) (hn : 0 < n) : ∃ b off, A = some ⟨b, off, none⟩ ∧ b < B ∧ ∀ j x, l[j]? = some x → KpAt w b (off + j * 8) x := by
  obtain ⟨b, off, e, hlt, hc⟩ := h.2 hn
  exact ⟨b, off, e, hlt, fun j x hx => ⟨hc j x hx 0 (by omega), hc j x hx 1 (by omega), hc j x hx 2 (by omega), hc j x hx 3 (by omega), hc j x hx 4 (by omega), hc j x hx 5 (by omega), hc j x hx 6 (by omega), hc j x hx 7 (by omega)⟩⟩
/-- A row of one's own. -/
def KpsAt (base : Nat) (w : World) (v : Value) (l : List Kp) : Prop := w.ownsRow base 23 8 v l.length (l.flatMap Kp.vs)
section
variable {base base' : Nat} {w w' : World} {v : Value} {m : List Kp}
theorem KpsAt.nil_ (base : Nat) (w : World) : KpsAt base w (.slice none 0 0) [] := World.ownsRow_nil _ _ _ _
theorem KpsAt.form (h : KpsAt base w v m) : ∃ A c, v = .slice A m.length c := own_formF h
theorem KpsAt.under (h : KpsAt base w v m) (hb : Below w.heap.size w w') : KpsAt base w' v m := own_under h hb
theorem KpsAt.weaker (h : KpsAt base' w v m) (hb : base ≤ base') : KpsAt base w v m := own_weaker h hb
theorem KpsAt.only {g : Nat} {t : TypeId} {cs : Array Value} (h : KpsAt base w v m) (k : Only g w w') (hw : Whole w g t cs) (hne : 23 ≠ t) : KpsAt base w' v m := k.own h hw hne
theorem KpsAt.read {A : Option Addr} {c : Nat} (h : KpsAt base w (.slice A m.length c) m) : RdK w w.heap.size A m.length m := RdF.of_own Kp.vs_len (by omega) h
end
theorem kps_app (w : World) (base : Nat) (v : Value) (l : List Kp) (h : KpsAt base w v l) (B : Nat) (A : Option Addr) (m c : Nat) (l' : List Kp) (hr : RdK w B A m l') (hm : l.length + m ≤ 1000000) (hbase : base ≤ w.heap.size) :
    ∃ A' c' w', (Builtin.append_ #[37, 37] 37 #[v, .slice A m c]).run Tryd.prog w = .ok (.slice A' (l.length + m) c') w' ∧ KpsAt base w' (.slice A' (l.length + m) c') (l ++ l') ∧ w.grownBy w' v.ownBlock ∧ (∀ b t cs, Whole w b t cs → 23 ≠ t → Whole w' b t cs) := by
  obtain ⟨v', w', g1, g2, g3⟩ := run_appF Tryd.underlying37 info_kp rfl (by decide) Kp.vs_len Kp.vs_one w base v l.length _ h B A m c l' hr (by unfold maxLen; omega) (by omega) hbase
  obtain ⟨A', c', rfl⟩ := own_formF g2
  refine ⟨A', c', w', g1, ?_, g3, fun b t cs hw hne => hw.grown g3 (Ne.symm (own_apart_F hne h hw))⟩
  unfold KpsAt
  rw [List.length_append, hr.len, List.flatMap_append]
  exact g2
theorem run_neqKp (w : World) (x y : Kp) : (binOp .neq 23 (.agg #[.int .i64 x.id, .int .i64 x.tok, .int .i64 x.ver, .int .i64 x.zone, .int .u8 x.phase, .int .i64 x.since, .bool x.guard, .bool x.done]) (.agg #[.int .i64 y.id, .int .i64 y.tok, .int .i64 y.ver, .int .i64 y.zone, .int .u8 y.phase, .int .i64 y.since, .bool y.guard, .bool y.done])).run Tryd.prog w = .ok (.bool (!decide (x = y))) w := by
  go_simp
  by_cases h : x = y
  · subst h; simp
  · rw [decide_eq_false h]
    repeat' (first | rfl | split)
    exfalso
    apply h
    cases x
    cases y
    simp_all

theorem rdK_whole {W : World} {b : Nat} {x : Kp} (h : Whole W b 23 #[.int .i64 x.id, .int .i64 x.tok, .int .i64 x.ver, .int .i64 x.zone, .int .u8 x.phase, .int .i64 x.since, .bool x.guard, .bool x.done]) : RdK W (b + 1) (some ⟨b, 0, none⟩) 1 [x] := by
  refine ⟨rfl, fun _ => ⟨b, 0, rfl, by omega, ?_⟩⟩
  rintro (_ | j) y hy i hi
  · simp only [List.getElem?_cons_zero, Option.some.injEq] at hy
    subst hy
    simp only [Nat.zero_mul, Nat.zero_add]
    rcases (by omega : i = 0 ∨ i = 1 ∨ i = 2 ∨ i = 3 ∨ i = 4 ∨ i = 5 ∨ i = 6 ∨ i = 7) with rfl | rfl | rfl | rfl | rfl | rfl | rfl | rfl
    · exact h.cell 0
    · exact h.cell 1
    · exact h.cell 2
    · exact h.cell 3
    · exact h.cell 4
    · exact h.cell 5
    · exact h.cell 6
    · exact h.cell 7
  · simp at hy

end Go.Proofs.YtgjipbhhdiacmaaDoor
