/-
  One more row of what is shown: a literal of one, appended to a row of one's own. Conditions: those that each theorem names.
-/
import Derived.Test.YtdoaakohgmohkaaPgRow
namespace Go.Proofs.Ytdoaakohgmohkaa
open Go.RowKit Go.Shelf

set_option maxRecDepth 100000 in
/-- A literal of one that is shown. -/
theorem rdSn_one (W : World) (x : Sn) (b : Nat) (hb : W.heap.size = b) : RdSn (W.alloc (.cells #[.int .i64 x.id, .int .i64 x.tok, .int .i64 x.ver, .int .i64 x.zone, .bool x.on, .bool x.well, .bool x.inn] 35)) (b + 1) (some ⟨b, 0, none⟩) 1 [x] := by
  subst hb
  refine ⟨rfl, fun _ => ⟨W.heap.size, 0, rfl, by omega, ?_⟩⟩
  rintro (_ | j) y hy
  · simp only [List.getElem?_cons_zero, Option.some.injEq] at hy
    subst hy
    exact snAt_of fun i hi => by rw [Nat.zero_mul, Nat.add_zero, Nat.zero_add, cell_new]; simp [Sn.vs]
  · simp at hy

set_option maxRecDepth 100000 in
/-- 'append(l, s)' at what is shown, l of the call's own: what comes reads as l and s. -/
theorem run_oneN (w : World) (base : Nat) (A : Option Addr) (n c : Nat) (S : List Sn) (hown : w.ownsRow base 35 7 (.slice A n c) n (flatN S)) (x : Sn) (hm : n ≤ 1000) (hbase : base ≤ w.heap.size) (g : Nat) (hg : w.heap.size = g) :
    ∃ A1 c1 w1, (Builtin.append_ #[28, 28] 28 #[.slice A n c, .slice (some ⟨g, 0, none⟩) 1 1]).run Try.prog (w.alloc (.cells #[.int .i64 x.id, .int .i64 x.tok, .int .i64 x.ver, .int .i64 x.zone, .bool x.on, .bool x.well, .bool x.inn] 35)) = .ok (.slice A1 (n + 1) c1) w1 ∧
      w1.ownsRow base 35 7 (.slice A1 (n + 1) c1) (n + 1) (flatN (S ++ [x])) ∧ (w.alloc (.cells #[.int .i64 x.id, .int .i64 x.tok, .int .i64 x.ver, .int .i64 x.zone, .bool x.on, .bool x.well, .bool x.inn] 35)).grownBy w1 (Value.slice A n c).ownBlock := by
  obtain ⟨v1, w1, h1, h2, h3⟩ := run_appN (w.alloc (.cells #[.int .i64 x.id, .int .i64 x.tok, .int .i64 x.ver, .int .i64 x.zone, .bool x.on, .bool x.well, .bool x.inn] 35)) base (.slice A n c) n (flatN S) (hown.alloc _) (g + 1) (some ⟨g, 0, none⟩) 1 1 [x] (rdSn_one w x g hg) (by omega) (by omega) (by simp; omega)
  rw [← flatN_append] at h2
  obtain ⟨A1, c1, rfl⟩ := own_formN h2
  exact ⟨A1, c1, w1, h1, h2, h3⟩

end Go.Proofs.Ytdoaakohgmohkaa
