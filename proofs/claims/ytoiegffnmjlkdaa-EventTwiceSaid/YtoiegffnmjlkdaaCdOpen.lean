/-
  What the statements over clouds are handed: clouds, what is asked, rows of it, opened. Conditions: those that each theorem names.
-/
import Derived.Test.YtoiegffnmjlkdaaMemOpen
import Derived.Test.YtoiegffnmjlkdaaCdRow
import Derived.LaidMore
import Derived.Stop.Joined
namespace Go.Proofs.Ytoiegffnmjlkdaa
open Go.RowKit Go.Shelf Go.ChangeShapes Go.WideShapes Go.Deep Go.Joins

/-- The values of what is asked. -/
def Ak.vs (q : Ak) : List Value := [.int .u8 q.kind, .int .i64 q.call, .int .i64 q.a, .int .i64 q.b, .int .i64 q.c, .int .i64 q.d]
/-- What is asked, from o on in a block. -/
structure AkAt (w : World) (b o : Nat) (x : Ak) : Prop where
  c0 : w.cell? ⟨b, o, none⟩ = some (.int .u8 x.kind)
  c1 : w.cell? ⟨b, o + 1, none⟩ = some (.int .i64 x.call)
  c2 : w.cell? ⟨b, o + 2, none⟩ = some (.int .i64 x.a)
  c3 : w.cell? ⟨b, o + 3, none⟩ = some (.int .i64 x.b)
  c4 : w.cell? ⟨b, o + 4, none⟩ = some (.int .i64 x.c)
  c5 : w.cell? ⟨b, o + 5, none⟩ = some (.int .i64 x.d)
set_option maxRecDepth 100000 in
theorem akAt_of {w : World} {b o : Nat} {x : Ak} (h : ∀ i, i < 6 → w.cell? ⟨b, o + i, none⟩ = x.vs[i]?) : AkAt w b o x :=
  ⟨h 0 (by omega), h 1 (by omega), h 2 (by omega), h 3 (by omega), h 4 (by omega), h 5 (by omega)⟩
set_option maxRecDepth 100000 in
theorem AkAt.all {w : World} {b o : Nat} {x : Ak} (h : AkAt w b o x) : ∀ i, i < 6 → w.cell? ⟨b, o + i, none⟩ = x.vs[i]? := by
  intro i hi
  rcases (by omega : i = 0 ∨ i = 1 ∨ i = 2 ∨ i = 3 ∨ i = 4 ∨ i = 5) with rfl | rfl | rfl | rfl | rfl | rfl
  all_goals first | exact h.c0 | exact h.c1 | exact h.c2 | exact h.c3 | exact h.c4 | exact h.c5
/-- A slice of things asked that reads as the list l, in a block below B. -/
def RdK (w : World) (B : Nat) (A : Option Addr) (n : Nat) (l : List Ak) : Prop :=
  l.length = n ∧ (0 < n → ∃ b off, A = some ⟨b, off, none⟩ ∧ b < B ∧ ∀ j x, l[j]? = some x → AkAt w b (off + j * 6) x)
section
variable {w w' : World} {B B' n : Nat} {A : Option Addr} {l : List Ak}
set_option maxRecDepth 100000 in
theorem RdK.len (h : RdK w B A n l) : l.length = n := h.1
set_option maxRecDepth 100000 in
theorem RdK.below (h : RdK w B A n l) (hb : Below B w w') : RdK w' B A n l :=
  ⟨h.1, fun hn => by
    obtain ⟨b, off, e, hlt, hc⟩ := h.2 hn
    exact ⟨b, off, e, hlt, fun j x hx => akAt_of fun i hi => (hb.cell (p := ⟨b, off + j * 6 + i, none⟩) hlt).trans ((hc j x hx).all i hi)⟩⟩
set_option maxRecDepth 100000 in
theorem RdK.more (h : RdK w B A n l) (hB : B ≤ B') : RdK w B' A n l :=
  ⟨h.1, fun hn => by
    obtain ⟨b, off, e, hlt, hc⟩ := h.2 hn
    exact ⟨b, off, e, by omega, hc⟩⟩
end

section
variable {H : Type} {enc : TypeId × Value → H} {W : World} {base : Nat} {held : Bool} {d : DataW H} {p : List MemPlace} {v : Value}

set_option maxRecDepth 100000 in
theorem open_boxC {f : Nat} {c : List Value} {y : DataW H × List MemPlace} (hsz : c.length = 11) (h : DataW.trod enc Try.prog W 0 (fun _ => true) held f 36 c = some y) : ∃ x : Bx, c = x.vs := by
  have k_int : Try.prog.cellsOf 3 = 1 := by kernel_rfl
  have k_bool : Try.prog.cellsOf 4 = 1 := by kernel_rfl
  have k_uint8 : Try.prog.cellsOf 5 = 1 := by kernel_rfl
  obtain ⟨xs, n, _, _, _, hlen, hel⟩ := DataW.trod_struct Try.underlying36 h
  match c, hsz, xs, hlen with
  | [c0, c1, c2, c3, c4, c5, c6, c7, c8, c9, c10], _, [y0, y1, y2, y3, y4, y5, y6, y7, y8, y9, y10], _ =>
    have g0 : DataW.trod enc Try.prog W 0 (fun _ => true) held n 3 [c0] = some y0 := by simpa [Value.cells, k_int] using hel 0 _ rfl
    have g1 : DataW.trod enc Try.prog W 0 (fun _ => true) held n 3 [c1] = some y1 := by simpa [Value.cells, k_int] using hel 1 _ rfl
    have g2 : DataW.trod enc Try.prog W 0 (fun _ => true) held n 3 [c2] = some y2 := by simpa [Value.cells, k_int] using hel 2 _ rfl
    have g3 : DataW.trod enc Try.prog W 0 (fun _ => true) held n 3 [c3] = some y3 := by simpa [Value.cells, k_int] using hel 3 _ rfl
    have g4 : DataW.trod enc Try.prog W 0 (fun _ => true) held n 4 [c4] = some y4 := by simpa [Value.cells, k_bool] using hel 4 _ rfl
    have g5 : DataW.trod enc Try.prog W 0 (fun _ => true) held n 4 [c5] = some y5 := by simpa [Value.cells, k_bool] using hel 5 _ rfl
    have g6 : DataW.trod enc Try.prog W 0 (fun _ => true) held n 4 [c6] = some y6 := by simpa [Value.cells, k_bool] using hel 6 _ rfl
    have g7 : DataW.trod enc Try.prog W 0 (fun _ => true) held n 4 [c7] = some y7 := by simpa [Value.cells, k_bool] using hel 7 _ rfl
    have g8 : DataW.trod enc Try.prog W 0 (fun _ => true) held n 5 [c8] = some y8 := by simpa [Value.cells, k_uint8] using hel 8 _ rfl
    have g9 : DataW.trod enc Try.prog W 0 (fun _ => true) held n 3 [c9] = some y9 := by simpa [Value.cells, k_int] using hel 9 _ rfl
    have g10 : DataW.trod enc Try.prog W 0 (fun _ => true) held n 3 [c10] = some y10 := by simpa [Value.cells, k_int] using hel 10 _ rfl
    obtain ⟨z0, e0, _, _⟩ := DataW.trod_int Try.underlying3 g0
    obtain ⟨z1, e1, _, _⟩ := DataW.trod_int Try.underlying3 g1
    obtain ⟨z2, e2, _, _⟩ := DataW.trod_int Try.underlying3 g2
    obtain ⟨z3, e3, _, _⟩ := DataW.trod_int Try.underlying3 g3
    obtain ⟨z4, e4, _⟩ := DataW.trod_bool Try.underlying4 g4
    obtain ⟨z5, e5, _⟩ := DataW.trod_bool Try.underlying4 g5
    obtain ⟨z6, e6, _⟩ := DataW.trod_bool Try.underlying4 g6
    obtain ⟨z7, e7, _⟩ := DataW.trod_bool Try.underlying4 g7
    obtain ⟨z8, e8, _, w8⟩ := DataW.trod_int Try.underlying5 g8
    obtain ⟨z9, e9, _, _⟩ := DataW.trod_int Try.underlying3 g9
    obtain ⟨z10, e10, _, _⟩ := DataW.trod_int Try.underlying3 g10
    simp only [List.cons.injEq, and_true] at e0 e1 e2 e3 e4 e5 e6 e7 e8 e9 e10
    exact ⟨⟨z0, z1, z2, z3, z4, z5, z6, z7, z8, z9, z10⟩, by rw [e0, e1, e2, e3, e4, e5, e6, e7, e8, e9, e10]; rfl⟩

set_option maxRecDepth 100000 in
theorem open_boxesC {f : Nat} {y : DataW H × List MemPlace} (h : DataW.trod enc Try.prog W 0 (fun _ => true) held f 22 [v] = some y) : ∃ A m c l, v = .slice A m c ∧ RdX W W.heap.size A m l ∧ m ≤ maxLen := by
  rcases open_slice Try.underlying22 h with ⟨hcs, _⟩ | ⟨a, len, cap, m, n', D, Pl, hcs, _, hl, hm, hmm, _, hi⟩
  · simp only [List.cons.injEq, and_true] at hcs
    subst hcs
    exact ⟨none, 0, 0, [], rfl, ⟨rfl, fun h => absurd h (by omega)⟩, by unfold maxLen; omega⟩
  · simp only [List.cons.injEq, and_true] at hcs
    subst hcs
    have hC : Try.prog.cellsOf 36 = 11 := by kernel_rfl
    have hmc : m = cap := by simpa using hmm
    have each : ∀ i, i < len → ∃ x : Bx, (∀ j, j < 11 → W.cell? (a.add (i * 11 + j)) = x.vs[j]?) ∧ True := by
      intro i hin
      obtain ⟨cs', hc, ht'⟩ := hi i (by omega)
      rw [hC] at hc
      obtain ⟨_, hcl, hat⟩ := World.cells?_some hc
      obtain ⟨x, rfl⟩ := open_boxC hcl ht'
      refine ⟨x, fun j hj => ?_, trivial⟩
      have := hat j hj
      rwa [Go.Deep.add_add] at this
    have build : ∀ j, j ≤ len → ∃ l : List Bx, l.length = j ∧ (∀ i x, l[i]? = some x → ∀ k, k < 11 → W.cell? (a.add (i * 11 + k)) = x.vs[k]?) ∧ ∀ x ∈ l, True := by
      intro j
      induction j with
      | zero => intro _; exact ⟨[], rfl, by simp, by simp⟩
      | succ j ih =>
        intro hj
        obtain ⟨l, hl1, hl2, hl3⟩ := ih (by omega)
        obtain ⟨x, x1, x2⟩ := each j (by omega)
        refine ⟨l ++ [x], by simp [hl1], ?_, ?_⟩
        · intro i y hy
          rcases Nat.lt_or_ge i l.length with h | h
          · rw [List.getElem?_append_left h] at hy
            exact hl2 i y hy
          · rw [List.getElem?_append_right h] at hy
            have h0 : i - l.length = 0 := by
              rcases Nat.eq_zero_or_pos (i - l.length) with h1 | h1
              · exact h1
              · rw [List.getElem?_eq_none (by simp; omega)] at hy; cases hy
            rw [h0] at hy
            simp only [List.getElem?_cons_zero, Option.some.injEq] at hy
            subst hy
            obtain rfl : i = j := by omega
            exact x1
        · intro y hy
          simp only [List.mem_append, List.mem_singleton] at hy
          rcases hy with hy | rfl
          · exact hl3 y hy
          · exact x2
    obtain ⟨l, hl1, hl2, hl3⟩ := build len (Nat.le_refl _)
    refine ⟨_, _, _, l, rfl, ⟨hl1, fun hn => ?_⟩, by omega⟩
    obtain ⟨x, hx⟩ : ∃ x, l[0]? = some x := ⟨_, List.getElem?_eq_getElem (by omega)⟩
    have h00 := hl2 0 x hx 0 (by omega)
    obtain ⟨b, off, spot⟩ := a
    rw [show x.vs[0]? = some _ from rfl] at h00
    have hspot : spot = none := by simpa [Addr.add] using World.cell?_spot h00
    subst hspot
    refine ⟨b, off, rfl, World.block_lt_of_cell? W _ h00, fun j y hy => bxAt_of fun i hi => ?_⟩
    have h1 := hl2 j y hy i hi
    rw [Go.WideShapes.add_plain, ← Nat.add_assoc] at h1
    exact h1

set_option maxRecDepth 100000 in
theorem open_cloudC {f : Nat} {c : List Value} {y : DataW H × List MemPlace} (hsz : c.length = 5) (h : DataW.trod enc Try.prog W 0 (fun _ => true) held f 24 c = some y) : ∃ A n cc x, c = [.slice A n cc, .int .i64 (Cw.fl x), .int .i64 x.dr, .int .i64 x.nw, .bool x.tg] ∧ RdX W W.heap.size A n x.l ∧ n ≤ maxLen := by
  have k_sapi_Box : Try.prog.cellsOf 22 = 1 := by kernel_rfl
  have k_int : Try.prog.cellsOf 3 = 1 := by kernel_rfl
  have k_bool : Try.prog.cellsOf 4 = 1 := by kernel_rfl
  obtain ⟨xs, n, _, _, _, hlen, hel⟩ := DataW.trod_struct Try.underlying24 h
  match c, hsz, xs, hlen with
  | [c0, c1, c2, c3, c4], _, [y0, y1, y2, y3, y4], _ =>
    have g0 : DataW.trod enc Try.prog W 0 (fun _ => true) held n 22 [c0] = some y0 := by simpa [Value.cells, k_sapi_Box] using hel 0 _ rfl
    have g1 : DataW.trod enc Try.prog W 0 (fun _ => true) held n 3 [c1] = some y1 := by simpa [Value.cells, k_int] using hel 1 _ rfl
    have g2 : DataW.trod enc Try.prog W 0 (fun _ => true) held n 3 [c2] = some y2 := by simpa [Value.cells, k_int] using hel 2 _ rfl
    have g3 : DataW.trod enc Try.prog W 0 (fun _ => true) held n 3 [c3] = some y3 := by simpa [Value.cells, k_int] using hel 3 _ rfl
    have g4 : DataW.trod enc Try.prog W 0 (fun _ => true) held n 4 [c4] = some y4 := by simpa [Value.cells, k_bool] using hel 4 _ rfl
    obtain ⟨A, m, cc, l, e0, hr, hm⟩ := open_boxesC g0
    obtain ⟨z1, e1, _, _⟩ := DataW.trod_int Try.underlying3 g1
    obtain ⟨z2, e2, _, _⟩ := DataW.trod_int Try.underlying3 g2
    obtain ⟨z3, e3, _, _⟩ := DataW.trod_int Try.underlying3 g3
    obtain ⟨z4, e4, _⟩ := DataW.trod_bool Try.underlying4 g4
    simp only [List.cons.injEq, and_true] at e1 e2 e3 e4
    exact ⟨A, m, cc, ⟨l, z1, z2, z3, z4⟩, by rw [e0, e1, e2, e3, e4], hr, hm⟩

set_option maxRecDepth 100000 in
/-- A cloud, as it is handed over. -/
theorem open_cloudV (hv : Value.okWide Try.prog W .any base 24 v) (h : DataW.Trod enc Try.prog W 0 (fun _ => true) held 24 v d p) : ∃ A n c x, v = .agg #[.slice A n c, .int .i64 (Cw.fl x), .int .i64 x.dr, .int .i64 x.nw, .bool x.tg] ∧ RdX W W.heap.size A n x.l ∧ n ≤ maxLen := by
  obtain ⟨cs, rfl, hsz⟩ := okWide_struct Try.underlying24 hv
  have hC : Try.prog.cellsOf 24 = 5 := by kernel_rfl
  rw [hC] at hsz
  obtain ⟨l⟩ := cs
  obtain ⟨fuel, hf⟩ := h
  obtain ⟨A, n, c, x, e, h1, h2⟩ := open_cloudC (c := l) (by simpa using hsz) (by simpa [Value.cells] using hf)
  exact ⟨A, n, c, x, by rw [e], h1, h2⟩
end

end Go.Proofs.Ytoiegffnmjlkdaa
