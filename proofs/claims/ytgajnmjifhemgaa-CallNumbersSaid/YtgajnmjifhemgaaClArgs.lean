/-
  What the statements over calls are handed: calls, deeds, opened. Conditions: those that each theorem names.
-/
import Derived.Test.YtgajnmjifhemgaaOpenF
import Derived.Test.YtgajnmjifhemgaaClRow
namespace Go.Proofs.Ytgajnmjifhemgaa
open Go.RowKit Go.Shelf Go.ChangeShapes Go.WideShapes Go.Deep Go.Joins

/-- A deed. -/
structure Dd where
  what : Int
  kind : Int
  key : Int
  now : Int
def Dd.vs (x : Dd) : List Value := [.int .u8 x.what, .int .u8 x.kind, .int .i64 x.key, .int .i64 x.now]
theorem Dd.vs_len (x : Dd) : x.vs.length = 4 := rfl
structure DdAt (w : World) (b o : Nat) (x : Dd) : Prop where
  c0 : w.cell? ⟨b, o, none⟩ = some (.int .u8 x.what)
  c1 : w.cell? ⟨b, o + 1, none⟩ = some (.int .u8 x.kind)
  c2 : w.cell? ⟨b, o + 2, none⟩ = some (.int .i64 x.key)
  c3 : w.cell? ⟨b, o + 3, none⟩ = some (.int .i64 x.now)
abbrev RdD (w : World) (B : Nat) (A : Option Addr) (n : Nat) (l : List Dd) : Prop := RdF 4 Dd.vs w B A n l
theorem RdD.cells_at {w : World} {B n : Nat} {A : Option Addr} {l : List Dd} (h : RdD w B A n l) (hn : 0 < n) : ∃ b off, A = some ⟨b, off, none⟩ ∧ b < B ∧ ∀ j x, l[j]? = some x → DdAt w b (off + j * 4) x := by
  obtain ⟨b, off, e, hlt, hc⟩ := h.2 hn
  exact ⟨b, off, e, hlt, fun j x hx => ⟨hc j x hx 0 (by omega), hc j x hx 1 (by omega), hc j x hx 2 (by omega), hc j x hx 3 (by omega)⟩⟩

section
variable {H : Type} {enc : TypeId × Value → H} {W : World} {base : Nat} {held : Bool} {d : DataW H} {p : List MemPlace} {v : Value}

theorem open_clC {f : Nat} {c : List Value} {y : DataW H × List MemPlace} (hsz : c.length = 4) (h : DataW.trod enc Try.prog W 0 (fun _ => true) held f 31 c = some y) : ∃ x : Cl, c = x.vs ∧ (Lit.int .i64 x.id).wf = true := by
  have k_uint8 : Try.prog.cellsOf 5 = 1 := by kernel_rfl
  have k_int : Try.prog.cellsOf 3 = 1 := by kernel_rfl
  obtain ⟨xs, n, _, _, _, hlen, hel⟩ := DataW.trod_struct Try.underlying31 h
  match c, hsz, xs, hlen with
  | [c0, c1, c2, c3], _, [y0, y1, y2, y3], _ =>
    have g0 : DataW.trod enc Try.prog W 0 (fun _ => true) held n 3 [c0] = some y0 := by simpa [Value.cells, k_int] using hel 0 _ rfl
    have g1 : DataW.trod enc Try.prog W 0 (fun _ => true) held n 5 [c1] = some y1 := by simpa [Value.cells, k_uint8] using hel 1 _ rfl
    have g2 : DataW.trod enc Try.prog W 0 (fun _ => true) held n 3 [c2] = some y2 := by simpa [Value.cells, k_int] using hel 2 _ rfl
    have g3 : DataW.trod enc Try.prog W 0 (fun _ => true) held n 3 [c3] = some y3 := by simpa [Value.cells, k_int] using hel 3 _ rfl
    obtain ⟨z0, e0, _, w0⟩ := DataW.trod_int Try.underlying3 g0
    obtain ⟨z1, e1, _, _⟩ := DataW.trod_int Try.underlying5 g1
    obtain ⟨z2, e2, _, _⟩ := DataW.trod_int Try.underlying3 g2
    obtain ⟨z3, e3, _, _⟩ := DataW.trod_int Try.underlying3 g3
    simp only [List.cons.injEq, and_true] at e0 e1 e2 e3
    exact ⟨⟨z0, z1, z2, z3⟩, by rw [e0, e1, e2, e3]; rfl, w0⟩
theorem open_ddC {f : Nat} {c : List Value} {y : DataW H × List MemPlace} (hsz : c.length = 4) (h : DataW.trod enc Try.prog W 0 (fun _ => true) held f 44 c = some y) : ∃ x : Dd, c = x.vs ∧ (Lit.int .u8 x.what).wf = true ∧ (Lit.int .i64 x.key).wf = true := by
  have k_uint8 : Try.prog.cellsOf 5 = 1 := by kernel_rfl
  have k_int : Try.prog.cellsOf 3 = 1 := by kernel_rfl
  obtain ⟨xs, n, _, _, _, hlen, hel⟩ := DataW.trod_struct Try.underlying44 h
  match c, hsz, xs, hlen with
  | [c0, c1, c2, c3], _, [y0, y1, y2, y3], _ =>
    have g0 : DataW.trod enc Try.prog W 0 (fun _ => true) held n 5 [c0] = some y0 := by simpa [Value.cells, k_uint8] using hel 0 _ rfl
    have g1 : DataW.trod enc Try.prog W 0 (fun _ => true) held n 5 [c1] = some y1 := by simpa [Value.cells, k_uint8] using hel 1 _ rfl
    have g2 : DataW.trod enc Try.prog W 0 (fun _ => true) held n 3 [c2] = some y2 := by simpa [Value.cells, k_int] using hel 2 _ rfl
    have g3 : DataW.trod enc Try.prog W 0 (fun _ => true) held n 3 [c3] = some y3 := by simpa [Value.cells, k_int] using hel 3 _ rfl
    obtain ⟨z0, e0, _, w0⟩ := DataW.trod_int Try.underlying5 g0
    obtain ⟨z1, e1, _, _⟩ := DataW.trod_int Try.underlying5 g1
    obtain ⟨z2, e2, _, w2⟩ := DataW.trod_int Try.underlying3 g2
    obtain ⟨z3, e3, _, _⟩ := DataW.trod_int Try.underlying3 g3
    simp only [List.cons.injEq, and_true] at e0 e1 e2 e3
    exact ⟨⟨z0, z1, z2, z3⟩, by rw [e0, e1, e2, e3]; rfl, w0, w2⟩
theorem open_callsC {f : Nat} {y : DataW H × List MemPlace} (h : DataW.trod enc Try.prog W 0 (fun _ => true) held f 22 [v] = some y) : ∃ A m c l, v = .slice A m c ∧ RdC W W.heap.size A m l ∧ m ≤ maxLen ∧ m ≤ c ∧ ∀ x ∈ l, (Lit.int .i64 x.id).wf = true :=
  open_rowF (f := Cl.vs) (P := fun x => (Lit.int .i64 x.id).wf = true) Try.underlying22 (size := 4) (by kernel_rfl) (by decide) Cl.vs_len (fun fu c y hc hy => open_clC hc hy) h
/-- A slice of deeds, as it is handed over. -/
theorem open_deedsV (hv : Value.okWide Try.prog W .any base 41 v) (h : DataW.Trod enc Try.prog W 0 (fun _ => true) held 41 v d p) : ∃ A m c l, v = .slice A m c ∧ RdD W W.heap.size A m l ∧ m ≤ maxLen ∧ m ≤ c ∧ ∀ x ∈ l, (Lit.int .u8 x.what).wf = true ∧ (Lit.int .i64 x.key).wf = true := by
  obtain ⟨A, m, c, rfl⟩ := okWide_slice Try.underlying41 hv
  obtain ⟨fuel, hf⟩ := h
  exact open_rowF (f := Dd.vs) (P := fun x => (Lit.int .u8 x.what).wf = true ∧ (Lit.int .i64 x.key).wf = true) Try.underlying41 (size := 4) (by kernel_rfl) (by decide) Dd.vs_len (fun fu c y hc hy => open_ddC hc hy) (by simpa [Value.cells] using hf)
theorem open_csC {f : Nat} {c : List Value} {y : DataW H × List MemPlace} (hsz : c.length = 3) (h : DataW.trod enc Try.prog W 0 (fun _ => true) held f 24 c = some y) : ∃ A n k, ∃ x : Cs, c = [.int .i64 x.ep, .int .i64 x.nx, .slice A n k] ∧ RdC W W.heap.size A n x.l ∧ n ≤ maxLen ∧ n ≤ k ∧ ∀ y ∈ x.l, (Lit.int .i64 y.id).wf = true := by
  have k_int : Try.prog.cellsOf 3 = 1 := by kernel_rfl
  have k_sl : Try.prog.cellsOf 22 = 1 := by kernel_rfl
  obtain ⟨xs, n, _, _, _, hlen, hel⟩ := DataW.trod_struct Try.underlying24 h
  match c, hsz, xs, hlen with
  | [c0, c1, c2], _, [y0, y1, y2], _ =>
    have g0 : DataW.trod enc Try.prog W 0 (fun _ => true) held n 3 [c0] = some y0 := by simpa [Value.cells, k_int] using hel 0 _ rfl
    have g1 : DataW.trod enc Try.prog W 0 (fun _ => true) held n 3 [c1] = some y1 := by simpa [Value.cells, k_int] using hel 1 _ rfl
    have g2 : DataW.trod enc Try.prog W 0 (fun _ => true) held n 22 [c2] = some y2 := by simpa [Value.cells, k_sl] using hel 2 _ rfl
    obtain ⟨z0, e0, _, w0⟩ := DataW.trod_int Try.underlying3 g0
    obtain ⟨z1, e1, _, _⟩ := DataW.trod_int Try.underlying3 g1
    obtain ⟨A, m, k, l, rfl, hr, hm, hk, hw⟩ := open_callsC g2
    simp only [List.cons.injEq, and_true] at e0 e1
    exact ⟨A, m, k, ⟨z0, z1, l⟩, by rw [e0, e1], hr, hm, hk, hw⟩
/-- Calls, as they are handed over. -/
theorem open_csV (hv : Value.okWide Try.prog W .any base 24 v) (h : DataW.Trod enc Try.prog W 0 (fun _ => true) held 24 v d p) : ∃ A n k, ∃ x : Cs, v = .agg #[.int .i64 x.ep, .int .i64 x.nx, .slice A n k] ∧ RdC W W.heap.size A n x.l ∧ n ≤ maxLen ∧ n ≤ k ∧ ∀ y ∈ x.l, (Lit.int .i64 y.id).wf = true := by
  obtain ⟨cs, rfl, hsz⟩ := okWide_struct Try.underlying24 hv
  have hC : Try.prog.cellsOf 24 = 3 := by kernel_rfl
  rw [hC] at hsz
  obtain ⟨l⟩ := cs
  obtain ⟨fuel, hf⟩ := h
  obtain ⟨A, n, k, x, e, h1⟩ := open_csC (c := l) (by simpa using hsz) (by simpa [Value.cells] using hf)
  exact ⟨A, n, k, x, by rw [e], h1⟩
end

end Go.Proofs.Ytgajnmjifhemgaa
