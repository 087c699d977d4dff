/-
  What the statements over what is on its way are handed: asks, tells, what was seen, opened. Conditions: those that each theorem names.
-/
import Derived.Test.YtcbbjloojngoiaaOpenF
import Derived.Test.YtcbbjloojngoiaaAkOpen
import Derived.Test.YtcbbjloojngoiaaNtRow
namespace Go.Proofs.Ytcbbjloojngoiaa
open Go.RowKit Go.Shelf Go.ChangeShapes Go.WideShapes Go.Deep Go.Joins

section
variable {H : Type} {enc : TypeId × Value → H} {W : World} {base : Nat} {held : Bool} {d : DataW H} {p : List MemPlace} {v : Value}

theorem RdF.toSn {w : World} {B n : Nat} {A : Option Addr} {l : List Sn} (h : RdF 7 Sn.vs w B A n l) : RdSn w B A n l :=
  ⟨h.1, fun hn => by
    obtain ⟨b, off, e, hlt, hc⟩ := h.2 hn
    exact ⟨b, off, e, hlt, fun j x hx => snAt_of fun i hi => hc j x hx i hi⟩⟩

theorem open_snC {f : Nat} {c : List Value} {y : DataW H × List MemPlace} (hsz : c.length = 7) (h : DataW.trod enc Try.prog W 0 (fun _ => true) held f 51 c = some y) : ∃ x : Sn, c = x.vs := by
  have k_int : Try.prog.cellsOf 3 = 1 := by kernel_rfl
  have k_bool : Try.prog.cellsOf 4 = 1 := by kernel_rfl
  obtain ⟨xs, n, _, _, _, hlen, hel⟩ := DataW.trod_struct Try.underlying51 h
  match c, hsz, xs, hlen with
  | [c0, c1, c2, c3, c4, c5, c6], _, [y0, y1, y2, y3, y4, y5, y6], _ =>
    have g0 : DataW.trod enc Try.prog W 0 (fun _ => true) held n 3 [c0] = some y0 := by simpa [Value.cells, k_int] using hel 0 _ rfl
    have g1 : DataW.trod enc Try.prog W 0 (fun _ => true) held n 3 [c1] = some y1 := by simpa [Value.cells, k_int] using hel 1 _ rfl
    have g2 : DataW.trod enc Try.prog W 0 (fun _ => true) held n 3 [c2] = some y2 := by simpa [Value.cells, k_int] using hel 2 _ rfl
    have g3 : DataW.trod enc Try.prog W 0 (fun _ => true) held n 3 [c3] = some y3 := by simpa [Value.cells, k_int] using hel 3 _ rfl
    have g4 : DataW.trod enc Try.prog W 0 (fun _ => true) held n 4 [c4] = some y4 := by simpa [Value.cells, k_bool] using hel 4 _ rfl
    have g5 : DataW.trod enc Try.prog W 0 (fun _ => true) held n 4 [c5] = some y5 := by simpa [Value.cells, k_bool] using hel 5 _ rfl
    have g6 : DataW.trod enc Try.prog W 0 (fun _ => true) held n 4 [c6] = some y6 := by simpa [Value.cells, k_bool] using hel 6 _ rfl
    obtain ⟨z0, e0, _, _⟩ := DataW.trod_int Try.underlying3 g0
    obtain ⟨z1, e1, _, _⟩ := DataW.trod_int Try.underlying3 g1
    obtain ⟨z2, e2, _, _⟩ := DataW.trod_int Try.underlying3 g2
    obtain ⟨z3, e3, _, _⟩ := DataW.trod_int Try.underlying3 g3
    obtain ⟨z4, e4, _⟩ := DataW.trod_bool Try.underlying4 g4
    obtain ⟨z5, e5, _⟩ := DataW.trod_bool Try.underlying4 g5
    obtain ⟨z6, e6, _⟩ := DataW.trod_bool Try.underlying4 g6
    simp only [List.cons.injEq, and_true] at e0 e1 e2 e3 e4 e5 e6
    exact ⟨⟨z0, z1, z2, z3, z4, z5, z6⟩, by rw [e0, e1, e2, e3, e4, e5, e6]; rfl⟩
theorem open_seensC {f : Nat} {y : DataW H × List MemPlace} (h : DataW.trod enc Try.prog W 0 (fun _ => true) held f 28 [v] = some y) : ∃ A m c l, v = .slice A m c ∧ RdSn W W.heap.size A m l ∧ m ≤ maxLen := by
  obtain ⟨A, m, c, l, h1, h2, h3, _, _⟩ := open_rowF (f := Sn.vs) (P := fun _ => True) Try.underlying28 (size := 7) (by kernel_rfl) (by decide) Sn.vs_length (fun fu c y hc hy => by
    obtain ⟨x, hx⟩ := open_snC hc hy
    exact ⟨x, hx, trivial⟩) h
  exact ⟨A, m, c, l, h1, h2.toSn, h3⟩
/-- What is known of a tell that was handed in. -/
structure TlIn (W : World) (x : TE) : Prop where
  kw : (Lit.int .u8 x.kind).wf = true
  cw : (Lit.int .u8 x.code).wf = true
  rd : RdSn W W.heap.size x.A x.n x.l
  le : x.n ≤ maxLen
theorem open_tlC {f : Nat} {c : List Value} {y : DataW H × List MemPlace} (hsz : c.length = 6) (h : DataW.trod enc Try.prog W 0 (fun _ => true) held f 30 c = some y) : ∃ x : TE, c = x.vs ∧ TlIn W x := by
  have k_uint8 : Try.prog.cellsOf 5 = 1 := by kernel_rfl
  have k_int : Try.prog.cellsOf 3 = 1 := by kernel_rfl
  have k_bool : Try.prog.cellsOf 4 = 1 := by kernel_rfl
  have k_seen : Try.prog.cellsOf 28 = 1 := by kernel_rfl
  obtain ⟨xs, n, _, _, _, hlen, hel⟩ := DataW.trod_struct Try.underlying30 h
  match c, hsz, xs, hlen with
  | [c0, c1, c2, c3, c4, c5], _, [y0, y1, y2, y3, y4, y5], _ =>
    have g0 : DataW.trod enc Try.prog W 0 (fun _ => true) held n 3 [c0] = some y0 := by simpa [Value.cells, k_int] using hel 0 _ rfl
    have g1 : DataW.trod enc Try.prog W 0 (fun _ => true) held n 5 [c1] = some y1 := by simpa [Value.cells, k_uint8] using hel 1 _ rfl
    have g2 : DataW.trod enc Try.prog W 0 (fun _ => true) held n 5 [c2] = some y2 := by simpa [Value.cells, k_uint8] using hel 2 _ rfl
    have g3 : DataW.trod enc Try.prog W 0 (fun _ => true) held n 3 [c3] = some y3 := by simpa [Value.cells, k_int] using hel 3 _ rfl
    have g4 : DataW.trod enc Try.prog W 0 (fun _ => true) held n 28 [c4] = some y4 := by simpa [Value.cells, k_seen] using hel 4 _ rfl
    have g5 : DataW.trod enc Try.prog W 0 (fun _ => true) held n 4 [c5] = some y5 := by simpa [Value.cells, k_bool] using hel 5 _ rfl
    obtain ⟨z0, e0, _, _⟩ := DataW.trod_int Try.underlying3 g0
    obtain ⟨z1, e1, _, w1⟩ := DataW.trod_int Try.underlying5 g1
    obtain ⟨z2, e2, _, w2⟩ := DataW.trod_int Try.underlying5 g2
    obtain ⟨z3, e3, _, _⟩ := DataW.trod_int Try.underlying3 g3
    obtain ⟨A, m, cc, l, e4, hr, hm⟩ := open_seensC g4
    obtain ⟨z5, e5, _⟩ := DataW.trod_bool Try.underlying4 g5
    simp only [List.cons.injEq, and_true] at e0 e1 e2 e3 e5
    exact ⟨⟨z0, z1, z2, z3, A, m, cc, z5, l⟩, by rw [e0, e1, e2, e3, e4, e5]; rfl, w1, w2, hr, hm⟩
/-- A tell, as it is handed over. -/
theorem open_tellV (hv : Value.okWide Try.prog W .any base 30 v) (h : DataW.Trod enc Try.prog W 0 (fun _ => true) held 30 v d p) : ∃ x : TE, v = .agg #[.int .i64 x.call, .int .u8 x.kind, .int .u8 x.code, .int .i64 x.id, .slice x.A x.n x.c, .bool x.more] ∧ TlIn W x := by
  obtain ⟨cs, rfl, hsz⟩ := okWide_struct Try.underlying30 hv
  have hC : Try.prog.cellsOf 30 = 6 := by kernel_rfl
  rw [hC] at hsz
  obtain ⟨l⟩ := cs
  obtain ⟨fuel, hf⟩ := h
  obtain ⟨x, e, h1⟩ := open_tlC (c := l) (by simpa using hsz) (by simpa [Value.cells] using hf)
  exact ⟨x, by rw [e]; rfl, h1⟩

theorem open_tellsC {f : Nat} {y : DataW H × List MemPlace} (h : DataW.trod enc Try.prog W 0 (fun _ => true) held f 23 [v] = some y) : ∃ A m c l, v = .slice A m c ∧ RdT W W.heap.size A m l ∧ m ≤ maxLen ∧ m ≤ c ∧ ∀ x ∈ l, TlIn W x := by
  obtain ⟨A, m, c, l, h1, h2, h3, h4, h5⟩ := open_rowF (f := TE.vs) (P := TlIn W) Try.underlying23 (size := 6) (by kernel_rfl) (by decide) TE.vs_len (fun fu c y hc hy => open_tlC hc hy) h
  exact ⟨A, m, c, l, h1, ⟨h2, fun x hx => (h5 x hx).rd⟩, h3, h4, h5⟩
theorem open_aksC {f : Nat} {y : DataW H × List MemPlace} (h : DataW.trod enc Try.prog W 0 (fun _ => true) held f 22 [v] = some y) : ∃ A m c l, v = .slice A m c ∧ RdK W W.heap.size A m l ∧ m ≤ maxLen ∧ m ≤ c ∧ ∀ x ∈ l, (Lit.int .u8 x.kind).wf = true := by
  obtain ⟨A, m, c, l, h1, h2, h3, h4, h5⟩ := open_rowF (f := Ak.vs) (P := fun x => (Lit.int .u8 x.kind).wf = true) Try.underlying22 (size := 6) (by kernel_rfl) (by decide) Ak.vs_len (fun fu c y hc hy => open_akC hc hy) h
  exact ⟨A, m, c, l, h1, h2.toK, h3, h4, h5⟩

/-- What is on its way, as it is handed over. -/
theorem open_netV (hv : Value.okWide Try.prog W .any base 25 v) (h : DataW.Trod enc Try.prog W 0 (fun _ => true) held 25 v d p) :
    ∃ A n c l A' n' c' l', v = .agg #[.slice A n c, .slice A' n' c'] ∧ (RdK W W.heap.size A n l ∧ n ≤ maxLen ∧ n ≤ c ∧ ∀ x ∈ l, (Lit.int .u8 x.kind).wf = true) ∧ (RdT W W.heap.size A' n' l' ∧ n' ≤ maxLen ∧ n' ≤ c' ∧ ∀ x ∈ l', TlIn W x) := by
  obtain ⟨v0, v1, y0, y1, m, rfl, _, _, h0, h1⟩ := open_agg2 Try.underlying25 (by kernel_rfl) (by kernel_rfl) hv h
  obtain ⟨A, n, c, l, rfl, hk⟩ := open_aksC h0
  obtain ⟨A', n', c', l', rfl, ht⟩ := open_tellsC h1
  exact ⟨A, n, c, l, A', n', c', l', rfl, hk, ht⟩
theorem open_boolV (hv : Value.okWide Try.prog W .any base 4 v) (h : DataW.Trod enc Try.prog W 0 (fun _ => true) held 4 v d p) : ∃ b : Bool, v = .bool b := by
  obtain ⟨b, h1, _⟩ := open_bool Try.underlying4 hv h
  exact ⟨b, h1⟩
end

end Go.Proofs.Ytcbbjloojngoiaa
