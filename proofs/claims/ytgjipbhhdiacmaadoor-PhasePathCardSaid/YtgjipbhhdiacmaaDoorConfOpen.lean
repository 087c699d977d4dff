/-
  What statements over groups are handed: groups, opened; and the table of bounds as the statement's premise tells it. Conditions: those that each theorem names.
-/
import Derived.Test.YtgjipbhhdiacmaaDoorMemOpen
import Derived.Test.YtgjipbhhdiacmaaDoorCfMath
import Derived.LaidMore
import Derived.Stop.Joined
namespace Go.Proofs.YtgjipbhhdiacmaaDoor
open Go.RowKit Go.Shelf Go.ChangeShapes Go.WideShapes Go.Deep Go.Joins

section
variable {H : Type} {enc : TypeId × Value → H} {W : World} {base : Nat} {held : Bool} {d : DataW H} {p : List MemPlace} {v : Value}

set_option maxRecDepth 100000 in
theorem open_intK {n : Nat} {y : Option (DataW H × List MemPlace)} {c : Value} (h : DataW.trod enc Tryd.prog W 0 (fun _ => true) held n 3 [c] = y) (hy : y.isSome = true) : ∃ z : Int, c = .int .i64 z := by
  cases y with
  | none => cases hy
  | some y =>
    obtain ⟨z, hz, _, _⟩ := DataW.trod_int Tryd.underlying3 h
    simp only [List.cons.injEq, and_true] at hz
    exact ⟨z, hz⟩

set_option maxRecDepth 100000 in
/-- A group, as it is handed over. -/
theorem open_confV (hv : Value.okWide Tryd.prog W .any base 26 v) (h : DataW.Trod enc Tryd.prog W 0 (fun _ => true) held 26 v d p) : ∃ x : Cf, v = x.v ∧ Lies x W W.heap.size := by
  obtain ⟨cs, rfl, hsz⟩ := okWide_struct Tryd.underlying26 hv
  have hC : Tryd.prog.cellsOf 26 = 15 := by kernel_rfl
  have k1 : Tryd.prog.cellsOf 3 = 1 := by kernel_rfl
  have k2 : Tryd.prog.cellsOf 4 = 1 := by kernel_rfl
  have k3 : Tryd.prog.cellsOf 24 = 1 := by kernel_rfl
  obtain ⟨fuel, hf⟩ := h
  obtain ⟨xs, n, _, _, _, hlen, hel⟩ := DataW.trod_struct Tryd.underlying26 hf
  rw [hC] at hsz
  obtain ⟨l⟩ := cs
  match l, hsz with
  | [c0, c1, c2, c3, c4, c5, c6, c7, c8, c9, c10, c11, c12, c13, c14], _ =>
    match xs, hlen with
    | [y0, y1, y2, y3, y4, y5, y6, y7, y8, y9, y10, y11, y12, y13, y14], _ =>
      have g0 : DataW.trod enc Tryd.prog W 0 (fun _ => true) held n 3 [c0] = some y0 := by simpa [Value.cells, k1] using hel 0 _ rfl
      have g1 : DataW.trod enc Tryd.prog W 0 (fun _ => true) held n 3 [c1] = some y1 := by simpa [Value.cells, k1] using hel 1 _ rfl
      have g2 : DataW.trod enc Tryd.prog W 0 (fun _ => true) held n 3 [c2] = some y2 := by simpa [Value.cells, k1] using hel 2 _ rfl
      have g3 : DataW.trod enc Tryd.prog W 0 (fun _ => true) held n 3 [c3] = some y3 := by simpa [Value.cells, k1] using hel 3 _ rfl
      have g4 : DataW.trod enc Tryd.prog W 0 (fun _ => true) held n 3 [c4] = some y4 := by simpa [Value.cells, k1] using hel 4 _ rfl
      have g5 : DataW.trod enc Tryd.prog W 0 (fun _ => true) held n 3 [c5] = some y5 := by simpa [Value.cells, k1] using hel 5 _ rfl
      have g6 : DataW.trod enc Tryd.prog W 0 (fun _ => true) held n 3 [c6] = some y6 := by simpa [Value.cells, k1] using hel 6 _ rfl
      have g7 : DataW.trod enc Tryd.prog W 0 (fun _ => true) held n 3 [c7] = some y7 := by simpa [Value.cells, k1] using hel 7 _ rfl
      have g8 : DataW.trod enc Tryd.prog W 0 (fun _ => true) held n 3 [c8] = some y8 := by simpa [Value.cells, k1] using hel 8 _ rfl
      have g9 : DataW.trod enc Tryd.prog W 0 (fun _ => true) held n 3 [c9] = some y9 := by simpa [Value.cells, k1] using hel 9 _ rfl
      have g10 : DataW.trod enc Tryd.prog W 0 (fun _ => true) held n 3 [c10] = some y10 := by simpa [Value.cells, k1] using hel 10 _ rfl
      have g11 : DataW.trod enc Tryd.prog W 0 (fun _ => true) held n 3 [c11] = some y11 := by simpa [Value.cells, k1] using hel 11 _ rfl
      have g12 : DataW.trod enc Tryd.prog W 0 (fun _ => true) held n 3 [c12] = some y12 := by simpa [Value.cells, k1] using hel 12 _ rfl
      have g13 : DataW.trod enc Tryd.prog W 0 (fun _ => true) held n 4 [c13] = some y13 := by simpa [Value.cells, k2] using hel 13 _ rfl
      have g14 : DataW.trod enc Tryd.prog W 0 (fun _ => true) held n 24 [c14] = some y14 := by simpa [Value.cells, k3] using hel 14 _ rfl
      obtain ⟨z0, e0, _, _⟩ := DataW.trod_int Tryd.underlying3 g0
      obtain ⟨z1, e1, _, _⟩ := DataW.trod_int Tryd.underlying3 g1
      obtain ⟨z2, e2, _, _⟩ := DataW.trod_int Tryd.underlying3 g2
      obtain ⟨z3, e3, _, _⟩ := DataW.trod_int Tryd.underlying3 g3
      obtain ⟨z4, e4, _, _⟩ := DataW.trod_int Tryd.underlying3 g4
      obtain ⟨z5, e5, _, _⟩ := DataW.trod_int Tryd.underlying3 g5
      obtain ⟨z6, e6, _, _⟩ := DataW.trod_int Tryd.underlying3 g6
      obtain ⟨z7, e7, _, _⟩ := DataW.trod_int Tryd.underlying3 g7
      obtain ⟨z8, e8, _, _⟩ := DataW.trod_int Tryd.underlying3 g8
      obtain ⟨z9, e9, _, _⟩ := DataW.trod_int Tryd.underlying3 g9
      obtain ⟨z10, e10, _, _⟩ := DataW.trod_int Tryd.underlying3 g10
      obtain ⟨z11, e11, _, _⟩ := DataW.trod_int Tryd.underlying3 g11
      obtain ⟨z12, e12, _, _⟩ := DataW.trod_int Tryd.underlying3 g12
      obtain ⟨sk, e13, _⟩ := DataW.trod_bool Tryd.underlying4 g13
      obtain ⟨A, m, c, zs, e14, hr, hc, hm⟩ := open_intsC g14
      simp only [List.cons.injEq, and_true] at e0 e1 e2 e3 e4 e5 e6 e7 e8 e9 e10 e11 e12 e13
      exact ⟨⟨z0, z1, z2, z3, z4, z5, z6, z7, z8, z9, z10, z11, z12, sk, A, m, c, zs⟩, by rw [e0, e1, e2, e3, e4, e5, e6, e7, e8, e9, e10, e11, e12, e13, e14], ⟨hr, hc, hm⟩⟩

end

end Go.Proofs.YtgjipbhhdiacmaaDoor
