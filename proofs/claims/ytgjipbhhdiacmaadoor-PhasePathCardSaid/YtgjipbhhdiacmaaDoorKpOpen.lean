/-
  Instances that are kept, as statements are handed them: opened. Conditions: those that each theorem names.
-/
import Derived.Test.YtgjipbhhdiacmaaDoorOpenF
import Derived.Test.YtgjipbhhdiacmaaDoorMemOpen
import Derived.Test.YtgjipbhhdiacmaaDoorKpRow
import Derived.LaidMore
import Derived.Stop.Joined
namespace Go.Proofs.YtgjipbhhdiacmaaDoor
open Go.RowKit Go.Shelf Go.ChangeShapes Go.WideShapes Go.Deep Go.Joins

section
variable {H : Type} {enc : TypeId × Value → H} {W : World} {base : Nat} {held : Bool} {d : DataW H} {p : List MemPlace} {v : Value}
set_option maxRecDepth 100000 in
set_option maxHeartbeats 1000000 in
theorem i64_lo {z : Int} (h : (Lit.int .i64 z).wf = true) : -9223372036854775808 ≤ z := by
  simp only [Lit.wf, Bool.and_eq_true, decide_eq_true_eq] at h
  exact h.1
set_option maxRecDepth 100000 in
set_option maxHeartbeats 1000000 in
theorem open_kpC' {f : Nat} {c : List Value} {y : DataW H × List MemPlace} (hsz : c.length = 8) (h : DataW.trod enc Tryd.prog W 0 (fun _ => true) held f 23 c = some y) : ∃ x : Kp, c = x.vs ∧ 0 ≤ x.phase ∧ x.phase < 256 := by
  have k0 : Tryd.prog.cellsOf 3 = 1 := by kernel_rfl
  have k1 : Tryd.prog.cellsOf 5 = 1 := by kernel_rfl
  have k2 : Tryd.prog.cellsOf 4 = 1 := by kernel_rfl
  obtain ⟨xs, n, _, _, _, hlen, hel⟩ := DataW.trod_struct Tryd.underlying23 h
  match c, hsz, xs, hlen with
  | [c0, c1, c2, c3, c4, c5, c6, c7], _, [y0, y1, y2, y3, y4, y5, y6, y7], _ =>
    have g0 : DataW.trod enc Tryd.prog W 0 (fun _ => true) held n 3 [c0] = some y0 := by simpa [Value.cells, k0, k1, k2] using hel 0 _ rfl
    have g1 : DataW.trod enc Tryd.prog W 0 (fun _ => true) held n 3 [c1] = some y1 := by simpa [Value.cells, k0, k1, k2] using hel 1 _ rfl
    have g2 : DataW.trod enc Tryd.prog W 0 (fun _ => true) held n 3 [c2] = some y2 := by simpa [Value.cells, k0, k1, k2] using hel 2 _ rfl
    have g3 : DataW.trod enc Tryd.prog W 0 (fun _ => true) held n 3 [c3] = some y3 := by simpa [Value.cells, k0, k1, k2] using hel 3 _ rfl
    have g4 : DataW.trod enc Tryd.prog W 0 (fun _ => true) held n 5 [c4] = some y4 := by simpa [Value.cells, k0, k1, k2] using hel 4 _ rfl
    have g5 : DataW.trod enc Tryd.prog W 0 (fun _ => true) held n 3 [c5] = some y5 := by simpa [Value.cells, k0, k1, k2] using hel 5 _ rfl
    have g6 : DataW.trod enc Tryd.prog W 0 (fun _ => true) held n 4 [c6] = some y6 := by simpa [Value.cells, k0, k1, k2] using hel 6 _ rfl
    have g7 : DataW.trod enc Tryd.prog W 0 (fun _ => true) held n 4 [c7] = some y7 := by simpa [Value.cells, k0, k1, k2] using hel 7 _ rfl
    obtain ⟨z0, e0, _, w0⟩ := DataW.trod_int Tryd.underlying3 g0
    obtain ⟨z1, e1, _, w1⟩ := DataW.trod_int Tryd.underlying3 g1
    obtain ⟨z2, e2, _, w2⟩ := DataW.trod_int Tryd.underlying3 g2
    obtain ⟨z3, e3, _, w3⟩ := DataW.trod_int Tryd.underlying3 g3
    obtain ⟨z4, e4, _, w4⟩ := DataW.trod_int Tryd.underlying5 g4
    obtain ⟨z5, e5, _, w5⟩ := DataW.trod_int Tryd.underlying3 g5
    obtain ⟨z6, e6, _⟩ := DataW.trod_bool Tryd.underlying4 g6
    obtain ⟨z7, e7, _⟩ := DataW.trod_bool Tryd.underlying4 g7
    simp only [List.cons.injEq, and_true] at e0 e1 e2 e3 e4 e5 e6 e7
    exact ⟨⟨z0, z1, z2, z3, z4, z5, z6, z7⟩, by rw [e0, e1, e2, e3, e4, e5, e6, e7]; rfl, (bounds_u8 w4).1, by have := (bounds_u8 w4).2; show z4 < 256; omega⟩
set_option maxRecDepth 100000 in
theorem open_kpC {f : Nat} {c : List Value} {y : DataW H × List MemPlace} (hsz : c.length = 8) (h : DataW.trod enc Tryd.prog W 0 (fun _ => true) held f 23 c = some y) : ∃ x : Kp, c = x.vs ∧ 0 ≤ x.phase :=
  let ⟨x, h1, h2, _⟩ := open_kpC' hsz h
  ⟨x, h1, h2⟩
set_option maxRecDepth 100000 in
set_option maxHeartbeats 1000000 in
theorem open_kpsC {f : Nat} {y : DataW H × List MemPlace} (h : DataW.trod enc Tryd.prog W 0 (fun _ => true) held f 37 [v] = some y) : ∃ A m c l, v = .slice A m c ∧ RdK W W.heap.size A m l ∧ m ≤ maxLen ∧ m ≤ c ∧ ∀ x ∈ l, 0 ≤ x.phase :=
  open_rowF (f := Kp.vs) (P := fun x => 0 ≤ x.phase) Tryd.underlying37 (size := 8) (by kernel_rfl) (by decide) Kp.vs_len (fun fu c y hc hy => open_kpC hc hy) h
set_option maxRecDepth 100000 in
set_option maxHeartbeats 1000000 in
theorem open_kpV (hv : Value.okWide Tryd.prog W .any base 23 v) (h : DataW.Trod enc Tryd.prog W 0 (fun _ => true) held 23 v d p) : ∃ x : Kp, v = x.v ∧ 0 ≤ x.phase ∧ x.phase < 256 := by
  obtain ⟨cs, rfl, hsz⟩ := okWide_struct Tryd.underlying23 hv
  have hC : Tryd.prog.cellsOf 23 = 8 := by kernel_rfl
  rw [hC] at hsz
  obtain ⟨l⟩ := cs
  obtain ⟨fuel, hf⟩ := h
  obtain ⟨x, e, h1, h2⟩ := open_kpC' (c := l) (by simpa using hsz) (by simpa [Value.cells] using hf)
  exact ⟨x, by rw [e]; rfl, h1, h2⟩
set_option maxRecDepth 100000 in
set_option maxHeartbeats 1000000 in
theorem open_kpsV (hv : Value.okWide Tryd.prog W .any base 37 v) (h : DataW.Trod enc Tryd.prog W 0 (fun _ => true) held 37 v d p) : ∃ A m c l, v = .slice A m c ∧ RdK W W.heap.size A m l ∧ m ≤ maxLen ∧ m ≤ c ∧ ∀ x ∈ l, 0 ≤ x.phase := by
  obtain ⟨A, n, c, rfl⟩ := okWide_slice Tryd.underlying37 hv
  obtain ⟨fuel, hf⟩ := h
  exact open_kpsC (by simpa [Value.cells] using hf)
end

end Go.Proofs.YtgjipbhhdiacmaaDoor
