/-
  Texts that the walks of the statements over logs lean on, joined (BrOpen, BrTab, BrRefRight, BrLawKit). Conditions: those that each theorem names.
-/
import Derived.Test.YtdaimejlcfhfiaaGreatDoorJ5
import Derived.Test.YtdaimejlcfhfiaaGreatDoorJ8
import Derived.Test.YtdaimejlcfhfiaaGreatDoorJ21
import Derived.Test.YtdaimejlcfhfiaaGreatDoorJ22
import Derived.LaidMore
import Derived.Stop.Joined
import Derived.Test.YtdaimejlcfhfiaaGreatDoorRows

/-
  What the statements over brains are handed: brains, records, opened. Conditions: those that each theorem names.
-/
namespace Go.Proofs.YtdaimejlcfhfiaaGreatDoor
open Go.RowKit Go.Shelf Go.ChangeShapes Go.WideShapes Go.Deep Go.Joins

section
variable {H : Type} {enc : TypeId × Value → H} {W : World} {base : Nat} {held : Bool} {d : DataW H} {p : List MemPlace} {v : Value}
set_option maxRecDepth 100000 in
set_option maxHeartbeats 1000000 in
theorem i64_lo {z : Int} (h : (Lit.int .i64 z).wf = true) : -9223372036854775808 ≤ z := by
  simp only [Lit.wf, Bool.and_eq_true, decide_eq_true_eq] at h
  exact h.1
set_option maxRecDepth 100000 in
set_option maxHeartbeats 1000000 in
theorem open_itC {f : Nat} {c : List Value} {y : DataW H × List MemPlace} (hsz : c.length = 4) (h : DataW.trod enc Tryz.prog W 0 (fun _ => true) held f 45 c = some y) : ∃ x : It, c = x.vs ∧ True := by
  have k0 : Tryz.prog.cellsOf 3 = 1 := by kernel_rfl
  have k1 : Tryz.prog.cellsOf 4 = 1 := by kernel_rfl
  obtain ⟨xs, n, _, _, _, hlen, hel⟩ := DataW.trod_struct Tryz.underlying45 h
  match c, hsz, xs, hlen with
  | [c0, c1, c2, c3], _, [y0, y1, y2, y3], _ =>
    have g0 : DataW.trod enc Tryz.prog W 0 (fun _ => true) held n 3 [c0] = some y0 := by simpa [Value.cells, k0, k1] using hel 0 _ rfl
    have g1 : DataW.trod enc Tryz.prog W 0 (fun _ => true) held n 3 [c1] = some y1 := by simpa [Value.cells, k0, k1] using hel 1 _ rfl
    have g2 : DataW.trod enc Tryz.prog W 0 (fun _ => true) held n 3 [c2] = some y2 := by simpa [Value.cells, k0, k1] using hel 2 _ rfl
    have g3 : DataW.trod enc Tryz.prog W 0 (fun _ => true) held n 4 [c3] = some y3 := by simpa [Value.cells, k0, k1] using hel 3 _ rfl
    obtain ⟨z0, e0, _, w0⟩ := DataW.trod_int Tryz.underlying3 g0
    obtain ⟨z1, e1, _, w1⟩ := DataW.trod_int Tryz.underlying3 g1
    obtain ⟨z2, e2, _, w2⟩ := DataW.trod_int Tryz.underlying3 g2
    obtain ⟨z3, e3, _⟩ := DataW.trod_bool Tryz.underlying4 g3
    simp only [List.cons.injEq, and_true] at e0 e1 e2 e3
    exact ⟨⟨z0, z1, z2, z3⟩, by rw [e0, e1, e2, e3]; rfl, trivial⟩
set_option maxRecDepth 100000 in
set_option maxHeartbeats 1000000 in
theorem open_kpC {f : Nat} {c : List Value} {y : DataW H × List MemPlace} (hsz : c.length = 8) (h : DataW.trod enc Tryz.prog W 0 (fun _ => true) held f 47 c = some y) : ∃ x : Kp, c = x.vs ∧ 0 ≤ x.phase := by
  have k0 : Tryz.prog.cellsOf 3 = 1 := by kernel_rfl
  have k1 : Tryz.prog.cellsOf 5 = 1 := by kernel_rfl
  have k2 : Tryz.prog.cellsOf 4 = 1 := by kernel_rfl
  obtain ⟨xs, n, _, _, _, hlen, hel⟩ := DataW.trod_struct Tryz.underlying47 h
  match c, hsz, xs, hlen with
  | [c0, c1, c2, c3, c4, c5, c6, c7], _, [y0, y1, y2, y3, y4, y5, y6, y7], _ =>
    have g0 : DataW.trod enc Tryz.prog W 0 (fun _ => true) held n 3 [c0] = some y0 := by simpa [Value.cells, k0, k1, k2] using hel 0 _ rfl
    have g1 : DataW.trod enc Tryz.prog W 0 (fun _ => true) held n 3 [c1] = some y1 := by simpa [Value.cells, k0, k1, k2] using hel 1 _ rfl
    have g2 : DataW.trod enc Tryz.prog W 0 (fun _ => true) held n 3 [c2] = some y2 := by simpa [Value.cells, k0, k1, k2] using hel 2 _ rfl
    have g3 : DataW.trod enc Tryz.prog W 0 (fun _ => true) held n 3 [c3] = some y3 := by simpa [Value.cells, k0, k1, k2] using hel 3 _ rfl
    have g4 : DataW.trod enc Tryz.prog W 0 (fun _ => true) held n 5 [c4] = some y4 := by simpa [Value.cells, k0, k1, k2] using hel 4 _ rfl
    have g5 : DataW.trod enc Tryz.prog W 0 (fun _ => true) held n 3 [c5] = some y5 := by simpa [Value.cells, k0, k1, k2] using hel 5 _ rfl
    have g6 : DataW.trod enc Tryz.prog W 0 (fun _ => true) held n 4 [c6] = some y6 := by simpa [Value.cells, k0, k1, k2] using hel 6 _ rfl
    have g7 : DataW.trod enc Tryz.prog W 0 (fun _ => true) held n 4 [c7] = some y7 := by simpa [Value.cells, k0, k1, k2] using hel 7 _ rfl
    obtain ⟨z0, e0, _, w0⟩ := DataW.trod_int Tryz.underlying3 g0
    obtain ⟨z1, e1, _, w1⟩ := DataW.trod_int Tryz.underlying3 g1
    obtain ⟨z2, e2, _, w2⟩ := DataW.trod_int Tryz.underlying3 g2
    obtain ⟨z3, e3, _, w3⟩ := DataW.trod_int Tryz.underlying3 g3
    obtain ⟨z4, e4, _, w4⟩ := DataW.trod_int Tryz.underlying5 g4
    obtain ⟨z5, e5, _, w5⟩ := DataW.trod_int Tryz.underlying3 g5
    obtain ⟨z6, e6, _⟩ := DataW.trod_bool Tryz.underlying4 g6
    obtain ⟨z7, e7, _⟩ := DataW.trod_bool Tryz.underlying4 g7
    simp only [List.cons.injEq, and_true] at e0 e1 e2 e3 e4 e5 e6 e7
    exact ⟨⟨z0, z1, z2, z3, z4, z5, z6, z7⟩, by rw [e0, e1, e2, e3, e4, e5, e6, e7]; rfl, (bounds_u8 w4).1⟩
set_option maxRecDepth 100000 in
set_option maxHeartbeats 1000000 in
theorem open_rfC {f : Nat} {c : List Value} {y : DataW H × List MemPlace} (hsz : c.length = 7) (h : DataW.trod enc Tryz.prog W 0 (fun _ => true) held f 28 c = some y) : ∃ x : Rf, c = (Rf.cells x).toList := by
  have k0 : Tryz.prog.cellsOf 5 = 1 := by kernel_rfl
  have k1 : Tryz.prog.cellsOf 3 = 1 := by kernel_rfl
  have k2 : Tryz.prog.cellsOf 4 = 1 := by kernel_rfl
  obtain ⟨xs, n, _, _, _, hlen, hel⟩ := DataW.trod_struct Tryz.underlying28 h
  match c, hsz, xs, hlen with
  | [c0, c1, c2, c3, c4, c5, c6], _, [y0, y1, y2, y3, y4, y5, y6], _ =>
    have g0 : DataW.trod enc Tryz.prog W 0 (fun _ => true) held n 5 [c0] = some y0 := by simpa [Value.cells, k0, k1, k2] using hel 0 _ rfl
    have g1 : DataW.trod enc Tryz.prog W 0 (fun _ => true) held n 3 [c1] = some y1 := by simpa [Value.cells, k0, k1, k2] using hel 1 _ rfl
    have g2 : DataW.trod enc Tryz.prog W 0 (fun _ => true) held n 3 [c2] = some y2 := by simpa [Value.cells, k0, k1, k2] using hel 2 _ rfl
    have g3 : DataW.trod enc Tryz.prog W 0 (fun _ => true) held n 3 [c3] = some y3 := by simpa [Value.cells, k0, k1, k2] using hel 3 _ rfl
    have g4 : DataW.trod enc Tryz.prog W 0 (fun _ => true) held n 4 [c4] = some y4 := by simpa [Value.cells, k0, k1, k2] using hel 4 _ rfl
    have g5 : DataW.trod enc Tryz.prog W 0 (fun _ => true) held n 3 [c5] = some y5 := by simpa [Value.cells, k0, k1, k2] using hel 5 _ rfl
    have g6 : DataW.trod enc Tryz.prog W 0 (fun _ => true) held n 3 [c6] = some y6 := by simpa [Value.cells, k0, k1, k2] using hel 6 _ rfl
    obtain ⟨z0, e0, _, w0⟩ := DataW.trod_int Tryz.underlying5 g0
    obtain ⟨z1, e1, _, w1⟩ := DataW.trod_int Tryz.underlying3 g1
    obtain ⟨z2, e2, _, w2⟩ := DataW.trod_int Tryz.underlying3 g2
    obtain ⟨z3, e3, _, w3⟩ := DataW.trod_int Tryz.underlying3 g3
    obtain ⟨z4, e4, _⟩ := DataW.trod_bool Tryz.underlying4 g4
    obtain ⟨z5, e5, _, w5⟩ := DataW.trod_int Tryz.underlying3 g5
    obtain ⟨z6, e6, _, w6⟩ := DataW.trod_int Tryz.underlying3 g6
    simp only [List.cons.injEq, and_true] at e0 e1 e2 e3 e4 e5 e6
    exact ⟨⟨z0, z1, z2, z3, z4, z5, z6⟩, by rw [e0, e1, e2, e3, e4, e5, e6]⟩
set_option maxRecDepth 100000 in
set_option maxHeartbeats 1000000 in
theorem open_cfC {f : Nat} {c : List Value} {y : DataW H × List MemPlace} (hsz : c.length = 15) (h : DataW.trod enc Tryz.prog W 0 (fun _ => true) held f 24 c = some y) : ∃ x : Cf, c = x.cells.toList ∧ Lies x W W.heap.size := by
  have k0 : Tryz.prog.cellsOf 3 = 1 := by kernel_rfl
  have k1 : Tryz.prog.cellsOf 4 = 1 := by kernel_rfl
  have k2 : Tryz.prog.cellsOf 22 = 1 := by kernel_rfl
  obtain ⟨xs, n, _, _, _, hlen, hel⟩ := DataW.trod_struct Tryz.underlying24 h
  match c, hsz, xs, hlen with
  | [c0, c1, c2, c3, c4, c5, c6, c7, c8, c9, c10, c11, c12, c13, c14], _, [y0, y1, y2, y3, y4, y5, y6, y7, y8, y9, y10, y11, y12, y13, y14], _ =>
    have g0 : DataW.trod enc Tryz.prog W 0 (fun _ => true) held n 3 [c0] = some y0 := by simpa [Value.cells, k0, k1, k2] using hel 0 _ rfl
    have g1 : DataW.trod enc Tryz.prog W 0 (fun _ => true) held n 3 [c1] = some y1 := by simpa [Value.cells, k0, k1, k2] using hel 1 _ rfl
    have g2 : DataW.trod enc Tryz.prog W 0 (fun _ => true) held n 3 [c2] = some y2 := by simpa [Value.cells, k0, k1, k2] using hel 2 _ rfl
    have g3 : DataW.trod enc Tryz.prog W 0 (fun _ => true) held n 3 [c3] = some y3 := by simpa [Value.cells, k0, k1, k2] using hel 3 _ rfl
    have g4 : DataW.trod enc Tryz.prog W 0 (fun _ => true) held n 3 [c4] = some y4 := by simpa [Value.cells, k0, k1, k2] using hel 4 _ rfl
    have g5 : DataW.trod enc Tryz.prog W 0 (fun _ => true) held n 3 [c5] = some y5 := by simpa [Value.cells, k0, k1, k2] using hel 5 _ rfl
    have g6 : DataW.trod enc Tryz.prog W 0 (fun _ => true) held n 3 [c6] = some y6 := by simpa [Value.cells, k0, k1, k2] using hel 6 _ rfl
    have g7 : DataW.trod enc Tryz.prog W 0 (fun _ => true) held n 3 [c7] = some y7 := by simpa [Value.cells, k0, k1, k2] using hel 7 _ rfl
    have g8 : DataW.trod enc Tryz.prog W 0 (fun _ => true) held n 3 [c8] = some y8 := by simpa [Value.cells, k0, k1, k2] using hel 8 _ rfl
    have g9 : DataW.trod enc Tryz.prog W 0 (fun _ => true) held n 3 [c9] = some y9 := by simpa [Value.cells, k0, k1, k2] using hel 9 _ rfl
    have g10 : DataW.trod enc Tryz.prog W 0 (fun _ => true) held n 3 [c10] = some y10 := by simpa [Value.cells, k0, k1, k2] using hel 10 _ rfl
    have g11 : DataW.trod enc Tryz.prog W 0 (fun _ => true) held n 3 [c11] = some y11 := by simpa [Value.cells, k0, k1, k2] using hel 11 _ rfl
    have g12 : DataW.trod enc Tryz.prog W 0 (fun _ => true) held n 3 [c12] = some y12 := by simpa [Value.cells, k0, k1, k2] using hel 12 _ rfl
    have g13 : DataW.trod enc Tryz.prog W 0 (fun _ => true) held n 4 [c13] = some y13 := by simpa [Value.cells, k0, k1, k2] using hel 13 _ rfl
    have g14 : DataW.trod enc Tryz.prog W 0 (fun _ => true) held n 22 [c14] = some y14 := by simpa [Value.cells, k0, k1, k2] using hel 14 _ rfl
    obtain ⟨z0, e0, _, w0⟩ := DataW.trod_int Tryz.underlying3 g0
    obtain ⟨z1, e1, _, w1⟩ := DataW.trod_int Tryz.underlying3 g1
    obtain ⟨z2, e2, _, w2⟩ := DataW.trod_int Tryz.underlying3 g2
    obtain ⟨z3, e3, _, w3⟩ := DataW.trod_int Tryz.underlying3 g3
    obtain ⟨z4, e4, _, w4⟩ := DataW.trod_int Tryz.underlying3 g4
    obtain ⟨z5, e5, _, w5⟩ := DataW.trod_int Tryz.underlying3 g5
    obtain ⟨z6, e6, _, w6⟩ := DataW.trod_int Tryz.underlying3 g6
    obtain ⟨z7, e7, _, w7⟩ := DataW.trod_int Tryz.underlying3 g7
    obtain ⟨z8, e8, _, w8⟩ := DataW.trod_int Tryz.underlying3 g8
    obtain ⟨z9, e9, _, w9⟩ := DataW.trod_int Tryz.underlying3 g9
    obtain ⟨z10, e10, _, w10⟩ := DataW.trod_int Tryz.underlying3 g10
    obtain ⟨z11, e11, _, w11⟩ := DataW.trod_int Tryz.underlying3 g11
    obtain ⟨z12, e12, _, w12⟩ := DataW.trod_int Tryz.underlying3 g12
    obtain ⟨z13, e13, _⟩ := DataW.trod_bool Tryz.underlying4 g13
    obtain ⟨A, m, k, zs, e14, hr, hc, hm⟩ := open_intsC g14
    simp only [List.cons.injEq, and_true] at e0 e1 e2 e3 e4 e5 e6 e7 e8 e9 e10 e11 e12 e13
    exact ⟨⟨z0, z1, z2, z3, z4, z5, z6, z7, z8, z9, z10, z11, z12, z13, A, m, k, zs⟩, by rw [e0, e1, e2, e3, e4, e5, e6, e7, e8, e9, e10, e11, e12, e13, e14], ⟨hr, hc, hm⟩⟩
set_option maxRecDepth 100000 in
set_option maxHeartbeats 1000000 in
theorem open_itsC {f : Nat} {y : DataW H × List MemPlace} (h : DataW.trod enc Tryz.prog W 0 (fun _ => true) held f 25 [v] = some y) : ∃ A m c l, v = .slice A m c ∧ RdI W W.heap.size A m l ∧ m ≤ maxLen ∧ m ≤ c ∧ ∀ x ∈ l, True :=
  open_rowF (f := It.vs) (P := fun _ => True) Tryz.underlying25 (size := 4) (by kernel_rfl) (by decide) It.vs_len (fun fu c y hc hy => open_itC hc hy) h
set_option maxRecDepth 100000 in
set_option maxHeartbeats 1000000 in
theorem open_kpsC {f : Nat} {y : DataW H × List MemPlace} (h : DataW.trod enc Tryz.prog W 0 (fun _ => true) held f 26 [v] = some y) : ∃ A m c l, v = .slice A m c ∧ RdK W W.heap.size A m l ∧ m ≤ maxLen ∧ m ≤ c ∧ ∀ x ∈ l, 0 ≤ x.phase :=
  open_rowF (f := Kp.vs) (P := fun x => 0 ≤ x.phase) Tryz.underlying26 (size := 8) (by kernel_rfl) (by decide) Kp.vs_len (fun fu c y hc hy => open_kpC hc hy) h
/-- What is true of a brain that is handed in. -/
structure BrAny (W : World) (p : Br) (a : Ad) : Prop where
  rd : RdB_ W W.heap.size p a
  ep : -9223372036854775808 ≤ p.ep
  sq : -9223372036854775808 ≤ p.sq
  ph : ∀ x ∈ p.kps, 0 ≤ x.phase
set_option maxRecDepth 100000 in
set_option maxHeartbeats 1000000 in
theorem open_brC {f : Nat} {c : List Value} {y : DataW H × List MemPlace} (hsz : c.length = 27) (h : DataW.trod enc Tryz.prog W 0 (fun _ => true) held f 30 c = some y) : ∃ (p : Br) (a : Ad), c = (brC p a).toList ∧ BrAny W p a := by
  have k0 : Tryz.prog.cellsOf 3 = 1 := by kernel_rfl
  have k1 : Tryz.prog.cellsOf 4 = 1 := by kernel_rfl
  have k2 : Tryz.prog.cellsOf 24 = 15 := by kernel_rfl
  have k3 : Tryz.prog.cellsOf 25 = 1 := by kernel_rfl
  have k4 : Tryz.prog.cellsOf 26 = 1 := by kernel_rfl
  have k5 : Tryz.prog.cellsOf 28 = 7 := by kernel_rfl
  obtain ⟨xs, n, _, _, _, hlen, hel⟩ := DataW.trod_struct Tryz.underlying30 h
  match c, hsz, xs, hlen with
  | [c0, c1, c2, c3, c4, c5, c6, c7, c8, c9, c10, c11, c12, c13, c14, c15, c16, c17, c18, c19, c20, c21, c22, c23, c24, c25, c26], _, [y0, y1, y2, y3, y4, y5, y6], _ =>
    have g0 : DataW.trod enc Tryz.prog W 0 (fun _ => true) held n 3 [c0] = some y0 := by simpa [Value.cells, k0, k1, k2, k3, k4, k5] using hel 0 _ rfl
    have g1 : DataW.trod enc Tryz.prog W 0 (fun _ => true) held n 3 [c1] = some y1 := by simpa [Value.cells, k0, k1, k2, k3, k4, k5] using hel 1 _ rfl
    have g2 : DataW.trod enc Tryz.prog W 0 (fun _ => true) held n 4 [c2] = some y2 := by simpa [Value.cells, k0, k1, k2, k3, k4, k5] using hel 2 _ rfl
    have g3 : DataW.trod enc Tryz.prog W 0 (fun _ => true) held n 24 [c3, c4, c5, c6, c7, c8, c9, c10, c11, c12, c13, c14, c15, c16, c17] = some y3 := by simpa [Value.cells, k0, k1, k2, k3, k4, k5] using hel 3 _ rfl
    have g4 : DataW.trod enc Tryz.prog W 0 (fun _ => true) held n 25 [c18] = some y4 := by simpa [Value.cells, k0, k1, k2, k3, k4, k5] using hel 4 _ rfl
    have g5 : DataW.trod enc Tryz.prog W 0 (fun _ => true) held n 26 [c19] = some y5 := by simpa [Value.cells, k0, k1, k2, k3, k4, k5] using hel 5 _ rfl
    have g6 : DataW.trod enc Tryz.prog W 0 (fun _ => true) held n 28 [c20, c21, c22, c23, c24, c25, c26] = some y6 := by simpa [Value.cells, k0, k1, k2, k3, k4, k5] using hel 6 _ rfl
    obtain ⟨z0, e0, _, w0⟩ := DataW.trod_int Tryz.underlying3 g0
    obtain ⟨z1, e1, _, w1⟩ := DataW.trod_int Tryz.underlying3 g1
    obtain ⟨z2, e2, _⟩ := DataW.trod_bool Tryz.underlying4 g2
    obtain ⟨x, ex, hL⟩ := open_cfC (by rfl) g3
    obtain ⟨A, m, k, li, e4, hi, _, hik, _⟩ := open_itsC g4
    obtain ⟨B, m2, kk, lk, e5, hkp, _, hkk, hph⟩ := open_kpsC g5
    obtain ⟨r, er⟩ := open_rfC (by rfl) g6
    simp only [List.cons.injEq, and_true] at e0 e1 e2
    have hms : x.ms.length = x.n := by have := hL.rd.1; rwa [iv_length] at this
    have hli : li.length = m := hi.1
    have hlk : lk.length = m2 := hkp.1
    simp only [List.cons.injEq, and_true] at ex er
    obtain ⟨q0, q1, q2, q3, q4, q5, q6, q7, q8, q9, q10, q11, q12, q13, q14⟩ := ex
    obtain ⟨r0, r1, r2, r3, r4, r5, r6⟩ := er
    refine ⟨⟨z0, z1, z2, { x with A := none, n := 0, c := 0 }, li, lk, r⟩, ⟨x.A, x.c, A, k, B, kk⟩, ?_, ⟨?_, ?_, ?_, ?_, ?_, ?_, ?_⟩, i64_lo w0, i64_lo w1, hph⟩
    · rw [e0, e1, e2, e4, e5, q0, q1, q2, q3, q4, q5, q6, q7, q8, q9, q10, q11, q12, q13, q14, r0, r1, r2, r3, r4, r5, r6, ← hms, ← hli, ← hlk]
    · show Rd W W.heap.size x.A x.ms.length (iv x.ms)
      rw [hms]; exact hL.rd
    · show RdI W W.heap.size A li.length li
      rw [hli]; exact hi
    · show RdK W W.heap.size B lk.length lk
      rw [hlk]; exact hkp
    · show x.ms.length ≤ x.c
      rw [hms]; exact hL.cap
    · exact hL.max
    · show li.length ≤ k
      omega
    · show lk.length ≤ kk
      omega
set_option maxRecDepth 100000 in
/-- A brain, as it is handed over. -/
theorem open_brV (hv : Value.okWide Tryz.prog W .any base 30 v) (h : DataW.Trod enc Tryz.prog W 0 (fun _ => true) held 30 v d p) : ∃ (q : Br) (a : Ad), v = brV q a ∧ BrAny W q a := by
  obtain ⟨cs, rfl, hsz⟩ := okWide_struct Tryz.underlying30 hv
  have hC : Tryz.prog.cellsOf 30 = 27 := by kernel_rfl
  rw [hC] at hsz
  obtain ⟨l⟩ := cs
  obtain ⟨fuel, hf⟩ := h
  obtain ⟨q, a, e, h1⟩ := open_brC (c := l) (by simpa using hsz) (by simpa [Value.cells] using hf)
  exact ⟨q, a, by rw [e], h1⟩
def ReOk (W : World) (x : RE) : Prop := x.k < 256 ∧ Rd W W.heap.size x.A x.n (iv x.zs) ∧ x.n ≤ x.c ∧ x.c ≤ maxLen
set_option maxRecDepth 100000 in
set_option maxHeartbeats 1000000 in
theorem open_reC {f : Nat} {c : List Value} {y : DataW H × List MemPlace} (hsz : c.length = 2) (h : DataW.trod enc Tryz.prog W 0 (fun _ => true) held f 32 c = some y) : ∃ x : RE, c = recF x ∧ ReOk W x := by
  have k0 : Tryz.prog.cellsOf 5 = 1 := by kernel_rfl
  have k1 : Tryz.prog.cellsOf 22 = 1 := by kernel_rfl
  obtain ⟨xs, n, _, _, _, hlen, hel⟩ := DataW.trod_struct Tryz.underlying32 h
  match c, hsz, xs, hlen with
  | [c0, c1], _, [y0, y1], _ =>
    have g0 : DataW.trod enc Tryz.prog W 0 (fun _ => true) held n 5 [c0] = some y0 := by simpa [Value.cells, k0, k1] using hel 0 _ rfl
    have g1 : DataW.trod enc Tryz.prog W 0 (fun _ => true) held n 22 [c1] = some y1 := by simpa [Value.cells, k0, k1] using hel 1 _ rfl
    obtain ⟨k, e0, hk⟩ := open_kindC g0
    obtain ⟨A, m, c, zs, e1, hr, hc, hm⟩ := open_intsC g1
    exact ⟨⟨k, A, m, c, zs⟩, by rw [e0, e1]; rfl, hk, hr, hc, hm⟩
set_option maxRecDepth 100000 in
/-- A record, as it is handed over; a slice of them. -/
theorem open_reV (hv : Value.okWide Tryz.prog W .any base 32 v) (h : DataW.Trod enc Tryz.prog W 0 (fun _ => true) held 32 v d p) : ∃ x : RE, v = .agg #[.int .u8 (x.k : Int), .slice x.A x.n x.c] ∧ ReOk W x := by
  obtain ⟨cs, rfl, hsz⟩ := okWide_struct Tryz.underlying32 hv
  have hC : Tryz.prog.cellsOf 32 = 2 := by kernel_rfl
  rw [hC] at hsz
  obtain ⟨l⟩ := cs
  obtain ⟨fuel, hf⟩ := h
  obtain ⟨x, e, h1⟩ := open_reC (c := l) (by simpa using hsz) (by simpa [Value.cells] using hf)
  exact ⟨x, by rw [e]; rfl, h1⟩
set_option maxRecDepth 100000 in
set_option maxHeartbeats 1000000 in
theorem open_resV (hv : Value.okWide Tryz.prog W .any base 33 v) (h : DataW.Trod enc Tryz.prog W 0 (fun _ => true) held 33 v d p) : ∃ A n c xs, v = .slice A n c ∧ RdR W W.heap.size A n xs ∧ n ≤ maxLen ∧ n ≤ c ∧ ∀ x ∈ xs, x.n ≤ x.c ∧ x.c ≤ maxLen := by
  obtain ⟨A, n, c, rfl⟩ := okWide_slice Tryz.underlying33 hv
  obtain ⟨fuel, hf⟩ := h
  obtain ⟨A', m, c', l, e, hr, hm, hc, hP⟩ := open_rowF (f := recF) (P := ReOk W) Tryz.underlying33 (size := 2) (by kernel_rfl) (by decide) recF_len (fun fu c y hc hy => open_reC hc hy) (by simpa [Value.cells] using hf)
  refine ⟨A', m, c', l, e, ⟨hr.1, fun hn => ?_, fun x hx => ⟨(hP x hx).1, (hP x hx).2.1⟩⟩, hm, hc, fun x hx => (hP x hx).2.2⟩
  obtain ⟨b, off, e2, hlt, hcell⟩ := hr.2 hn
  exact ⟨b, off, e2, hlt, fun j x hx => ⟨hcell j x hx 0 (by omega), hcell j x hx 1 (by omega)⟩⟩
end

end Go.Proofs.YtdaimejlcfhfiaaGreatDoor

/-
  The tables of bounds and of changes, as a statement's premise on the packages' variables tells them. Conditions: those that each theorem names.
-/
namespace Go.Proofs.YtdaimejlcfhfiaaGreatDoor
open Go.RowKit Go.Shelf Go.ChangeShapes Go.WideShapes Go.ChangeAt

set_option maxRecDepth 100000 in
theorem gBoundsB : Tryz.prog.globalNamed "herd/conf.bounds" = some 1 := by kernel_rfl
set_option maxRecDepth 100000 in
theorem tBoundsB : (Tryz.prog.globals[1]?).map (·.type) = some 130 := by kernel_rfl
set_option maxRecDepth 100000 in
theorem gChanges : Tryz.prog.globalNamed "herd/brain.changes" = some 0 := by kernel_rfl
set_option maxRecDepth 100000 in
theorem tChanges : (Tryz.prog.globals[0]?).map (·.type) = some 125 := by kernel_rfl

/-- The data, element by element. -/
def bDB (i : Nat) : DataW Unit := .agg [.lit (.int .i64 (loB i)), .lit (.int .i64 (hiB i))]
def cDB (i : Nat) : DataW Unit := .agg [.lit (.int .u8 (chA i)), .lit (.int .u8 (chB i))]
set_option maxRecDepth 100000 in
theorem laid_listB : (Rows.laid_herd_conf_bounds : DataW Unit) = .agg ((List.range 13).map bDB) := rfl
set_option maxRecDepth 100000 in
theorem laid_listC : (Rows.laid_herd_brain_changes : DataW Unit) = .agg ((List.range 11).map cDB) := rfl

set_option maxRecDepth 100000 in
theorem tabs_of_laid {W : World} (h : laidMetH Tryz.prog [("herd/conf.bounds", Rows.laid_herd_conf_bounds), ("herd/brain.changes", Rows.laid_herd_brain_changes)] W) : Tab W ∧ TabH W := by
  rw [MakeChecks.laidMetH_plain _ _ _ (by kernel_rfl)] at h
  obtain ⟨ps, ⟨g0, t0, cs0, f0, p0, q0, hg0, ht0, hv0, hd0, ⟨g1, t1, cs1, f1, p1, q1, hg1, ht1, hv1, hd1, _, _⟩, _⟩, _, _⟩ := h
  obtain rfl := Option.some.inj (gBoundsB.symm.trans hg0)
  obtain rfl := Option.some.inj (tBoundsB.symm.trans ht0)
  obtain rfl := Option.some.inj (gChanges.symm.trans hg1)
  obtain rfl := Option.some.inj (tChanges.symm.trans ht1)
  have c3 : Tryz.prog.cellsOf 3 = 1 := by kernel_rfl
  have c4 : Tryz.prog.cellsOf 5 = 1 := by kernel_rfl
  constructor
  · obtain ⟨xs, m1, rfl, hx1, hlen, hn3, hel⟩ := DataW.trod_array Tryz.underlying130 hd0
    rw [laid_listB] at hx1
    simp only [Prod.mk.injEq, DataW.agg.injEq] at hx1
    have cC : Tryz.prog.cellsOf 129 = 2 := by kernel_rfl
    have each : ∀ k, k < 13 → W.cell? ⟨1, k * 2, none⟩ = some (.int .i64 (loB k)) ∧ W.cell? ⟨1, k * 2 + 1, none⟩ = some (.int .i64 (hiB k)) := by
      intro k hk
      obtain ⟨y, hy⟩ : ∃ y, xs[k]? = some y := ⟨_, List.getElem?_eq_getElem (by omega)⟩
      have e1 : bDB k = y.1 := by
        have := congrArg (fun l : List (DataW Unit) => l[k]?) hx1.1
        simpa [hy, hk] using this
      have h1 := hel k hk
      rw [cC, hy] at h1
      obtain ⟨u0, u1, m, hx, _, k0, k1⟩ := trod_struct2 Tryz.underlying129 h1
      obtain ⟨z0, e0, r0, _⟩ := DataW.trod_int Tryz.underlying3 k0
      obtain ⟨z1, e2, r1, _⟩ := DataW.trod_int Tryz.underlying3 k1
      rw [hx, r0, r1] at e1
      simp only [bDB, DataW.agg.injEq, List.cons.injEq, DataW.lit.injEq, Lit.int.injEq, true_and, and_true] at e1
      obtain ⟨q0, q1⟩ := e1
      have v0 := World.var?_cell hg0 hv0 (k * 2)
      have v1 := World.var?_cell hg0 hv0 (k * 2 + 1)
      have a0 := congrArg (fun l : List Value => l[0]?) e0
      have a1 := congrArg (fun l : List Value => l[0]?) e2
      rw [c3] at a0 a1
      simp [List.getElem?_drop] at a0 a1
      rw [q0, q1]
      exact ⟨v0.trans a0, v1.trans a1⟩
    exact ⟨World.block_lt_of_cell? W _ (each 0 (by omega)).1, each⟩
  · obtain ⟨xs, m1, rfl, hx1, hlen, hn3, hel⟩ := DataW.trod_array Tryz.underlying125 hd1
    rw [laid_listC] at hx1
    simp only [Prod.mk.injEq, DataW.agg.injEq] at hx1
    have cC : Tryz.prog.cellsOf 124 = 2 := by kernel_rfl
    have each : ∀ k, k < 11 → W.cell? ⟨0, k * 2, none⟩ = some (.int .u8 (chA k)) ∧ W.cell? ⟨0, k * 2 + 1, none⟩ = some (.int .u8 (chB k)) := by
      intro k hk
      obtain ⟨y, hy⟩ : ∃ y, xs[k]? = some y := ⟨_, List.getElem?_eq_getElem (by omega)⟩
      have e1 : cDB k = y.1 := by
        have := congrArg (fun l : List (DataW Unit) => l[k]?) hx1.1
        simpa [hy, hk] using this
      have h1 := hel k hk
      rw [cC, hy] at h1
      obtain ⟨ys, m2, ey, hy1, hylen, hyn, hyel⟩ := DataW.trod_array Tryz.underlying124 h1
      match ys, hylen with
      | [y0, y1], _ =>
        have k0 := hyel 0 (by omega)
        have k1 := hyel 1 (by omega)
        simp only [List.getElem?_cons_zero, List.getElem?_cons_succ] at k0 k1
        obtain ⟨z0, e0, r0, _⟩ := DataW.trod_int Tryz.underlying5 k0
        obtain ⟨z1, e2, r1, _⟩ := DataW.trod_int Tryz.underlying5 k1
        have e3 := hy1
        rw [e3] at e1
        simp only [List.map_cons, List.map_nil] at e1
        rw [r0, r1] at e1
        simp only [cDB, DataW.agg.injEq, List.cons.injEq, DataW.lit.injEq, Lit.int.injEq, true_and, and_true] at e1
        obtain ⟨q0, q1⟩ := e1
        have v0 := World.var?_cell hg1 hv1 (k * 2)
        have v1 := World.var?_cell hg1 hv1 (k * 2 + 1)
        have a0 := congrArg (fun l : List Value => l[0]?) e0
        have a1 := congrArg (fun l : List Value => l[0]?) e2
        rw [c4] at a0 a1
        simp [List.getElem?_drop] at a0 a1
        rw [q0, q1]
        exact ⟨v0.trans a0, v1.trans a1⟩
    exact ⟨World.block_lt_of_cell? W _ (each 0 (by omega)).1, each⟩

end Go.Proofs.YtdaimejlcfhfiaaGreatDoor

/-
  The walk of the document's own 'Right' of brains. Conditions: those that each theorem names.
-/
namespace Go.Proofs.YtdaimejlcfhfiaaGreatDoor
open Go.RowKit Go.Shelf

set_option maxRecDepth 100000 in
set_option maxHeartbeats 8000000 in
theorem rrightB_any (p : Br) (a : Ad) (Z : Nat) (w : World) (hr : RdB_ w Z p a) (hZ : Z ≤ w.heap.size) (hm : p.cf.ms.length ≤ 1000) (hi : p.its.length ≤ 1000) (hk : p.kps.length ≤ 1000) :
    Calls Tryz.prog 22 #[brV p a] w (BoolPost (rightBb p) w) := by
  have hb : Below w.heap.size w (w.alloc (.cells (brC p a) 30)) := (Below.refl _ _).alloc (Nat.le_refl _) _
  have w0 := Whole.new w 30 (brC p a)
  obtain ⟨V, hV⟩ : ∃ V, w.alloc (.cells (brC p a) 30) = V := ⟨_, rfl⟩
  rw [hV] at hb w0
  have HR := Lib.hid (hr.below (hb.mono hZ))
  have HB := Lib.hid hb
  have X0 := Lib.hid w0
  have HV := Lib.hid hV
  have HZ := Lib.hid (Nat.le_trans hZ hb.size)
  have HM := Lib.hid hm
  obtain ⟨r, hres⟩ : ∃ r, rightBb p = r := ⟨_, rfl⟩
  rw [hres]
  unfold rightBb isNum at hres
  have HRes := Lib.hid hres
  clear hb w0 hr hZ hV hres hm
  by_cases m0 : p.ep < 0
  · have e0 : decide (p.ep < 0) = true := decide_eq_true m0
    have HF := Lib.hid (show r = false by
      rw [← HRes.out, show decide (0 ≤ p.ep) = false from decide_eq_false (by omega)]
      simp)
    clear m0
    go_enter Tryz.func22, Tryz.ntmps22
    go_upto_region 1 with fail
    refine wpV (fun V2 hV2 => ?_)
    obtain rfl : V = V2 := HV.out.symm.trans hV2
    clear HV hV2
    obtain ⟨c0, c1, c2, c3, c4, c5, c6, c7, c8, c9, c10, c11, c12, c13, c14, c15, c16, c17, c18, c19, c20, c21, c22, c23, c24, c25, c26⟩ := cells27 X0.out
    go_wp2_with fail
    go_ret
    exact ⟨by rw [HF.out]; rfl, HB.out⟩
  have e0 : decide (p.ep < 0) = false := decide_eq_false m0
  by_cases m1 : 1099511627776 < p.ep
  · have e1 : decide ((1099511627776 : Int) < p.ep) = true := decide_eq_true m1
    have HF := Lib.hid (show r = false by
      rw [← HRes.out, show decide (p.ep ≤ 1099511627776) = false from decide_eq_false (by omega)]
      simp)
    clear m1
    go_enter Tryz.func22, Tryz.ntmps22
    go_upto_region 1 with fail
    refine wpV (fun V2 hV2 => ?_)
    obtain rfl : V = V2 := HV.out.symm.trans hV2
    clear HV hV2
    obtain ⟨c0, c1, c2, c3, c4, c5, c6, c7, c8, c9, c10, c11, c12, c13, c14, c15, c16, c17, c18, c19, c20, c21, c22, c23, c24, c25, c26⟩ := cells27 X0.out
    go_wp2_with fail
    go_ret
    exact ⟨by rw [HF.out]; rfl, HB.out⟩
  have e1 : decide ((1099511627776 : Int) < p.ep) = false := decide_eq_false m1
  by_cases m2 : p.sq < 0
  · have e2 : decide (p.sq < 0) = true := decide_eq_true m2
    have HF := Lib.hid (show r = false by
      rw [← HRes.out, show decide (0 ≤ p.sq) = false from decide_eq_false (by omega)]
      simp)
    clear m2
    go_enter Tryz.func22, Tryz.ntmps22
    go_upto_region 1 with fail
    refine wpV (fun V2 hV2 => ?_)
    obtain rfl : V = V2 := HV.out.symm.trans hV2
    clear HV hV2
    obtain ⟨c0, c1, c2, c3, c4, c5, c6, c7, c8, c9, c10, c11, c12, c13, c14, c15, c16, c17, c18, c19, c20, c21, c22, c23, c24, c25, c26⟩ := cells27 X0.out
    go_wp2_with fail
    go_ret
    exact ⟨by rw [HF.out]; rfl, HB.out⟩
  have e2 : decide (p.sq < 0) = false := decide_eq_false m2
  by_cases m3 : 1099511627776 < p.sq
  · have e3 : decide ((1099511627776 : Int) < p.sq) = true := decide_eq_true m3
    have HF := Lib.hid (show r = false by
      rw [← HRes.out, show decide (p.sq ≤ 1099511627776) = false from decide_eq_false (by omega)]
      simp)
    clear m3
    go_enter Tryz.func22, Tryz.ntmps22
    go_upto_region 1 with fail
    refine wpV (fun V2 hV2 => ?_)
    obtain rfl : V = V2 := HV.out.symm.trans hV2
    clear HV hV2
    obtain ⟨c0, c1, c2, c3, c4, c5, c6, c7, c8, c9, c10, c11, c12, c13, c14, c15, c16, c17, c18, c19, c20, c21, c22, c23, c24, c25, c26⟩ := cells27 X0.out
    go_wp2_with fail
    go_ret
    exact ⟨by rw [HF.out]; rfl, HB.out⟩
  have e3 : decide ((1099511627776 : Int) < p.sq) = false := decide_eq_false m3
  have HN := Lib.hid (show (itsOk p.sq 0 p.its && (kpsOk 0 p.kps && (rfOk p.rf && setOk p))) = r by
    rw [← HRes.out, decide_eq_true (show 0 ≤ p.ep by omega), decide_eq_true (show p.ep ≤ 1099511627776 by omega), decide_eq_true (show 0 ≤ p.sq by omega), decide_eq_true (show p.sq ≤ 1099511627776 by omega)]
    rfl)
  clear m0 m1 m2 m3 HRes
  go_enter Tryz.func22, Tryz.ntmps22
  go_upto_region 1 with fail
  refine wpV (fun V2 hV2 => ?_)
  obtain rfl : V = V2 := HV.out.symm.trans hV2
  clear HV hV2
  obtain ⟨c0, c1, c2, c3, c4, c5, c6, c7, c8, c9, c10, c11, c12, c13, c14, c15, c16, c17, c18, c19, c20, c21, c22, c23, c24, c25, c26⟩ := cells27 X0.out
  go_wp2_with fail
  go_loopw [3, 4] (fun la i wr => ∃ (j : Nat) (L : Int), la = .int .i64 L ∧ i = .int .i64 (j : Int) ∧ j ≤ p.its.length ∧ itsOk p.sq 0 p.its = itsOk p.sq L (p.its.drop j) ∧ ∃ k, wr = V.drewN k) (fun _ i _ => p.its.length - (intOf i).toNat)
  case atStart => exact ⟨0, 0, rfl, rfl, Nat.zero_le _, rfl, 0, rfl⟩
  case round =>
    obtain ⟨j, L, rfl, rfl, hj, hT, k4, rfl⟩ := hrel
    have HT4 := Lib.hid hT
    clear hT
    by_cases hlt : j < p.its.length
    · obtain ⟨b1, off1, h1, _, hc⟩ := RdI.at_ HR.out.its (by omega)
      rw [h1] at c18
      obtain ⟨x, hx⟩ : ∃ x, p.its[j]? = some x := ⟨_, List.getElem?_eq_getElem hlt⟩
      obtain ⟨g0, g1, g2, g3⟩ := hc j x hx
      have hI : (j : Int) < (p.its.length : Int) := by omega
      have hdr : p.its.drop j = x :: p.its.drop (j + 1) := by rw [List.drop_eq_getElem_cons hlt, (List.getElem?_eq_some_iff.1 hx).2]
      have HD := Lib.hid hdr
      have hsx := HT4.out
      rw [hdr] at hsx
      simp only [itsOk] at hsx
      have HSX := Lib.hid hsx
      clear hc hx h1 hdr hsx
      by_cases n0 : x.tok ≤ L
      · have f0 : decide (x.tok ≤ L) = true := decide_eq_true n0
        have HF := Lib.hid (show r = false by
          rw [← HN.out, HSX.out, show decide (L < x.tok) = false from decide_eq_false (by omega)]
          simp)
        clear n0
        go_wp2_with fail
        go_quiet (fail)
        go_wp2_with fail
        go_ret
        exact ⟨by rw [HF.out]; rfl, below_drewB (below_drewB HB.out _) _⟩
      have f0 : decide (x.tok ≤ L) = false := decide_eq_false n0
      by_cases n1 : p.sq < x.tok
      · have f1 : decide (p.sq < x.tok) = true := decide_eq_true n1
        have HF := Lib.hid (show r = false by
          rw [← HN.out, HSX.out, show decide (x.tok ≤ p.sq) = false from decide_eq_false (by omega)]
          simp)
        clear n1
        go_wp2_with fail
        go_quiet (fail)
        go_wp2_with fail
        go_ret
        exact ⟨by rw [HF.out]; rfl, below_drewB (below_drewB HB.out _) _⟩
      have f1 : decide (p.sq < x.tok) = false := decide_eq_false n1
      have HX2 := Lib.hid (show itsOk p.sq 0 p.its = itsOk p.sq x.tok (p.its.drop (j + 1)) by
        rw [HSX.out, decide_eq_true (show L < x.tok by omega), decide_eq_true (show x.tok ≤ p.sq by omega)]
        rfl)
      clear n0 n1
      go_wp2_with fail
      go_quiet (fail)
      go_wp2_with fail
      go_roundw
      case rel => exact ⟨j + 1, x.tok, rfl, by go_num, by omega, HX2.out, _, rfl⟩
      case measure => simp [intOf]; omega
    · have HEi := Lib.hid (show itsOk p.sq 0 p.its = true by
        rw [HT4.out, List.drop_of_length_le (by omega)]; rfl)
      have HN2 := Lib.hid (show (kpsOk 0 p.kps && (rfOk p.rf && setOk p)) = r by rw [← HN.out, HEi.out]; rfl)
      clear HN
      have HN := HN2
      clear HN2
      go_wp2_with fail
      go_loopw [3, 5] (fun la i wr => ∃ (j : Nat) (L : Int), la = .int .i64 L ∧ i = .int .i64 (j : Int) ∧ j ≤ p.kps.length ∧ kpsOk 0 p.kps = kpsOk L (p.kps.drop j) ∧ ∃ k, wr = V.drewN k) (fun _ i _ => p.kps.length - (intOf i).toNat)
      case atStart => exact ⟨0, 0, rfl, rfl, Nat.zero_le _, rfl, _, rfl⟩
      case round =>
        obtain ⟨j, L, rfl, rfl, hj, hT, k5, rfl⟩ := hrel
        have HT5 := Lib.hid hT
        clear hT
        by_cases hlt : j < p.kps.length
        · obtain ⟨b1, off1, h1, _, hc⟩ := RdK.at_ HR.out.kps (by omega)
          rw [h1] at c19
          obtain ⟨x, hx⟩ : ∃ x, p.kps[j]? = some x := ⟨_, List.getElem?_eq_getElem hlt⟩
          obtain ⟨g0, g1, g2, g3, g4, g5, g6, g7⟩ := hc j x hx
          have hI : (j : Int) < (p.kps.length : Int) := by omega
          have hdr : p.kps.drop j = x :: p.kps.drop (j + 1) := by rw [List.drop_eq_getElem_cons hlt, (List.getElem?_eq_some_iff.1 hx).2]
          have HD := Lib.hid hdr
          have hsx := HT5.out
          rw [hdr] at hsx
          simp only [kpsOk] at hsx
          have HSX := Lib.hid hsx
          clear hc hx h1 hdr hsx
          by_cases n0 : x.id ≤ L
          · have f0 : decide (x.id ≤ L) = true := decide_eq_true n0
            have HF := Lib.hid (show r = false by
              rw [← HN.out, HSX.out, show decide (L < x.id) = false from decide_eq_false (by omega)]
              simp)
            clear n0
            go_wp2_with fail
            skip
            skip
            go_ret
            exact ⟨by rw [HF.out]; rfl, below_drewB HB.out _⟩
          have f0 : decide (x.id ≤ L) = false := decide_eq_false n0
          by_cases n1 : 1099511627776 < x.id
          · have f1 : decide ((1099511627776 : Int) < x.id) = true := decide_eq_true n1
            have HF := Lib.hid (show r = false by
              rw [← HN.out, HSX.out, show decide (x.id ≤ brMax) = false from decide_eq_false (by unfold brMax; omega)]
              simp)
            clear n1
            go_wp2_with fail
            skip
            skip
            go_ret
            exact ⟨by rw [HF.out]; rfl, below_drewB HB.out _⟩
          have f1 : decide ((1099511627776 : Int) < x.id) = false := decide_eq_false n1
          by_cases n2 : x.phase < 1
          · have f2 : decide (x.phase < 1) = true := decide_eq_true n2
            have HF := Lib.hid (show r = false by
              rw [← HN.out, HSX.out, show decide (1 ≤ x.phase) = false from decide_eq_false (by omega)]
              simp)
            clear n2
            go_wp2_with fail
            skip
            skip
            go_ret
            exact ⟨by rw [HF.out]; rfl, below_drewB HB.out _⟩
          have f2 : decide (x.phase < 1) = false := decide_eq_false n2
          by_cases n3 : 10 < x.phase
          · have f3 : decide ((10 : Int) < x.phase) = true := decide_eq_true n3
            have HF := Lib.hid (show r = false by
              rw [← HN.out, HSX.out, show decide (x.phase ≤ 10) = false from decide_eq_false (by omega)]
              simp)
            clear n3
            go_wp2_with fail
            skip
            skip
            go_ret
            exact ⟨by rw [HF.out]; rfl, below_drewB HB.out _⟩
          have f3 : decide ((10 : Int) < x.phase) = false := decide_eq_false n3
          have HX2 := Lib.hid (show kpsOk 0 p.kps = kpsOk x.id (p.kps.drop (j + 1)) by
            rw [HSX.out, decide_eq_true (show L < x.id by omega), decide_eq_true (show x.id ≤ brMax by unfold brMax; omega), decide_eq_true (show 1 ≤ x.phase by omega), decide_eq_true (show x.phase ≤ 10 by omega)]
            rfl)
          clear n0 n1 n2 n3
          go_wp2_with fail
          skip
          skip
          go_roundw
          case rel => exact ⟨j + 1, x.id, rfl, by go_num, by omega, HX2.out, _, rfl⟩
          case measure => simp [intOf]; omega
        · have HEk := Lib.hid (show kpsOk 0 p.kps = true by
            rw [HT5.out, List.drop_of_length_le (by omega)]; rfl)
          have HN2 := Lib.hid (show (rfOk p.rf && setOk p) = r by rw [← HN.out, HEk.out]; rfl)
          clear HN
          have HN := HN2
          clear HN2
          have HW : Hid (Whole ((V.drewN k5).alloc (.cells #[.int .u8 0, .int .i64 0, .int .i64 0, .int .i64 0, .bool false, .int .i64 0, .int .i64 0] 28)) V.heap.size 28 #[.int .u8 0, .int .i64 0, .int .i64 0, .int .i64 0, .bool false, .int .i64 0, .int .i64 0]) := Lib.hid (Whole.new (V.drewN k5) _ _)
          have HA : Hid ((#[.int .u8 p.rf.st, .int .i64 p.rf.fr, .int .i64 p.rf.to_, .int .i64 p.rf.step, .bool p.rf.paused, .int .i64 p.rf.since, .int .i64 p.rf.fails] : Array Value).all (·.oneCell') = true) := Lib.hid (by simp [Value.oneCell'])
          have HBw : Hid (Below V.heap.size (V.drewN k5) ((V.drewN k5).alloc (.cells #[.int .u8 0, .int .i64 0, .int .i64 0, .int .i64 0, .bool false, .int .i64 0, .int .i64 0] 28))) := Lib.hid ((Below.refl _ (V.drewN k5)).alloc (Nat.le_refl _) _)
          go_upto_region 18 with (refine wpList_store_row (by rfl) 28 _ _ rfl V.heap.size #[.int .u8 p.rf.st, .int .i64 p.rf.fr, .int .i64 p.rf.to_, .int .i64 p.rf.step, .bool p.rf.paused, .int .i64 p.rf.since, .int .i64 p.rf.fails] (by rfl) (by rfl) 28 _ HW.out (by kernel_rfl) rfl HA.out ?_)
          refine wpV (fun V3 hV3 => ?_)
          have bV : Below V.heap.size (V.drewN k5) V3 := by rw [← hV3]; exact below_rowsetB HBw.out (Nat.le_refl _) _
          have x6 : Whole V3 V.heap.size 28 #[.int .u8 p.rf.st, .int .i64 p.rf.fr, .int .i64 p.rf.to_, .int .i64 p.rf.step, .bool p.rf.paused, .int .i64 p.rf.since, .int .i64 p.rf.fails] := by rw [← hV3]; exact setRow_heap _ _ _ _ _ _ HW.out
          have bV2 : Below V.heap.size V V3 := (below_drewB (Below.refl _ V) k5).trans bV
          have HB3 := Lib.hid (HB.out.trans (bV2.mono HB.out.size))
          have HR3 := Lib.hid (HR.out.below (bV2.mono HZ.out))
          have HZ3 := Lib.hid (Nat.le_trans HZ.out bV2.size)
          have X03 := Lib.hid (X0.out.under bV2)
          clear c0 c1 c2 c3 c4 c5 c6 c7 c8 c9 c10 c11 c12 c13 c14 c15 c16 c17 c18 c19 c20 c21 c22 c23 c24 c25 c26
          obtain ⟨c0, c1, c2, c3, c4, c5, c6, c7, c8, c9, c10, c11, c12, c13, c14, c15, c16, c17, c18, c19, c20, c21, c22, c23, c24, c25, c26⟩ := cells27 X03.out
          have r0 := x6.cell 0
          have r1 := x6.cell 1
          have r2 := x6.cell 2
          simp only [List.getElem?_toArray, List.getElem?_cons_zero, List.getElem?_cons_succ] at r0 r1 r2
          clear hV3 bV bV2 x6 X0 HB HR HZ HW HA HBw
          by_cases z0 : p.rf.st = 1
          rotate_left
          · have z1 : (p.rf.st == 1) = false := by simp [z0]
            have HN2 := Lib.hid (show setOk p = r by rw [← HN.out, rfOk, decide_eq_false z0]; rfl)
            clear HN z0
            have HN := HN2
            clear HN2
            cases hset : p.set with
            | true =>
              have HC := Lib.hid (fun W (hb : Below V3.heap.size V3 W) => refCheck_any (cfM p a) Z W (HR3.out.below (hb.mono HZ3.out)).lies (Nat.le_trans HZ3.out hb.size) HM.out)
              have hme : may (cfM p a) = r := by rw [← HN.out, setOk, if_pos hset]; rfl
              rw [hme] at HC
              rw [hset] at c2
              clear hset hme
              go_wp2_with fail
              refine (HC.out V3 (Below.refl _ _)).mono ?_
              rintro e w9 ⟨rfl, hb9⟩
              have HB9 := Lib.hid (HB3.out.trans (hb9.mono HB3.out.size))
              clear hb9 c0 c1 c2 c3 c4 c5 c6 c7 c8 c9 c10 c11 c12 c13 c14 c15 c16 c17 c18 c19 c20 c21 c22 c23 c24 c25 c26
              cases r with
              | true =>
                go_wp2_with fail
                go_ret
                exact ⟨by rfl, HB9.out⟩
              | false =>
                go_wp2_with fail
                go_ret
                exact ⟨by rfl, HB9.out⟩
            | false =>
              have hme : (decide (p.its = []) && decide (p.rf.st = 0)) = r := by rw [← HN.out, setOk, hset]; rfl
              have HMe := Lib.hid hme
              rw [hset] at c2
              clear hset hme
              by_cases i0 : p.its.length = 0
              · have i1 : ((p.its.length : Int) == 0) = true := by rw [i0]; rfl
                have i2 : p.its = [] := List.eq_nil_of_length_eq_zero i0
                have HF := Lib.hid (show r = decide (p.rf.st = 0) by rw [← HMe.out, decide_eq_true i2]; rfl)
                clear i0 i2
                by_cases s0 : p.rf.st = 0
                · have s1 : (p.rf.st == 0) = true := by simp [s0]
                  have HG := Lib.hid (show r = true by rw [HF.out, decide_eq_true s0])
                  clear s0
                  go_wp2_with fail
                  go_ret
                  exact ⟨by rw [HG.out]; rfl, HB3.out⟩
                · have s1 : (p.rf.st == 0) = false := by simp [s0]
                  have HG := Lib.hid (show r = false by rw [HF.out, decide_eq_false s0])
                  clear s0
                  go_wp2_with fail
                  go_ret
                  exact ⟨by rw [HG.out]; rfl, HB3.out⟩
              · have i1 : ((p.its.length : Int) == 0) = false := by simp only [beq_eq_false_iff_ne, ne_eq]; omega
                have HG := Lib.hid (show r = false by
                  rw [← HMe.out, decide_eq_false (show ¬ p.its = [] from fun e => i0 (by rw [e]; rfl))]; rfl)
                clear i0
                go_wp2_with fail
                go_ret
                exact ⟨by rw [HG.out]; rfl, HB3.out⟩
          have z1 : (p.rf.st == 1) = true := by simp [z0]
          by_cases y0 : p.rf.fr < 1
          · have v0 : decide (p.rf.fr < 1) = true := decide_eq_true y0
            have HF := Lib.hid (show r = false by
              rw [← HN.out, rfOk, decide_eq_true z0, show decide (1 ≤ p.rf.fr) = false from decide_eq_false (by omega)]
              simp)
            clear y0 z0
            go_wp2_with fail
            go_ret
            exact ⟨by rw [HF.out]; rfl, HB3.out⟩
          have v0 : decide (p.rf.fr < 1) = false := decide_eq_false y0
          by_cases y1 : 1099511627776 < p.rf.fr
          · have v1 : decide ((1099511627776 : Int) < p.rf.fr) = true := decide_eq_true y1
            have HF := Lib.hid (show r = false by
              rw [← HN.out, rfOk, decide_eq_true z0, show decide (p.rf.fr ≤ brMax) = false from decide_eq_false (by unfold brMax; omega)]
              simp)
            clear y1 z0
            go_wp2_with fail
            go_ret
            exact ⟨by rw [HF.out]; rfl, HB3.out⟩
          have v1 : decide ((1099511627776 : Int) < p.rf.fr) = false := decide_eq_false y1
          by_cases y2 : p.rf.to_ < 1
          · have v2 : decide (p.rf.to_ < 1) = true := decide_eq_true y2
            have HF := Lib.hid (show r = false by
              rw [← HN.out, rfOk, decide_eq_true z0, show decide (1 ≤ p.rf.to_) = false from decide_eq_false (by omega)]
              simp)
            clear y2 z0
            go_wp2_with fail
            go_ret
            exact ⟨by rw [HF.out]; rfl, HB3.out⟩
          have v2 : decide (p.rf.to_ < 1) = false := decide_eq_false y2
          by_cases y3 : 1099511627776 < p.rf.to_
          · have v3 : decide ((1099511627776 : Int) < p.rf.to_) = true := decide_eq_true y3
            have HF := Lib.hid (show r = false by
              rw [← HN.out, rfOk, decide_eq_true z0, show decide (p.rf.to_ ≤ brMax) = false from decide_eq_false (by unfold brMax; omega)]
              simp)
            clear y3 z0
            go_wp2_with fail
            go_ret
            exact ⟨by rw [HF.out]; rfl, HB3.out⟩
          have v3 : decide ((1099511627776 : Int) < p.rf.to_) = false := decide_eq_false y3
          have HN2 := Lib.hid (show setOk p = r by
            rw [← HN.out, rfOk, decide_eq_true (show 1 ≤ p.rf.fr by omega), decide_eq_true (show p.rf.fr ≤ brMax by unfold brMax; omega), decide_eq_true (show 1 ≤ p.rf.to_ by omega), decide_eq_true (show p.rf.to_ ≤ brMax by unfold brMax; omega)]
            simp)
          clear HN z0 y0 y1 y2 y3
          have HN := HN2
          clear HN2
          cases hset : p.set with
          | true =>
            have HC := Lib.hid (fun W (hb : Below V3.heap.size V3 W) => refCheck_any (cfM p a) Z W (HR3.out.below (hb.mono HZ3.out)).lies (Nat.le_trans HZ3.out hb.size) HM.out)
            have hme : may (cfM p a) = r := by rw [← HN.out, setOk, if_pos hset]; rfl
            rw [hme] at HC
            rw [hset] at c2
            clear hset hme
            go_wp2_with fail
            refine (HC.out V3 (Below.refl _ _)).mono ?_
            rintro e w9 ⟨rfl, hb9⟩
            have HB9 := Lib.hid (HB3.out.trans (hb9.mono HB3.out.size))
            clear hb9 c0 c1 c2 c3 c4 c5 c6 c7 c8 c9 c10 c11 c12 c13 c14 c15 c16 c17 c18 c19 c20 c21 c22 c23 c24 c25 c26
            cases r with
            | true =>
              go_wp2_with fail
              go_ret
              exact ⟨by rfl, HB9.out⟩
            | false =>
              go_wp2_with fail
              go_ret
              exact ⟨by rfl, HB9.out⟩
          | false =>
            have hme : (decide (p.its = []) && decide (p.rf.st = 0)) = r := by rw [← HN.out, setOk, hset]; rfl
            have HMe := Lib.hid hme
            rw [hset] at c2
            clear hset hme
            by_cases i0 : p.its.length = 0
            · have i1 : ((p.its.length : Int) == 0) = true := by rw [i0]; rfl
              have i2 : p.its = [] := List.eq_nil_of_length_eq_zero i0
              have HF := Lib.hid (show r = decide (p.rf.st = 0) by rw [← HMe.out, decide_eq_true i2]; rfl)
              clear i0 i2
              by_cases s0 : p.rf.st = 0
              · have s1 : (p.rf.st == 0) = true := by simp [s0]
                have HG := Lib.hid (show r = true by rw [HF.out, decide_eq_true s0])
                clear s0
                go_wp2_with fail
                go_ret
                exact ⟨by rw [HG.out]; rfl, HB3.out⟩
              · have s1 : (p.rf.st == 0) = false := by simp [s0]
                have HG := Lib.hid (show r = false by rw [HF.out, decide_eq_false s0])
                clear s0
                go_wp2_with fail
                go_ret
                exact ⟨by rw [HG.out]; rfl, HB3.out⟩
            · have i1 : ((p.its.length : Int) == 0) = false := by simp only [beq_eq_false_iff_ne, ne_eq]; omega
              have HG := Lib.hid (show r = false by
                rw [← HMe.out, decide_eq_false (show ¬ p.its = [] from fun e => i0 (by rw [e]; rfl))]; rfl)
              clear i0
              go_wp2_with fail
              go_ret
              exact ⟨by rw [HG.out]; rfl, HB3.out⟩

end Go.Proofs.YtdaimejlcfhfiaaGreatDoor

/-
  What the walks of the statements over brains share. Conditions: those that each theorem names.
-/
namespace Go.Proofs.YtdaimejlcfhfiaaGreatDoor
open Go.RowKit Go.Shelf

def TruePostB (w : World) (e : Ending) (w' : World) : Prop := e = .returned (.bool true) ∧ Below w.heap.size w w'
set_option maxRecDepth 100000 in
theorem ms_apply {p : Br} {k : Int} {zs : List Int} (h : p.cf.ms.length ≤ 1000) : (applyB p k zs).cf.ms.length ≤ 1000 := by
  refine apply_cases (P := fun o : Br => o.cf.ms.length ≤ 1000) (fun _ hr => ?_) (fun hn _ _ => ?_) h
  · unfold confB; rw [if_pos hr]
    have hm : (zs.drop 14).length ≤ 4 := by
      unfold isRow may marksB at hr
      simp only [Bool.and_eq_true, decide_eq_true_eq] at hr
      exact hr.2.2.1.1
    show (if p.set then { ofRow zs none 0 0 with f12 := p.cf.f12 } else ofRow zs none 0 0 : Cf).ms.length ≤ 1000
    split
    · show (zs.drop 14).length ≤ 1000
      omega
    · show (zs.drop 14).length ≤ 1000
      omega
  refine fit_cases (P := fun o : Br => o.cf.ms.length ≤ 1000) (fun e => ?_) (fun e => ?_) (fun e => ?_) (fun e => ?_) (fun e => ?_) (fun e => ?_) (fun e => ?_) (fun e => ?_) (fun e => ?_) (fun _ e => ?_) h
  · unfold bootB; split <;> exact h
  · unfold intentB; split <;> exact h
  · unfold madeB; split
    · exact h
    · split <;> exact h
  · unfold phaseB; split
    · exact h
    · split <;> exact h
  · unfold goneB_; split <;> exact h
  · unfold takeB; split <;> exact h
  · unfold guardB; split
    · exact h
    · split <;> exact h
  · unfold doneB; split
    · exact h
    · split <;> exact h
  · unfold startB; split <;> exact h
  · unfold refB
    repeat' split
    all_goals exact h
set_option maxRecDepth 100000 in
/-- A brain handed in reads, and may be asked. -/
theorem BrAny.good {W : World} {p : Br} {a : Ad} (h : BrAny W p a) (hg : gB p = false) : Good 80 p ∧ p.cf.ms.length ≤ 1000 := by
  obtain ⟨h1, h2, h3⟩ := gB_no hg
  exact ⟨⟨by omega, h.ep, h.sq, h.ph⟩, by omega⟩

section
variable {K : Act → World → Prop} {Q : Exit → Act → World → Prop} {a : Act} {w : World} {d : Tmp} {t : TypeId} {pos : String} {after : Array Edge} {x y : Operand}
set_option maxRecDepth 100000 in
theorem opB_move {v : Value} (hx : a.eval x = v) (h : K (a.put (some d) v) w) :
    ({ dst := some d, op := .move x, type := t, pos := pos, after := after, guard := none } : Oper).wp Tryz.prog a w K Q := by
  unfold Oper.wp execOp
  simp only [hx]
  go_simp
  exact h
set_option maxRecDepth 100000 in
theorem opB_recAt {b off n c j : Nat} (hx : a.eval x = .slice (some ⟨b, off, none⟩) n c) (hy : a.eval y = .int .i64 (j : Int)) (hj : j < n) (h : K (a.put (some d) (.pointer (some ⟨b, off + j * 2, none⟩))) w) :
    ({ dst := some d, op := .indexAddr 33 x y, type := t, pos := pos, after := after, guard := none } : Oper).wp Tryz.prog a w K Q := by
  have hlt : (j : Int) < (n : Int) := by omega
  unfold Oper.wp execOp
  simp only [hx, hy]
  go_simp
  exact h
set_option maxRecDepth 100000 in
theorem opB_loadRec {b o k n c : Nat} {A : Option Addr} (hx : a.eval x = .pointer (some ⟨b, o, none⟩)) (h0 : w.cell? ⟨b, o, none⟩ = some (.int .u8 (k : Int))) (h1 : w.cell? ⟨b, o + 1, none⟩ = some (.slice A n c)) (h : K (a.put (some d) (.agg #[.int .u8 (k : Int), .slice A n c])) w) :
    ({ dst := some d, op := .load 32 x, type := t, pos := pos, after := after, guard := none } : Oper).wp Tryz.prog a w K Q := by
  unfold Oper.wp execOp
  simp only [hx]
  go_simp
  exact h
end

/-- A brain that reads: as it was handed in, or in memory of its own. -/
def Hs (w : World) (q : Br) (a : Ad) (W : World) : Prop := RdB_ W w.heap.size q a ∨ OwB 0 W q a
section
variable {w W W' : World} {q : Br} {a : Ad}
set_option maxRecDepth 100000 in
theorem Hs.under (h : Hs w q a W) (hle : w.heap.size ≤ W.heap.size) (hb : Below W.heap.size W W') : Hs w q a W' := by
  rcases h with h | h
  · exact .inl (h.below (hb.mono hle))
  · exact .inr (h.under hb)
set_option maxRecDepth 100000 in
theorem Hs.rowset {g : Nat} {cs : Array Value} (h : Hs w q a W) (hW : Whole W g 30 cs) (hg : w.heap.size ≤ g) (c' : Array Value) : Hs w q a (W.setRow g c') := by
  rcases h with h | h
  · exact .inl (h.below (below_rowsetB (Below.refl _ _) hg c'))
  · exact .inr (h.rowset hW (by decide) (by decide) (by decide) c')
set_option maxRecDepth 100000 in
theorem Hs.reads (h : Hs w q a W) (hle : w.heap.size ≤ W.heap.size) : RdB_ W W.heap.size q a := by
  rcases h with h | h
  · exact h.more hle
  · exact h.reads
end
def BrR (q : Br) (v : Value) (w : World) : Prop := ∃ a, v = brV q a ∧ RdB_ w w.heap.size q a
set_option maxRecDepth 100000 in
theorem BrR.under {q : Br} {v : Value} {w w' : World} (hb : Below w.heap.size w w') (h : BrR q v w) : BrR q v w' := by
  obtain ⟨a, h1, h2⟩ := h
  exact ⟨a, h1, h2.up hb⟩
section
variable {K : Act → World → Prop} {Q : Exit → Act → World → Prop} {a : Act} {w : World} {d : Tmp} {t : TypeId} {pos : String} {after : Array Edge} {x y : Operand}
set_option maxRecDepth 100000 in
set_option maxHeartbeats 2000000 in
theorem opB_applyR {z : RE} {p : Br} (hx : BrR p (a.eval x) w) (hy : a.eval y = .agg #[.int .u8 (z.k : Int), .slice z.A z.n z.c]) (hk : z.k < 256) (hrd : Rd w w.heap.size z.A z.n (iv z.zs)) (hcap : z.n ≤ z.c ∧ z.c ≤ maxLen) (hm : p.cf.ms.length ≤ 1000) (hg : Good 400 p) (hT : Tab w) (hH : TabH w)
    (h : ∀ v w', Below w.heap.size w w' → BrIs (applyB p (z.k : Int) z.zs) v w' → K (a.put (some d) v) w') :
    ({ dst := some d, op := .call { callee := .value (.func 12), args := #[x, y], argTypes := #[30, 32] }, type := t, pos := pos, after := after, guard := none } : Oper).wp Tryz.prog a w K Q := by
  obtain ⟨ad, e1, hr⟩ := hx
  have hf : a.eval (.func 12) = .func (.func 12) #[] #[] := rfl
  have HA := Lib.hid (apply_any p ad z w.heap.size w hr (Nat.le_refl _) hk hrd hcap hm hg hT hH)
  clear hr hrd hm hcap hg hT hH
  unfold Oper.wp execOp
  simp only [resolve, List.map_toArray, List.map_cons, List.map_nil, e1, hy, hf]
  go_simp
  refine HA.out.mono ?_
  rintro e w' ⟨a', rfl, ho, hb⟩
  exact h _ _ hb ⟨a', rfl, ho.weaker (Nat.zero_le _)⟩
end

end Go.Proofs.YtdaimejlcfhfiaaGreatDoor
