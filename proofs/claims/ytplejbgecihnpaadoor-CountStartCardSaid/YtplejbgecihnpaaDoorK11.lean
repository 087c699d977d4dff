/-
  Texts that the walk of a statement over brains leans on, joined (OpenF, KpOpen, BrOpen, ConfOpen, ConfTab, CtWakes, CtLawTells, CtSums, CtStart). Conditions: those that each theorem names.
-/
import Derived.Test.YtplejbgecihnpaaDoorK0
import Derived.Test.YtplejbgecihnpaaDoorK1
import Derived.Test.YtplejbgecihnpaaDoorK2
import Derived.Test.YtplejbgecihnpaaDoorK6
import Derived.Test.YtplejbgecihnpaaDoorK9
import Derived.Test.YtplejbgecihnpaaDoorK10
import Derived.LaidMore
import Derived.Stop.Joined

namespace Go.Proofs.YtplejbgecihnpaaDoor
open Go.RowKit Go.Shelf Go.ChangeShapes Go.WideShapes Go.Deep Go.Joins

section
variable {H : Type} {enc : TypeId × Value → H} {W : World} {held : Bool} {v : Value}

set_option maxRecDepth 100000 in
theorem open_rowF {α : Type} {f : α → List Value} {size : Nat} {ty e : TypeId} {P : α → Prop} (ht : Tryd.prog.underlying ty = some (.slice e)) (hC : Tryd.prog.cellsOf e = size) (hs : 0 < size) (hf : ∀ x, (f x).length = size)
    (one : ∀ (fu : Nat) (c : List Value) (y : DataW H × List MemPlace), c.length = size → DataW.trod enc Tryd.prog W 0 (fun _ => true) held fu e c = some y → ∃ x : α, c = f x ∧ P x)
    {fu : Nat} {y : DataW H × List MemPlace} (h : DataW.trod enc Tryd.prog W 0 (fun _ => true) held fu ty [v] = some y) : ∃ A m c l, v = .slice A m c ∧ RdF size f W W.heap.size A m l ∧ m ≤ maxLen ∧ m ≤ c ∧ ∀ x ∈ l, P x := by
  rcases open_slice ht h with ⟨hcs, _⟩ | ⟨a, len, cap, m, n', D, Pl, hcs, _, hl, hm, hmm, _, hi⟩
  · simp only [List.cons.injEq, and_true] at hcs
    subst hcs
    exact ⟨none, 0, 0, [], rfl, RdF.nil_ _ _ _, by unfold maxLen; omega, by omega, by simp⟩
  · simp only [List.cons.injEq, and_true] at hcs
    subst hcs
    have hmc : m = cap := by simpa using hmm
    have each : ∀ i, i < len → ∃ x : α, (∀ j, j < size → W.cell? (a.add (i * size + j)) = (f x)[j]?) ∧ P x := by
      intro i hin
      obtain ⟨cs', hc, ht'⟩ := hi i (by omega)
      rw [hC] at hc
      obtain ⟨_, hcl, hat⟩ := World.cells?_some hc
      obtain ⟨x, rfl, hx⟩ := one _ _ _ hcl ht'
      refine ⟨x, fun j hj => ?_, hx⟩
      have := hat j hj
      rwa [Go.Deep.add_add] at this
    have build : ∀ j, j ≤ len → ∃ l : List α, l.length = j ∧ (∀ i x, l[i]? = some x → ∀ k, k < size → W.cell? (a.add (i * size + k)) = (f x)[k]?) ∧ ∀ x ∈ l, P x := by
      intro j
      induction j with
      | zero => intro _; exact ⟨[], rfl, by simp, by simp⟩
      | succ j ih =>
        intro hj
        obtain ⟨l, hl1, hl2, hl3⟩ := ih (by omega)
        obtain ⟨x, x1, x2⟩ := each j (by omega)
        refine ⟨l ++ [x], by simp [hl1], ?_, ?_⟩
        · intro i y hy
          rcases Nat.lt_or_ge i l.length with h | h
          · rw [List.getElem?_append_left h] at hy
            exact hl2 i y hy
          · rw [List.getElem?_append_right h] at hy
            have h0 : i - l.length = 0 := by
              rcases Nat.eq_zero_or_pos (i - l.length) with h1 | h1
              · exact h1
              · rw [List.getElem?_eq_none (by simp; omega)] at hy; cases hy
            rw [h0] at hy
            simp only [List.getElem?_cons_zero, Option.some.injEq] at hy
            subst hy
            obtain rfl : i = j := by omega
            exact x1
        · intro y hy
          simp only [List.mem_append, List.mem_singleton] at hy
          rcases hy with hy | rfl
          · exact hl3 y hy
          · exact x2
    obtain ⟨l, hl1, hl2, hl3⟩ := build len (Nat.le_refl _)
    refine ⟨_, _, _, l, rfl, ⟨hl1, fun hn => ?_⟩, by omega, by omega, hl3⟩
    obtain ⟨x, hx⟩ : ∃ x, l[0]? = some x := ⟨_, List.getElem?_eq_getElem (by omega)⟩
    have h00 := hl2 0 x hx 0 hs
    obtain ⟨b, off, spot⟩ := a
    rw [List.getElem?_eq_getElem (by rw [hf]; exact hs)] at h00
    have hspot : spot = none := by simpa [Addr.add] using World.cell?_spot h00
    subst hspot
    rw [Addr.add_lit] at h00
    refine ⟨b, off, rfl, World.block_lt_of_cell? W _ h00, fun j y hy i hi => ?_⟩
    have h1 := hl2 j y hy i hi
    rw [Go.WideShapes.add_plain, ← Nat.add_assoc] at h1
    exact h1
end

end Go.Proofs.YtplejbgecihnpaaDoor

namespace Go.Proofs.YtplejbgecihnpaaDoor
open Go.RowKit Go.Shelf Go.ChangeShapes Go.WideShapes Go.Deep Go.Joins

section
variable {H : Type} {enc : TypeId × Value → H} {W : World} {base : Nat} {held : Bool} {d : DataW H} {p : List MemPlace} {v : Value}
set_option maxRecDepth 100000 in
set_option maxHeartbeats 1000000 in
theorem i64_lo {z : Int} (h : (Lit.int .i64 z).wf = true) : -9223372036854775808 ≤ z := by
  simp only [Lit.wf, Bool.and_eq_true, decide_eq_true_eq] at h
  exact h.1
set_option maxRecDepth 100000 in
set_option maxHeartbeats 1000000 in
theorem open_kpC' {f : Nat} {c : List Value} {y : DataW H × List MemPlace} (hsz : c.length = 8) (h : DataW.trod enc Tryd.prog W 0 (fun _ => true) held f 32 c = some y) : ∃ x : Kp, c = x.vs ∧ 0 ≤ x.phase ∧ x.phase < 256 := by
  have k0 : Tryd.prog.cellsOf 3 = 1 := by kernel_rfl
  have k1 : Tryd.prog.cellsOf 5 = 1 := by kernel_rfl
  have k2 : Tryd.prog.cellsOf 4 = 1 := by kernel_rfl
  obtain ⟨xs, n, _, _, _, hlen, hel⟩ := DataW.trod_struct Tryd.underlying32 h
  match c, hsz, xs, hlen with
  | [c0, c1, c2, c3, c4, c5, c6, c7], _, [y0, y1, y2, y3, y4, y5, y6, y7], _ =>
    have g0 : DataW.trod enc Tryd.prog W 0 (fun _ => true) held n 3 [c0] = some y0 := by simpa [Value.cells, k0, k1, k2] using hel 0 _ rfl
    have g1 : DataW.trod enc Tryd.prog W 0 (fun _ => true) held n 3 [c1] = some y1 := by simpa [Value.cells, k0, k1, k2] using hel 1 _ rfl
    have g2 : DataW.trod enc Tryd.prog W 0 (fun _ => true) held n 3 [c2] = some y2 := by simpa [Value.cells, k0, k1, k2] using hel 2 _ rfl
    have g3 : DataW.trod enc Tryd.prog W 0 (fun _ => true) held n 3 [c3] = some y3 := by simpa [Value.cells, k0, k1, k2] using hel 3 _ rfl
    have g4 : DataW.trod enc Tryd.prog W 0 (fun _ => true) held n 5 [c4] = some y4 := by simpa [Value.cells, k0, k1, k2] using hel 4 _ rfl
    have g5 : DataW.trod enc Tryd.prog W 0 (fun _ => true) held n 3 [c5] = some y5 := by simpa [Value.cells, k0, k1, k2] using hel 5 _ rfl
    have g6 : DataW.trod enc Tryd.prog W 0 (fun _ => true) held n 4 [c6] = some y6 := by simpa [Value.cells, k0, k1, k2] using hel 6 _ rfl
    have g7 : DataW.trod enc Tryd.prog W 0 (fun _ => true) held n 4 [c7] = some y7 := by simpa [Value.cells, k0, k1, k2] using hel 7 _ rfl
    obtain ⟨z0, e0, _, w0⟩ := DataW.trod_int Tryd.underlying3 g0
    obtain ⟨z1, e1, _, w1⟩ := DataW.trod_int Tryd.underlying3 g1
    obtain ⟨z2, e2, _, w2⟩ := DataW.trod_int Tryd.underlying3 g2
    obtain ⟨z3, e3, _, w3⟩ := DataW.trod_int Tryd.underlying3 g3
    obtain ⟨z4, e4, _, w4⟩ := DataW.trod_int Tryd.underlying5 g4
    obtain ⟨z5, e5, _, w5⟩ := DataW.trod_int Tryd.underlying3 g5
    obtain ⟨z6, e6, _⟩ := DataW.trod_bool Tryd.underlying4 g6
    obtain ⟨z7, e7, _⟩ := DataW.trod_bool Tryd.underlying4 g7
    simp only [List.cons.injEq, and_true] at e0 e1 e2 e3 e4 e5 e6 e7
    exact ⟨⟨z0, z1, z2, z3, z4, z5, z6, z7⟩, by rw [e0, e1, e2, e3, e4, e5, e6, e7]; rfl, (bounds_u8 w4).1, by have := (bounds_u8 w4).2; show z4 < 256; omega⟩
set_option maxRecDepth 100000 in
theorem open_kpC {f : Nat} {c : List Value} {y : DataW H × List MemPlace} (hsz : c.length = 8) (h : DataW.trod enc Tryd.prog W 0 (fun _ => true) held f 32 c = some y) : ∃ x : Kp, c = x.vs ∧ 0 ≤ x.phase :=
  let ⟨x, h1, h2, _⟩ := open_kpC' hsz h
  ⟨x, h1, h2⟩
set_option maxRecDepth 100000 in
set_option maxHeartbeats 1000000 in
theorem open_kpsC {f : Nat} {y : DataW H × List MemPlace} (h : DataW.trod enc Tryd.prog W 0 (fun _ => true) held f 26 [v] = some y) : ∃ A m c l, v = .slice A m c ∧ RdK W W.heap.size A m l ∧ m ≤ maxLen ∧ m ≤ c ∧ ∀ x ∈ l, 0 ≤ x.phase :=
  open_rowF (f := Kp.vs) (P := fun x => 0 ≤ x.phase) Tryd.underlying26 (size := 8) (by kernel_rfl) (by decide) Kp.vs_len (fun fu c y hc hy => open_kpC hc hy) h
end

end Go.Proofs.YtplejbgecihnpaaDoor

namespace Go.Proofs.YtplejbgecihnpaaDoor
open Go.RowKit Go.Shelf Go.ChangeShapes Go.WideShapes Go.Deep Go.Joins

section
variable {H : Type} {enc : TypeId × Value → H} {W : World} {base : Nat} {held : Bool} {d : DataW H} {p : List MemPlace} {v : Value}
set_option maxRecDepth 100000 in
set_option maxHeartbeats 1000000 in
theorem open_itC {f : Nat} {c : List Value} {y : DataW H × List MemPlace} (hsz : c.length = 4) (h : DataW.trod enc Tryd.prog W 0 (fun _ => true) held f 34 c = some y) : ∃ x : It, c = x.vs ∧ True := by
  have k0 : Tryd.prog.cellsOf 3 = 1 := by kernel_rfl
  have k1 : Tryd.prog.cellsOf 4 = 1 := by kernel_rfl
  obtain ⟨xs, n, _, _, _, hlen, hel⟩ := DataW.trod_struct Tryd.underlying34 h
  match c, hsz, xs, hlen with
  | [c0, c1, c2, c3], _, [y0, y1, y2, y3], _ =>
    have g0 : DataW.trod enc Tryd.prog W 0 (fun _ => true) held n 3 [c0] = some y0 := by simpa [Value.cells, k0, k1] using hel 0 _ rfl
    have g1 : DataW.trod enc Tryd.prog W 0 (fun _ => true) held n 3 [c1] = some y1 := by simpa [Value.cells, k0, k1] using hel 1 _ rfl
    have g2 : DataW.trod enc Tryd.prog W 0 (fun _ => true) held n 3 [c2] = some y2 := by simpa [Value.cells, k0, k1] using hel 2 _ rfl
    have g3 : DataW.trod enc Tryd.prog W 0 (fun _ => true) held n 4 [c3] = some y3 := by simpa [Value.cells, k0, k1] using hel 3 _ rfl
    obtain ⟨z0, e0, _, w0⟩ := DataW.trod_int Tryd.underlying3 g0
    obtain ⟨z1, e1, _, w1⟩ := DataW.trod_int Tryd.underlying3 g1
    obtain ⟨z2, e2, _, w2⟩ := DataW.trod_int Tryd.underlying3 g2
    obtain ⟨z3, e3, _⟩ := DataW.trod_bool Tryd.underlying4 g3
    simp only [List.cons.injEq, and_true] at e0 e1 e2 e3
    exact ⟨⟨z0, z1, z2, z3⟩, by rw [e0, e1, e2, e3]; rfl, trivial⟩
set_option maxRecDepth 100000 in
set_option maxHeartbeats 1000000 in
theorem open_rfC {f : Nat} {c : List Value} {y : DataW H × List MemPlace} (hsz : c.length = 7) (h : DataW.trod enc Tryd.prog W 0 (fun _ => true) held f 28 c = some y) : ∃ x : Rf, c = (Rf.cells x).toList := by
  have k0 : Tryd.prog.cellsOf 5 = 1 := by kernel_rfl
  have k1 : Tryd.prog.cellsOf 3 = 1 := by kernel_rfl
  have k2 : Tryd.prog.cellsOf 4 = 1 := by kernel_rfl
  obtain ⟨xs, n, _, _, _, hlen, hel⟩ := DataW.trod_struct Tryd.underlying28 h
  match c, hsz, xs, hlen with
  | [c0, c1, c2, c3, c4, c5, c6], _, [y0, y1, y2, y3, y4, y5, y6], _ =>
    have g0 : DataW.trod enc Tryd.prog W 0 (fun _ => true) held n 5 [c0] = some y0 := by simpa [Value.cells, k0, k1, k2] using hel 0 _ rfl
    have g1 : DataW.trod enc Tryd.prog W 0 (fun _ => true) held n 3 [c1] = some y1 := by simpa [Value.cells, k0, k1, k2] using hel 1 _ rfl
    have g2 : DataW.trod enc Tryd.prog W 0 (fun _ => true) held n 3 [c2] = some y2 := by simpa [Value.cells, k0, k1, k2] using hel 2 _ rfl
    have g3 : DataW.trod enc Tryd.prog W 0 (fun _ => true) held n 3 [c3] = some y3 := by simpa [Value.cells, k0, k1, k2] using hel 3 _ rfl
    have g4 : DataW.trod enc Tryd.prog W 0 (fun _ => true) held n 4 [c4] = some y4 := by simpa [Value.cells, k0, k1, k2] using hel 4 _ rfl
    have g5 : DataW.trod enc Tryd.prog W 0 (fun _ => true) held n 3 [c5] = some y5 := by simpa [Value.cells, k0, k1, k2] using hel 5 _ rfl
    have g6 : DataW.trod enc Tryd.prog W 0 (fun _ => true) held n 3 [c6] = some y6 := by simpa [Value.cells, k0, k1, k2] using hel 6 _ rfl
    obtain ⟨z0, e0, _, w0⟩ := DataW.trod_int Tryd.underlying5 g0
    obtain ⟨z1, e1, _, w1⟩ := DataW.trod_int Tryd.underlying3 g1
    obtain ⟨z2, e2, _, w2⟩ := DataW.trod_int Tryd.underlying3 g2
    obtain ⟨z3, e3, _, w3⟩ := DataW.trod_int Tryd.underlying3 g3
    obtain ⟨z4, e4, _⟩ := DataW.trod_bool Tryd.underlying4 g4
    obtain ⟨z5, e5, _, w5⟩ := DataW.trod_int Tryd.underlying3 g5
    obtain ⟨z6, e6, _, w6⟩ := DataW.trod_int Tryd.underlying3 g6
    simp only [List.cons.injEq, and_true] at e0 e1 e2 e3 e4 e5 e6
    exact ⟨⟨z0, z1, z2, z3, z4, z5, z6⟩, by rw [e0, e1, e2, e3, e4, e5, e6]⟩
set_option maxRecDepth 100000 in
set_option maxHeartbeats 1000000 in
theorem open_cfC {f : Nat} {c : List Value} {y : DataW H × List MemPlace} (hsz : c.length = 15) (h : DataW.trod enc Tryd.prog W 0 (fun _ => true) held f 24 c = some y) : ∃ x : Cf, c = x.cells.toList ∧ Lies x W W.heap.size := by
  have k0 : Tryd.prog.cellsOf 3 = 1 := by kernel_rfl
  have k1 : Tryd.prog.cellsOf 4 = 1 := by kernel_rfl
  have k2 : Tryd.prog.cellsOf 22 = 1 := by kernel_rfl
  obtain ⟨xs, n, _, _, _, hlen, hel⟩ := DataW.trod_struct Tryd.underlying24 h
  match c, hsz, xs, hlen with
  | [c0, c1, c2, c3, c4, c5, c6, c7, c8, c9, c10, c11, c12, c13, c14], _, [y0, y1, y2, y3, y4, y5, y6, y7, y8, y9, y10, y11, y12, y13, y14], _ =>
    have g0 : DataW.trod enc Tryd.prog W 0 (fun _ => true) held n 3 [c0] = some y0 := by simpa [Value.cells, k0, k1, k2] using hel 0 _ rfl
    have g1 : DataW.trod enc Tryd.prog W 0 (fun _ => true) held n 3 [c1] = some y1 := by simpa [Value.cells, k0, k1, k2] using hel 1 _ rfl
    have g2 : DataW.trod enc Tryd.prog W 0 (fun _ => true) held n 3 [c2] = some y2 := by simpa [Value.cells, k0, k1, k2] using hel 2 _ rfl
    have g3 : DataW.trod enc Tryd.prog W 0 (fun _ => true) held n 3 [c3] = some y3 := by simpa [Value.cells, k0, k1, k2] using hel 3 _ rfl
    have g4 : DataW.trod enc Tryd.prog W 0 (fun _ => true) held n 3 [c4] = some y4 := by simpa [Value.cells, k0, k1, k2] using hel 4 _ rfl
    have g5 : DataW.trod enc Tryd.prog W 0 (fun _ => true) held n 3 [c5] = some y5 := by simpa [Value.cells, k0, k1, k2] using hel 5 _ rfl
    have g6 : DataW.trod enc Tryd.prog W 0 (fun _ => true) held n 3 [c6] = some y6 := by simpa [Value.cells, k0, k1, k2] using hel 6 _ rfl
    have g7 : DataW.trod enc Tryd.prog W 0 (fun _ => true) held n 3 [c7] = some y7 := by simpa [Value.cells, k0, k1, k2] using hel 7 _ rfl
    have g8 : DataW.trod enc Tryd.prog W 0 (fun _ => true) held n 3 [c8] = some y8 := by simpa [Value.cells, k0, k1, k2] using hel 8 _ rfl
    have g9 : DataW.trod enc Tryd.prog W 0 (fun _ => true) held n 3 [c9] = some y9 := by simpa [Value.cells, k0, k1, k2] using hel 9 _ rfl
    have g10 : DataW.trod enc Tryd.prog W 0 (fun _ => true) held n 3 [c10] = some y10 := by simpa [Value.cells, k0, k1, k2] using hel 10 _ rfl
    have g11 : DataW.trod enc Tryd.prog W 0 (fun _ => true) held n 3 [c11] = some y11 := by simpa [Value.cells, k0, k1, k2] using hel 11 _ rfl
    have g12 : DataW.trod enc Tryd.prog W 0 (fun _ => true) held n 3 [c12] = some y12 := by simpa [Value.cells, k0, k1, k2] using hel 12 _ rfl
    have g13 : DataW.trod enc Tryd.prog W 0 (fun _ => true) held n 4 [c13] = some y13 := by simpa [Value.cells, k0, k1, k2] using hel 13 _ rfl
    have g14 : DataW.trod enc Tryd.prog W 0 (fun _ => true) held n 22 [c14] = some y14 := by simpa [Value.cells, k0, k1, k2] using hel 14 _ rfl
    obtain ⟨z0, e0, _, w0⟩ := DataW.trod_int Tryd.underlying3 g0
    obtain ⟨z1, e1, _, w1⟩ := DataW.trod_int Tryd.underlying3 g1
    obtain ⟨z2, e2, _, w2⟩ := DataW.trod_int Tryd.underlying3 g2
    obtain ⟨z3, e3, _, w3⟩ := DataW.trod_int Tryd.underlying3 g3
    obtain ⟨z4, e4, _, w4⟩ := DataW.trod_int Tryd.underlying3 g4
    obtain ⟨z5, e5, _, w5⟩ := DataW.trod_int Tryd.underlying3 g5
    obtain ⟨z6, e6, _, w6⟩ := DataW.trod_int Tryd.underlying3 g6
    obtain ⟨z7, e7, _, w7⟩ := DataW.trod_int Tryd.underlying3 g7
    obtain ⟨z8, e8, _, w8⟩ := DataW.trod_int Tryd.underlying3 g8
    obtain ⟨z9, e9, _, w9⟩ := DataW.trod_int Tryd.underlying3 g9
    obtain ⟨z10, e10, _, w10⟩ := DataW.trod_int Tryd.underlying3 g10
    obtain ⟨z11, e11, _, w11⟩ := DataW.trod_int Tryd.underlying3 g11
    obtain ⟨z12, e12, _, w12⟩ := DataW.trod_int Tryd.underlying3 g12
    obtain ⟨z13, e13, _⟩ := DataW.trod_bool Tryd.underlying4 g13
    obtain ⟨A, m, k, zs, e14, hr, hc, hm⟩ := open_intsC g14
    simp only [List.cons.injEq, and_true] at e0 e1 e2 e3 e4 e5 e6 e7 e8 e9 e10 e11 e12 e13
    exact ⟨⟨z0, z1, z2, z3, z4, z5, z6, z7, z8, z9, z10, z11, z12, z13, A, m, k, zs⟩, by rw [e0, e1, e2, e3, e4, e5, e6, e7, e8, e9, e10, e11, e12, e13, e14], ⟨hr, hc, hm⟩⟩
set_option maxRecDepth 100000 in
set_option maxHeartbeats 1000000 in
theorem open_itsC {f : Nat} {y : DataW H × List MemPlace} (h : DataW.trod enc Tryd.prog W 0 (fun _ => true) held f 25 [v] = some y) : ∃ A m c l, v = .slice A m c ∧ RdI W W.heap.size A m l ∧ m ≤ maxLen ∧ m ≤ c ∧ ∀ x ∈ l, True :=
  open_rowF (f := It.vs) (P := fun _ => True) Tryd.underlying25 (size := 4) (by kernel_rfl) (by decide) It.vs_len (fun fu c y hc hy => open_itC hc hy) h
/-- What is true of a brain that is handed in. -/
structure BrAny (W : World) (p : Br) (a : Ad) : Prop where
  rd : RdB_ W W.heap.size p a
  ep : -9223372036854775808 ≤ p.ep
  sq : -9223372036854775808 ≤ p.sq
  ph : ∀ x ∈ p.kps, 0 ≤ x.phase
set_option maxRecDepth 100000 in
set_option maxHeartbeats 1000000 in
theorem open_brC {f : Nat} {c : List Value} {y : DataW H × List MemPlace} (hsz : c.length = 27) (h : DataW.trod enc Tryd.prog W 0 (fun _ => true) held f 30 c = some y) : ∃ (p : Br) (a : Ad), c = (brC p a).toList ∧ BrAny W p a := by
  have k0 : Tryd.prog.cellsOf 3 = 1 := by kernel_rfl
  have k1 : Tryd.prog.cellsOf 4 = 1 := by kernel_rfl
  have k2 : Tryd.prog.cellsOf 24 = 15 := by kernel_rfl
  have k3 : Tryd.prog.cellsOf 25 = 1 := by kernel_rfl
  have k4 : Tryd.prog.cellsOf 26 = 1 := by kernel_rfl
  have k5 : Tryd.prog.cellsOf 28 = 7 := by kernel_rfl
  obtain ⟨xs, n, _, _, _, hlen, hel⟩ := DataW.trod_struct Tryd.underlying30 h
  match c, hsz, xs, hlen with
  | [c0, c1, c2, c3, c4, c5, c6, c7, c8, c9, c10, c11, c12, c13, c14, c15, c16, c17, c18, c19, c20, c21, c22, c23, c24, c25, c26], _, [y0, y1, y2, y3, y4, y5, y6], _ =>
    have g0 : DataW.trod enc Tryd.prog W 0 (fun _ => true) held n 3 [c0] = some y0 := by simpa [Value.cells, k0, k1, k2, k3, k4, k5] using hel 0 _ rfl
    have g1 : DataW.trod enc Tryd.prog W 0 (fun _ => true) held n 3 [c1] = some y1 := by simpa [Value.cells, k0, k1, k2, k3, k4, k5] using hel 1 _ rfl
    have g2 : DataW.trod enc Tryd.prog W 0 (fun _ => true) held n 4 [c2] = some y2 := by simpa [Value.cells, k0, k1, k2, k3, k4, k5] using hel 2 _ rfl
    have g3 : DataW.trod enc Tryd.prog W 0 (fun _ => true) held n 24 [c3, c4, c5, c6, c7, c8, c9, c10, c11, c12, c13, c14, c15, c16, c17] = some y3 := by simpa [Value.cells, k0, k1, k2, k3, k4, k5] using hel 3 _ rfl
    have g4 : DataW.trod enc Tryd.prog W 0 (fun _ => true) held n 25 [c18] = some y4 := by simpa [Value.cells, k0, k1, k2, k3, k4, k5] using hel 4 _ rfl
    have g5 : DataW.trod enc Tryd.prog W 0 (fun _ => true) held n 26 [c19] = some y5 := by simpa [Value.cells, k0, k1, k2, k3, k4, k5] using hel 5 _ rfl
    have g6 : DataW.trod enc Tryd.prog W 0 (fun _ => true) held n 28 [c20, c21, c22, c23, c24, c25, c26] = some y6 := by simpa [Value.cells, k0, k1, k2, k3, k4, k5] using hel 6 _ rfl
    obtain ⟨z0, e0, _, w0⟩ := DataW.trod_int Tryd.underlying3 g0
    obtain ⟨z1, e1, _, w1⟩ := DataW.trod_int Tryd.underlying3 g1
    obtain ⟨z2, e2, _⟩ := DataW.trod_bool Tryd.underlying4 g2
    obtain ⟨x, ex, hL⟩ := open_cfC (by rfl) g3
    obtain ⟨A, m, k, li, e4, hi, _, hik, _⟩ := open_itsC g4
    obtain ⟨B, m2, kk, lk, e5, hkp, _, hkk, hph⟩ := open_kpsC g5
    obtain ⟨r, er⟩ := open_rfC (by rfl) g6
    simp only [List.cons.injEq, and_true] at e0 e1 e2
    have hms : x.ms.length = x.n := by have := hL.rd.1; rwa [iv_length] at this
    have hli : li.length = m := hi.1
    have hlk : lk.length = m2 := hkp.1
    simp only [List.cons.injEq, and_true] at ex er
    obtain ⟨q0, q1, q2, q3, q4, q5, q6, q7, q8, q9, q10, q11, q12, q13, q14⟩ := ex
    obtain ⟨r0, r1, r2, r3, r4, r5, r6⟩ := er
    refine ⟨⟨z0, z1, z2, { x with A := none, n := 0, c := 0 }, li, lk, r⟩, ⟨x.A, x.c, A, k, B, kk⟩, ?_, ⟨?_, ?_, ?_, ?_, ?_, ?_, ?_⟩, i64_lo w0, i64_lo w1, hph⟩
    · rw [e0, e1, e2, e4, e5, q0, q1, q2, q3, q4, q5, q6, q7, q8, q9, q10, q11, q12, q13, q14, r0, r1, r2, r3, r4, r5, r6, ← hms, ← hli, ← hlk]
    · show Rd W W.heap.size x.A x.ms.length (iv x.ms)
      rw [hms]; exact hL.rd
    · show RdI W W.heap.size A li.length li
      rw [hli]; exact hi
    · show RdK W W.heap.size B lk.length lk
      rw [hlk]; exact hkp
    · show x.ms.length ≤ x.c
      rw [hms]; exact hL.cap
    · exact hL.max
    · show li.length ≤ k
      omega
    · show lk.length ≤ kk
      omega
set_option maxRecDepth 100000 in
/-- A brain, as it is handed over. -/
theorem open_brV (hv : Value.okWide Tryd.prog W .any base 30 v) (h : DataW.Trod enc Tryd.prog W 0 (fun _ => true) held 30 v d p) : ∃ (q : Br) (a : Ad), v = brV q a ∧ BrAny W q a := by
  obtain ⟨cs, rfl, hsz⟩ := okWide_struct Tryd.underlying30 hv
  have hC : Tryd.prog.cellsOf 30 = 27 := by kernel_rfl
  rw [hC] at hsz
  obtain ⟨l⟩ := cs
  obtain ⟨fuel, hf⟩ := h
  obtain ⟨q, a, e, h1⟩ := open_brC (c := l) (by simpa using hsz) (by simpa [Value.cells] using hf)
  exact ⟨q, a, by rw [e], h1⟩
def ReOk (W : World) (x : RE) : Prop := x.k < 256 ∧ Rd W W.heap.size x.A x.n (iv x.zs) ∧ x.n ≤ x.c ∧ x.c ≤ maxLen
end

end Go.Proofs.YtplejbgecihnpaaDoor

namespace Go.Proofs.YtplejbgecihnpaaDoor
open Go.RowKit Go.Shelf Go.ChangeShapes Go.WideShapes Go.Deep Go.Joins

section
variable {H : Type} {enc : TypeId × Value → H} {W : World} {base : Nat} {held : Bool} {d : DataW H} {p : List MemPlace} {v : Value}

end

end Go.Proofs.YtplejbgecihnpaaDoor

namespace Go.Proofs.YtplejbgecihnpaaDoor
open Go.RowKit Go.Shelf Go.ChangeShapes Go.WideShapes Go.ChangeAt

set_option maxRecDepth 100000 in
theorem gBounds : Tryd.prog.globalNamed "herd/conf.bounds" = some 0 := by kernel_rfl
set_option maxRecDepth 100000 in
theorem tBounds : (Tryd.prog.globals[0]?).map (·.type) = some 87 := by kernel_rfl

/-- The datum, element by element. -/
def bD (i : Nat) : DataW Unit := .agg [.lit (.int .i64 (loB i)), .lit (.int .i64 (hiB i))]
set_option maxRecDepth 100000 in
theorem laid_list : (Rows.laid_herd_conf_bounds : DataW Unit) = .agg ((List.range 13).map bD) := rfl

set_option maxRecDepth 100000 in
theorem tab_of_laid {W : World} (h : laidMetH Tryd.prog [("herd/conf.bounds", Rows.laid_herd_conf_bounds)] W) : Tab W := by
  rw [MakeChecks.laidMetH_plain _ _ _ (by kernel_rfl)] at h
  obtain ⟨ps, ⟨g0, t0, cs0, f0, p0, q0, hg0, ht0, hv0, hd0, _, _⟩, _, _⟩ := h
  obtain rfl := Option.some.inj (gBounds.symm.trans hg0)
  obtain rfl := Option.some.inj (tBounds.symm.trans ht0)
  obtain ⟨xs, m1, rfl, hx1, hlen, hn3, hel⟩ := DataW.trod_array Tryd.underlying87 hd0
  rw [laid_list] at hx1
  simp only [Prod.mk.injEq, DataW.agg.injEq] at hx1
  have cC : Tryd.prog.cellsOf 86 = 2 := by kernel_rfl
  have c3 : Tryd.prog.cellsOf 3 = 1 := by kernel_rfl
  have each : ∀ k, k < 13 → W.cell? ⟨0, k * 2, none⟩ = some (.int .i64 (loB k)) ∧ W.cell? ⟨0, k * 2 + 1, none⟩ = some (.int .i64 (hiB k)) := by
    intro k hk
    obtain ⟨y, hy⟩ : ∃ y, xs[k]? = some y := ⟨_, List.getElem?_eq_getElem (by omega)⟩
    have e1 : bD k = y.1 := by
      have := congrArg (fun l : List (DataW Unit) => l[k]?) hx1.1
      simpa [hy, hk] using this
    have h1 := hel k hk
    rw [cC, hy] at h1
    obtain ⟨u0, u1, m, hx, _, k0, k1⟩ := trod_struct2 Tryd.underlying86 h1
    obtain ⟨z0, e0, r0, _⟩ := DataW.trod_int Tryd.underlying3 k0
    obtain ⟨z1, e2, r1, _⟩ := DataW.trod_int Tryd.underlying3 k1
    rw [hx, r0, r1] at e1
    simp only [bD, DataW.agg.injEq, List.cons.injEq, DataW.lit.injEq, Lit.int.injEq, true_and, and_true] at e1
    obtain ⟨q0, q1⟩ := e1
    have v0 := World.var?_cell hg0 hv0 (k * 2)
    have v1 := World.var?_cell hg0 hv0 (k * 2 + 1)
    have a0 := congrArg (fun l : List Value => l[0]?) e0
    have a1 := congrArg (fun l : List Value => l[0]?) e2
    rw [c3] at a0 a1
    simp [List.getElem?_drop] at a0 a1
    rw [q0, q1]
    exact ⟨v0.trans a0, v1.trans a1⟩
  exact ⟨World.block_lt_of_cell? W _ (each 0 (by omega)).1, each⟩

end Go.Proofs.YtplejbgecihnpaaDoor

namespace Go.Proofs.YtplejbgecihnpaaDoor
open Go.RowKit Go.Shelf

def cfW5 : Cf := ⟨2, 50, 1, 0, 0, 0, 0, 0, 1, 1, 1, 0, 4, false, none, 0, 0, []⟩
def kpW1 : Kp := ⟨1, 0, 4, 0, 4, 0, false, false⟩
def kpW2 : Kp := ⟨2, 0, 3, 2, 2, 0, false, false⟩
def bW0 : Br := ⟨0, 0, true, cfW5, [], [], ⟨0, 0, 0, 0, false, 0, 0⟩⟩
def bW1 : Br := ⟨0, 0, true, cfW5, [], [kpW1, kpW2], ⟨0, 0, 0, 0, false, 0, 0⟩⟩
def bW2 : Br := ⟨0, 0, true, cfW5, [], [kpW1, kpW2], ⟨1, 4, 5, 0, false, 0, 0⟩⟩
def adW (b : Nat) : Ad := ⟨none, 0, none, 0, some ⟨b, 0, none⟩, 2⟩
def cnW : Cn := ⟨5, 2, 2, 0, 2, 1, 3, 1, 3⟩
theorem cnt_W : countB bW2 = cnW := by kernel_rfl
theorem val_0 : (countB br0).v = .agg #[.int .i64 0, .int .i64 0, .int .i64 0, .int .i64 0, .int .i64 0, .int .i64 0, .int .i64 0, .int .i64 0, .int .i64 0] := by kernel_rfl
theorem zon_W : zonesB bW2 = [0, 2] := by kernel_rfl
theorem ful_W : fullB bW2 = false := by kernel_rfl
theorem ful_0 : fullB br0 = true := by kernel_rfl
theorem old_W : oldK bW2 kpW1 = true := by kernel_rfl
theorem mea_W : oldI bW2 ⟨0, 5, 0, false⟩ = false := by kernel_rfl
theorem now0 (w : World) (hT : Tab w) : BrNow br0 ad0 w := ⟨⟨Rd.nil_ _ _ _, RdF.nil_ _ _ _, RdF.nil_ _ _ _, Nat.le_refl _, Nat.zero_le _, Nat.le_refl _, Nat.le_refl _⟩, hT, by decide, by decide, by decide⟩

theorem kps_W {W : World} {b : Nat} (h : Whole W b 32 #[.int .i64 1, .int .i64 0, .int .i64 4, .int .i64 0, .int .u8 4, .int .i64 0, .bool false, .bool false, .int .i64 2, .int .i64 0, .int .i64 3, .int .i64 2, .int .u8 2, .int .i64 0, .bool false, .bool false]) : RdK W (b + 1) (some ⟨b, 0, none⟩) 2 [kpW1, kpW2] := by
  refine ⟨rfl, fun _ => ⟨b, 0, rfl, by omega, ?_⟩⟩
  intro j x hx i hi
  have hj : j = 0 ∨ j = 1 := by
    have := (List.getElem?_eq_some_iff.1 hx).1
    simp at this
    omega
  rcases hj with rfl | rfl
  · simp only [List.getElem?_cons_zero, Option.some.injEq] at hx
    subst hx
    rcases (by omega : i = 0 ∨ i = 1 ∨ i = 2 ∨ i = 3 ∨ i = 4 ∨ i = 5 ∨ i = 6 ∨ i = 7) with rfl | rfl | rfl | rfl | rfl | rfl | rfl | rfl
    all_goals exact h.cell _
  · simp only [List.getElem?_cons_succ, List.getElem?_cons_zero, Option.some.injEq] at hx
    subst hx
    rcases (by omega : i = 0 ∨ i = 1 ∨ i = 2 ∨ i = 3 ∨ i = 4 ∨ i = 5 ∨ i = 6 ∨ i = 7) with rfl | rfl | rfl | rfl | rfl | rfl | rfl | rfl
    all_goals exact h.cell _
theorem now_W {W : World} {b : Nat} (h : Whole W b 32 #[.int .i64 1, .int .i64 0, .int .i64 4, .int .i64 0, .int .u8 4, .int .i64 0, .bool false, .bool false, .int .i64 2, .int .i64 0, .int .i64 3, .int .i64 2, .int .u8 2, .int .i64 0, .bool false, .bool false]) (hT : Tab W) : BrNow bW2 (adW b) W :=
  ⟨⟨Rd.nil_ _ _ _, RdF.nil_ _ _ _, (kps_W h).more h.lt, Nat.le_refl _, Nat.zero_le _, Nat.le_refl _, Nat.le_refl _⟩, hT, by decide, by decide, by decide⟩

set_option maxRecDepth 100000 in
set_option maxHeartbeats 8000000 in
theorem wakes15_any (C : CountOk) (w : World) (hT : Tab w) : Calls Tryd.prog 9 #[] w (BoolPost true w) := by
  have HW : Hid (Whole (w.alloc (.cells (brC br0 ad0) 30)) w.heap.size 30 (brC br0 ad0)) := Lib.hid (Whole.new _ _ _)
  have HB0 : Hid (Below w.heap.size w (w.alloc (.cells (brC br0 ad0) 30))) := Lib.hid ((Below.refl _ _).alloc (Nat.le_refl _) _)
  have HT := Lib.hid hT
  have HC := Lib.hid C
  clear hT C
  go_enter Tryd.func9, Tryd.ntmps9
  go_upto_region 2 with (refine wpList_storeB rfl _ _ rfl w.heap.size bW0 ad0 _ rfl (by rfl) (by rfl) HW.out ?_; intro W1 hW1)
  have X1 := Lib.hid (show Whole W1 w.heap.size 30 (brC bW0 ad0) by rw [hW1]; exact setRow_heap _ _ _ _ _ _ HW.out)
  have HB1 := Lib.hid (show Below w.heap.size w W1 by rw [hW1]; exact below_rowsetB HB0.out (Nat.le_refl _) _)
  have hs1 : W1.heap.size = w.heap.size + 1 := by rw [hW1, setRow_size, World.size_alloc]
  clear hW1 HW HB0
  obtain ⟨V, hV⟩ : ∃ V, W1.alloc (.cells #[.int .i64 1, .int .i64 0, .int .i64 4, .int .i64 0, .int .u8 4, .int .i64 0, .bool false, .bool false, .int .i64 2, .int .i64 0, .int .i64 3, .int .i64 2, .int .u8 2, .int .i64 0, .bool false, .bool false] 32) = V := ⟨_, rfl⟩
  have hbv : Below W1.heap.size W1 V := by rw [← hV]; exact (Below.refl _ _).alloc (Nat.le_refl _) _
  have hkv : Whole V (w.heap.size + 1) 32 #[.int .i64 1, .int .i64 0, .int .i64 4, .int .i64 0, .int .u8 4, .int .i64 0, .bool false, .bool false, .int .i64 2, .int .i64 0, .int .i64 3, .int .i64 2, .int .u8 2, .int .i64 0, .bool false, .bool false] := by rw [← hV, ← hs1]; exact Whole.new _ _ _
  have XV := Lib.hid (X1.out.under hbv)
  have HBV := Lib.hid (HB1.out.trans (hbv.mono HB1.out.size))
  have KV := Lib.hid hkv
  have c19 : V.cell? ⟨w.heap.size, 19, none⟩ = some (.slice none 0 0) := XV.out.cell 19
  have f19 : V.frozen? ⟨w.heap.size, 19, none⟩ = false := XV.out.frozen 19
  clear hbv hkv
  go_upto_region 3 with fail
  refine wpV (fun W2 hW2 => ?_)
  have k2 := Only.set V w.heap.size 19 (.slice (some ⟨w.heap.size + 1, 0, none⟩) 2 2)
  have x2 := XV.out.set 19 (.slice (some ⟨w.heap.size + 1, 0, none⟩) 2 2)
  simp only [List.setIfInBounds_toArray, List.set_cons_zero, List.set_cons_succ] at x2
  rw [hW2] at k2 x2
  have X2 := Lib.hid (show Whole W2 w.heap.size 30 (brC bW1 (adW (w.heap.size + 1))) from x2)
  have K2 := Lib.hid (k2.far KV.out (by omega))
  have HB2 := Lib.hid (k2.bel HBV.out (Nat.le_refl _))
  clear k2 x2 hW2 c19 f19 hV hs1 XV KV HBV X1 HB1
  go_upto_region 4 with (refine wpList_store_at rfl 28 _ _ rfl w.heap.size 20 (Rf.cells ⟨1, 4, 5, 0, false, 0, 0⟩) (by rfl) (by rfl) 30 _ X2.out (by kernel_rfl) (Nat.le_refl 27) (by simp [Value.oneCell']) ?_)
  refine wpV (fun W3 hW3 => ?_)
  have X3 := Lib.hid (show Whole W3 w.heap.size 30 (brC bW2 (adW (w.heap.size + 1))) by rw [← hW3]; exact setRow_heap _ _ _ _ _ _ X2.out)
  have K3 := Lib.hid (show Whole W3 (w.heap.size + 1) 32 #[.int .i64 1, .int .i64 0, .int .i64 4, .int .i64 0, .int .u8 4, .int .i64 0, .bool false, .bool false, .int .i64 2, .int .i64 0, .int .i64 3, .int .i64 2, .int .u8 2, .int .i64 0, .bool false, .bool false] by rw [← hW3]; exact (Only.row X2.out _).far K2.out (by omega))
  have HB3 := Lib.hid (show Below w.heap.size w W3 by rw [← hW3]; exact below_rowsetB HB2.out (Nat.le_refl _) _)
  clear hW3 X2 K2 HB2
  have N3 := Lib.hid (now_W K3.out (HT.out.under HB3.out))
  go_wp2_with (refine wpList_loadB (by rfl) _ rfl w.heap.size bW2 (adW (w.heap.size + 1)) (by rfl) X3.out ?_)
  refine (HC.out.of bW2 (adW (w.heap.size + 1)) W3 N3.out).mono ?_
  rintro e W4 ⟨rfl, hb4⟩
  rw [cnt_W]
  have X4 := Lib.hid (X3.out.under hb4)
  have K4 := Lib.hid (K3.out.under hb4)
  have HB4 := Lib.hid (HB3.out.trans (hb4.mono HB3.out.size))
  clear hb4 X3 K3 HB3 N3
  go_upto_region 5 with fail
  refine wpV (fun W5 hW5 => ?_)
  have hb5 : Below W4.heap.size W4 W5 := by rw [← hW5]; exact (Below.refl _ _).alloc (Nat.le_refl _) _
  have C5 := Lib.hid (show Whole W5 W4.heap.size 38 cnW.cells by rw [← hW5]; exact Whole.new _ _ _)
  have X5 := Lib.hid (X4.out.under hb5)
  have K5 := Lib.hid (K4.out.under hb5)
  have HB5 := Lib.hid (HB4.out.trans (hb5.mono HB4.out.size))
  clear hb5 hW5 X4 K4 HB4
  have N5 := Lib.hid (now_W K5.out (HT.out.under HB5.out))
  go_wp2_with (refine wpList_loadB (by rfl) _ rfl w.heap.size bW2 (adW (w.heap.size + 1)) (by rfl) X5.out ?_)
  refine (HC.out.zones bW2 (adW (w.heap.size + 1)) W5 N5.out).mono ?_
  rw [zon_W]
  rintro e W6 ⟨Az, cz, rfl, hz, hb6⟩
  obtain ⟨bz, oz, rfl, hlz, hcz⟩ := hz.2 (by decide)
  have z1 : W6.cell? ⟨bz, oz + 1, none⟩ = some (.int .i64 2) := hcz 1 (by decide)
  have X6 := Lib.hid (X5.out.under hb6)
  have K6 := Lib.hid (K5.out.under hb6)
  have C6 := Lib.hid (C5.out.under hb6)
  have HB6 := Lib.hid (HB5.out.trans (hb6.mono HB5.out.size))
  have Z6 := Lib.hid z1
  have LZ := Lib.hid hlz
  clear hb6 X5 K5 C5 HB5 N5 z1 hlz hcz hz
  have N6 := Lib.hid (now_W K6.out (HT.out.under HB6.out))
  go_upto_region 6 with fail
  have HL : Hid (∀ V', Below W6.heap.size W6 V' → Whole V' w.heap.size 30 (brC bW2 (adW (w.heap.size + 1))) ∧ V'.cell? ⟨w.heap.size, 19, none⟩ = some (.slice (some ⟨w.heap.size + 1, 0, none⟩) 2 2) ∧ V'.cell? ⟨bz, oz + 1, none⟩ = some (.int .i64 2) ∧ V'.cell? ⟨w.heap.size + 1, 0, none⟩ = some (.int .i64 1) ∧ V'.cell? ⟨w.heap.size + 1, 1, none⟩ = some (.int .i64 0) ∧ V'.cell? ⟨w.heap.size + 1, 2, none⟩ = some (.int .i64 4) ∧ V'.cell? ⟨w.heap.size + 1, 3, none⟩ = some (.int .i64 0) ∧ V'.cell? ⟨w.heap.size + 1, 4, none⟩ = some (.int .u8 4) ∧ V'.cell? ⟨w.heap.size + 1, 5, none⟩ = some (.int .i64 0) ∧ V'.cell? ⟨w.heap.size + 1, 6, none⟩ = some (.bool false) ∧ V'.cell? ⟨w.heap.size + 1, 7, none⟩ = some (.bool false) ∧ V'.cell? ⟨W4.heap.size, 0, none⟩ = some (.int .i64 5) ∧ V'.cell? ⟨W4.heap.size, 1, none⟩ = some (.int .i64 2) ∧ V'.cell? ⟨W4.heap.size, 2, none⟩ = some (.int .i64 2) ∧ V'.cell? ⟨W4.heap.size, 3, none⟩ = some (.int .i64 0) ∧ V'.cell? ⟨W4.heap.size, 4, none⟩ = some (.int .i64 2) ∧ V'.cell? ⟨W4.heap.size, 5, none⟩ = some (.int .i64 1) ∧ V'.cell? ⟨W4.heap.size, 6, none⟩ = some (.int .i64 3) ∧ V'.cell? ⟨W4.heap.size, 7, none⟩ = some (.int .i64 1) ∧ V'.cell? ⟨W4.heap.size, 8, none⟩ = some (.int .i64 3)) := Lib.hid (fun V' hV => ⟨X6.out.under hV, (X6.out.under hV).cell 19, (hV.cell (p := ⟨bz, oz + 1, none⟩) LZ.out).trans Z6.out, (K6.out.under hV).cell 0, (K6.out.under hV).cell 1, (K6.out.under hV).cell 2, (K6.out.under hV).cell 3, (K6.out.under hV).cell 4, (K6.out.under hV).cell 5, (K6.out.under hV).cell 6, (K6.out.under hV).cell 7, (C6.out.under hV).cell 0, (C6.out.under hV).cell 1, (C6.out.under hV).cell 2, (C6.out.under hV).cell 3, (C6.out.under hV).cell 4, (C6.out.under hV).cell 5, (C6.out.under hV).cell 6, (C6.out.under hV).cell 7, (C6.out.under hV).cell 8⟩)
  have HBd := Lib.hid (show Below W6.heap.size W6 W6.drew from below_drewB (Below.refl _ _) 1)
  refine wp_region_T (ls := []) (T := (fun V' => Below W6.heap.size W6 V')) (by kernel_rfl) ?_
  refine takeP (i := 0) (v := ?_) rfl (by kernel_rfl) (by kernel_rfl) (by kernel_rfl) (by kernel_rfl) (fun _ _ _ h => h) (by rfl) ?_ (fun _ => HBd.out) ?_
  rotate_left
  · intro V'; go_simp <;> with_reducible rfl
  simp only [Act.put, List.setIfInBounds_toArray, List.set_cons_zero, List.set_cons_succ]
  refine takeP (i := 2) (v := ?_) rfl (by kernel_rfl) (by kernel_rfl) (by kernel_rfl) (by kernel_rfl) (fun _ _ _ h => h) (by rfl) ?_ (fun _ => HBd.out) ?_
  rotate_left
  · intro V'; go_simp <;> with_reducible rfl
  simp only [Act.put, List.setIfInBounds_toArray, List.set_cons_zero, List.set_cons_succ]
  refine oneT (i := 1) rfl (by kernel_rfl) (by rfl) (fun K hK => ?_)
  go_simp
  refine (HC.out.of br0 ad0 W6.drew (now0 _ (HT.out.under (HB6.out.trans (HBd.out.mono HB6.out.size))))).mono ?_
  rintro e W6_1 ⟨rfl, hb_⟩
  have HB_1 := Lib.hid (show Below W6.heap.size W6 W6_1 from HBd.out.trans (hb_.mono HBd.out.size))
  clear hb_ HBd
  rw [val_0]
  refine hK.out _ _ (fun _ => HB_1.out) ?_
  clear hK K
  refine takeP (i := 3) (v := ?_) rfl (by kernel_rfl) (by kernel_rfl) (by kernel_rfl) (by kernel_rfl) (fun _ _ _ h => h) (by rfl) ?_ (fun _ => HB_1.out) ?_
  rotate_left
  · intro V'; go_simp <;> with_reducible rfl
  simp only [Act.put, List.setIfInBounds_toArray, List.set_cons_zero, List.set_cons_succ]
  refine takeP (i := 4) (v := ?_) rfl (by kernel_rfl) (by kernel_rfl) (by kernel_rfl) (by kernel_rfl) (fun _ _ _ h => h) (by rfl) ?_ (fun _ => HB_1.out) ?_
  rotate_left
  · intro V'; go_simp <;> with_reducible rfl
  simp only [Act.put, List.setIfInBounds_toArray, List.set_cons_zero, List.set_cons_succ]
  refine takeT (i := 5) (v := ?_) rfl (by kernel_rfl) (by kernel_rfl) (by kernel_rfl) (by kernel_rfl) (fun _ _ _ h => h) (by rfl) ?_ HB_1.out ?_
  rotate_left
  · intro V' hV; obtain ⟨y0, y1, y2, y3, y4, y5, y6, y7, y8, y9, y10, y11, y12, y13, y14, y15, y16, y17, y18, y19⟩ := HL.out V' hV; go_simp <;> with_reducible rfl
  simp only [Act.put, List.setIfInBounds_toArray, List.set_cons_zero, List.set_cons_succ]
  refine takeP (i := 6) (v := ?_) rfl (by kernel_rfl) (by kernel_rfl) (by kernel_rfl) (by kernel_rfl) (fun _ _ _ h => h) (by rfl) ?_ (fun _ => HB_1.out) ?_
  rotate_left
  · intro V'; go_simp <;> with_reducible rfl
  simp only [Act.put, List.setIfInBounds_toArray, List.set_cons_zero, List.set_cons_succ]
  refine takeP (i := 7) (v := ?_) rfl (by kernel_rfl) (by kernel_rfl) (by kernel_rfl) (by kernel_rfl) (fun _ _ _ h => h) (by rfl) ?_ (fun _ => HB_1.out) ?_
  rotate_left
  · intro V'; go_simp <;> with_reducible rfl
  simp only [Act.put, List.setIfInBounds_toArray, List.set_cons_zero, List.set_cons_succ]
  refine takeP (i := 8) (v := ?_) rfl (by kernel_rfl) (by kernel_rfl) (by kernel_rfl) (by kernel_rfl) (fun _ _ _ h => h) (by rfl) ?_ (fun _ => HB_1.out) ?_
  rotate_left
  · intro V'; go_simp <;> with_reducible rfl
  simp only [Act.put, List.setIfInBounds_toArray, List.set_cons_zero, List.set_cons_succ]
  refine takeP (i := 9) (v := ?_) rfl (by kernel_rfl) (by kernel_rfl) (by kernel_rfl) (by kernel_rfl) (fun _ _ _ h => h) (by rfl) ?_ (fun _ => HB_1.out) ?_
  rotate_left
  · intro V'; go_simp <;> with_reducible rfl
  simp only [Act.put, List.setIfInBounds_toArray, List.set_cons_zero, List.set_cons_succ]
  refine takeP (i := 10) (v := ?_) rfl (by kernel_rfl) (by kernel_rfl) (by kernel_rfl) (by kernel_rfl) (fun _ _ _ h => h) (by rfl) ?_ (fun _ => HB_1.out) ?_
  rotate_left
  · intro V'; go_simp <;> with_reducible rfl
  simp only [Act.put, List.setIfInBounds_toArray, List.set_cons_zero, List.set_cons_succ]
  refine takeP (i := 11) (v := ?_) rfl (by kernel_rfl) (by kernel_rfl) (by kernel_rfl) (by kernel_rfl) (fun _ _ _ h => h) (by rfl) ?_ (fun _ => HB_1.out) ?_
  rotate_left
  · intro V'; go_simp <;> with_reducible rfl
  simp only [Act.put, List.setIfInBounds_toArray, List.set_cons_zero, List.set_cons_succ]
  refine takeP (i := 12) (v := ?_) rfl (by kernel_rfl) (by kernel_rfl) (by kernel_rfl) (by kernel_rfl) (fun _ _ _ h => h) (by rfl) ?_ (fun _ => HB_1.out) ?_
  rotate_left
  · intro V'; go_simp <;> with_reducible rfl
  simp only [Act.put, List.setIfInBounds_toArray, List.set_cons_zero, List.set_cons_succ]
  refine takeP (i := 13) (v := ?_) rfl (by kernel_rfl) (by kernel_rfl) (by kernel_rfl) (by kernel_rfl) (fun _ _ _ h => h) (by rfl) ?_ (fun _ => HB_1.out) ?_
  rotate_left
  · intro V'; go_simp <;> with_reducible rfl
  simp only [Act.put, List.setIfInBounds_toArray, List.set_cons_zero, List.set_cons_succ]
  refine takeP (i := 14) (v := ?_) rfl (by kernel_rfl) (by kernel_rfl) (by kernel_rfl) (by kernel_rfl) (fun _ _ _ h => h) (by rfl) ?_ (fun _ => HB_1.out) ?_
  rotate_left
  · intro V'; go_simp <;> with_reducible rfl
  simp only [Act.put, List.setIfInBounds_toArray, List.set_cons_zero, List.set_cons_succ]
  refine takeP (i := 15) (v := ?_) rfl (by kernel_rfl) (by kernel_rfl) (by kernel_rfl) (by kernel_rfl) (fun _ _ _ h => h) (by rfl) ?_ (fun _ => HB_1.out) ?_
  rotate_left
  · intro V'; go_simp <;> with_reducible rfl
  simp only [Act.put, List.setIfInBounds_toArray, List.set_cons_zero, List.set_cons_succ]
  refine takeP (i := 16) (v := ?_) rfl (by kernel_rfl) (by kernel_rfl) (by kernel_rfl) (by kernel_rfl) (fun _ _ _ h => h) (by rfl) ?_ (fun _ => HB_1.out) ?_
  rotate_left
  · intro V'; go_simp <;> with_reducible rfl
  simp only [Act.put, List.setIfInBounds_toArray, List.set_cons_zero, List.set_cons_succ]
  refine takeT (i := 17) (v := ?_) rfl (by kernel_rfl) (by kernel_rfl) (by kernel_rfl) (by kernel_rfl) (fun _ _ _ h => h) (by rfl) ?_ HB_1.out ?_
  rotate_left
  · intro V' hV; obtain ⟨y0, y1, y2, y3, y4, y5, y6, y7, y8, y9, y10, y11, y12, y13, y14, y15, y16, y17, y18, y19⟩ := HL.out V' hV; go_simp <;> with_reducible rfl
  simp only [Act.put, List.setIfInBounds_toArray, List.set_cons_zero, List.set_cons_succ]
  refine takeP (i := 18) (v := ?_) rfl (by kernel_rfl) (by kernel_rfl) (by kernel_rfl) (by kernel_rfl) (fun _ _ _ h => h) (by rfl) ?_ (fun _ => HB_1.out) ?_
  rotate_left
  · intro V'; go_simp <;> with_reducible rfl
  simp only [Act.put, List.setIfInBounds_toArray, List.set_cons_zero, List.set_cons_succ]
  refine takeP (i := 19) (v := ?_) rfl (by kernel_rfl) (by kernel_rfl) (by kernel_rfl) (by kernel_rfl) (fun _ _ _ h => h) (by rfl) ?_ (fun _ => HB_1.out) ?_
  rotate_left
  · intro V'; go_simp <;> with_reducible rfl
  simp only [Act.put, List.setIfInBounds_toArray, List.set_cons_zero, List.set_cons_succ]
  refine takeP (i := 20) (v := ?_) rfl (by kernel_rfl) (by kernel_rfl) (by kernel_rfl) (by kernel_rfl) (fun _ _ _ h => h) (by rfl) ?_ (fun _ => HB_1.out) ?_
  rotate_left
  · intro V'; go_simp <;> with_reducible rfl
  simp only [Act.put, List.setIfInBounds_toArray, List.set_cons_zero, List.set_cons_succ]
  refine takeT (i := 21) (v := brV bW2 (adW (w.heap.size + 1))) rfl (by kernel_rfl) (by kernel_rfl) (by kernel_rfl) (by kernel_rfl) (fun _ _ _ h => h) (by rfl) ?_ HB_1.out ?_
  · intro V' hV; obtain ⟨y0, y1, y2, y3, y4, y5, y6, y7, y8, y9, y10, y11, y12, y13, y14, y15, y16, y17, y18, y19⟩ := HL.out V' hV; exact exec_load_brain rfl y0
  simp only [Act.put, List.setIfInBounds_toArray, List.set_cons_zero, List.set_cons_succ]
  refine oneT (i := 22) rfl (by kernel_rfl) (by rfl) (fun K hK => ?_)
  go_simp
  refine (HC.out.full bW2 (adW (w.heap.size + 1)) W6_1 (N6.out.under HB_1.out)).mono ?_
  rintro e W6_2 ⟨rfl, hb_⟩
  have HB_2 := Lib.hid (show Below W6.heap.size W6 W6_2 from HB_1.out.trans (hb_.mono HB_1.out.size))
  clear hb_ HB_1
  rw [ful_W]
  refine hK.out _ _ (fun _ => HB_2.out) ?_
  clear hK K
  refine takeP (i := 23) (v := ?_) rfl (by kernel_rfl) (by kernel_rfl) (by kernel_rfl) (by kernel_rfl) (fun _ _ _ h => h) (by rfl) ?_ (fun _ => HB_2.out) ?_
  rotate_left
  · intro V'; go_simp <;> with_reducible rfl
  simp only [Act.put, List.setIfInBounds_toArray, List.set_cons_zero, List.set_cons_succ]
  refine takeP (i := 24) (v := ?_) rfl (by kernel_rfl) (by kernel_rfl) (by kernel_rfl) (by kernel_rfl) (fun _ _ _ h => h) (by rfl) ?_ (fun _ => HB_2.out) ?_
  rotate_left
  · intro V'; go_simp <;> with_reducible rfl
  simp only [Act.put, List.setIfInBounds_toArray, List.set_cons_zero, List.set_cons_succ]
  refine takeP (i := 25) (v := ?_) rfl (by kernel_rfl) (by kernel_rfl) (by kernel_rfl) (by kernel_rfl) (fun _ _ _ h => h) (by rfl) ?_ (fun _ => HB_2.out) ?_
  rotate_left
  · intro V'; go_simp <;> with_reducible rfl
  simp only [Act.put, List.setIfInBounds_toArray, List.set_cons_zero, List.set_cons_succ]
  refine takeP (i := 26) (v := ?_) rfl (by kernel_rfl) (by kernel_rfl) (by kernel_rfl) (by kernel_rfl) (fun _ _ _ h => h) (by rfl) ?_ (fun _ => HB_2.out) ?_
  rotate_left
  · intro V'; go_simp <;> with_reducible rfl
  simp only [Act.put, List.setIfInBounds_toArray, List.set_cons_zero, List.set_cons_succ]
  refine oneT (i := 27) rfl (by kernel_rfl) (by rfl) (fun K hK => ?_)
  go_simp
  refine (HC.out.full br0 ad0 W6_2 (now0 _ (HT.out.under (HB6.out.trans (HB_2.out.mono HB6.out.size))))).mono ?_
  rintro e W6_3 ⟨rfl, hb_⟩
  have HB_3 := Lib.hid (show Below W6.heap.size W6 W6_3 from HB_2.out.trans (hb_.mono HB_2.out.size))
  clear hb_ HB_2
  rw [ful_0]
  refine hK.out _ _ (fun _ => HB_3.out) ?_
  clear hK K
  refine takeP (i := 28) (v := ?_) rfl (by kernel_rfl) (by kernel_rfl) (by kernel_rfl) (by kernel_rfl) (fun _ _ _ h => h) (by rfl) ?_ (fun _ => HB_3.out) ?_
  rotate_left
  · intro V'; go_simp <;> with_reducible rfl
  simp only [Act.put, List.setIfInBounds_toArray, List.set_cons_zero, List.set_cons_succ]
  refine takeP (i := 29) (v := ?_) rfl (by kernel_rfl) (by kernel_rfl) (by kernel_rfl) (by kernel_rfl) (fun _ _ _ h => h) (by rfl) ?_ (fun _ => HB_3.out) ?_
  rotate_left
  · intro V'; go_simp <;> with_reducible rfl
  simp only [Act.put, List.setIfInBounds_toArray, List.set_cons_zero, List.set_cons_succ]
  refine takeT (i := 30) (v := brV bW2 (adW (w.heap.size + 1))) rfl (by kernel_rfl) (by kernel_rfl) (by kernel_rfl) (by kernel_rfl) (fun _ _ _ h => h) (by rfl) ?_ HB_3.out ?_
  · intro V' hV; obtain ⟨y0, y1, y2, y3, y4, y5, y6, y7, y8, y9, y10, y11, y12, y13, y14, y15, y16, y17, y18, y19⟩ := HL.out V' hV; exact exec_load_brain rfl y0
  simp only [Act.put, List.setIfInBounds_toArray, List.set_cons_zero, List.set_cons_succ]
  refine takeP (i := 31) (v := ?_) rfl (by kernel_rfl) (by kernel_rfl) (by kernel_rfl) (by kernel_rfl) (fun _ _ _ h => h) (by rfl) ?_ (fun _ => HB_3.out) ?_
  rotate_left
  · intro V'; go_simp <;> with_reducible rfl
  simp only [Act.put, List.setIfInBounds_toArray, List.set_cons_zero, List.set_cons_succ]
  refine takeT (i := 32) (v := ?_) rfl (by kernel_rfl) (by kernel_rfl) (by kernel_rfl) (by kernel_rfl) (fun _ _ _ h => h) (by rfl) ?_ HB_3.out ?_
  rotate_left
  · intro V' hV; obtain ⟨y0, y1, y2, y3, y4, y5, y6, y7, y8, y9, y10, y11, y12, y13, y14, y15, y16, y17, y18, y19⟩ := HL.out V' hV; go_simp <;> with_reducible rfl
  simp only [Act.put, List.setIfInBounds_toArray, List.set_cons_zero, List.set_cons_succ]
  refine takeP (i := 33) (v := ?_) rfl (by kernel_rfl) (by kernel_rfl) (by kernel_rfl) (by kernel_rfl) (fun _ _ _ h => h) (by rfl) ?_ (fun _ => HB_3.out) ?_
  rotate_left
  · intro V'; go_simp <;> with_reducible rfl
  simp only [Act.put, List.setIfInBounds_toArray, List.set_cons_zero, List.set_cons_succ]
  refine takeT (i := 34) (v := ?_) rfl (by kernel_rfl) (by kernel_rfl) (by kernel_rfl) (by kernel_rfl) (fun _ _ _ h => h) (by rfl) ?_ HB_3.out ?_
  rotate_left
  · intro V' hV; obtain ⟨y0, y1, y2, y3, y4, y5, y6, y7, y8, y9, y10, y11, y12, y13, y14, y15, y16, y17, y18, y19⟩ := HL.out V' hV; go_simp <;> with_reducible rfl
  simp only [Act.put, List.setIfInBounds_toArray, List.set_cons_zero, List.set_cons_succ]
  refine oneT (i := 35) rfl (by kernel_rfl) (by rfl) (fun K hK => ?_)
  go_simp
  refine (HC.out.isOld bW2 (adW (w.heap.size + 1)) kpW1 W6_3 (N6.out.under HB_3.out)).mono ?_
  rintro e W6_4 ⟨rfl, hb_⟩
  have HB_4 := Lib.hid (show Below W6.heap.size W6 W6_4 from HB_3.out.trans (hb_.mono HB_3.out.size))
  clear hb_ HB_3
  rw [old_W]
  refine hK.out _ _ (fun _ => HB_4.out) ?_
  clear hK K
  refine takeP (i := 36) (v := ?_) rfl (by kernel_rfl) (by kernel_rfl) (by kernel_rfl) (by kernel_rfl) (fun _ _ _ h => h) (by rfl) ?_ (fun _ => HB_4.out) ?_
  rotate_left
  · intro V'; go_simp <;> with_reducible rfl
  simp only [Act.put, List.setIfInBounds_toArray, List.set_cons_zero, List.set_cons_succ]
  refine takeP (i := 37) (v := ?_) rfl (by kernel_rfl) (by kernel_rfl) (by kernel_rfl) (by kernel_rfl) (fun _ _ _ h => h) (by rfl) ?_ (fun _ => HB_4.out) ?_
  rotate_left
  · intro V'; go_simp <;> with_reducible rfl
  simp only [Act.put, List.setIfInBounds_toArray, List.set_cons_zero, List.set_cons_succ]
  refine takeT (i := 38) (v := brV bW2 (adW (w.heap.size + 1))) rfl (by kernel_rfl) (by kernel_rfl) (by kernel_rfl) (by kernel_rfl) (fun _ _ _ h => h) (by rfl) ?_ HB_4.out ?_
  · intro V' hV; obtain ⟨y0, y1, y2, y3, y4, y5, y6, y7, y8, y9, y10, y11, y12, y13, y14, y15, y16, y17, y18, y19⟩ := HL.out V' hV; exact exec_load_brain rfl y0
  simp only [Act.put, List.setIfInBounds_toArray, List.set_cons_zero, List.set_cons_succ]
  refine takeP (i := 39) (v := ?_) rfl (by kernel_rfl) (by kernel_rfl) (by kernel_rfl) (by kernel_rfl) (fun _ _ _ h => h) (by rfl) ?_ (fun _ => HB_4.out) ?_
  rotate_left
  · intro V'; go_simp <;> with_reducible rfl
  simp only [Act.put, List.setIfInBounds_toArray, List.set_cons_zero, List.set_cons_succ]
  refine oneT (i := 40) rfl (by kernel_rfl) (by rfl) (fun K hK => ?_)
  go_simp
  refine (HC.out.meant bW2 (adW (w.heap.size + 1)) ⟨0, 5, 0, false⟩ W6_4 (N6.out.under HB_4.out)).mono ?_
  rintro e W6_5 ⟨rfl, hb_⟩
  have HB_5 := Lib.hid (show Below W6.heap.size W6 W6_5 from HB_4.out.trans (hb_.mono HB_4.out.size))
  clear hb_ HB_4
  rw [mea_W]
  refine hK.out _ _ (fun _ => HB_5.out) ?_
  clear hK K
  refine takeP (i := 41) (v := ?_) rfl (by kernel_rfl) (by kernel_rfl) (by kernel_rfl) (by kernel_rfl) (fun _ _ _ h => h) (by rfl) ?_ (fun _ => HB_5.out) ?_
  rotate_left
  · intro V'; go_simp <;> with_reducible rfl
  simp only [Act.put, List.setIfInBounds_toArray, List.set_cons_zero, List.set_cons_succ]
  refine oneT (i := 42) rfl (by kernel_rfl) (by rfl) (fun K hK => ?_)
  go_simp
  refine hK.out _ _ (fun _ => HB_5.out) ?_
  clear hK K
  refine doneT (by kernel_rfl) ?_ _
  have HBx := Lib.hid (HB6.out.trans (HB_5.out.mono HB6.out.size))
  go_wp2_with fail
  go_ret
  exact ⟨rfl, HBx.out⟩

end Go.Proofs.YtplejbgecihnpaaDoor

namespace Go.Proofs.YtplejbgecihnpaaDoor
open Go.RowKit Go.Shelf

theorem ctNow {p : Br} {a : Ad} {w : World} (hb : BrAny w p a) (hT : Tab w) (hg : gB p = false) : BrNow p a w := by
  obtain ⟨h1, h2, h3⟩ := gB_no hg
  exact ⟨hb.rd, hT, by omega, by omega, by omega⟩

end Go.Proofs.YtplejbgecihnpaaDoor

namespace Go.Proofs.YtplejbgecihnpaaDoor
open Go.RowKit Go.Shelf

end Go.Proofs.YtplejbgecihnpaaDoor

namespace Go.Proofs.YtplejbgecihnpaaDoor
open Go.RowKit Go.Shelf

/-- With a refresh begun; with it cancelled. -/
def stB (p : Br) (v : Int) : Br := { p with rf := ⟨1, p.cf.f12, v, 0, false, 5, 0⟩ }
def caB (p : Br) (v : Int) : Br := { p with rf := ⟨3, p.cf.f12, v, 0, false, 5, 0⟩ }
theorem start_is {p : Br} {v : Int} (hs : p.set = true) (h1 : ¬ p.rf.st = 1) (h2 : 1 ≤ v) (h3 : v ≤ brMax) : applyB p 11 [v, 5] = stB p v := by
  have hn : numsB [v, 5] = true := by
    simp [numsB, isNum, brMax] at h3 ⊢
    omega
  have e : manyB 11 = (([v, 5] : List Int).length : Int) := by
    show manyB 11 = 2
    decide
  show (if numsB [v, 5] = true then _ else _) = _
  rw [if_pos hn, if_neg (by decide), if_pos e]
  show startB p v 5 = _
  unfold startB stB
  rw [if_pos ⟨hs, h1, h2⟩]
theorem cancel_is {p : Br} {v : Int} : applyB (stB p v) 12 [] = caB p v := by
  have hn : numsB [] = true := by decide
  have e : manyB 12 = (([] : List Int).length : Int) := by decide
  show (if numsB [] = true then _ else _) = _
  rw [if_pos hn, if_neg (by decide), if_pos e]
  rfl
theorem ver_start (p : Br) (v : Int) : verB (stB p v) = v := rfl
theorem ver_cancel (p : Br) (v : Int) : verB (caB p v) = p.cf.f12 := rfl
theorem want_cancel (p : Br) (v : Int) : wantB (caB p v) = p.cf.f0 := by
  unfold wantB
  rw [if_neg (by rintro ⟨h, _⟩; exact absurd (show (3 : Int) = 1 from h) (by decide))]
  rfl
theorem old_of {p q : Br} (h1 : verB q = verB p) (h2 : q.cf.sk = p.cf.sk) (h3 : q.its = p.its) (h4 : q.kps = p.kps) : oldB q = oldB p := by
  have e1 : oldI q = oldI p := by funext x; simp only [oldI, h1]
  have e2 : oldK q = oldK p := by funext x; simp only [oldK, h1, h2]
  simp only [oldB, itOld, kpOld, e1, e2, h3, h4]
theorem old_cancel {p : Br} (v : Int) (h1 : ¬ p.rf.st = 1) : oldB (caB p v) = oldB p := old_of (by rw [ver_cancel, verB, if_neg h1]) rfl rfl rfl
theorem want_start {p : Br} {v : Int} (h : oldB (stB p v) = 0) : wantB (stB p v) = p.cf.f0 := by
  unfold wantB
  rw [if_neg (by rintro ⟨_, _, h9⟩; omega)]
  rfl
theorem kpOld_next {p : Br} {l : List Kp} {j : Nat} {x : Kp} (h : l[j]? = some x) : kpOld p (l.take (j + 1)) = kpOld p (l.take j) + (if oldK p x = true then 1 else 0) := countP_next _ h
theorem itOld_next {p : Br} {l : List It} {j : Nat} {x : It} (h : l[j]? = some x) : itOld p (l.take (j + 1)) = itOld p (l.take j) + (if oldI p x = true then 1 else 0) := countP_next _ h
theorem kpOld_le (p : Br) (l : List Kp) (j : Nat) : kpOld p (l.take j) ≤ l.length := countP_le' _ _ _
theorem itOld_le (p : Br) (l : List It) (j : Nat) : itOld p (l.take j) ≤ l.length := countP_le' _ _ _

end Go.Proofs.YtplejbgecihnpaaDoor
