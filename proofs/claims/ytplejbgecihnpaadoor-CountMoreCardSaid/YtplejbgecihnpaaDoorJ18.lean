/-
  Texts that the walks of the statements over logs lean on, joined (MemOpen, OpenF, KpOpen, BrOpen, ConfOpen, ConfTab, ItOpen). Conditions: those that each theorem names.
-/
import Derived.Test.YtplejbgecihnpaaDoorJ0
import Derived.Test.YtplejbgecihnpaaDoorJ2
import Derived.Test.YtplejbgecihnpaaDoorJ3
import Derived.Test.YtplejbgecihnpaaDoorJ12
import Derived.Lib.SmallJoins
import Derived.Deep.Fields
import Derived.ChangeSame
import Derived.LaidMore
import Derived.Stop.Joined

/-
  What statements are handed: bytes, numbers, rows of them, opened to lists. Conditions: those that each theorem names.
-/
namespace Go.Proofs.YtplejbgecihnpaaDoor
open Go.RowKit Go.Shelf Go.ChangeShapes Go.WideShapes Go.Deep Go.Joins

section
variable {H : Type} {enc : TypeId × Value → H} {W : World} {base : Nat} {held : Bool} {d : DataW H} {p : List MemPlace} {v : Value}

set_option maxRecDepth 100000 in
theorem open_u8 (hv : Value.okWide Tryd.prog W .any base 5 v) (h : DataW.Trod enc Tryd.prog W 0 (fun _ => true) held 5 v d p) : ∃ k : Nat, v = .int .u8 (k : Int) ∧ k < 256 := by
  obtain ⟨z, rfl, _, _, hw⟩ := open_int Tryd.underlying5 hv h
  have hb := bounds_u8 hw
  obtain ⟨k, rfl⟩ := Int.eq_ofNat_of_zero_le hb.1
  exact ⟨k, rfl, by omega⟩

set_option maxRecDepth 100000 in
theorem open_i64 (hv : Value.okWide Tryd.prog W .any base 3 v) (h : DataW.Trod enc Tryd.prog W 0 (fun _ => true) held 3 v d p) : ∃ z : Int, v = .int .i64 z ∧ (Lit.int .i64 z).wf = true := by
  obtain ⟨z, rfl, _, _, hw⟩ := open_int Tryd.underlying3 hv h
  exact ⟨z, rfl, hw⟩

set_option maxRecDepth 100000 in
/-- A slice of integers, its one cell read. -/
theorem open_intsC {n : Nat} {y : DataW H × List MemPlace} (h : DataW.trod enc Tryd.prog W 0 (fun _ => true) held n 22 [v] = some y) : ∃ A m c zs, v = .slice A m c ∧ Rd W W.heap.size A m (iv zs) ∧ m ≤ c ∧ c ≤ maxLen := by
  rcases open_ints Tryd.underlying22 Tryd.underlying3 (by kernel_rfl) h with ⟨hcs, _⟩ | ⟨x, l, c, zs, hcs, _, hl, hm, hz, _, hcell, hwz⟩
  · simp only [List.cons.injEq, and_true] at hcs
    subst hcs
    exact ⟨none, 0, 0, [], rfl, Rd.nil_ _ _ _, Nat.le_refl _, by omega⟩
  · simp only [List.cons.injEq, and_true] at hcs
    subst hcs
    obtain ⟨h1, h2, h3⟩ := rd_of_ints (w := W) (a := some x) (len := l) (cap := c) (zs := zs) (.inr ⟨x, rfl, hl, hm, by simpa using hz, hcell, hwz⟩)
    exact ⟨_, _, _, _, rfl, h1, h2, h3⟩

set_option maxRecDepth 100000 in
theorem open_intsV (hv : Value.okWide Tryd.prog W .any base 22 v) (h : DataW.Trod enc Tryd.prog W 0 (fun _ => true) held 22 v d p) : ∃ A m c zs, v = .slice A m c ∧ Rd W W.heap.size A m (iv zs) ∧ m ≤ c ∧ c ≤ maxLen := by
  obtain ⟨A, m, c, rfl⟩ := okWide_slice Tryd.underlying22 hv
  obtain ⟨fuel, hf⟩ := h
  exact open_intsC hf

set_option maxRecDepth 100000 in
theorem open_kindC {n : Nat} {y : DataW H × List MemPlace} (h : DataW.trod enc Tryd.prog W 0 (fun _ => true) held n 5 [v] = some y) : ∃ k : Nat, v = .int .u8 (k : Int) ∧ k < 256 := by
  obtain ⟨z, hz, _, hw⟩ := DataW.trod_int Tryd.underlying5 h
  simp only [List.cons.injEq, and_true] at hz
  have hb := bounds_u8 hw
  obtain ⟨k, rfl⟩ := Int.eq_ofNat_of_zero_le hb.1
  exact ⟨k, hz, by omega⟩
end

end Go.Proofs.YtplejbgecihnpaaDoor

/-
  What a statement is handed as a slice of structs, opened: by how one of them is opened. Conditions: those that each theorem names.
-/
namespace Go.Proofs.YtplejbgecihnpaaDoor
open Go.RowKit Go.Shelf Go.ChangeShapes Go.WideShapes Go.Deep Go.Joins

section
variable {H : Type} {enc : TypeId × Value → H} {W : World} {held : Bool} {v : Value}

set_option maxRecDepth 100000 in
theorem open_rowF {α : Type} {f : α → List Value} {size : Nat} {ty e : TypeId} {P : α → Prop} (ht : Tryd.prog.underlying ty = some (.slice e)) (hC : Tryd.prog.cellsOf e = size) (hs : 0 < size) (hf : ∀ x, (f x).length = size)
    (one : ∀ (fu : Nat) (c : List Value) (y : DataW H × List MemPlace), c.length = size → DataW.trod enc Tryd.prog W 0 (fun _ => true) held fu e c = some y → ∃ x : α, c = f x ∧ P x)
    {fu : Nat} {y : DataW H × List MemPlace} (h : DataW.trod enc Tryd.prog W 0 (fun _ => true) held fu ty [v] = some y) : ∃ A m c l, v = .slice A m c ∧ RdF size f W W.heap.size A m l ∧ m ≤ maxLen ∧ m ≤ c ∧ ∀ x ∈ l, P x := by
  rcases open_slice ht h with ⟨hcs, _⟩ | ⟨a, len, cap, m, n', D, Pl, hcs, _, hl, hm, hmm, _, hi⟩
  · simp only [List.cons.injEq, and_true] at hcs
    subst hcs
    exact ⟨none, 0, 0, [], rfl, RdF.nil_ _ _ _, by unfold maxLen; omega, by omega, by simp⟩
  · simp only [List.cons.injEq, and_true] at hcs
    subst hcs
    have hmc : m = cap := by simpa using hmm
    have each : ∀ i, i < len → ∃ x : α, (∀ j, j < size → W.cell? (a.add (i * size + j)) = (f x)[j]?) ∧ P x := by
      intro i hin
      obtain ⟨cs', hc, ht'⟩ := hi i (by omega)
      rw [hC] at hc
      obtain ⟨_, hcl, hat⟩ := World.cells?_some hc
      obtain ⟨x, rfl, hx⟩ := one _ _ _ hcl ht'
      refine ⟨x, fun j hj => ?_, hx⟩
      have := hat j hj
      rwa [Go.Deep.add_add] at this
    have build : ∀ j, j ≤ len → ∃ l : List α, l.length = j ∧ (∀ i x, l[i]? = some x → ∀ k, k < size → W.cell? (a.add (i * size + k)) = (f x)[k]?) ∧ ∀ x ∈ l, P x := by
      intro j
      induction j with
      | zero => intro _; exact ⟨[], rfl, by simp, by simp⟩
      | succ j ih =>
        intro hj
        obtain ⟨l, hl1, hl2, hl3⟩ := ih (by omega)
        obtain ⟨x, x1, x2⟩ := each j (by omega)
        refine ⟨l ++ [x], by simp [hl1], ?_, ?_⟩
        · intro i y hy
          rcases Nat.lt_or_ge i l.length with h | h
          · rw [List.getElem?_append_left h] at hy
            exact hl2 i y hy
          · rw [List.getElem?_append_right h] at hy
            have h0 : i - l.length = 0 := by
              rcases Nat.eq_zero_or_pos (i - l.length) with h1 | h1
              · exact h1
              · rw [List.getElem?_eq_none (by simp; omega)] at hy; cases hy
            rw [h0] at hy
            simp only [List.getElem?_cons_zero, Option.some.injEq] at hy
            subst hy
            obtain rfl : i = j := by omega
            exact x1
        · intro y hy
          simp only [List.mem_append, List.mem_singleton] at hy
          rcases hy with hy | rfl
          · exact hl3 y hy
          · exact x2
    obtain ⟨l, hl1, hl2, hl3⟩ := build len (Nat.le_refl _)
    refine ⟨_, _, _, l, rfl, ⟨hl1, fun hn => ?_⟩, by omega, by omega, hl3⟩
    obtain ⟨x, hx⟩ : ∃ x, l[0]? = some x := ⟨_, List.getElem?_eq_getElem (by omega)⟩
    have h00 := hl2 0 x hx 0 hs
    obtain ⟨b, off, spot⟩ := a
    rw [List.getElem?_eq_getElem (by rw [hf]; exact hs)] at h00
    have hspot : spot = none := by simpa [Addr.add] using World.cell?_spot h00
    subst hspot
    rw [Addr.add_lit] at h00
    refine ⟨b, off, rfl, World.block_lt_of_cell? W _ h00, fun j y hy i hi => ?_⟩
    have h1 := hl2 j y hy i hi
    rw [Go.WideShapes.add_plain, ← Nat.add_assoc] at h1
    exact h1
end

end Go.Proofs.YtplejbgecihnpaaDoor

/-
  Instances that are kept, as statements are handed them: opened. Conditions: those that each theorem names.
-/
namespace Go.Proofs.YtplejbgecihnpaaDoor
open Go.RowKit Go.Shelf Go.ChangeShapes Go.WideShapes Go.Deep Go.Joins

section
variable {H : Type} {enc : TypeId × Value → H} {W : World} {base : Nat} {held : Bool} {d : DataW H} {p : List MemPlace} {v : Value}
set_option maxRecDepth 100000 in
set_option maxHeartbeats 1000000 in
theorem i64_lo {z : Int} (h : (Lit.int .i64 z).wf = true) : -9223372036854775808 ≤ z := by
  simp only [Lit.wf, Bool.and_eq_true, decide_eq_true_eq] at h
  exact h.1
set_option maxRecDepth 100000 in
set_option maxHeartbeats 1000000 in
theorem open_kpC' {f : Nat} {c : List Value} {y : DataW H × List MemPlace} (hsz : c.length = 8) (h : DataW.trod enc Tryd.prog W 0 (fun _ => true) held f 32 c = some y) : ∃ x : Kp, c = x.vs ∧ 0 ≤ x.phase ∧ x.phase < 256 := by
  have k0 : Tryd.prog.cellsOf 3 = 1 := by kernel_rfl
  have k1 : Tryd.prog.cellsOf 5 = 1 := by kernel_rfl
  have k2 : Tryd.prog.cellsOf 4 = 1 := by kernel_rfl
  obtain ⟨xs, n, _, _, _, hlen, hel⟩ := DataW.trod_struct Tryd.underlying32 h
  match c, hsz, xs, hlen with
  | [c0, c1, c2, c3, c4, c5, c6, c7], _, [y0, y1, y2, y3, y4, y5, y6, y7], _ =>
    have g0 : DataW.trod enc Tryd.prog W 0 (fun _ => true) held n 3 [c0] = some y0 := by simpa [Value.cells, k0, k1, k2] using hel 0 _ rfl
    have g1 : DataW.trod enc Tryd.prog W 0 (fun _ => true) held n 3 [c1] = some y1 := by simpa [Value.cells, k0, k1, k2] using hel 1 _ rfl
    have g2 : DataW.trod enc Tryd.prog W 0 (fun _ => true) held n 3 [c2] = some y2 := by simpa [Value.cells, k0, k1, k2] using hel 2 _ rfl
    have g3 : DataW.trod enc Tryd.prog W 0 (fun _ => true) held n 3 [c3] = some y3 := by simpa [Value.cells, k0, k1, k2] using hel 3 _ rfl
    have g4 : DataW.trod enc Tryd.prog W 0 (fun _ => true) held n 5 [c4] = some y4 := by simpa [Value.cells, k0, k1, k2] using hel 4 _ rfl
    have g5 : DataW.trod enc Tryd.prog W 0 (fun _ => true) held n 3 [c5] = some y5 := by simpa [Value.cells, k0, k1, k2] using hel 5 _ rfl
    have g6 : DataW.trod enc Tryd.prog W 0 (fun _ => true) held n 4 [c6] = some y6 := by simpa [Value.cells, k0, k1, k2] using hel 6 _ rfl
    have g7 : DataW.trod enc Tryd.prog W 0 (fun _ => true) held n 4 [c7] = some y7 := by simpa [Value.cells, k0, k1, k2] using hel 7 _ rfl
    obtain ⟨z0, e0, _, w0⟩ := DataW.trod_int Tryd.underlying3 g0
    obtain ⟨z1, e1, _, w1⟩ := DataW.trod_int Tryd.underlying3 g1
    obtain ⟨z2, e2, _, w2⟩ := DataW.trod_int Tryd.underlying3 g2
    obtain ⟨z3, e3, _, w3⟩ := DataW.trod_int Tryd.underlying3 g3
    obtain ⟨z4, e4, _, w4⟩ := DataW.trod_int Tryd.underlying5 g4
    obtain ⟨z5, e5, _, w5⟩ := DataW.trod_int Tryd.underlying3 g5
    obtain ⟨z6, e6, _⟩ := DataW.trod_bool Tryd.underlying4 g6
    obtain ⟨z7, e7, _⟩ := DataW.trod_bool Tryd.underlying4 g7
    simp only [List.cons.injEq, and_true] at e0 e1 e2 e3 e4 e5 e6 e7
    exact ⟨⟨z0, z1, z2, z3, z4, z5, z6, z7⟩, by rw [e0, e1, e2, e3, e4, e5, e6, e7]; rfl, (bounds_u8 w4).1, by have := (bounds_u8 w4).2; show z4 < 256; omega⟩
set_option maxRecDepth 100000 in
theorem open_kpC {f : Nat} {c : List Value} {y : DataW H × List MemPlace} (hsz : c.length = 8) (h : DataW.trod enc Tryd.prog W 0 (fun _ => true) held f 32 c = some y) : ∃ x : Kp, c = x.vs ∧ 0 ≤ x.phase :=
  let ⟨x, h1, h2, _⟩ := open_kpC' hsz h
  ⟨x, h1, h2⟩
set_option maxRecDepth 100000 in
set_option maxHeartbeats 1000000 in
theorem open_kpsC {f : Nat} {y : DataW H × List MemPlace} (h : DataW.trod enc Tryd.prog W 0 (fun _ => true) held f 26 [v] = some y) : ∃ A m c l, v = .slice A m c ∧ RdK W W.heap.size A m l ∧ m ≤ maxLen ∧ m ≤ c ∧ ∀ x ∈ l, 0 ≤ x.phase :=
  open_rowF (f := Kp.vs) (P := fun x => 0 ≤ x.phase) Tryd.underlying26 (size := 8) (by kernel_rfl) (by decide) Kp.vs_len (fun fu c y hc hy => open_kpC hc hy) h
set_option maxRecDepth 100000 in
set_option maxHeartbeats 1000000 in
theorem open_kpV (hv : Value.okWide Tryd.prog W .any base 32 v) (h : DataW.Trod enc Tryd.prog W 0 (fun _ => true) held 32 v d p) : ∃ x : Kp, v = x.v ∧ 0 ≤ x.phase ∧ x.phase < 256 := by
  obtain ⟨cs, rfl, hsz⟩ := okWide_struct Tryd.underlying32 hv
  have hC : Tryd.prog.cellsOf 32 = 8 := by kernel_rfl
  rw [hC] at hsz
  obtain ⟨l⟩ := cs
  obtain ⟨fuel, hf⟩ := h
  obtain ⟨x, e, h1, h2⟩ := open_kpC' (c := l) (by simpa using hsz) (by simpa [Value.cells] using hf)
  exact ⟨x, by rw [e]; rfl, h1, h2⟩
set_option maxRecDepth 100000 in
set_option maxHeartbeats 1000000 in
theorem open_kpsV (hv : Value.okWide Tryd.prog W .any base 26 v) (h : DataW.Trod enc Tryd.prog W 0 (fun _ => true) held 26 v d p) : ∃ A m c l, v = .slice A m c ∧ RdK W W.heap.size A m l ∧ m ≤ maxLen ∧ m ≤ c ∧ ∀ x ∈ l, 0 ≤ x.phase := by
  obtain ⟨A, n, c, rfl⟩ := okWide_slice Tryd.underlying26 hv
  obtain ⟨fuel, hf⟩ := h
  exact open_kpsC (by simpa [Value.cells] using hf)
end

end Go.Proofs.YtplejbgecihnpaaDoor

/-
  What the statements over brains are handed: brains, records, opened. Conditions: those that each theorem names.
-/
namespace Go.Proofs.YtplejbgecihnpaaDoor
open Go.RowKit Go.Shelf Go.ChangeShapes Go.WideShapes Go.Deep Go.Joins

section
variable {H : Type} {enc : TypeId × Value → H} {W : World} {base : Nat} {held : Bool} {d : DataW H} {p : List MemPlace} {v : Value}
set_option maxRecDepth 100000 in
set_option maxHeartbeats 1000000 in
theorem open_itC {f : Nat} {c : List Value} {y : DataW H × List MemPlace} (hsz : c.length = 4) (h : DataW.trod enc Tryd.prog W 0 (fun _ => true) held f 34 c = some y) : ∃ x : It, c = x.vs ∧ True := by
  have k0 : Tryd.prog.cellsOf 3 = 1 := by kernel_rfl
  have k1 : Tryd.prog.cellsOf 4 = 1 := by kernel_rfl
  obtain ⟨xs, n, _, _, _, hlen, hel⟩ := DataW.trod_struct Tryd.underlying34 h
  match c, hsz, xs, hlen with
  | [c0, c1, c2, c3], _, [y0, y1, y2, y3], _ =>
    have g0 : DataW.trod enc Tryd.prog W 0 (fun _ => true) held n 3 [c0] = some y0 := by simpa [Value.cells, k0, k1] using hel 0 _ rfl
    have g1 : DataW.trod enc Tryd.prog W 0 (fun _ => true) held n 3 [c1] = some y1 := by simpa [Value.cells, k0, k1] using hel 1 _ rfl
    have g2 : DataW.trod enc Tryd.prog W 0 (fun _ => true) held n 3 [c2] = some y2 := by simpa [Value.cells, k0, k1] using hel 2 _ rfl
    have g3 : DataW.trod enc Tryd.prog W 0 (fun _ => true) held n 4 [c3] = some y3 := by simpa [Value.cells, k0, k1] using hel 3 _ rfl
    obtain ⟨z0, e0, _, w0⟩ := DataW.trod_int Tryd.underlying3 g0
    obtain ⟨z1, e1, _, w1⟩ := DataW.trod_int Tryd.underlying3 g1
    obtain ⟨z2, e2, _, w2⟩ := DataW.trod_int Tryd.underlying3 g2
    obtain ⟨z3, e3, _⟩ := DataW.trod_bool Tryd.underlying4 g3
    simp only [List.cons.injEq, and_true] at e0 e1 e2 e3
    exact ⟨⟨z0, z1, z2, z3⟩, by rw [e0, e1, e2, e3]; rfl, trivial⟩
set_option maxRecDepth 100000 in
set_option maxHeartbeats 1000000 in
theorem open_rfC {f : Nat} {c : List Value} {y : DataW H × List MemPlace} (hsz : c.length = 7) (h : DataW.trod enc Tryd.prog W 0 (fun _ => true) held f 28 c = some y) : ∃ x : Rf, c = (Rf.cells x).toList := by
  have k0 : Tryd.prog.cellsOf 5 = 1 := by kernel_rfl
  have k1 : Tryd.prog.cellsOf 3 = 1 := by kernel_rfl
  have k2 : Tryd.prog.cellsOf 4 = 1 := by kernel_rfl
  obtain ⟨xs, n, _, _, _, hlen, hel⟩ := DataW.trod_struct Tryd.underlying28 h
  match c, hsz, xs, hlen with
  | [c0, c1, c2, c3, c4, c5, c6], _, [y0, y1, y2, y3, y4, y5, y6], _ =>
    have g0 : DataW.trod enc Tryd.prog W 0 (fun _ => true) held n 5 [c0] = some y0 := by simpa [Value.cells, k0, k1, k2] using hel 0 _ rfl
    have g1 : DataW.trod enc Tryd.prog W 0 (fun _ => true) held n 3 [c1] = some y1 := by simpa [Value.cells, k0, k1, k2] using hel 1 _ rfl
    have g2 : DataW.trod enc Tryd.prog W 0 (fun _ => true) held n 3 [c2] = some y2 := by simpa [Value.cells, k0, k1, k2] using hel 2 _ rfl
    have g3 : DataW.trod enc Tryd.prog W 0 (fun _ => true) held n 3 [c3] = some y3 := by simpa [Value.cells, k0, k1, k2] using hel 3 _ rfl
    have g4 : DataW.trod enc Tryd.prog W 0 (fun _ => true) held n 4 [c4] = some y4 := by simpa [Value.cells, k0, k1, k2] using hel 4 _ rfl
    have g5 : DataW.trod enc Tryd.prog W 0 (fun _ => true) held n 3 [c5] = some y5 := by simpa [Value.cells, k0, k1, k2] using hel 5 _ rfl
    have g6 : DataW.trod enc Tryd.prog W 0 (fun _ => true) held n 3 [c6] = some y6 := by simpa [Value.cells, k0, k1, k2] using hel 6 _ rfl
    obtain ⟨z0, e0, _, w0⟩ := DataW.trod_int Tryd.underlying5 g0
    obtain ⟨z1, e1, _, w1⟩ := DataW.trod_int Tryd.underlying3 g1
    obtain ⟨z2, e2, _, w2⟩ := DataW.trod_int Tryd.underlying3 g2
    obtain ⟨z3, e3, _, w3⟩ := DataW.trod_int Tryd.underlying3 g3
    obtain ⟨z4, e4, _⟩ := DataW.trod_bool Tryd.underlying4 g4
    obtain ⟨z5, e5, _, w5⟩ := DataW.trod_int Tryd.underlying3 g5
    obtain ⟨z6, e6, _, w6⟩ := DataW.trod_int Tryd.underlying3 g6
    simp only [List.cons.injEq, and_true] at e0 e1 e2 e3 e4 e5 e6
    exact ⟨⟨z0, z1, z2, z3, z4, z5, z6⟩, by rw [e0, e1, e2, e3, e4, e5, e6]⟩
set_option maxRecDepth 100000 in
set_option maxHeartbeats 1000000 in
theorem open_cfC {f : Nat} {c : List Value} {y : DataW H × List MemPlace} (hsz : c.length = 15) (h : DataW.trod enc Tryd.prog W 0 (fun _ => true) held f 24 c = some y) : ∃ x : Cf, c = x.cells.toList ∧ Lies x W W.heap.size := by
  have k0 : Tryd.prog.cellsOf 3 = 1 := by kernel_rfl
  have k1 : Tryd.prog.cellsOf 4 = 1 := by kernel_rfl
  have k2 : Tryd.prog.cellsOf 22 = 1 := by kernel_rfl
  obtain ⟨xs, n, _, _, _, hlen, hel⟩ := DataW.trod_struct Tryd.underlying24 h
  match c, hsz, xs, hlen with
  | [c0, c1, c2, c3, c4, c5, c6, c7, c8, c9, c10, c11, c12, c13, c14], _, [y0, y1, y2, y3, y4, y5, y6, y7, y8, y9, y10, y11, y12, y13, y14], _ =>
    have g0 : DataW.trod enc Tryd.prog W 0 (fun _ => true) held n 3 [c0] = some y0 := by simpa [Value.cells, k0, k1, k2] using hel 0 _ rfl
    have g1 : DataW.trod enc Tryd.prog W 0 (fun _ => true) held n 3 [c1] = some y1 := by simpa [Value.cells, k0, k1, k2] using hel 1 _ rfl
    have g2 : DataW.trod enc Tryd.prog W 0 (fun _ => true) held n 3 [c2] = some y2 := by simpa [Value.cells, k0, k1, k2] using hel 2 _ rfl
    have g3 : DataW.trod enc Tryd.prog W 0 (fun _ => true) held n 3 [c3] = some y3 := by simpa [Value.cells, k0, k1, k2] using hel 3 _ rfl
    have g4 : DataW.trod enc Tryd.prog W 0 (fun _ => true) held n 3 [c4] = some y4 := by simpa [Value.cells, k0, k1, k2] using hel 4 _ rfl
    have g5 : DataW.trod enc Tryd.prog W 0 (fun _ => true) held n 3 [c5] = some y5 := by simpa [Value.cells, k0, k1, k2] using hel 5 _ rfl
    have g6 : DataW.trod enc Tryd.prog W 0 (fun _ => true) held n 3 [c6] = some y6 := by simpa [Value.cells, k0, k1, k2] using hel 6 _ rfl
    have g7 : DataW.trod enc Tryd.prog W 0 (fun _ => true) held n 3 [c7] = some y7 := by simpa [Value.cells, k0, k1, k2] using hel 7 _ rfl
    have g8 : DataW.trod enc Tryd.prog W 0 (fun _ => true) held n 3 [c8] = some y8 := by simpa [Value.cells, k0, k1, k2] using hel 8 _ rfl
    have g9 : DataW.trod enc Tryd.prog W 0 (fun _ => true) held n 3 [c9] = some y9 := by simpa [Value.cells, k0, k1, k2] using hel 9 _ rfl
    have g10 : DataW.trod enc Tryd.prog W 0 (fun _ => true) held n 3 [c10] = some y10 := by simpa [Value.cells, k0, k1, k2] using hel 10 _ rfl
    have g11 : DataW.trod enc Tryd.prog W 0 (fun _ => true) held n 3 [c11] = some y11 := by simpa [Value.cells, k0, k1, k2] using hel 11 _ rfl
    have g12 : DataW.trod enc Tryd.prog W 0 (fun _ => true) held n 3 [c12] = some y12 := by simpa [Value.cells, k0, k1, k2] using hel 12 _ rfl
    have g13 : DataW.trod enc Tryd.prog W 0 (fun _ => true) held n 4 [c13] = some y13 := by simpa [Value.cells, k0, k1, k2] using hel 13 _ rfl
    have g14 : DataW.trod enc Tryd.prog W 0 (fun _ => true) held n 22 [c14] = some y14 := by simpa [Value.cells, k0, k1, k2] using hel 14 _ rfl
    obtain ⟨z0, e0, _, w0⟩ := DataW.trod_int Tryd.underlying3 g0
    obtain ⟨z1, e1, _, w1⟩ := DataW.trod_int Tryd.underlying3 g1
    obtain ⟨z2, e2, _, w2⟩ := DataW.trod_int Tryd.underlying3 g2
    obtain ⟨z3, e3, _, w3⟩ := DataW.trod_int Tryd.underlying3 g3
    obtain ⟨z4, e4, _, w4⟩ := DataW.trod_int Tryd.underlying3 g4
    obtain ⟨z5, e5, _, w5⟩ := DataW.trod_int Tryd.underlying3 g5
    obtain ⟨z6, e6, _, w6⟩ := DataW.trod_int Tryd.underlying3 g6
    obtain ⟨z7, e7, _, w7⟩ := DataW.trod_int Tryd.underlying3 g7
    obtain ⟨z8, e8, _, w8⟩ := DataW.trod_int Tryd.underlying3 g8
    obtain ⟨z9, e9, _, w9⟩ := DataW.trod_int Tryd.underlying3 g9
    obtain ⟨z10, e10, _, w10⟩ := DataW.trod_int Tryd.underlying3 g10
    obtain ⟨z11, e11, _, w11⟩ := DataW.trod_int Tryd.underlying3 g11
    obtain ⟨z12, e12, _, w12⟩ := DataW.trod_int Tryd.underlying3 g12
    obtain ⟨z13, e13, _⟩ := DataW.trod_bool Tryd.underlying4 g13
    obtain ⟨A, m, k, zs, e14, hr, hc, hm⟩ := open_intsC g14
    simp only [List.cons.injEq, and_true] at e0 e1 e2 e3 e4 e5 e6 e7 e8 e9 e10 e11 e12 e13
    exact ⟨⟨z0, z1, z2, z3, z4, z5, z6, z7, z8, z9, z10, z11, z12, z13, A, m, k, zs⟩, by rw [e0, e1, e2, e3, e4, e5, e6, e7, e8, e9, e10, e11, e12, e13, e14], ⟨hr, hc, hm⟩⟩
set_option maxRecDepth 100000 in
set_option maxHeartbeats 1000000 in
theorem open_itsC {f : Nat} {y : DataW H × List MemPlace} (h : DataW.trod enc Tryd.prog W 0 (fun _ => true) held f 25 [v] = some y) : ∃ A m c l, v = .slice A m c ∧ RdI W W.heap.size A m l ∧ m ≤ maxLen ∧ m ≤ c ∧ ∀ x ∈ l, True :=
  open_rowF (f := It.vs) (P := fun _ => True) Tryd.underlying25 (size := 4) (by kernel_rfl) (by decide) It.vs_len (fun fu c y hc hy => open_itC hc hy) h
/-- What is true of a brain that is handed in. -/
structure BrAny (W : World) (p : Br) (a : Ad) : Prop where
  rd : RdB_ W W.heap.size p a
  ep : -9223372036854775808 ≤ p.ep
  sq : -9223372036854775808 ≤ p.sq
  ph : ∀ x ∈ p.kps, 0 ≤ x.phase
set_option maxRecDepth 100000 in
set_option maxHeartbeats 1000000 in
theorem open_brC {f : Nat} {c : List Value} {y : DataW H × List MemPlace} (hsz : c.length = 27) (h : DataW.trod enc Tryd.prog W 0 (fun _ => true) held f 30 c = some y) : ∃ (p : Br) (a : Ad), c = (brC p a).toList ∧ BrAny W p a := by
  have k0 : Tryd.prog.cellsOf 3 = 1 := by kernel_rfl
  have k1 : Tryd.prog.cellsOf 4 = 1 := by kernel_rfl
  have k2 : Tryd.prog.cellsOf 24 = 15 := by kernel_rfl
  have k3 : Tryd.prog.cellsOf 25 = 1 := by kernel_rfl
  have k4 : Tryd.prog.cellsOf 26 = 1 := by kernel_rfl
  have k5 : Tryd.prog.cellsOf 28 = 7 := by kernel_rfl
  obtain ⟨xs, n, _, _, _, hlen, hel⟩ := DataW.trod_struct Tryd.underlying30 h
  match c, hsz, xs, hlen with
  | [c0, c1, c2, c3, c4, c5, c6, c7, c8, c9, c10, c11, c12, c13, c14, c15, c16, c17, c18, c19, c20, c21, c22, c23, c24, c25, c26], _, [y0, y1, y2, y3, y4, y5, y6], _ =>
    have g0 : DataW.trod enc Tryd.prog W 0 (fun _ => true) held n 3 [c0] = some y0 := by simpa [Value.cells, k0, k1, k2, k3, k4, k5] using hel 0 _ rfl
    have g1 : DataW.trod enc Tryd.prog W 0 (fun _ => true) held n 3 [c1] = some y1 := by simpa [Value.cells, k0, k1, k2, k3, k4, k5] using hel 1 _ rfl
    have g2 : DataW.trod enc Tryd.prog W 0 (fun _ => true) held n 4 [c2] = some y2 := by simpa [Value.cells, k0, k1, k2, k3, k4, k5] using hel 2 _ rfl
    have g3 : DataW.trod enc Tryd.prog W 0 (fun _ => true) held n 24 [c3, c4, c5, c6, c7, c8, c9, c10, c11, c12, c13, c14, c15, c16, c17] = some y3 := by simpa [Value.cells, k0, k1, k2, k3, k4, k5] using hel 3 _ rfl
    have g4 : DataW.trod enc Tryd.prog W 0 (fun _ => true) held n 25 [c18] = some y4 := by simpa [Value.cells, k0, k1, k2, k3, k4, k5] using hel 4 _ rfl
    have g5 : DataW.trod enc Tryd.prog W 0 (fun _ => true) held n 26 [c19] = some y5 := by simpa [Value.cells, k0, k1, k2, k3, k4, k5] using hel 5 _ rfl
    have g6 : DataW.trod enc Tryd.prog W 0 (fun _ => true) held n 28 [c20, c21, c22, c23, c24, c25, c26] = some y6 := by simpa [Value.cells, k0, k1, k2, k3, k4, k5] using hel 6 _ rfl
    obtain ⟨z0, e0, _, w0⟩ := DataW.trod_int Tryd.underlying3 g0
    obtain ⟨z1, e1, _, w1⟩ := DataW.trod_int Tryd.underlying3 g1
    obtain ⟨z2, e2, _⟩ := DataW.trod_bool Tryd.underlying4 g2
    obtain ⟨x, ex, hL⟩ := open_cfC (by rfl) g3
    obtain ⟨A, m, k, li, e4, hi, _, hik, _⟩ := open_itsC g4
    obtain ⟨B, m2, kk, lk, e5, hkp, _, hkk, hph⟩ := open_kpsC g5
    obtain ⟨r, er⟩ := open_rfC (by rfl) g6
    simp only [List.cons.injEq, and_true] at e0 e1 e2
    have hms : x.ms.length = x.n := by have := hL.rd.1; rwa [iv_length] at this
    have hli : li.length = m := hi.1
    have hlk : lk.length = m2 := hkp.1
    simp only [List.cons.injEq, and_true] at ex er
    obtain ⟨q0, q1, q2, q3, q4, q5, q6, q7, q8, q9, q10, q11, q12, q13, q14⟩ := ex
    obtain ⟨r0, r1, r2, r3, r4, r5, r6⟩ := er
    refine ⟨⟨z0, z1, z2, { x with A := none, n := 0, c := 0 }, li, lk, r⟩, ⟨x.A, x.c, A, k, B, kk⟩, ?_, ⟨?_, ?_, ?_, ?_, ?_, ?_, ?_⟩, i64_lo w0, i64_lo w1, hph⟩
    · rw [e0, e1, e2, e4, e5, q0, q1, q2, q3, q4, q5, q6, q7, q8, q9, q10, q11, q12, q13, q14, r0, r1, r2, r3, r4, r5, r6, ← hms, ← hli, ← hlk]
    · show Rd W W.heap.size x.A x.ms.length (iv x.ms)
      rw [hms]; exact hL.rd
    · show RdI W W.heap.size A li.length li
      rw [hli]; exact hi
    · show RdK W W.heap.size B lk.length lk
      rw [hlk]; exact hkp
    · show x.ms.length ≤ x.c
      rw [hms]; exact hL.cap
    · exact hL.max
    · show li.length ≤ k
      omega
    · show lk.length ≤ kk
      omega
set_option maxRecDepth 100000 in
/-- A brain, as it is handed over. -/
theorem open_brV (hv : Value.okWide Tryd.prog W .any base 30 v) (h : DataW.Trod enc Tryd.prog W 0 (fun _ => true) held 30 v d p) : ∃ (q : Br) (a : Ad), v = brV q a ∧ BrAny W q a := by
  obtain ⟨cs, rfl, hsz⟩ := okWide_struct Tryd.underlying30 hv
  have hC : Tryd.prog.cellsOf 30 = 27 := by kernel_rfl
  rw [hC] at hsz
  obtain ⟨l⟩ := cs
  obtain ⟨fuel, hf⟩ := h
  obtain ⟨q, a, e, h1⟩ := open_brC (c := l) (by simpa using hsz) (by simpa [Value.cells] using hf)
  exact ⟨q, a, by rw [e], h1⟩
def ReOk (W : World) (x : RE) : Prop := x.k < 256 ∧ Rd W W.heap.size x.A x.n (iv x.zs) ∧ x.n ≤ x.c ∧ x.c ≤ maxLen
set_option maxRecDepth 100000 in
set_option maxHeartbeats 1000000 in
theorem open_reC {f : Nat} {c : List Value} {y : DataW H × List MemPlace} (hsz : c.length = 2) (h : DataW.trod enc Tryd.prog W 0 (fun _ => true) held f 50 c = some y) : ∃ x : RE, c = recF x ∧ ReOk W x := by
  have k0 : Tryd.prog.cellsOf 5 = 1 := by kernel_rfl
  have k1 : Tryd.prog.cellsOf 22 = 1 := by kernel_rfl
  obtain ⟨xs, n, _, _, _, hlen, hel⟩ := DataW.trod_struct Tryd.underlying50 h
  match c, hsz, xs, hlen with
  | [c0, c1], _, [y0, y1], _ =>
    have g0 : DataW.trod enc Tryd.prog W 0 (fun _ => true) held n 5 [c0] = some y0 := by simpa [Value.cells, k0, k1] using hel 0 _ rfl
    have g1 : DataW.trod enc Tryd.prog W 0 (fun _ => true) held n 22 [c1] = some y1 := by simpa [Value.cells, k0, k1] using hel 1 _ rfl
    obtain ⟨k, e0, hk⟩ := open_kindC g0
    obtain ⟨A, m, c, zs, e1, hr, hc, hm⟩ := open_intsC g1
    exact ⟨⟨k, A, m, c, zs⟩, by rw [e0, e1]; rfl, hk, hr, hc, hm⟩
set_option maxRecDepth 100000 in
/-- A record, as it is handed over; a slice of them. -/
theorem open_reV (hv : Value.okWide Tryd.prog W .any base 50 v) (h : DataW.Trod enc Tryd.prog W 0 (fun _ => true) held 50 v d p) : ∃ x : RE, v = .agg #[.int .u8 (x.k : Int), .slice x.A x.n x.c] ∧ ReOk W x := by
  obtain ⟨cs, rfl, hsz⟩ := okWide_struct Tryd.underlying50 hv
  have hC : Tryd.prog.cellsOf 50 = 2 := by kernel_rfl
  rw [hC] at hsz
  obtain ⟨l⟩ := cs
  obtain ⟨fuel, hf⟩ := h
  obtain ⟨x, e, h1⟩ := open_reC (c := l) (by simpa using hsz) (by simpa [Value.cells] using hf)
  exact ⟨x, by rw [e]; rfl, h1⟩
end

end Go.Proofs.YtplejbgecihnpaaDoor

/-
  What statements over groups are handed: groups, opened; and the table of bounds as the statement's premise tells it. Conditions: those that each theorem names.
-/
namespace Go.Proofs.YtplejbgecihnpaaDoor
open Go.RowKit Go.Shelf Go.ChangeShapes Go.WideShapes Go.Deep Go.Joins

section
variable {H : Type} {enc : TypeId × Value → H} {W : World} {base : Nat} {held : Bool} {d : DataW H} {p : List MemPlace} {v : Value}

set_option maxRecDepth 100000 in
theorem open_intK {n : Nat} {y : Option (DataW H × List MemPlace)} {c : Value} (h : DataW.trod enc Tryd.prog W 0 (fun _ => true) held n 3 [c] = y) (hy : y.isSome = true) : ∃ z : Int, c = .int .i64 z := by
  cases y with
  | none => cases hy
  | some y =>
    obtain ⟨z, hz, _, _⟩ := DataW.trod_int Tryd.underlying3 h
    simp only [List.cons.injEq, and_true] at hz
    exact ⟨z, hz⟩

set_option maxRecDepth 100000 in
/-- A group, as it is handed over. -/
theorem open_confV (hv : Value.okWide Tryd.prog W .any base 24 v) (h : DataW.Trod enc Tryd.prog W 0 (fun _ => true) held 24 v d p) : ∃ x : Cf, v = x.v ∧ Lies x W W.heap.size := by
  obtain ⟨cs, rfl, hsz⟩ := okWide_struct Tryd.underlying24 hv
  have hC : Tryd.prog.cellsOf 24 = 15 := by kernel_rfl
  have k1 : Tryd.prog.cellsOf 3 = 1 := by kernel_rfl
  have k2 : Tryd.prog.cellsOf 4 = 1 := by kernel_rfl
  have k3 : Tryd.prog.cellsOf 22 = 1 := by kernel_rfl
  obtain ⟨fuel, hf⟩ := h
  obtain ⟨xs, n, _, _, _, hlen, hel⟩ := DataW.trod_struct Tryd.underlying24 hf
  rw [hC] at hsz
  obtain ⟨l⟩ := cs
  match l, hsz with
  | [c0, c1, c2, c3, c4, c5, c6, c7, c8, c9, c10, c11, c12, c13, c14], _ =>
    match xs, hlen with
    | [y0, y1, y2, y3, y4, y5, y6, y7, y8, y9, y10, y11, y12, y13, y14], _ =>
      have g0 : DataW.trod enc Tryd.prog W 0 (fun _ => true) held n 3 [c0] = some y0 := by simpa [Value.cells, k1] using hel 0 _ rfl
      have g1 : DataW.trod enc Tryd.prog W 0 (fun _ => true) held n 3 [c1] = some y1 := by simpa [Value.cells, k1] using hel 1 _ rfl
      have g2 : DataW.trod enc Tryd.prog W 0 (fun _ => true) held n 3 [c2] = some y2 := by simpa [Value.cells, k1] using hel 2 _ rfl
      have g3 : DataW.trod enc Tryd.prog W 0 (fun _ => true) held n 3 [c3] = some y3 := by simpa [Value.cells, k1] using hel 3 _ rfl
      have g4 : DataW.trod enc Tryd.prog W 0 (fun _ => true) held n 3 [c4] = some y4 := by simpa [Value.cells, k1] using hel 4 _ rfl
      have g5 : DataW.trod enc Tryd.prog W 0 (fun _ => true) held n 3 [c5] = some y5 := by simpa [Value.cells, k1] using hel 5 _ rfl
      have g6 : DataW.trod enc Tryd.prog W 0 (fun _ => true) held n 3 [c6] = some y6 := by simpa [Value.cells, k1] using hel 6 _ rfl
      have g7 : DataW.trod enc Tryd.prog W 0 (fun _ => true) held n 3 [c7] = some y7 := by simpa [Value.cells, k1] using hel 7 _ rfl
      have g8 : DataW.trod enc Tryd.prog W 0 (fun _ => true) held n 3 [c8] = some y8 := by simpa [Value.cells, k1] using hel 8 _ rfl
      have g9 : DataW.trod enc Tryd.prog W 0 (fun _ => true) held n 3 [c9] = some y9 := by simpa [Value.cells, k1] using hel 9 _ rfl
      have g10 : DataW.trod enc Tryd.prog W 0 (fun _ => true) held n 3 [c10] = some y10 := by simpa [Value.cells, k1] using hel 10 _ rfl
      have g11 : DataW.trod enc Tryd.prog W 0 (fun _ => true) held n 3 [c11] = some y11 := by simpa [Value.cells, k1] using hel 11 _ rfl
      have g12 : DataW.trod enc Tryd.prog W 0 (fun _ => true) held n 3 [c12] = some y12 := by simpa [Value.cells, k1] using hel 12 _ rfl
      have g13 : DataW.trod enc Tryd.prog W 0 (fun _ => true) held n 4 [c13] = some y13 := by simpa [Value.cells, k2] using hel 13 _ rfl
      have g14 : DataW.trod enc Tryd.prog W 0 (fun _ => true) held n 22 [c14] = some y14 := by simpa [Value.cells, k3] using hel 14 _ rfl
      obtain ⟨z0, e0, _, _⟩ := DataW.trod_int Tryd.underlying3 g0
      obtain ⟨z1, e1, _, _⟩ := DataW.trod_int Tryd.underlying3 g1
      obtain ⟨z2, e2, _, _⟩ := DataW.trod_int Tryd.underlying3 g2
      obtain ⟨z3, e3, _, _⟩ := DataW.trod_int Tryd.underlying3 g3
      obtain ⟨z4, e4, _, _⟩ := DataW.trod_int Tryd.underlying3 g4
      obtain ⟨z5, e5, _, _⟩ := DataW.trod_int Tryd.underlying3 g5
      obtain ⟨z6, e6, _, _⟩ := DataW.trod_int Tryd.underlying3 g6
      obtain ⟨z7, e7, _, _⟩ := DataW.trod_int Tryd.underlying3 g7
      obtain ⟨z8, e8, _, _⟩ := DataW.trod_int Tryd.underlying3 g8
      obtain ⟨z9, e9, _, _⟩ := DataW.trod_int Tryd.underlying3 g9
      obtain ⟨z10, e10, _, _⟩ := DataW.trod_int Tryd.underlying3 g10
      obtain ⟨z11, e11, _, _⟩ := DataW.trod_int Tryd.underlying3 g11
      obtain ⟨z12, e12, _, _⟩ := DataW.trod_int Tryd.underlying3 g12
      obtain ⟨sk, e13, _⟩ := DataW.trod_bool Tryd.underlying4 g13
      obtain ⟨A, m, c, zs, e14, hr, hc, hm⟩ := open_intsC g14
      simp only [List.cons.injEq, and_true] at e0 e1 e2 e3 e4 e5 e6 e7 e8 e9 e10 e11 e12 e13
      exact ⟨⟨z0, z1, z2, z3, z4, z5, z6, z7, z8, z9, z10, z11, z12, sk, A, m, c, zs⟩, by rw [e0, e1, e2, e3, e4, e5, e6, e7, e8, e9, e10, e11, e12, e13, e14], ⟨hr, hc, hm⟩⟩

end

end Go.Proofs.YtplejbgecihnpaaDoor

/-
  The table of bounds, as a statement's premise on the package's variable tells it. Conditions: those that each theorem names.
-/
namespace Go.Proofs.YtplejbgecihnpaaDoor
open Go.RowKit Go.Shelf Go.ChangeShapes Go.WideShapes Go.ChangeAt

set_option maxRecDepth 100000 in
theorem gBounds : Tryd.prog.globalNamed "herd/conf.bounds" = some 0 := by kernel_rfl
set_option maxRecDepth 100000 in
theorem tBounds : (Tryd.prog.globals[0]?).map (·.type) = some 87 := by kernel_rfl

/-- The datum, element by element. -/
def bD (i : Nat) : DataW Unit := .agg [.lit (.int .i64 (loB i)), .lit (.int .i64 (hiB i))]
set_option maxRecDepth 100000 in
theorem laid_list : (Rows.laid_herd_conf_bounds : DataW Unit) = .agg ((List.range 13).map bD) := rfl

set_option maxRecDepth 100000 in
theorem tab_of_laid {W : World} (h : laidMetH Tryd.prog [("herd/conf.bounds", Rows.laid_herd_conf_bounds)] W) : Tab W := by
  rw [MakeChecks.laidMetH_plain _ _ _ (by kernel_rfl)] at h
  obtain ⟨ps, ⟨g0, t0, cs0, f0, p0, q0, hg0, ht0, hv0, hd0, _, _⟩, _, _⟩ := h
  obtain rfl := Option.some.inj (gBounds.symm.trans hg0)
  obtain rfl := Option.some.inj (tBounds.symm.trans ht0)
  obtain ⟨xs, m1, rfl, hx1, hlen, hn3, hel⟩ := DataW.trod_array Tryd.underlying87 hd0
  rw [laid_list] at hx1
  simp only [Prod.mk.injEq, DataW.agg.injEq] at hx1
  have cC : Tryd.prog.cellsOf 86 = 2 := by kernel_rfl
  have c3 : Tryd.prog.cellsOf 3 = 1 := by kernel_rfl
  have each : ∀ k, k < 13 → W.cell? ⟨0, k * 2, none⟩ = some (.int .i64 (loB k)) ∧ W.cell? ⟨0, k * 2 + 1, none⟩ = some (.int .i64 (hiB k)) := by
    intro k hk
    obtain ⟨y, hy⟩ : ∃ y, xs[k]? = some y := ⟨_, List.getElem?_eq_getElem (by omega)⟩
    have e1 : bD k = y.1 := by
      have := congrArg (fun l : List (DataW Unit) => l[k]?) hx1.1
      simpa [hy, hk] using this
    have h1 := hel k hk
    rw [cC, hy] at h1
    obtain ⟨u0, u1, m, hx, _, k0, k1⟩ := trod_struct2 Tryd.underlying86 h1
    obtain ⟨z0, e0, r0, _⟩ := DataW.trod_int Tryd.underlying3 k0
    obtain ⟨z1, e2, r1, _⟩ := DataW.trod_int Tryd.underlying3 k1
    rw [hx, r0, r1] at e1
    simp only [bD, DataW.agg.injEq, List.cons.injEq, DataW.lit.injEq, Lit.int.injEq, true_and, and_true] at e1
    obtain ⟨q0, q1⟩ := e1
    have v0 := World.var?_cell hg0 hv0 (k * 2)
    have v1 := World.var?_cell hg0 hv0 (k * 2 + 1)
    have a0 := congrArg (fun l : List Value => l[0]?) e0
    have a1 := congrArg (fun l : List Value => l[0]?) e2
    rw [c3] at a0 a1
    simp [List.getElem?_drop] at a0 a1
    rw [q0, q1]
    exact ⟨v0.trans a0, v1.trans a1⟩
  exact ⟨World.block_lt_of_cell? W _ (each 0 (by omega)).1, each⟩

end Go.Proofs.YtplejbgecihnpaaDoor

/-
  A launch that is meant, as statements are handed it: opened. Conditions: those that each theorem names.
-/
namespace Go.Proofs.YtplejbgecihnpaaDoor
open Go.RowKit Go.Shelf Go.ChangeShapes Go.WideShapes Go.Deep Go.Joins

section
variable {H : Type} {enc : TypeId × Value → H} {W : World} {base : Nat} {held : Bool} {d : DataW H} {p : List MemPlace} {v : Value}
set_option maxRecDepth 100000 in
set_option maxHeartbeats 1000000 in
theorem open_itV (hv : Value.okWide Tryd.prog W .any base 34 v) (h : DataW.Trod enc Tryd.prog W 0 (fun _ => true) held 34 v d p) : ∃ x : It, v = .agg #[.int .i64 x.tok, .int .i64 x.ver, .int .i64 x.zone, .bool x.warm] := by
  obtain ⟨cs, rfl, hsz⟩ := okWide_struct Tryd.underlying34 hv
  have hC : Tryd.prog.cellsOf 34 = 4 := by kernel_rfl
  rw [hC] at hsz
  obtain ⟨l⟩ := cs
  obtain ⟨fuel, hf⟩ := h
  obtain ⟨x, e, _⟩ := open_itC (c := l) (by simpa using hsz) (by simpa [Value.cells] using hf)
  exact ⟨x, by rw [e]; rfl⟩
end

end Go.Proofs.YtplejbgecihnpaaDoor
