/-
  Memory that is written into, from a size of the heap on: what lies below stands, and the forms of rows stand. Conditions: those that each theorem names.
-/
import Derived.Test.YtcbbjloojngoiaaNtLawKit
import Derived.Test.YtcbbjloojngoiaaRegT
namespace Go.Proofs.Ytcbbjloojngoiaa
open Go.RowKit Go.Shelf

/-- Below base all stands; from base on, each block keeps its type and its size, a way's box its cells, a row of tells what each saw. -/
structure Harm (base : Nat) (V V' : World) : Prop where
  le : base ≤ V.heap.size
  be : Below base V V'
  ke : ∀ (g : Nat) (cur : Array Value) (t : TypeId), base ≤ g → V.heap[g]? = some (.cells cur t (0, 0)) → ∃ cur' : Array Value, V'.heap[g]? = some (.cells cur' t (0, 0)) ∧ cur'.size = cur.size ∧ (t = 25 → cur' = cur) ∧ (t = 30 → ∀ o, o % 6 = 4 → cur'[o]? = cur[o]?)
section
variable {base : Nat} {V V' V'' : World}
theorem Harm.refl (h : base ≤ V.heap.size) : Harm base V V := ⟨h, Below.refl _ _, fun _ cur _ _ h => ⟨cur, h, rfl, fun _ => rfl, fun _ _ _ => rfl⟩⟩
theorem Harm.le' (h : Harm base V V') : base ≤ V'.heap.size := Nat.le_trans h.le h.be.size
theorem Harm.under (h : Harm base V V') (hb : Below V'.heap.size V' V'') : Harm base V V'' :=
  ⟨h.le, h.be.trans (hb.mono h.le'), fun g cur t hg h0 => by
    obtain ⟨c1, k1, k2, k3, k4⟩ := h.ke g cur t hg h0
    exact ⟨c1, (hb.block g (Array.getElem?_eq_some_iff.1 k1).1).trans k1, k2, k3, k4⟩⟩
theorem Harm.set (h : Harm base V V') {g o : Nat} {cur : Array Value} {t : TypeId} (hg : base ≤ g) (hc : V'.heap[g]? = some (.cells cur t (0, 0))) (hn : t ≠ 25) (ht : t = 30 → o % 6 ≠ 4) (v : Value) : Harm base V (V'.setCell ⟨g, o, none⟩ v) :=
  ⟨h.le, (Only.set V' g o v).bel h.be hg, fun g' cur0 t0 hg' h0 => by
    obtain ⟨c1, k1, k2, k3, k4⟩ := h.ke g' cur0 t0 hg' h0
    by_cases e : g' = g
    · subst e
      rw [hc] at k1
      injection k1 with k1
      injection k1 with e1 e2 e3
      subst e1
      subst e2
      refine ⟨cur.setIfInBounds o v, by simp [World.setCell, Array.getElem?_modify, hc], by simpa using k2, fun e => absurd e hn, fun e o' ho' => ?_⟩
      rw [Array.getElem?_setIfInBounds_ne (by intro e1; subst e1; exact ht e ho')]
      exact k4 e o' ho'
    · exact ⟨c1, (Below.heap_setCell V' ⟨g, o, none⟩ v g' e).trans k1, k2, k3, k4⟩⟩
theorem Harm.trans (h : Harm base V V') (k : Harm base V' V'') : Harm base V V'' :=
  ⟨h.le, h.be.trans k.be, fun g cur t hg h0 => by
    obtain ⟨c1, k1, k2, k3, k4⟩ := h.ke g cur t hg h0
    obtain ⟨c2, l1, l2, l3, l4⟩ := k.ke g c1 t hg k1
    exact ⟨c2, l1, l2.trans k2, fun e => (l3 e).trans (k3 e), fun e o ho => (l4 e o ho).trans (k4 e o ho)⟩⟩
theorem Harm.tell (h : Harm base V V') {g o : Nat} {cur : Array Value} (hg : base ≤ g) (hc : V.heap[g]? = some (.cells cur 30 (0, 0))) (ho : o % 6 = 4) : V'.cell? ⟨g, o, none⟩ = V.cell? ⟨g, o, none⟩ := by
  obtain ⟨c1, k1, _, _, k4⟩ := h.ke g cur _ hg hc
  have w1 : Whole V g 30 cur := hc
  have w2 : Whole V' g 30 c1 := k1
  rw [w1.cell, w2.cell, k4 rfl o ho]
theorem Harm.net (h : Harm base V V') {g : Nat} {cs : Array Value} (hg : base ≤ g) (hw : Whole V g 25 cs) : Whole V' g 25 cs := by
  obtain ⟨c1, k1, _, k3, _⟩ := h.ke g cs _ hg hw
  rw [k3 rfl] at k1
  exact k1
end

/-- A row of n of a size, in a block from base on. -/
def RS (V : World) (base : Nat) (t : TypeId) (size : Nat) (A : Option Addr) (n : Nat) : Prop :=
  n = 0 ∨ ∃ g cur, A = some ⟨g, 0, none⟩ ∧ base ≤ g ∧ V.heap[g]? = some (.cells cur t (0, 0)) ∧ n * size ≤ cur.size
/-- A row of n tells, in a block from base on, each with such a row of what it saw. -/
def TS (V : World) (base : Nat) (A : Option Addr) (n : Nat) : Prop :=
  n = 0 ∨ ∃ g cur, A = some ⟨g, 0, none⟩ ∧ base ≤ g ∧ V.heap[g]? = some (.cells cur 30 (0, 0)) ∧ n * 6 ≤ cur.size ∧ ∀ j, j < n → ∃ A' n' c', cur[j * 6 + 4]? = some (.slice A' n' c') ∧ RS V base 51 7 A' n' ∧ n' ≤ 100
section
variable {base : Nat} {V V' : World} {t : TypeId} {size n c : Nat} {A : Option Addr}
theorem RS.of_own {base' : Nat} {xs : List Value} (h : V.ownsRow base' t size (.slice A n c) n xs) (hb : base ≤ base') : RS V base t size A n := by
  rcases h.2 with ⟨_, h1⟩ | ⟨g, cap, cur, h1, h2, h3, h4, _, h5, _⟩
  · exact .inl h1
  · injection h1 with h6 h7 h8
    exact .inr ⟨g, cur, h6, by omega, h3, by rw [h5]; exact Nat.mul_le_mul_right _ h4⟩
theorem RS.harm (h : RS V base t size A n) (k : Harm base V V') : RS V' base t size A n := by
  rcases h with h | ⟨g, cur, h1, h2, h3, h4⟩
  · exact .inl h
  · obtain ⟨c1, k1, k2, _, _⟩ := k.ke g cur t h2 h3
    exact .inr ⟨g, c1, h1, h2, k1, by rw [k2]; exact h4⟩
theorem TS.of {base' : Nat} {L : List Tl} (h : TellsAt base' V (.slice A L.length c) L) (hb : base ≤ base') (hs : ∀ t ∈ L, t.seen.length ≤ 100) : TS V base A L.length := by
  obtain ⟨es, h1, h2, h3⟩ := h
  have hl : es.length = L.length := by rw [← h2, List.length_map]
  rcases h1.2 with ⟨_, h4⟩ | ⟨g, cap, cur, h4, h5, h6, h7, _, h8, h9⟩
  · exact .inl h4
  · injection h4 with k1 k2 k3
    refine .inr ⟨g, cur, k1, by omega, h6, by rw [h8]; exact Nat.mul_le_mul_right _ h7, fun j hj => ?_⟩
    obtain ⟨x, hx⟩ : ∃ x, es[j]? = some x := ⟨_, List.getElem?_eq_getElem (by omega)⟩
    have h10 := flatF_at TE.vs_len hx (i := 4) (by omega)
    rw [← h9, List.getElem?_take_of_lt (by omega)] at h10
    refine ⟨x.A, x.n, x.c, by simpa [TE.vs] using h10, RS.of_own (h3 x (List.mem_of_getElem? hx)) hb, ?_⟩
    have h11 := (RdSn.of_own (h3 x (List.mem_of_getElem? hx))).len
    have h12 := hs x.t (by rw [← h2]; exact List.mem_map_of_mem (List.mem_of_getElem? hx))
    simp only [TE.t] at h12
    omega
theorem TS.harm (h : TS V base A n) (k : Harm base V V') : TS V' base A n := by
  rcases h with h | ⟨g, cur, h1, h2, h3, h4, h5⟩
  · exact .inl h
  · obtain ⟨c1, k1, k2, _, k4⟩ := k.ke g cur _ h2 h3
    refine .inr ⟨g, c1, h1, h2, k1, by rw [k2]; exact h4, fun j hj => ?_⟩
    obtain ⟨A', n', c', e1, e2, e3⟩ := h5 j hj
    exact ⟨A', n', c', (k4 rfl _ (by omega)).trans e1, e2.harm k, e3⟩
/-- A cell of an element of such a row. -/
theorem RS.at (h : RS V base t size A n) {i d : Nat} (hi : i < n) (hd : d < size) : ∃ g cur v, A = some ⟨g, 0, none⟩ ∧ base ≤ g ∧ V.heap[g]? = some (.cells cur t (0, 0)) ∧ V.cell? ⟨g, i * size + d, none⟩ = some v ∧ V.frozen? ⟨g, i * size + d, none⟩ = false := by
  rcases h with h | ⟨g, cur, h1, h2, h3, h4⟩
  · omega
  · have hw : Whole V g t cur := h3
    have hlt : i * size + d < cur.size := by
      have : (i + 1) * size ≤ n * size := Nat.mul_le_mul_right _ hi
      have h5 : (i + 1) * size = i * size + size := Nat.succ_mul i size
      omega
    exact ⟨g, cur, cur[i * size + d], h1, h2, h3, (hw.cell _).trans (Array.getElem?_eq_getElem hlt), hw.frozen _⟩
theorem TS.rs (h : TS V base A n) : RS V base 30 6 A n := by
  rcases h with h | ⟨g, cur, h1, h2, h3, h4, _⟩
  · exact .inl h
  · exact .inr ⟨g, cur, h1, h2, h3, h4⟩
theorem TS.seen (h : TS V base A n) {j : Nat} (hj : j < n) : ∃ g cur A' n' c', A = some ⟨g, 0, none⟩ ∧ base ≤ g ∧ V.heap[g]? = some (.cells cur 30 (0, 0)) ∧ V.cell? ⟨g, j * 6 + 4, none⟩ = some (.slice A' n' c') ∧ RS V base 51 7 A' n' ∧ n' ≤ 100 := by
  rcases h with h | ⟨g, cur, h1, h2, h3, h4, h5⟩
  · omega
  · obtain ⟨A', n', c', e1, e2, e3⟩ := h5 j hj
    have hw : Whole V g 30 cur := h3
    exact ⟨g, cur, A', n', c', h1, h2, h3, (hw.cell _).trans e1, e2, e3⟩
end

/-- A way whose memory may be written into. -/
structure NtS (V : World) (base : Nat) (A : Option Addr) (n : Nat) (A' : Option Addr) (n' : Nat) : Prop where
  ks : RS V base 27 6 A n
  ts : TS V base A' n'
  kn : n ≤ 100
  tn : n' ≤ 100
theorem NtS.of {V : World} {base base' : Nat} {A A' : Option Addr} {c c' : Nat} {s : Nt} (h : NtO base' V A c A' c' s) (hb : base ≤ base') (hf : s.few) : NtS V base A s.ks.length A' s.ts.length :=
  ⟨RS.of_own h.ks hb, TS.of h.ts hb hf.sn, hf.ks, hf.ts⟩
theorem NtS.harm {V V' : World} {base : Nat} {A A' : Option Addr} {n n' : Nat} (h : NtS V base A n A' n') (k : Harm base V V') : NtS V' base A n A' n' := ⟨h.ks.harm k, h.ts.harm k, h.kn, h.tn⟩

end Go.Proofs.Ytcbbjloojngoiaa
