/-
  Rows of bytes of the call's own, in a slice of its own: what they read as, one more behind them. Conditions: those that each theorem names.
-/
import Derived.Test.YtocleikdabclkaaRowsB
namespace Go.Proofs.Ytocleikdabclkaa
open Go.RowKit Go.Shelf

def BE.val (x : BE) : Value := .slice x.A x.n x.c
/-- Slice v of the call's own holds slices of the call's own, which read as the rows l. -/
def RowsAt (base : Nat) (w : World) (v : Value) (l : List (List Nat)) : Prop :=
  ∃ es : List BE, w.ownsRow base 22 1 v l.length (es.map BE.val) ∧ es.map (·.bs) = l ∧ ∀ x ∈ es, w.ownsRow base 5 1 x.val x.n (bv x.bs)

theorem RowsAt.nil_ (base : Nat) (w : World) : RowsAt base w (.slice none 0 0) [] := ⟨[], World.ownsRow_nil _ _ _ _, rfl, by simp⟩
theorem RowsAt.form {base : Nat} {w : World} {v : Value} {l : List (List Nat)} (h : RowsAt base w v l) : ∃ A c, v = .slice A l.length c := by
  obtain ⟨es, h1, _⟩ := h
  exact own_form h1
theorem RowsAt.under {base : Nat} {w w' : World} {v : Value} {l : List (List Nat)} (h : RowsAt base w v l) (hb : Below w.heap.size w w') : RowsAt base w' v l := by
  obtain ⟨es, h1, h2, h3⟩ := h
  exact ⟨es, own_under h1 hb, h2, fun x hx => own_under (h3 x hx) hb⟩
theorem RowsAt.weaker {base base' : Nat} {w : World} {v : Value} {l : List (List Nat)} (h : RowsAt base' w v l) (hb : base ≤ base') : RowsAt base w v l := by
  obtain ⟨es, h1, h2, h3⟩ := h
  exact ⟨es, own_weaker h1 hb, h2, fun x hx => own_weaker (h3 x hx) hb⟩
theorem RowsAt.turn {base : Nat} {w w' : World} {v : Value} {l : List (List Nat)} {row : Option Nat} (h : RowsAt base w v l) (hg : w.grownBy w' row) (hr : ∀ r, row = some r → ∃ o : Obj, w.heap[r]? = some o ∧ o.isCells = false) : RowsAt base w' v l := by
  obtain ⟨es, h1, h2, h3⟩ := h
  exact ⟨es, own_turn h1 hg hr, h2, fun x hx => own_turn (h3 x hx) hg hr⟩
/-- A store into a block of another type. -/
theorem RowsAt.far {base : Nat} {w : World} {v : Value} {l : List (List Nat)} (h : RowsAt base w v l) {b : Nat} {t : TypeId} {cs : Array Value} (hw : Whole w b t cs) (h1 : 22 ≠ t) (h2 : 5 ≠ t) (i : Nat) (u : Value) : RowsAt base (w.setCell ⟨b, i, none⟩ u) v l := by
  obtain ⟨es, g1, g2, g3⟩ := h
  exact ⟨es, ownsRow_setCell_other (a := ⟨b, i, none⟩) g1 (own_apart_of h1 g1 hw) u, g2, fun x hx => ownsRow_setCell_other (a := ⟨b, i, none⟩) (g3 x hx) (own_apart_of h2 (g3 x hx) hw) u⟩
/-- As a slice of rows that is read. -/
theorem RowsAt.read {base : Nat} {w : World} {A : Option Addr} {c : Nat} {l : List (List Nat)} (h : RowsAt base w (.slice A l.length c) l) (hb : ∀ x ∈ l, ∀ y ∈ x, y < 256) : ∃ es : List BE, es.map (·.bs) = l ∧ RdB w w.heap.size A l.length es := by
  obtain ⟨es, h1, h2, h3⟩ := h
  have hl : es.length = l.length := by rw [← h2, List.length_map]
  refine ⟨es, h2, hl, fun hn => ?_, fun x hx => ?_⟩
  · obtain ⟨g, cap, hv, _, hlt⟩ := h1.form hn
    injection hv with hA _ hc
    subst hA
    refine ⟨g, 0, rfl, hlt, fun j x hx => ?_⟩
    rw [Nat.zero_add]
    have hj : j < es.length := (List.getElem?_eq_some_iff.1 hx).1
    rw [h1.cellAt j (by omega), List.getElem?_map, hx]
    rfl
  · exact ⟨Rd.of_own (h3 x hx), hb x.bs (by rw [← h2]; exact List.mem_map_of_mem hx), own_cap (h3 x hx), own_capm (h3 x hx)⟩

theorem info_row : (Try.prog.info? 22).map (fun i => (i.zero, i.size, i.bytes)) = some (some (.slice none 0 0), 1, 24) := by kernel_rfl

/-- 'append(v, x)' of one slice more. -/
theorem rows_app (w : World) (base : Nat) (v : Value) (l : List (List Nat)) (h : RowsAt base w v l) (bl : Nat) (A : Option Addr) (n c : Nat) (bs : List Nat) (hlit : w.cell? ⟨bl, 0, none⟩ = some (.slice A n c)) (hown : w.ownsRow base 5 1 (.slice A n c) n (bv bs)) (hm : l.length ≤ 1000000) (hbase : base ≤ w.heap.size) :
    ∃ A' c' w', (Builtin.append_ #[29, 29] 29 #[v, .slice (some ⟨bl, 0, none⟩) 1 1]).run Try.prog w = .ok (.slice A' (l.length + 1) c') w' ∧ RowsAt base w' (.slice A' (l.length + 1) c') (l ++ [bs]) ∧ w.grownBy w' v.ownBlock ∧ (∀ b t cs, Whole w b t cs → 22 ≠ t → Whole w' b t cs) := by
  obtain ⟨i0, hi, hz0, hz1, hz2⟩ := info_parts info_row
  obtain ⟨es, h1, h2, h3⟩ := h
  obtain ⟨v', w', g1, g2, g3, _⟩ := run_append_own (P := Try.prog) w base 29 29 22 i0 (.slice none 0 0) 1 24 Try.underlying29 hi hz0 hz1 hz2 rfl (by decide) v l.length _ h1 ⟨bl, 0, none⟩ 1 1 [.slice A n c] rfl (by
    intro j u hu
    match j, hu with
    | 0, hu => simp at hu; subst hu; simpa [Addr.add] using hlit
    | j + 1, hu => simp at hu) (by simp [Value.oneCell']) (by unfold maxLen; omega) (by omega) hbase
  obtain ⟨A', c', rfl⟩ := own_form g2
  have keepB : ∀ {m : Nat} {u : Value} {xs : List Value}, w.ownsRow base 5 1 u m xs → w'.ownsRow base 5 1 u m xs := by
    intro m u xs hu
    refine hu.kept g3 ?_
    rcases hu.2 with ⟨rfl, _⟩ | ⟨g, cap, cur, rfl, _, hg, _⟩
    · exact .inl rfl
    · right
      intro e
      rcases h1.2 with ⟨rfl, _⟩ | ⟨g', cap', cur', rfl, _, hg', _⟩
      · simp [Value.ownBlock] at e
      · simp only [Value.ownBlock, Option.some.injEq] at e
        subst e
        rw [hg] at hg'
        injection hg' with hg'
        injection hg' with _ h5 _
        exact absurd h5 (by decide)
  refine ⟨A', c', w', g1, ⟨es ++ [⟨A, n, c, bs⟩], ?_, by simp [h2], fun x hx => ?_⟩, g3, fun b t cs hw hne => hw.grown g3 (Ne.symm (own_apart_of hne h1 hw))⟩
  · rw [List.length_append, List.length_singleton, List.map_append]; exact g2
  · simp only [List.mem_append, List.mem_singleton] at hx
    rcases hx with hx | rfl
    · exact keepB (h3 x hx)
    · exact keepB hown

end Go.Proofs.Ytocleikdabclkaa
