/-
  Texts that the walk of a statement over brains leans on, joined (BrRecRow). Conditions: those that each theorem names.
-/
import Derived.Test.YtdaimejlcfhfiaaGreatDoorKQ
import Derived.Test.YtdaimejlcfhfiaaGreatDoorK20
import Derived.Maps.AppendAt
set_option maxRecDepth 100000

namespace Go.Proofs.YtdaimejlcfhfiaaGreatDoor
open Go.RowKit Go.Shelf

theorem info_recR : (Tryz.prog.info? 32).map (fun i => (i.zero, i.size, i.bytes)) = some (some (.agg #[.int .u8 0, .slice none 0 0]), 2, 32) := by kernel_rfl
theorem RdR.rows {w : World} {B n : Nat} {A : Option Addr} {l : List RE} (h : RdR w B A n l) : RdF 2 recF w B A n l :=
  ⟨h.1, fun hn => by
    obtain ⟨b, off, e, hlt, hc⟩ := h.2.1 hn
    refine ⟨b, off, e, hlt, fun j x hx i hi => ?_⟩
    match i, hi with
    | 0, _ => exact (hc j x hx).1
    | 1, _ => exact (hc j x hx).2⟩
/-- A cell laid behind an own row's end leaves the row. -/
theorem own_pastC {w : World} {base size m g k : Nat} {e : TypeId} {v : Value} {xs : List Value} (h : w.ownsRow base e size v m xs) (hm : m * size ≤ k) (u : Value) : (w.setCell ⟨g, k, none⟩ u).ownsRow base e size v m xs := by
  by_cases hg : v.ownBlock = some g
  · obtain ⟨h1, h2⟩ := h
    refine ⟨h1, ?_⟩
    rcases h2 with ⟨h2, h3⟩ | ⟨g', cap, cur, rfl, hb, hg', h3, h4, h5, h6⟩
    · exact .inl ⟨h2, h3⟩
    · simp only [Value.ownBlock, Option.some.injEq] at hg
      subst hg
      refine .inr ⟨g', cap, cur.setIfInBounds k u, rfl, hb, Whole.set (w := w) (cs := cur) hg' k u, h3, h4, by rw [Array.size_setIfInBounds]; exact h5, ?_⟩
      rw [Array.toList_setIfInBounds, List.take_set, h6, List.set_eq_of_length_le (by rw [h1]; exact hm)]
  · exact ownsRow_setCell_other h hg u
theorem own_pasts {base size m g : Nat} {e : TypeId} {v : Value} {xs : List Value} : ∀ (us : List Value) {w : World} {k : Nat}, w.ownsRow base e size v m xs → m * size ≤ k → (w.setCells g k us).ownsRow base e size v m xs
  | [], _, _, h, _ => h
  | u :: us, _, _, h, hm => own_pasts us (own_pastC h hm u) (by omega)
theorem whole_pasts {b g : Nat} {t : TypeId} {cs : Array Value} (hne : b ≠ g) : ∀ (us : List Value) {w : World} {k : Nat}, Whole w b t cs → Whole (w.setCells g k us) b t cs
  | [], _, _, h => h
  | u :: us, _, k, h => whole_pasts hne us (h.far (p := ⟨g, k, none⟩) hne u)
theorem below_pasts {B g : Nat} (hg : B ≤ g) : ∀ (us : List Value) {w w' : World} {k : Nat}, Below B w w' → Below B w (w'.setCells g k us)
  | [], _, _, _, h => h
  | u :: us, _, _, k, h => below_pasts hg us (h.setCell (p := ⟨g, k, none⟩) hg u)
theorem whole_ne {w : World} {b b' : Nat} {t t' : TypeId} {cs cs' : Array Value} (h : Whole w b t cs) (h' : Whole w b' t' cs') (hne : t ≠ t') : b ≠ b' := by
  intro e
  subst e
  unfold Whole at h h'
  rw [h] at h'
  injection h' with h'
  injection h' with _ h2 _
  exact hne h2

/-- A row of records of one's own, with room for so many. -/
def SlRec (lo n c : Nat) (xs : List RE) (v : Value) (w : World) : Prop := ∃ b, v = .slice (some ⟨b, 0, none⟩) n c ∧ w.ownsRow lo 32 2 v n (xs.flatMap recF)
theorem SlRec.under {lo n c : Nat} {xs : List RE} {v : Value} {w w' : World} (hb : Below w.heap.size w w') (h : SlRec lo n c xs v w) : SlRec lo n c xs v w' := by
  obtain ⟨b, e, h⟩ := h
  exact ⟨b, e, own_under h hb⟩
/-- What it reads as, where its records' numbers read. -/
theorem SlRec.reads {lo n c b : Nat} {xs : List RE} {w : World} (h : w.ownsRow lo 32 2 (.slice (some ⟨b, 0, none⟩) n c) n (xs.flatMap recF)) (hx : ∀ x ∈ xs, x.k < 256 ∧ Rd w w.heap.size x.A x.n (iv x.zs)) : RdR w w.heap.size (some ⟨b, 0, none⟩) n xs := by
  have h1 := RdF.of_own recF_len (by decide) h
  refine ⟨h1.1, fun hn => ?_, hx⟩
  obtain ⟨b', off, e, hlt, hc⟩ := h1.2 hn
  exact ⟨b', off, e, hlt, fun j x hj => ⟨hc j x hj 0 (by omega), hc j x hj 1 (by omega)⟩⟩

section
variable {K : Act → World → Prop} {Q : Exit → Act → World → Prop} {a : Act} {w : World} {d : Tmp} {t : TypeId} {pos : String} {after : Array Edge} {x y : Operand}
theorem opR_lit0 (lo : Nat) (hlo : lo ≤ w.heap.size) (h : ∀ v w', Below w.heap.size w w' → SlRec lo 0 0 [] v w' → K (a.put (some d) v) w') :
    ({ dst := some d, op := .buildSlice 33 0 #[], type := t, pos := pos, after := after, guard := none } : Oper).wp Tryz.prog a w K Q := by
  have hb : Below w.heap.size w (w.alloc (.cells #[] 32)) := (Below.refl _ _).alloc (Nat.le_refl _) _
  have ho : (w.alloc (.cells #[] 32)).ownsRow lo 32 2 (.slice (some ⟨w.heap.size, 0, none⟩) 0 0) 0 [] :=
    ⟨rfl, .inr ⟨w.heap.size, 0, #[], rfl, hlo, heap_alloc_new w _, Nat.le_refl _, Nat.zero_le _, by simp, by simp⟩⟩
  have HB := Lib.hid hb
  have HO := Lib.hid ho
  clear hb ho
  unfold Oper.wp execOp
  go_simp
  exact h _ _ HB.out ⟨_, rfl, HO.out⟩
theorem opR_app2 {n c m e : Nat} {A : Option Addr} {xs ys : List RE} (lo : Nat) (hlo : lo ≤ w.heap.size) (hx : SlRec lo n c xs (a.eval x) w) (hy : a.eval y = .slice A m e) (hr : RdF 2 recF w w.heap.size A m ys) (hn' : (n + m) * 32 ≤ 140737488355328)
    (h : ∀ v w', (∃ c', SlRec lo (n + m) c' (xs ++ ys) v w' ∧ (m = 0 → c' = c)) → (Below w.heap.size w w' ∨ ∃ g us, 0 < m ∧ n + m ≤ c ∧ lo ≤ g ∧ w' = w.setCells g (n * 2) us ∧ ∀ b cs, Whole w b 30 cs → b ≠ g) → K (a.put (some d) v) w') :
    ({ dst := some d, op := .call { callee := .builtin .append, args := #[x, y], argTypes := #[33, 33] }, type := 33, pos := pos, after := after, guard := none } : Oper).wp Tryz.prog a w K Q := by
  obtain ⟨b, hv, ho⟩ := hx
  rw [hv] at ho
  obtain ⟨i0, hi, hz0, hz1, hz2⟩ := info_parts info_recR
  have ht := Tryz.underlying33
  rcases Nat.eq_zero_or_pos m with rfl | hm
  · have hys : ys = [] := List.eq_nil_of_length_eq_zero hr.1
    subst hys
    have hroom : n ≤ c := by
      rcases ho.2 with ⟨h1, _⟩ | ⟨g, cap, cur, e1, _, _, h3, _⟩
      · cases h1
      · injection e1 with _ _ e3; subst e3; exact h3
    have hrun : (Builtin.append_ #[33, 33] 33 #[.slice (some ⟨b, 0, none⟩) n c, .slice A 0 e]).run Tryz.prog w = .ok (.slice (some ⟨b, 0, none⟩) n c) w := by
      rcases A with _ | ad
      · simp [Builtin.append_, run_underlying ht, sizeOf, typeInfo, hi, Builtin.lenOf, Builtin.firstCells, hroom, storeCells]
      · exact run_append_room_cells (P := Tryz.prog) w 33 33 32 i0 ht hi b 0 n c ad 0 e [] (by simp) (by simp) (by simp) hroom (by simp) (by simp)
    exact wp_appendH hv hy hrun (h _ _ ⟨c, ⟨b, rfl, by simpa using ho⟩, fun _ => rfl⟩ (.inl (Below.refl _ _)))
  · obtain ⟨b2, off, rfl, _, _⟩ := hr.2 hm
    have hl : (ys.flatMap recF).length = m * 2 := by rw [flatF_length recF_len, hr.1]
    have hnews := hr.cells recF_len (by decide)
    have hone : ∀ u ∈ ys.flatMap recF, u.oneCell' = true := flatF_one (fun x u hu => by
      simp only [recF, List.mem_cons, List.not_mem_nil, or_false] at hu
      rcases hu with rfl | rfl <;> rfl) ys
    obtain ⟨v', w', h1, h2, h3, h4, h5⟩ := run_append_own_at (P := Tryz.prog) (w := w) lo 33 33 32 i0 (.agg #[.int .u8 0, .slice none 0 0]) 2 32 ht hi hz0 hz1 hz2 rfl (by decide) (.slice (some ⟨b, 0, none⟩) n c) n _ ho ⟨b2, off, none⟩ m e _ hl hnews hone (by unfold maxLen; omega) (by omega) hlo
    have hform : ∃ c', SlRec lo (n + m) c' (xs ++ ys) v' w' ∧ (m = 0 → c' = c) := by
      rcases h2.2 with ⟨h6, _⟩ | ⟨g, cap, cur, h6, _⟩
      · exact absurd (h4.1 h6).1 (by simp)
      · exact ⟨cap, ⟨g, h6, by rw [List.flatMap_append]; exact h2⟩, fun e0 => by omega⟩
    by_cases hroom : n + m ≤ c
    · rcases ho.2 with ⟨h6, _⟩ | ⟨g, cap, cur, e1, hb', hg, h7, h8, h9, h10⟩
      · cases h6
      · injection e1 with e1 e2 e3
        injection e1 with e1
        injection e1 with e1
        subst e1; subst e3
        have hrun := run_append_room_cells (P := Tryz.prog) w 33 33 32 i0 ht hi b 0 n c ⟨b2, off, none⟩ m e _ (by rw [hz1]; exact hl) hnews hone hroom
          (fun j hj => by rw [cell_of_row w b _ cur 32 (0, 0) hg, hz1, Array.getElem?_eq_getElem (by omega)]; rfl)
          (fun j hj => by simp [World.frozen?, hg])
        rw [h1] at hrun
        injection hrun with hv2 hw2
        rw [hz1, Nat.zero_add] at hw2
        exact wp_appendH hv hy h1 (h _ _ hform (.inr ⟨b, _, hm, hroom, hb', hw2, fun b3 cs hw3 => whole_ne hw3 (show Whole w b 32 cur from hg) (by decide)⟩))
    · obtain ⟨v2, w2, g1, g2, g3⟩ := run_append_arg_grows (P := Tryz.prog) w 33 33 32 i0 (.agg #[.int .u8 0, .slice none 0 0]) 2 32 ht hi hz0 hz1 hz2 rfl (by decide) ⟨b, 0, none⟩ n c _ ho.1
        (fun j u hu => by
          have hj : j < n * 2 := by rw [← ho.1]; exact (List.getElem?_eq_some_iff.1 hu).1
          rw [Addr.add_lit, Nat.zero_add, ho.cellAt j hj]
          exact hu) ⟨b2, off, none⟩ m e _ hl hnews (by omega) (by unfold maxLen; omega) (by omega)
      rw [h1] at g1
      injection g1 with hv2 hw2
      subst hw2
      exact wp_appendH hv hy h1 (h _ _ hform (.inl ⟨g3.os, g3.tape, g3.output, g3.size, fun i hi => g3.block i hi (by simp)⟩))
theorem opR_lit1 {z : RE} (lo : Nat) (hlo : lo ≤ w.heap.size) (hx : a.eval x = .agg #[.int .u8 (z.k : Int), .slice z.A z.n z.c]) (h : ∀ v w', Below w.heap.size w w' → SlRec lo 1 1 [z] v w' → K (a.put (some d) v) w') :
    ({ dst := some d, op := .buildSlice 33 1 #[(0, x)], type := t, pos := pos, after := after, guard := none } : Oper).wp Tryz.prog a w K Q := by
  have hb : Below w.heap.size w (w.alloc (.cells #[.int .u8 (z.k : Int), .slice z.A z.n z.c] 32)) := (Below.refl _ _).alloc (Nat.le_refl _) _
  have ho : (w.alloc (.cells #[.int .u8 (z.k : Int), .slice z.A z.n z.c] 32)).ownsRow lo 32 2 (.slice (some ⟨w.heap.size, 0, none⟩) 1 1) 1 ([z].flatMap recF) :=
    ⟨rfl, .inr ⟨w.heap.size, 1, #[.int .u8 (z.k : Int), .slice z.A z.n z.c], rfl, hlo, heap_alloc_new w _, Nat.le_refl _, by unfold maxLen; omega, by simp, rfl⟩⟩
  have HB := Lib.hid hb
  have HO := Lib.hid ho
  clear hb ho
  unfold Oper.wp execOp
  simp only [hx, List.map_toArray, List.map_cons, List.map_nil]
  go_simp
  exact h _ _ HB.out ⟨_, rfl, HO.out⟩
end

/-- All of a row taken. -/
theorem allO {p : Br} {a : Ad} {W : World} {A : Option Addr} {n c : Nat} {xs : List RE} {q : Br} (hrd : RdB_ W W.heap.size p a) (hx : RdR W W.heap.size A n xs) (hcap : ∀ r ∈ xs, r.n ≤ r.c ∧ r.c ≤ maxLen) (hn : n ≤ 300) (hm : p.cf.ms.length ≤ 1000) (hg : Good 400 p) (hT : Tab W) (hH : TabH W) (e : allB p (recsB xs) = q) :
    Calls Tryz.prog 14 #[brV p a, .slice A n c] W (ApPost q W) := by
  subst e
  exact all_any p a A n c xs W.heap.size W hrd (Nat.le_refl _) hx hm hcap hn hg hT hH
theorem ms_all {p : Br} (h : p.cf.ms.length ≤ 1000) (l : List (Int × List Int)) : (allB p l).cf.ms.length ≤ 1000 := by
  induction l generalizing p with
  | nil => exact h
  | cons r l ih => exact ih (ms_apply h)
end Go.Proofs.YtdaimejlcfhfiaaGreatDoor
