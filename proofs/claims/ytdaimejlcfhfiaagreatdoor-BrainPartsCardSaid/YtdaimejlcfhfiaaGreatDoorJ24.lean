/-
  Texts that the walks of the statements over logs lean on, joined (BrRecOwn, RegStay, BrRecMore, BrRefNums, BrEqual, BrSame). Conditions: those that each theorem names.
-/
import Derived.Test.YtdaimejlcfhfiaaGreatDoorJ0
import Derived.Test.YtdaimejlcfhfiaaGreatDoorJ3
import Derived.Test.YtdaimejlcfhfiaaGreatDoorJ8
import Derived.Test.YtdaimejlcfhfiaaGreatDoorJ21
import Derived.Test.YtdaimejlcfhfiaaGreatDoorJ23
import Derived.Deep.DeepCutAuto

/-
  A record laid in a statement over brains: its numbers taken over into a row of its own. Conditions: those that each theorem names.
-/
namespace Go.Proofs.YtdaimejlcfhfiaaGreatDoor
open Go.RowKit Go.Shelf

/-- A slice of numbers in memory of its own, from lo on. -/
def SlOwn (lo n : Nat) (zs : List Int) (v : Value) (w : World) : Prop := ∃ A c, v = .slice A n c ∧ w.ownsRow lo 3 1 (.slice A n c) n (iv zs)
def RecOwn (lo n k : Nat) (zs : List Int) (v : Value) (w : World) : Prop := ∃ A c, v = .agg #[.int .u8 (k : Int), .slice A n c] ∧ w.ownsRow lo 3 1 (.slice A n c) n (iv zs)
def RboxIs (lo : Nat) (v : Value) (w : World) : Prop := ∃ b, v = .pointer (some ⟨b, 0, none⟩) ∧ lo ≤ b ∧ Whole w b 32 #[.int .u8 0, .slice none 0 0]
def LitIs (v : Value) : Prop := ∃ b, v = .slice (some ⟨b, 0, none⟩) 0 0
section
variable {w w' : World}
set_option maxRecDepth 100000 in
theorem SlOwn.under {lo n : Nat} {zs : List Int} {v : Value} (hb : Below w.heap.size w w') (h : SlOwn lo n zs v w) : SlOwn lo n zs v w' := by
  obtain ⟨A, c, e, h⟩ := h
  exact ⟨A, c, e, own_under h hb⟩
set_option maxRecDepth 100000 in
theorem RecOwn.under {lo n k : Nat} {zs : List Int} {v : Value} (hb : Below w.heap.size w w') (h : RecOwn lo n k zs v w) : RecOwn lo n k zs v w' := by
  obtain ⟨A, c, e, h⟩ := h
  exact ⟨A, c, e, own_under h hb⟩
set_option maxRecDepth 100000 in
theorem RboxIs.under {lo : Nat} {v : Value} (hb : Below w.heap.size w w') (h : RboxIs lo v w) : RboxIs lo v w' := by
  obtain ⟨b, e, h1, h2⟩ := h
  exact ⟨b, e, h1, h2.under hb⟩
end
section
variable {K : Act → World → Prop} {Q : Exit → Act → World → Prop} {a : Act} {w : World} {d : Tmp} {t : TypeId} {pos : String} {after : Array Edge} {x y : Operand}
set_option maxRecDepth 100000 in
theorem opB_kind {b o : Nat} (hx : a.eval x = .pointer (some ⟨b, o, none⟩)) (h : K (a.put (some d) (.pointer (some ⟨b, o, none⟩))) w) :
    ({ dst := some d, op := .fieldAddr 32 x 0, type := t, pos := pos, after := after, guard := none } : Oper).wp Tryz.prog a w K Q := by
  unfold Oper.wp execOp
  simp only [hx]
  go_simp
  exact h
set_option maxRecDepth 100000 in
theorem opB_nums {b o : Nat} (hx : a.eval x = .pointer (some ⟨b, o, none⟩)) (h : K (a.put (some d) (.pointer (some ⟨b, o + 1, none⟩))) w) :
    ({ dst := some d, op := .fieldAddr 32 x 1, type := t, pos := pos, after := after, guard := none } : Oper).wp Tryz.prog a w K Q := by
  unfold Oper.wp execOp
  simp only [hx]
  go_simp
  exact h
set_option maxRecDepth 100000 in
theorem opB_loadK {b o k : Nat} (hx : a.eval x = .pointer (some ⟨b, o, none⟩)) (h0 : w.cell? ⟨b, o, none⟩ = some (.int .u8 (k : Int))) (h : K (a.put (some d) (.int .u8 (k : Int))) w) :
    ({ dst := some d, op := .load 5 x, type := t, pos := pos, after := after, guard := none } : Oper).wp Tryz.prog a w K Q := by
  unfold Oper.wp execOp
  simp only [hx]
  go_simp
  exact h
set_option maxRecDepth 100000 in
theorem opB_loadL {b o n c : Nat} {A : Option Addr} (hx : a.eval x = .pointer (some ⟨b, o, none⟩)) (h0 : w.cell? ⟨b, o, none⟩ = some (.slice A n c)) (h : K (a.put (some d) (.slice A n c)) w) :
    ({ dst := some d, op := .load 22 x, type := t, pos := pos, after := after, guard := none } : Oper).wp Tryz.prog a w K Q := by
  unfold Oper.wp execOp
  simp only [hx]
  go_simp
  exact h
set_option maxRecDepth 100000 in
theorem opB_lit0 (h : ∀ v w', Below w.heap.size w w' → LitIs v → K (a.put (some d) v) w') :
    ({ dst := some d, op := .buildSlice 22 0 #[], type := t, pos := pos, after := after, guard := none } : Oper).wp Tryz.prog a w K Q := by
  have hb : Below w.heap.size w (w.alloc (.cells #[] 3)) := (Below.refl _ _).alloc (Nat.le_refl _) _
  have HB := Lib.hid hb
  clear hb
  unfold Oper.wp execOp
  go_simp
  exact h _ _ HB.out ⟨_, rfl⟩
set_option maxRecDepth 100000 in
theorem opB_clone {n c : Nat} {A : Option Addr} {zs : List Int} (lo : Nat) (hlo : lo ≤ w.heap.size) (hx : LitIs (a.eval x)) (hy : a.eval y = .slice A n c) (hr : Rd w w.heap.size A n (iv zs)) (hn : 0 < n) (hn' : n ≤ 1000000)
    (h : ∀ v w', Below w.heap.size w w' → SlOwn lo n zs v w' → K (a.put (some d) v) w') :
    ({ dst := some d, op := .call { callee := .builtin .append, args := #[x, y], argTypes := #[22, 22] }, type := t, pos := pos, after := after, guard := none } : Oper).wp Tryz.prog a w K Q := by
  obtain ⟨b, hb⟩ := hx
  obtain ⟨i0, hi, hz0, hz1, hz2⟩ := info_parts info_int
  obtain ⟨b', off, rfl, hlt, hc⟩ := hr.2 hn
  obtain ⟨v', w', h1, h2, h3⟩ := run_append_arg_grows (P := Tryz.prog) w 22 t 3 i0 (.int .i64 0) 1 8 Tryz.underlying22 hi hz0 hz1 hz2 rfl (by decide) ⟨b, 0, none⟩ 0 0 [] (by simp) (by simp) ⟨b', off, none⟩ n c (iv zs) (by rw [hr.1, Nat.mul_one])
    (fun j u hu => by rw [Addr.add_lit, hc j (by rw [← hr.1]; exact (List.getElem?_eq_some_iff.1 hu).1), hu]) (by omega) (by unfold maxLen; omega) (by omega)
  refine wp_appendH hb hy h1 (h _ _ ⟨h3.os, h3.tape, h3.output, h3.size, fun i hi => h3.block i hi (by simp)⟩ ?_)
  rw [Nat.zero_add, List.nil_append] at h2
  rcases h2.2 with ⟨_, h0⟩ | ⟨g, cap, cur, rfl, _⟩
  · omega
  · exact ⟨_, _, rfl, own_weaker h2 hlo⟩
set_option maxRecDepth 100000 in
theorem opB_buildR {n k lo : Nat} {zs : List Int} {i j : Tmp} (hx : a.eval (.tmp i) = .int .u8 (k : Int)) (hy : SlOwn lo n zs (a.eval (.tmp j)) w) (h : ∀ v, RecOwn lo n k zs v w → K (a.put (some d) v) w) :
    ({ dst := some d, op := .build 32 #[(0, .tmp i), (1, .tmp j)], type := t, pos := pos, after := after, guard := none } : Oper).wp Tryz.prog a w K Q := by
  obtain ⟨A, c, e, ho⟩ := hy
  have HO := Lib.hid ho
  clear ho
  have hx' : a.tmps[i]?.getD undef = .int .u8 (k : Int) := by simpa [Act.eval] using hx
  have e' : a.tmps[j]?.getD undef = .slice A n c := by simpa [Act.eval] using e
  clear hx e
  unfold Oper.wp execOp
  go_simp
  exact h _ ⟨_, _, rfl, HO.out⟩
set_option maxRecDepth 100000 in
theorem opB_allocR {lo : Nat} (hlo : lo ≤ w.heap.size) (h : ∀ v w', Below w.heap.size w w' → RboxIs lo v w' → K (a.put (some d) v) w') :
    ({ dst := some d, op := .alloc 32, type := t, pos := pos, after := after, guard := none } : Oper).wp Tryz.prog a w K Q := by
  have hw := Whole.new w 32 #[.int .u8 0, .slice none 0 0]
  have hb : Below w.heap.size w (w.alloc (.cells #[.int .u8 0, .slice none 0 0] 32)) := (Below.refl _ _).alloc (Nat.le_refl _) _
  have HW := Lib.hid hw
  have HB := Lib.hid hb
  clear hw hb
  unfold Oper.wp execOp
  go_simp
  exact h _ _ HB.out ⟨_, rfl, hlo, HW.out⟩
end
set_option maxRecDepth 100000 in
theorem wp_storeRec {K : Act → World → Prop} {o : Oper} {a : Act} {w : World} {Q : Exit → Act → World → Prop} (x y : Operand) (ho : o.op = .store 32 x y) (g k n c : Nat) (A : Option Addr) (old : Array Value) (hs : old.size = 2)
    (hx : a.eval x = .pointer (some ⟨g, 0, none⟩)) (hy : a.eval y = .agg #[.int .u8 (k : Int), .slice A n c]) (hW : Whole w g 32 old) (h : ∀ W2, W2 = w.setRow g #[.int .u8 (k : Int), .slice A n c] → K (a.put o.dst undef) W2) : o.wp Tryz.prog a w K Q := by
  refine wp_store_at 32 x y ho g 0 #[.int .u8 (k : Int), .slice A n c] hx hy 32 old hW (by kernel_rfl) (by rw [hs]; exact Nat.le_refl _) (by simp [Value.oneCell']) (h _ ?_)
  have e : old.toList.drop (0 + (#[.int .u8 (k : Int), .slice A n c] : Array Value).size) = [] := List.drop_of_length_le (by rw [Array.length_toList, hs]; exact Nat.le_refl _)
  rw [e]
  simp

set_option maxRecDepth 100000 in
/-- A row of the call's own that is not empty: where it lies. -/
theorem own_fullI {w : World} {base n c : Nat} {A : Option Addr} {xs : List Value} (hp : 0 < n) (h : w.ownsRow base 3 1 (.slice A n c) n xs) : ∃ G, A = some ⟨G, 0, none⟩ ∧ base ≤ G ∧ n ≤ c := by
  rcases h.2 with ⟨_, h0⟩ | ⟨g, cap, cur, e, hb, hg, h1, h2, h3, h4⟩
  · omega
  · injection e with e1 e2 e3
    subst e1; subst e3
    exact ⟨g, rfl, hb, h1⟩
set_option maxRecDepth 100000 in
theorem own_setC {w : World} {base G n c j : Nat} {zs : List Int} (h : w.ownsRow base 3 1 (.slice (some ⟨G, 0, none⟩) n c) n (iv zs)) (z : Int) :
    (w.setCell ⟨G, j, none⟩ (.int .i64 z)).ownsRow base 3 1 (.slice (some ⟨G, 0, none⟩) n c) n (iv (zs.set j z)) := by
  obtain ⟨h1, h2⟩ := h
  refine ⟨by rw [iv_length, List.length_set, ← iv_length]; exact h1, ?_⟩
  rcases h2 with ⟨h2, _⟩ | ⟨g, cap, cur, e, hb, hg, h3, h4, h5, h6⟩
  · cases h2
  · injection e with e1 e2 e3
    injection e1 with e1
    injection e1 with e1
    subst e1; subst e3
    refine .inr ⟨G, c, cur.setIfInBounds j (.int .i64 z), rfl, hb, Whole.set (w := w) (cs := cur) hg j (.int .i64 z), h3, h4, by rw [Array.size_setIfInBounds]; exact h5, ?_⟩
    rw [Nat.mul_one] at h6 ⊢
    rw [Array.toList_setIfInBounds, List.take_set, h6]
    simp [iv, List.map_set]
set_option maxRecDepth 100000 in
theorem own_cellC {w : World} {base G n c j : Nat} {xs : List Value} (h : w.ownsRow base 3 1 (.slice (some ⟨G, 0, none⟩) n c) n xs) (hj : j < n) :
    (∃ u, w.cell? ⟨G, j, none⟩ = some u) ∧ w.frozen? ⟨G, j, none⟩ = false := by
  rcases h.2 with ⟨h2, _⟩ | ⟨g, cap, cur, e, hb, hg, h3, h4, h5, h6⟩
  · cases h2
  · injection e with e1 e2 e3
    injection e1 with e1
    injection e1 with e1
    subst e1; subst e3
    refine ⟨⟨cur[j]'(by omega), ?_⟩, by simp [World.frozen?, hg]⟩
    rw [cell_of_row w G j cur 3 (0, 0) hg, Array.getElem?_eq_getElem (by omega)]
set_option maxRecDepth 100000 in
theorem mod_atC (a : Int) (n : Nat) (h : 0 < n) : ∃ j : Nat, (a.tmod n + n).tmod n = (j : Int) ∧ j < n := by
  have h1 := Int.tmod_lt_of_pos a (show (0 : Int) < n by omega)
  have h2 := Int.lt_tmod_of_pos a (show (0 : Int) < n by omega)
  have h3 := Int.tmod_nonneg (n : Int) (show 0 ≤ a.tmod n + n by omega)
  have h4 := Int.tmod_lt_of_pos (a.tmod n + n) (show (0 : Int) < n by omega)
  exact ⟨((a.tmod n + n).tmod n).toNat, by omega, by omega⟩
set_option maxRecDepth 100000 in
theorem mod_wrapC (a : Int) (n : Nat) (h : 0 < n) (hn : n ≤ 100) : IntKind.i64.wrap (a.tmod n + n) = a.tmod n + n := by
  have h1 := Int.tmod_lt_of_pos a (show (0 : Int) < n by omega)
  have h2 := Int.lt_tmod_of_pos a (show (0 : Int) < n by omega)
  exact IntWalk.i64_in _ ⟨by omega, by omega⟩
set_option maxRecDepth 100000 in
/-- What is read at a place of an own row. -/
theorem own_at {w : World} {base G n c k : Nat} {zs : List Int} {v : Int} (h : w.ownsRow base 3 1 (.slice (some ⟨G, 0, none⟩) n c) n (iv zs)) (hk : k < n) (hv : zs.getD k 0 = v) : w.cell? ⟨G, k, none⟩ = some (.int .i64 v) := by
  obtain ⟨b, off, e, _, hc⟩ := at_of (Rd.of_own h) hk
  injection e with e
  injection e with e1 e2
  subst e1; subst e2
  rw [Nat.zero_add, hv] at hc
  exact hc

set_option maxRecDepth 100000 in
theorem and1023 (n : Int) : 0 ≤ bits .and .i64 n 1023 ∧ bits .and .i64 n 1023 ≤ 1023 := by
  show 0 ≤ IntKind.i64.wrap ((BitVec.ofInt 64 n &&& BitVec.ofInt 64 1023).toNat : Int) ∧ IntKind.i64.wrap ((BitVec.ofInt 64 n &&& BitVec.ofInt 64 1023).toNat : Int) ≤ 1023
  have h2 : (BitVec.ofInt 64 1023).toNat = 1023 := by decide
  have h3 : (BitVec.ofInt 64 n &&& BitVec.ofInt 64 1023).toNat ≤ 1023 := by
    rw [BitVec.toNat_and, h2]; exact Nat.and_le_right
  rw [IntKind.wrap_i64]
  omega
set_option maxRecDepth 100000 in
theorem bad_one (n : Int) : isNum (wrap64 (-1 - bits .and .i64 n 1023)) = false := by
  have h := and1023 n
  unfold isNum wrap64
  simp only [Bool.and_eq_false_iff, decide_eq_false_iff_not]
  omega
set_option maxRecDepth 100000 in
theorem bad_two (n : Int) : isNum (wrap64 (1099511627777 + bits .and .i64 n 1023)) = false := by
  have h := and1023 n
  unfold isNum wrap64
  simp only [Bool.and_eq_false_iff, decide_eq_false_iff_not]
  omega
set_option maxRecDepth 100000 in
/-- Where an own row lies, no record's box lies. -/
theorem own_ne {w : World} {base n c b G : Nat} {xs : List Value} {cs : Array Value} (ho : w.ownsRow base 3 1 (.slice (some ⟨G, 0, none⟩) n c) n xs) (hw : Whole w b 32 cs) : b ≠ G := by
  intro e
  subst e
  exact own_apart_of (by decide) ho hw rfl

end Go.Proofs.YtdaimejlcfhfiaaGreatDoor

/-
  A region that draws its order, of which an operation may write into what another one yielded, as long as what each has yielded stands. Conditions: those that each theorem names.
-/
namespace Go.Proofs.YtdaimejlcfhfiaaGreatDoor
open Go.RowKit Go.Shelf

section
variable {P : Program} {ops : Array Oper} {Q : Exit → Act → World → Prop}
/-- Operation i leaves what lay ahead of the region, and what each operation has yielded that does not wait for it. -/
def Stay (ops : Array Oper) (n : Nat) (W : World) (R : Nat → Value → World → Prop) (i : Nat) (w w' : World) : Prop :=
  Below W.heap.size w w' ∧ ∀ j v, j < n → j ≠ i → (∀ oj, ops[j]? = some oj → waits oj i = false) → R j v w → R j v w'
set_option maxRecDepth 100000 in
theorem stay_grow {n : Nat} {W : World} {R : Nat → Value → World → Prop} {i : Nat} {w w' : World} (hR : ∀ i v w w', Below w.heap.size w w' → R i v w → R i v w') (hW : W.heap.size ≤ w.heap.size) (h : Below w.heap.size w w') : Stay ops n W R i w w' :=
  ⟨h.mono hW, fun j v _ _ _ hr => hR j v w w' h hr⟩
set_option maxRecDepth 100000 in
theorem region_stay {id : Nat} {a0 : Act} {W : World} (hm : P.follows .mixedOrders = true) (hl : lowOnly ops = true) (n : Nat) (ds : List Nat) (hk : growOk ops n ds = true) (hds : ∀ d ∈ ds, d < a0.tmps.size)
    (R : Nat → Value → World → Prop)
    (step : ∀ i o d a w, i < n → ops[i]? = some o → o.dst = some d → Agree ds a0 a → Below W.heap.size W w → (∀ j d', waits o j = true → dstAt ops j = some d' → R j (a.eval (.tmp d')) w) → ∀ K : Act → World → Prop, (∀ v w', Stay ops n W R i w w' → R i v w' → K (a.put (some d) v) w') → o.wp P a w K Q)
    (last : ∀ o a w, ops[n]? = some o → Agree ds a0 a → Below W.heap.size W w → (∀ i d, i < n → dstAt ops i = some d → R i (a.eval (.tmp d)) w) → ∀ K : Act → World → Prop, (∀ a' w', Q .normal a' w' → K a' w') → o.wp P a w K Q) : (Code.region id ops true).wp P Q a0 W := by
  unfold growOk at hk
  simp only [Bool.and_eq_true, List.all_eq_true, List.mem_range, beq_iff_eq] at hk
  obtain ⟨h1, h2, h3, hsz⟩ := hk
  have hd : ∀ i, i < n → ∃ d, dstAt ops i = some d ∧ d ∈ ds ∧ ∀ j, j < n → j ≠ i → dstAt ops j ≠ some d := by
    intro i hi
    have := h1 i hi
    split at this
    · rename_i d e
      simp only [Bool.and_eq_true, List.all_eq_true, List.mem_range, Bool.or_eq_true, beq_iff_eq, bne_iff_ne] at this
      refine ⟨d, e, by simpa using this.1, fun j hj hne => ?_⟩
      rcases this.2 j hj with h | h
      · exact absurd h.symm hne
      · exact h
    · cases this
  have hgd : ∀ (i : Nat) (o : Oper), ops[i]? = some o → o.guard = none := by
    intro i o ho
    have hlt := (Array.getElem?_eq_some_iff.1 ho).1
    have := h2 i (by omega)
    rw [ho] at this
    simpa using this
  obtain ⟨ol, hol⟩ : ∃ o : Oper, ops[n]? = some o := ⟨_, Array.getElem?_eq_getElem (by omega)⟩
  rw [hol] at h3
  simp only [Bool.and_eq_true, List.all_eq_true, List.mem_range] at h3
  have run : ∀ {i : Nat} {o : Oper} {K : Act → World → Prop} {a : Act} {w : World}, ops[i]? = some o → o.wp P a w K Q → wpOp P ops Q i K a w := by
    intro i o K a w ho h
    unfold wpOp
    rw [ho]
    dsimp only
    rw [if_pos (by unfold Region.wanted; rw [hgd i o ho])]
    exact .inl h
  refine region_clo hm hl (fun L a w => (L n = true → Q .normal a w) ∧ (L n = false → Agree ds a0 a ∧ Below W.heap.size W w ∧ ∀ i d, i < n → L i = true → dstAt ops i = some d → R i (a.eval (.tmp d)) w)) ⟨fun h => (by cases h), fun _ => ⟨Agree.refl _ _, ⟨rfl, rfl, rfl, Nat.le_refl _, fun _ _ => rfl⟩, fun _ _ _ h => (by cases h)⟩⟩ ?_ (fun L a w hall h => h.1 (hall n (by omega)))
  intro i o L a w ho hi hclo hall h
  have hlt : i < n + 1 := by have := (Array.getElem?_eq_some_iff.1 ho).1; omega
  have hLn : L n = false ∨ L n = true := by cases L n <;> simp
  rcases Nat.lt_or_ge i n with hin | hin
  · have hn0 : L n = false := by
      rcases hLn with h0 | h0
      · exact h0
      · have h4 := h3.2 i hin
        rw [Array.any_eq_true'] at h4
        obtain ⟨e, he, h5⟩ := h4
        simp only [Bool.and_eq_true, beq_iff_eq] at h5
        have := hclo n ol hol h0 e he h5.1
        rw [h5.2, hi] at this
        cases this
    obtain ⟨hag, hbel, hgot⟩ := h.2 hn0
    obtain ⟨d, hdi, hdm, hdne⟩ := hd i hin
    have hdo : o.dst = some d := by unfold dstAt at hdi; rw [ho] at hdi; exact hdi
    refine run ho (step i o d a w hin ho hdo hag hbel (fun j d' hw hj => ?_) _ (fun v w' hb hv => ⟨fun h0 => ?_, fun _ => ⟨hag.put hdm v, hbel.trans hb.1, fun j d' hj hLj hdj => ?_⟩⟩))
    · unfold waits at hw
      rw [Array.any_eq_true'] at hw
      obtain ⟨e, he, h5⟩ := hw
      simp only [Bool.and_eq_true, beq_iff_eq] at h5
      have h6 := hall e he h5.1
      rw [h5.2] at h6
      have h7 := lowOnly_at hl ho e he h5.1
      exact hgot j d' (by omega) h6 hj
    · replace h0 : (if n = i then true else L n) = true := h0
      rw [if_neg (by omega)] at h0
      rw [hn0] at h0; cases h0
    · by_cases hji : j = i
      · subst hji
        rw [hdi] at hdj
        cases hdj
        rw [eval_new (by rw [hag.size]; exact hds d hdm)]
        exact hv
      · replace hLj : (if j = i then true else L j) = true := hLj
        rw [if_neg hji] at hLj
        rw [eval_old (fun e => hdne j hj hji (by rw [hdj, e]))]
        refine hb.2 j _ hj hji (fun oj hoj => ?_) (hgot j d' hj hLj hdj)
        cases hwt : waits oj i with
        | false => rfl
        | true =>
          unfold waits at hwt
          rw [Array.any_eq_true'] at hwt
          obtain ⟨e, he, h5⟩ := hwt
          simp only [Bool.and_eq_true, beq_iff_eq] at h5
          have h8 := hclo j oj hoj hLj e he h5.1
          rw [h5.2, hi] at h8
          cases h8
  · have hin' : i = n := by omega
    subst hin'
    obtain ⟨hag, hbel, hgot⟩ := h.2 hi
    rw [hol] at ho
    cases ho
    refine run hol (last ol a w hol hag hbel (fun j d hj hdj => hgot j d hj ?_ hdj) _ (fun a' w' hq => ⟨fun _ => hq, fun h0 => (by simp at h0)⟩))
    have h4 := h3.2 j hj
    rw [Array.any_eq_true'] at h4
    obtain ⟨e, he, h5⟩ := h4
    simp only [Bool.and_eq_true, beq_iff_eq] at h5
    have := hall e he h5.1
    rw [h5.2] at this
    exact this
end

end Go.Proofs.YtdaimejlcfhfiaaGreatDoor

/-
  A record laid in a statement over brains with a number more. Conditions: those that each theorem names.
-/
namespace Go.Proofs.YtdaimejlcfhfiaaGreatDoor
open Go.RowKit Go.Shelf

/-- An empty slice that is not nil, and where it lies. -/
def LitOwn (lo : Nat) (v : Value) (w : World) : Prop := ∃ b, v = .slice (some ⟨b, 0, none⟩) 0 0 ∧ w.ownsRow lo 3 1 v 0 []
/-- A slice of numbers of its own that is not nil; with no room if it is empty. -/
def SlAt (lo n : Nat) (zs : List Int) (v : Value) (w : World) : Prop := ∃ b c, v = .slice (some ⟨b, 0, none⟩) n c ∧ w.ownsRow lo 3 1 v n (iv zs) ∧ (n = 0 → c = 0)
section
variable {w w' : World}
set_option maxRecDepth 100000 in
theorem LitOwn.under {lo : Nat} {v : Value} (hb : Below w.heap.size w w') (h : LitOwn lo v w) : LitOwn lo v w' := by
  obtain ⟨b, e, h⟩ := h
  exact ⟨b, e, own_under h hb⟩
set_option maxRecDepth 100000 in
theorem SlAt.under {lo n : Nat} {zs : List Int} {v : Value} (hb : Below w.heap.size w w') (h : SlAt lo n zs v w) : SlAt lo n zs v w' := by
  obtain ⟨b, c, e, h, h0⟩ := h
  exact ⟨b, c, e, own_under h hb, h0⟩
end
set_option maxRecDepth 100000 in
/-- A cell laid behind an own row's end leaves the row. -/
theorem own_past {w : World} {base m g k : Nat} {v : Value} {xs : List Value} (h : w.ownsRow base 3 1 v m xs) (hm : m ≤ k) (u : Value) : (w.setCell ⟨g, k, none⟩ u).ownsRow base 3 1 v m xs := by
  by_cases hg : v.ownBlock = some g
  · obtain ⟨h1, h2⟩ := h
    refine ⟨h1, ?_⟩
    rcases h2 with ⟨h2, h3⟩ | ⟨g', cap, cur, rfl, hb, hg', h3, h4, h5, h6⟩
    · exact .inl ⟨h2, h3⟩
    · simp only [Value.ownBlock, Option.some.injEq] at hg
      subst hg
      refine .inr ⟨g', cap, cur.setIfInBounds k u, rfl, hb, Whole.set (w := w) (cs := cur) hg' k u, h3, h4, by rw [Array.size_setIfInBounds]; exact h5, ?_⟩
      rw [Nat.mul_one] at h6 ⊢
      rw [Array.toList_setIfInBounds, List.take_set, h6, List.set_eq_of_length_le (by rw [h1]; omega)]
  · exact ownsRow_setCell_other h hg u
section
variable {K : Act → World → Prop} {Q : Exit → Act → World → Prop} {a : Act} {w : World} {d : Tmp} {t : TypeId} {pos : String} {after : Array Edge} {x y : Operand}
set_option maxRecDepth 100000 in
theorem opB_lit0w (lo : Nat) (hlo : lo ≤ w.heap.size) (h : ∀ v w', Below w.heap.size w w' → LitOwn lo v w' → K (a.put (some d) v) w') :
    ({ dst := some d, op := .buildSlice 22 0 #[], type := t, pos := pos, after := after, guard := none } : Oper).wp Tryz.prog a w K Q := by
  have hb : Below w.heap.size w (w.alloc (.cells #[] 3)) := (Below.refl _ _).alloc (Nat.le_refl _) _
  have ho : (w.alloc (.cells #[] 3)).ownsRow lo 3 1 (.slice (some ⟨w.heap.size, 0, none⟩) 0 0) 0 [] :=
    ⟨rfl, .inr ⟨w.heap.size, 0, #[], rfl, hlo, heap_alloc_new w _, Nat.le_refl _, Nat.zero_le _, by simp, by simp⟩⟩
  have HB := Lib.hid hb
  have HO := Lib.hid ho
  clear hb ho
  unfold Oper.wp execOp
  go_simp
  exact h _ _ HB.out ⟨_, rfl, HO.out⟩
set_option maxRecDepth 100000 in
theorem opB_lit1w (lo : Nat) (hlo : lo ≤ w.heap.size) (h : ∀ v w', Below w.heap.size w w' → SlOwn lo 1 [1] v w' → K (a.put (some d) v) w') :
    ({ dst := some d, op := .buildSlice 22 1 #[(0, .const (.int .i64 1))], type := t, pos := pos, after := after, guard := none } : Oper).wp Tryz.prog a w K Q := by
  have hb : Below w.heap.size w (w.alloc (.cells #[.int .i64 1] 3)) := (Below.refl _ _).alloc (Nat.le_refl _) _
  have ho : (w.alloc (.cells #[.int .i64 1] 3)).ownsRow lo 3 1 (.slice (some ⟨w.heap.size, 0, none⟩) 1 1) 1 (iv [1]) :=
    ⟨rfl, .inr ⟨w.heap.size, 1, #[.int .i64 1], rfl, hlo, heap_alloc_new w _, Nat.le_refl _, by unfold maxLen; omega, by simp, rfl⟩⟩
  have HB := Lib.hid hb
  have HO := Lib.hid ho
  clear hb ho
  unfold Oper.wp execOp
  go_simp
  exact h _ _ HB.out ⟨_, _, rfl, HO.out⟩
set_option maxRecDepth 100000 in
theorem opB_cloneW {n c : Nat} {A : Option Addr} {zs : List Int} (lo : Nat) (hlo : lo ≤ w.heap.size) (hx : LitOwn lo (a.eval x) w) (hy : a.eval y = .slice A n c) (hr : Rd w w.heap.size A n (iv zs)) (hn' : n ≤ 1000000)
    (h : ∀ v w', Below w.heap.size w w' → SlAt lo n zs v w' → K (a.put (some d) v) w') :
    ({ dst := some d, op := .call { callee := .builtin .append, args := #[x, y], argTypes := #[22, 22] }, type := t, pos := pos, after := after, guard := none } : Oper).wp Tryz.prog a w K Q := by
  obtain ⟨b, hb, ho⟩ := hx
  rw [hb] at ho
  obtain ⟨i0, hi, hz0, hz1, hz2⟩ := info_parts info_int
  rcases Nat.eq_zero_or_pos n with rfl | hn
  · have hzs : zs = [] := List.eq_nil_of_length_eq_zero (by have := hr.1; rwa [iv_length] at this)
    subst hzs
    have ht := Tryz.underlying22
    have h1 : (Builtin.append_ #[22, 22] t #[.slice (some ⟨b, 0, none⟩) 0 0, .slice A 0 c]).run Tryz.prog w = .ok (.slice (some ⟨b, 0, none⟩) 0 0) w := by
      rcases A with _ | ad
      · simp [Builtin.append_, run_underlying ht, sizeOf, typeInfo, hi, Builtin.lenOf, Builtin.firstCells, storeCells]
      · exact run_append_room_cells (P := Tryz.prog) w 22 t 3 i0 ht hi b 0 0 0 ad 0 c [] (by simp) (by simp) (by simp) (Nat.le_refl _) (by simp) (by simp)
    exact wp_appendH hb hy h1 (h _ _ (Below.refl _ _) ⟨b, 0, rfl, ho, fun _ => rfl⟩)
  · obtain ⟨b', off, rfl, hlt, hc⟩ := hr.2 hn
    obtain ⟨v', w', h1, h2, h3⟩ := run_append_arg_grows (P := Tryz.prog) w 22 t 3 i0 (.int .i64 0) 1 8 Tryz.underlying22 hi hz0 hz1 hz2 rfl (by decide) ⟨b, 0, none⟩ 0 0 [] (by simp) (by simp) ⟨b', off, none⟩ n c (iv zs) (by rw [hr.1, Nat.mul_one])
      (fun j u hu => by rw [Addr.add_lit, hc j (by rw [← hr.1]; exact (List.getElem?_eq_some_iff.1 hu).1), hu]) (by omega) (by unfold maxLen; omega) (by omega)
    refine wp_appendH hb hy h1 (h _ _ ⟨h3.os, h3.tape, h3.output, h3.size, fun i hi => h3.block i hi (by simp)⟩ ?_)
    rw [Nat.zero_add, List.nil_append] at h2
    rcases h2.2 with ⟨_, h0⟩ | ⟨g, cap, cur, rfl, _⟩
    · omega
    · exact ⟨_, _, rfl, own_weaker h2 hlo, fun e => by omega⟩
set_option maxRecDepth 100000 in
theorem opB_more {n : Nat} {zs : List Int} (lo : Nat) (hlo : lo ≤ w.heap.size) (hx : SlAt lo n zs (a.eval x) w) (hy : SlOwn lo 1 [1] (a.eval y) w) (hn' : n ≤ 1000000)
    (h : ∀ v w', SlOwn lo (n + 1) (zs ++ [1]) v w' → (Below w.heap.size w w' ∨ ∃ g, 1 ≤ n ∧ lo ≤ g ∧ w' = w.setCell ⟨g, n, none⟩ (.int .i64 1) ∧ ∀ b cs, Whole w b 32 cs → b ≠ g) → K (a.put (some d) v) w') :
    ({ dst := some d, op := .call { callee := .builtin .append, args := #[x, y], argTypes := #[22, 22] }, type := t, pos := pos, after := after, guard := none } : Oper).wp Tryz.prog a w K Q := by
  obtain ⟨b, c, hb, ho, h0⟩ := hx
  rw [hb] at ho
  obtain ⟨A, c', hy, hoy⟩ := hy
  obtain ⟨b', rfl, _, _⟩ := own_fullI (by omega) hoy
  obtain ⟨i0, hi, hz0, hz1, hz2⟩ := info_parts info_int
  have hy0 : w.cell? ⟨b', 0, none⟩ = some (.int .i64 1) := own_at hoy (by omega) rfl
  have hlen : (iv zs).length = n := by have := ho.1; omega
  by_cases hroom : n + 1 ≤ c
  · have hn : 1 ≤ n := by
      rcases Nat.eq_zero_or_pos n with e | e
      · have := h0 e; omega
      · exact e
    rcases ho.2 with ⟨h1, _⟩ | ⟨g, cap, cur, e, hb', hg, h3, h4, h5, h6⟩
    · cases h1
    · injection e with e1 e2 e3
      injection e1 with e1
      injection e1 with e1
      subst e1; subst e3
      have hcell : ∃ u, w.cell? ⟨b, n, none⟩ = some u := ⟨cur[n]'(by omega), by rw [cell_of_row w b n cur 3 (0, 0) hg, Array.getElem?_eq_getElem (by omega)]⟩
      have hrun := run_append_room_cells (P := Tryz.prog) w 22 t 3 i0 Tryz.underlying22 hi b 0 n c ⟨b', 0, none⟩ 1 c' [.int .i64 1] (by rw [hz1]; rfl)
        (fun j u hu => by
          rcases j with _ | j
          · simp only [List.getElem?_cons_zero, Option.some.injEq] at hu
            subst hu
            rw [Addr.add_lit]
            exact hy0
          · simp at hu) (by simp [Value.oneCell']) hroom
        (fun j hj => by
          have : j = 0 := by simpa using hj
          subst this
          obtain ⟨u, hu⟩ := hcell
          simp [hz1, hu]) (fun j hj => by simp [World.frozen?, hg])
      have hset : w.setCells b (0 + n * i0.size) [.int .i64 1] = w.setCell ⟨b, n, none⟩ (.int .i64 1) := by
        rw [hz1]; simp [World.setCells]
      rw [hset] at hrun
      refine wp_appendH hb hy hrun (h _ _ ⟨_, _, rfl, ?_⟩ (.inr ⟨b, hn, hb', rfl, fun b2 cs hw e => own_ne ho hw e⟩))
      refine ⟨by rw [iv_length] at hlen ⊢; rw [List.length_append, hlen]; simp, .inr ⟨b, c, cur.setIfInBounds n (.int .i64 1), rfl, hb', Whole.set (w := w) (cs := cur) hg n (.int .i64 1), hroom, h4, by rw [Array.size_setIfInBounds]; exact h5, ?_⟩⟩
      rw [Nat.mul_one] at h6 ⊢
      have hlt : n < (cur.toList.take (n + 1)).length := by rw [List.length_take, Array.length_toList]; omega
      rw [Array.toList_setIfInBounds, List.take_set, List.set_eq_take_append_cons_drop, if_pos hlt, List.take_take, Nat.min_eq_left (by omega), h6, List.drop_of_length_le (by rw [List.length_take]; omega)]
      simp [iv]
  · obtain ⟨v', w', h1, h2, h3⟩ := run_append_arg_grows (P := Tryz.prog) w 22 t 3 i0 (.int .i64 0) 1 8 Tryz.underlying22 hi hz0 hz1 hz2 rfl (by decide) ⟨b, 0, none⟩ n c (iv zs) (by rw [hlen, Nat.mul_one])
      (fun j u hu => by
        have hj : j < n := by rw [← hlen]; exact (List.getElem?_eq_some_iff.1 hu).1
        obtain ⟨b2, off, e, _, hc⟩ := (Rd.of_own ho).2 (by omega)
        injection e with e
        injection e with e1 e2
        subst e1; subst e2
        rw [Addr.add_lit, hc j hj, hu]) ⟨b', 0, none⟩ 1 c' [.int .i64 1] (by simp)
      (fun j u hu => by
          rcases j with _ | j
          · simp only [List.getElem?_cons_zero, Option.some.injEq] at hu
            subst hu
            rw [Addr.add_lit]
            exact hy0
          · simp at hu) (by omega) (by unfold maxLen; omega) (by omega)
    refine wp_appendH hb hy h1 (h _ _ ?_ (.inl ⟨h3.os, h3.tape, h3.output, h3.size, fun i hi => h3.block i hi (by simp)⟩))
    rcases h2.2 with ⟨_, h0⟩ | ⟨g, cap, cur, rfl, _⟩
    · omega
    · refine ⟨_, _, rfl, ?_⟩
      have e : iv (zs ++ [1]) = iv zs ++ [.int .i64 1] := by simp [iv]
      rw [e]
      exact own_weaker h2 hlo
end

end Go.Proofs.YtdaimejlcfhfiaaGreatDoor

/-
  The walk of the document's own 'numbers' (brains). Conditions: those that each theorem names.
-/
namespace Go.Proofs.YtdaimejlcfhfiaaGreatDoor
open Go.RowKit Go.Shelf

set_option maxRecDepth 100000 in
set_option maxHeartbeats 1000000 in
theorem rnumbersB_any (A : Option Addr) (n c : Nat) (l : List Int) (Z : Nat) (w : World) (hr : Rd w Z A n (iv l)) (hn : n ≤ 1000) :
    Calls Tryz.prog 29 #[.slice A n c] w fun e w' => e = .returned (.bool (numsB l)) ∧ w' = w := by
  have HR := Lib.hid hr
  have HL := Lib.hid (show l.length = n by have := hr.1; rwa [iv_length] at this)
  obtain ⟨v, hv⟩ : ∃ v, numsB l = v := ⟨_, rfl⟩
  rw [hv]
  have HV := Lib.hid hv
  clear hr hv
  go_enter Tryz.func29, Tryz.ntmps29
  go_wp2_with fail
  go_loopw [3] (fun i wr => ∃ j : Nat, i = .int .i64 (j : Int) ∧ j ≤ n ∧ (∀ x ∈ l.take j, isNum x = true) ∧ wr = w) (fun i _ => n - (intOf i).toNat)
  case atStart => exact ⟨0, rfl, Nat.zero_le _, by simp, rfl⟩
  case round =>
    obtain ⟨j, rfl, hj, hT, rfl⟩ := hrel
    have HT := Lib.hid hT
    clear hT
    by_cases hlt : j < n
    · have hr2 := HR.out
      obtain ⟨b, off, hA, _, hc⟩ := hr2.2 (by omega)
      subst hA
      obtain ⟨x, hx⟩ : ∃ x, l[j]? = some x := ⟨_, List.getElem?_eq_getElem (by rw [HL.out]; exact hlt)⟩
      have hcell : wr.cell? ⟨b, off + j, none⟩ = some (.int .i64 x) := by
        rw [hc j hlt]
        simp [iv, hx]
      have hI : (j : Int) < (n : Int) := by omega
      have HX := Lib.hid hx
      clear hc hx hr2
      have hfalse : isNum x = false → numsB l = false := fun e => by
        rw [numsB, List.all_eq_false]
        exact ⟨x, List.mem_of_getElem? HX.out, by rw [e]; simp⟩
      by_cases h0 : x < 0
      · have q0 : decide (x < 0) = true := decide_eq_true h0
        have HF := Lib.hid (show v = false by rw [← HV.out]; exact hfalse (by simp [isNum, show ¬ 0 ≤ x by omega]))
        clear h0 hfalse
        go_wp2_with fail
        go_ret
        exact ⟨by rw [HF.out]; rfl, rfl⟩
      by_cases h1 : 1099511627776 < x
      · have q0 : decide (x < 0) = false := decide_eq_false h0
        have q1 : decide ((1099511627776 : Int) < x) = true := decide_eq_true h1
        have HF := Lib.hid (show v = false by rw [← HV.out]; exact hfalse (by simp [isNum, show ¬ x ≤ 1099511627776 by omega]))
        clear h0 h1 hfalse
        go_wp2_with fail
        go_ret
        exact ⟨by rw [HF.out]; rfl, rfl⟩
      have q0 : decide (x < 0) = false := decide_eq_false h0
      have q1 : decide ((1099511627776 : Int) < x) = false := decide_eq_false h1
      have HN : Hid (∀ y ∈ l.take (j + 1), isNum y = true) := Lib.hid (fun y hy => by
        rw [List.take_succ_eq_append_getElem (List.getElem?_eq_some_iff.1 HX.out).1, (List.getElem?_eq_some_iff.1 HX.out).2, List.mem_append, List.mem_singleton] at hy
        rcases hy with hy | rfl
        · exact HT.out y hy
        · exact isNum_yes (by omega) (by omega))
      clear h0 h1 hfalse
      go_wp2_with fail
      go_roundw
      case rel => exact ⟨j + 1, by go_num, by omega, HN.out, by first | rfl | trivial⟩
      case measure => simp [intOf]; omega
    · have HF := Lib.hid (show v = true by
        rw [← HV.out, numsB, List.all_eq_true]
        intro x hx
        exact HT.out x (by rw [List.take_of_length_le (by have := HL.out; omega)]; exact hx))
      go_wp2_with fail
      go_ret
      exact ⟨by rw [HF.out]; rfl, by first | rfl | trivial⟩

end Go.Proofs.YtdaimejlcfhfiaaGreatDoor

/-
  The walks of 'slices.Equal' at what is meant and at what is kept. Conditions: those that each theorem names.
-/
namespace Go.Proofs.YtdaimejlcfhfiaaGreatDoor
open Go.RowKit Go.Shelf

def QYes (v : Bool) (w : World) (e : Ending) (w' : World) : Prop := e = .returned (.bool v) ∧ ∃ k, w' = w.drewN k
set_option maxRecDepth 100000 in
set_option maxHeartbeats 2000000 in
theorem equalI_any (A A' : Option Addr) (n c n' c' : Nat) (l l' : List It) (B B' : Nat) (w : World) (hr : RdI w B A n l) (hr' : RdI w B' A' n' l') (hn : n ≤ 1000) :
    Calls Tryz.prog 50 #[.slice A n c, .slice A' n' c'] w (QYes (decide (l = l')) w) := by
  have hl := hr.1
  have hl' := hr'.1
  by_cases hne : n = n'
  · subst hne
    have HR := Lib.hid hr
    have HR' := Lib.hid hr'
    have HL := Lib.hid hl
    have HL' := Lib.hid hl'
    clear hr hr' hl hl'
    go_enter Tryz.func50, Tryz.ntmps50
    go_wp2_with fail
    go_loopw [5, 13] (fun _ i wr => ∃ j : Nat, i = .int .i64 (j : Int) ∧ j ≤ n ∧ l.take j = l'.take j ∧ ∃ k, wr = w.drewN k) (fun _ i _ => n - (intOf i).toNat)
    case atStart => exact ⟨0, rfl, Nat.zero_le _, rfl, 0, rfl⟩
    case round =>
      obtain ⟨j, rfl, hj, hT, k, rfl⟩ := hrel
      have HT := Lib.hid hT
      clear hT
      by_cases hlt : j < n
      · obtain ⟨b, off, rfl, _, hc⟩ := RdI.at_ HR.out (by omega)
        obtain ⟨b', off', rfl, _, hc'⟩ := RdI.at_ HR'.out (by omega)
        obtain ⟨x, hx⟩ : ∃ x, l[j]? = some x := ⟨_, List.getElem?_eq_getElem (by rw [HL.out]; exact hlt)⟩
        obtain ⟨y, hy⟩ : ∃ y, l'[j]? = some y := ⟨_, List.getElem?_eq_getElem (by rw [HL'.out]; exact hlt)⟩
        obtain ⟨c0, c1, c2, c3⟩ := hc j x hx
        obtain ⟨d0, d1, d2, d3⟩ := hc' j y hy
        have hI : (j : Int) < (n : Int) := by omega
        have HX := Lib.hid hx
        have HY := Lib.hid hy
        clear hc hc' hx hy
        by_cases hxy : x = y
        · subst hxy
          go_wp2_with fail
          go_quiet (fail)
          go_wp2_with fail
          go_roundw
          case rel => exact ⟨j + 1, by go_num, by omega, take_growB HT.out HX.out HY.out, _, rfl⟩
          case measure => simp [intOf]; omega
        · have hq := fun W => (run_neqIt W x y).trans (by rw [decide_eq_false hxy, Bool.not_false])
          have HF := Lib.hid (show decide (l = l') = false by rw [decide_eq_false_iff_not]; rintro rfl; have h3 := HX.out; rw [HY.out] at h3; exact hxy (Option.some.inj h3).symm)
          clear hxy
          go_wp2_with fail
          go_quiet (fail)
          go_wp2_with fail
          go_ret
          exact ⟨by rw [HF.out]; rfl, _, World.drewN_drewN _ _ _⟩
      · have HF := Lib.hid (show decide (l = l') = true by
          rw [decide_eq_true_eq]
          have h1 := HT.out
          rwa [List.take_of_length_le (by have := HL.out; omega), List.take_of_length_le (by have := HL'.out; omega)] at h1)
        go_wp2_with fail
        go_ret
        exact ⟨by rw [HF.out]; rfl, _, rfl⟩
  · have HF := Lib.hid (show decide (l = l') = false by rw [decide_eq_false_iff_not]; rintro rfl; omega)
    rw [HF.out]
    have hb : ((n : Int) == (n' : Int)) = false := by rw [beq_eq_false_iff_ne]; omega
    have hb2 : ((n : Int) != (n' : Int)) = true := by simp [bne, hb]
    clear hr hr' hl hl' hne HF
    go_enter Tryz.func50, Tryz.ntmps50
    go_wp2_with fail
    go_ret
    exact ⟨rfl, 0, rfl⟩

set_option maxRecDepth 100000 in
set_option maxHeartbeats 2000000 in
theorem equalKp_any (A A' : Option Addr) (n c n' c' : Nat) (l l' : List Kp) (B B' : Nat) (w : World) (hr : RdK w B A n l) (hr' : RdK w B' A' n' l') (hn : n ≤ 1000) :
    Calls Tryz.prog 51 #[.slice A n c, .slice A' n' c'] w (QYes (decide (l = l')) w) := by
  have hl := hr.1
  have hl' := hr'.1
  by_cases hne : n = n'
  · subst hne
    have HR := Lib.hid hr
    have HR' := Lib.hid hr'
    have HL := Lib.hid hl
    have HL' := Lib.hid hl'
    clear hr hr' hl hl'
    go_enter Tryz.func51, Tryz.ntmps51
    go_wp2_with fail
    go_loopw [5, 13] (fun _ i wr => ∃ j : Nat, i = .int .i64 (j : Int) ∧ j ≤ n ∧ l.take j = l'.take j ∧ ∃ k, wr = w.drewN k) (fun _ i _ => n - (intOf i).toNat)
    case atStart => exact ⟨0, rfl, Nat.zero_le _, rfl, 0, rfl⟩
    case round =>
      obtain ⟨j, rfl, hj, hT, k, rfl⟩ := hrel
      have HT := Lib.hid hT
      clear hT
      by_cases hlt : j < n
      · obtain ⟨b, off, rfl, _, hc⟩ := RdK.at_ HR.out (by omega)
        obtain ⟨b', off', rfl, _, hc'⟩ := RdK.at_ HR'.out (by omega)
        obtain ⟨x, hx⟩ : ∃ x, l[j]? = some x := ⟨_, List.getElem?_eq_getElem (by rw [HL.out]; exact hlt)⟩
        obtain ⟨y, hy⟩ : ∃ y, l'[j]? = some y := ⟨_, List.getElem?_eq_getElem (by rw [HL'.out]; exact hlt)⟩
        obtain ⟨c0, c1, c2, c3, c4, c5, c6, c7⟩ := hc j x hx
        obtain ⟨d0, d1, d2, d3, d4, d5, d6, d7⟩ := hc' j y hy
        have hI : (j : Int) < (n : Int) := by omega
        have HX := Lib.hid hx
        have HY := Lib.hid hy
        clear hc hc' hx hy
        by_cases hxy : x = y
        · subst hxy
          go_wp2_with fail
          go_quiet (fail)
          go_wp2_with fail
          go_roundw
          case rel => exact ⟨j + 1, by go_num, by omega, take_growB HT.out HX.out HY.out, _, rfl⟩
          case measure => simp [intOf]; omega
        · have hq := fun W => (run_neqKp W x y).trans (by rw [decide_eq_false hxy, Bool.not_false])
          have HF := Lib.hid (show decide (l = l') = false by rw [decide_eq_false_iff_not]; rintro rfl; have h3 := HX.out; rw [HY.out] at h3; exact hxy (Option.some.inj h3).symm)
          clear hxy
          go_wp2_with fail
          go_quiet (fail)
          go_wp2_with fail
          go_ret
          exact ⟨by rw [HF.out]; rfl, _, World.drewN_drewN _ _ _⟩
      · have HF := Lib.hid (show decide (l = l') = true by
          rw [decide_eq_true_eq]
          have h1 := HT.out
          rwa [List.take_of_length_le (by have := HL.out; omega), List.take_of_length_le (by have := HL'.out; omega)] at h1)
        go_wp2_with fail
        go_ret
        exact ⟨by rw [HF.out]; rfl, _, rfl⟩
  · have HF := Lib.hid (show decide (l = l') = false by rw [decide_eq_false_iff_not]; rintro rfl; omega)
    rw [HF.out]
    have hb : ((n : Int) == (n' : Int)) = false := by rw [beq_eq_false_iff_ne]; omega
    have hb2 : ((n : Int) != (n' : Int)) = true := by simp [bne, hb]
    clear hr hr' hl hl' hne HF
    go_enter Tryz.func51, Tryz.ntmps51
    go_wp2_with fail
    go_ret
    exact ⟨rfl, 0, rfl⟩


end Go.Proofs.YtdaimejlcfhfiaaGreatDoor

/-
  The walk of 'Same' of package brain. Conditions: those that each theorem names.
-/
namespace Go.Proofs.YtdaimejlcfhfiaaGreatDoor
open Go.RowKit Go.Shelf

set_option maxRecDepth 100000 in
theorem run_eqRf (w : World) (x y : Rf) : (binOp .eql 28 (.agg #[.int .u8 x.st, .int .i64 x.fr, .int .i64 x.to_, .int .i64 x.step, .bool x.paused, .int .i64 x.since, .int .i64 x.fails]) (.agg #[.int .u8 y.st, .int .i64 y.fr, .int .i64 y.to_, .int .i64 y.step, .bool y.paused, .int .i64 y.since, .int .i64 y.fails])).run Tryz.prog w = .ok (.bool (decide (x = y))) w := by
  go_simp
  by_cases h : x = y
  · subst h; simp
  · rw [decide_eq_false h]
    repeat' (first | rfl | split)
    exfalso
    apply h
    cases x
    cases y
    simp_all
set_option maxRecDepth 100000 in
set_option maxHeartbeats 8000000 in
theorem bsame_any (p q : Br) (a b : Ad) (Z Z' : Nat) (w : World) (hr : RdB_ w Z p a) (hr' : RdB_ w Z' q b) (hZ : Z ≤ w.heap.size) (hZ' : Z' ≤ w.heap.size) (hm : p.cf.ms.length ≤ 1000) (hi : p.its.length ≤ 1000) (hk : p.kps.length ≤ 1000) :
    Calls Tryz.prog 23 #[brV p a, brV q b] w (BoolPost (sameB p q) w) := by
  obtain ⟨hb, w0, w1⟩ := two_new w 30 30 (brC p a) (brC q b)
  obtain ⟨V, hV⟩ : ∃ V, (w.alloc (.cells (brC p a) 30)).alloc (.cells (brC q b) 30) = V := ⟨_, rfl⟩
  rw [hV] at hb w0 w1
  have hs := sameC_any (cfM p a) (cfM q b) Z Z' V (hr.below (hb.mono hZ)).lies (hr'.below (hb.mono hZ')).lies (Nat.le_trans hZ hb.size) (Nat.le_trans hZ' hb.size) (by simp only; omega)
  have hsc : sameC (cfM p a) (cfM q b) = sameC p.cf q.cf := rfl
  rw [hsc] at hs
  have HR := Lib.hid (hr.below (hb.mono hZ))
  have HR' := Lib.hid (hr'.below (hb.mono hZ'))
  have HB := Lib.hid hb
  have X0 := Lib.hid w0
  have X1 := Lib.hid w1
  have HV := Lib.hid hV
  obtain ⟨sc, hsv⟩ : ∃ sc, sameC p.cf q.cf = sc := ⟨_, rfl⟩
  rw [hsv] at hs
  have HS := Lib.hid hs
  obtain ⟨r, hres⟩ : ∃ r, sameB p q = r := ⟨_, rfl⟩
  rw [hres]
  unfold sameB at hres
  rw [hsv] at hres
  have HRes := Lib.hid hres
  have HZ := Lib.hid (And.intro (Nat.le_trans hZ hb.size) (Nat.le_trans hZ' hb.size))
  clear hb w0 w1 hr hr' hZ hZ' hV hs hsc hsv hres
  by_cases t0 : p.ep = q.ep
  rotate_left
  · have HF := Lib.hid (show r = false by rw [← HRes.out]; simp [t0])
    have b0 : (p.ep == q.ep) = false := by simp [t0]
    clear t0
    go_enter Tryz.func23, Tryz.ntmps23
    go_upto_region 1 with fail
    refine wpV (fun V2 hV2 => ?_)
    obtain rfl : V = V2 := HV.out.symm.trans hV2
    clear HV hV2
    obtain ⟨c0, c1, c2, c3, c4, c5, c6, c7, c8, c9, c10, c11, c12, c13, c14, c15, c16, c17, c18, c19, c20, c21, c22, c23, c24, c25, c26⟩ := cells27 X0.out
    obtain ⟨d0, d1, d2, d3, d4, d5, d6, d7, d8, d9, d10, d11, d12, d13, d14, d15, d16, d17, d18, d19, d20, d21, d22, d23, d24, d25, d26⟩ := cells27 X1.out
    go_wp2_with fail
    go_ret
    exact ⟨by rw [HF.out]; rfl, HB.out⟩
  have b0 : (p.ep == q.ep) = true := by simp [t0]
  have HT0 := Lib.hid t0
  clear t0
  by_cases t1 : p.sq = q.sq
  rotate_left
  · have HF := Lib.hid (show r = false by rw [← HRes.out]; simp [t1])
    have b1 : (p.sq == q.sq) = false := by simp [t1]
    clear t1
    go_enter Tryz.func23, Tryz.ntmps23
    go_upto_region 1 with fail
    refine wpV (fun V2 hV2 => ?_)
    obtain rfl : V = V2 := HV.out.symm.trans hV2
    clear HV hV2
    obtain ⟨c0, c1, c2, c3, c4, c5, c6, c7, c8, c9, c10, c11, c12, c13, c14, c15, c16, c17, c18, c19, c20, c21, c22, c23, c24, c25, c26⟩ := cells27 X0.out
    obtain ⟨d0, d1, d2, d3, d4, d5, d6, d7, d8, d9, d10, d11, d12, d13, d14, d15, d16, d17, d18, d19, d20, d21, d22, d23, d24, d25, d26⟩ := cells27 X1.out
    go_wp2_with fail
    go_ret
    exact ⟨by rw [HF.out]; rfl, HB.out⟩
  have b1 : (p.sq == q.sq) = true := by simp [t1]
  have HT1 := Lib.hid t1
  clear t1
  by_cases t2 : p.set = q.set
  rotate_left
  · have HF := Lib.hid (show r = false by rw [← HRes.out]; simp [t2])
    have b2 : (p.set == q.set) = false := by simp [t2]
    have b2' : decide (p.set = q.set) = false := decide_eq_false t2
    clear t2
    go_enter Tryz.func23, Tryz.ntmps23
    go_upto_region 1 with fail
    refine wpV (fun V2 hV2 => ?_)
    obtain rfl : V = V2 := HV.out.symm.trans hV2
    clear HV hV2
    obtain ⟨c0, c1, c2, c3, c4, c5, c6, c7, c8, c9, c10, c11, c12, c13, c14, c15, c16, c17, c18, c19, c20, c21, c22, c23, c24, c25, c26⟩ := cells27 X0.out
    obtain ⟨d0, d1, d2, d3, d4, d5, d6, d7, d8, d9, d10, d11, d12, d13, d14, d15, d16, d17, d18, d19, d20, d21, d22, d23, d24, d25, d26⟩ := cells27 X1.out
    go_wp2_with fail
    go_ret
    exact ⟨by rw [HF.out]; rfl, HB.out⟩
  have b2 : (p.set == q.set) = true := by simp [t2]
  have b2' : decide (p.set = q.set) = true := decide_eq_true t2
  have HT2 := Lib.hid t2
  clear t2
  by_cases t3 : p.rf = q.rf
  rotate_left
  · have HF := Lib.hid (show r = false by rw [← HRes.out]; simp [t3])
    have b3 := fun W => (run_eqRf W p.rf q.rf).trans (by rw [decide_eq_false t3])
    clear t3
    go_enter Tryz.func23, Tryz.ntmps23
    go_upto_region 1 with fail
    refine wpV (fun V2 hV2 => ?_)
    obtain rfl : V = V2 := HV.out.symm.trans hV2
    clear HV hV2
    obtain ⟨c0, c1, c2, c3, c4, c5, c6, c7, c8, c9, c10, c11, c12, c13, c14, c15, c16, c17, c18, c19, c20, c21, c22, c23, c24, c25, c26⟩ := cells27 X0.out
    obtain ⟨d0, d1, d2, d3, d4, d5, d6, d7, d8, d9, d10, d11, d12, d13, d14, d15, d16, d17, d18, d19, d20, d21, d22, d23, d24, d25, d26⟩ := cells27 X1.out
    go_wp2_with fail
    go_ret
    exact ⟨by rw [HF.out]; rfl, HB.out⟩
  have b3 := fun W => (run_eqRf W p.rf q.rf).trans (by rw [decide_eq_true t3])
  have HT3 := Lib.hid t3
  clear t3
  by_cases t4 : sc = true
  rotate_left
  · obtain rfl : sc = false := by simpa using t4
    have HF := Lib.hid (show r = false by rw [← HRes.out]; simp)
    clear t4
    go_enter Tryz.func23, Tryz.ntmps23
    go_upto_region 1 with fail
    refine wpV (fun V2 hV2 => ?_)
    obtain rfl : V = V2 := HV.out.symm.trans hV2
    clear HV hV2
    obtain ⟨c0, c1, c2, c3, c4, c5, c6, c7, c8, c9, c10, c11, c12, c13, c14, c15, c16, c17, c18, c19, c20, c21, c22, c23, c24, c25, c26⟩ := cells27 X0.out
    obtain ⟨d0, d1, d2, d3, d4, d5, d6, d7, d8, d9, d10, d11, d12, d13, d14, d15, d16, d17, d18, d19, d20, d21, d22, d23, d24, d25, d26⟩ := cells27 X1.out
    go_wp2_with fail
    refine HS.out.mono ?_
    rintro e w2 ⟨rfl, hb2⟩
    clear c0 c1 c2 c3 c4 c5 c6 c7 c8 c9 c10 c11 c12 c13 c14 c15 c16 c17 c18 c19 c20 c21 c22 c23 c24 c25 c26 d0 d1 d2 d3 d4 d5 d6 d7 d8 d9 d10 d11 d12 d13 d14 d15 d16 d17 d18 d19 d20 d21 d22 d23 d24 d25 d26
    have X0a := Lib.hid (X0.out.under hb2)
    have X1a := Lib.hid (X1.out.under hb2)
    obtain ⟨c0, c1, c2, c3, c4, c5, c6, c7, c8, c9, c10, c11, c12, c13, c14, c15, c16, c17, c18, c19, c20, c21, c22, c23, c24, c25, c26⟩ := cells27 X0a.out
    obtain ⟨d0, d1, d2, d3, d4, d5, d6, d7, d8, d9, d10, d11, d12, d13, d14, d15, d16, d17, d18, d19, d20, d21, d22, d23, d24, d25, d26⟩ := cells27 X1a.out
    have HBa := Lib.hid (HB.out.trans (hb2.mono HB.out.size))
    have HRa := Lib.hid (HR.out.below (hb2.mono HZ.out.1))
    have HRa' := Lib.hid (HR'.out.below (hb2.mono HZ.out.2))
    have HZa := Lib.hid (And.intro (Nat.le_trans HZ.out.1 hb2.size) (Nat.le_trans HZ.out.2 hb2.size))
    clear hb2 HB X0 X1 HR HR' HZ
    go_wp2_with fail
    go_ret
    exact ⟨by rw [HF.out]; rfl, HBa.out⟩
  obtain rfl : sc = true := t4
  by_cases t5 : p.its = q.its
  rotate_left
  · have HF := Lib.hid (show r = false by rw [← HRes.out]; simp [t5])
    have HE5 := Lib.hid (decide_eq_false t5)
    clear t5
    go_enter Tryz.func23, Tryz.ntmps23
    go_upto_region 1 with fail
    refine wpV (fun V2 hV2 => ?_)
    obtain rfl : V = V2 := HV.out.symm.trans hV2
    clear HV hV2
    obtain ⟨c0, c1, c2, c3, c4, c5, c6, c7, c8, c9, c10, c11, c12, c13, c14, c15, c16, c17, c18, c19, c20, c21, c22, c23, c24, c25, c26⟩ := cells27 X0.out
    obtain ⟨d0, d1, d2, d3, d4, d5, d6, d7, d8, d9, d10, d11, d12, d13, d14, d15, d16, d17, d18, d19, d20, d21, d22, d23, d24, d25, d26⟩ := cells27 X1.out
    go_wp2_with fail
    refine HS.out.mono ?_
    rintro e w2 ⟨rfl, hb2⟩
    clear c0 c1 c2 c3 c4 c5 c6 c7 c8 c9 c10 c11 c12 c13 c14 c15 c16 c17 c18 c19 c20 c21 c22 c23 c24 c25 c26 d0 d1 d2 d3 d4 d5 d6 d7 d8 d9 d10 d11 d12 d13 d14 d15 d16 d17 d18 d19 d20 d21 d22 d23 d24 d25 d26
    have X0a := Lib.hid (X0.out.under hb2)
    have X1a := Lib.hid (X1.out.under hb2)
    obtain ⟨c0, c1, c2, c3, c4, c5, c6, c7, c8, c9, c10, c11, c12, c13, c14, c15, c16, c17, c18, c19, c20, c21, c22, c23, c24, c25, c26⟩ := cells27 X0a.out
    obtain ⟨d0, d1, d2, d3, d4, d5, d6, d7, d8, d9, d10, d11, d12, d13, d14, d15, d16, d17, d18, d19, d20, d21, d22, d23, d24, d25, d26⟩ := cells27 X1a.out
    have HBa := Lib.hid (HB.out.trans (hb2.mono HB.out.size))
    have HRa := Lib.hid (HR.out.below (hb2.mono HZ.out.1))
    have HRa' := Lib.hid (HR'.out.below (hb2.mono HZ.out.2))
    have HZa := Lib.hid (And.intro (Nat.le_trans HZ.out.1 hb2.size) (Nat.le_trans HZ.out.2 hb2.size))
    clear hb2 HB X0 X1 HR HR' HZ
    go_wp2_with fail
    refine (equalI_any a.A b.A p.its.length a.c q.its.length b.c p.its q.its Z Z' w2 HRa.out.its HRa'.out.its hi).mono ?_
    rintro e w3 ⟨rfl, k3, hk3⟩
    rw [HE5.out]
    have hb3 : Below w2.heap.size w2 w3 := by rw [hk3]; exact below_drewB (Below.refl _ _) _
    clear hk3
    clear c0 c1 c2 c3 c4 c5 c6 c7 c8 c9 c10 c11 c12 c13 c14 c15 c16 c17 c18 c19 c20 c21 c22 c23 c24 c25 c26 d0 d1 d2 d3 d4 d5 d6 d7 d8 d9 d10 d11 d12 d13 d14 d15 d16 d17 d18 d19 d20 d21 d22 d23 d24 d25 d26
    have X0b := Lib.hid (X0a.out.under hb3)
    have X1b := Lib.hid (X1a.out.under hb3)
    obtain ⟨c0, c1, c2, c3, c4, c5, c6, c7, c8, c9, c10, c11, c12, c13, c14, c15, c16, c17, c18, c19, c20, c21, c22, c23, c24, c25, c26⟩ := cells27 X0b.out
    obtain ⟨d0, d1, d2, d3, d4, d5, d6, d7, d8, d9, d10, d11, d12, d13, d14, d15, d16, d17, d18, d19, d20, d21, d22, d23, d24, d25, d26⟩ := cells27 X1b.out
    have HBb := Lib.hid (HBa.out.trans (hb3.mono HBa.out.size))
    have HRb := Lib.hid (HRa.out.below (hb3.mono HZa.out.1))
    have HRb' := Lib.hid (HRa'.out.below (hb3.mono HZa.out.2))
    have HZb := Lib.hid (And.intro (Nat.le_trans HZa.out.1 hb3.size) (Nat.le_trans HZa.out.2 hb3.size))
    clear hb3 HBa X0a X1a HRa HRa' HZa
    go_wp2_with fail
    go_ret
    exact ⟨by rw [HF.out]; rfl, HBb.out⟩
  have HE5 := Lib.hid (decide_eq_true t5)
  have HT5 := Lib.hid t5
  clear t5
  by_cases t6 : p.kps = q.kps
  rotate_left
  · have HF := Lib.hid (show r = false by rw [← HRes.out]; simp [t6])
    have HE6 := Lib.hid (decide_eq_false t6)
    clear t6
    go_enter Tryz.func23, Tryz.ntmps23
    go_upto_region 1 with fail
    refine wpV (fun V2 hV2 => ?_)
    obtain rfl : V = V2 := HV.out.symm.trans hV2
    clear HV hV2
    obtain ⟨c0, c1, c2, c3, c4, c5, c6, c7, c8, c9, c10, c11, c12, c13, c14, c15, c16, c17, c18, c19, c20, c21, c22, c23, c24, c25, c26⟩ := cells27 X0.out
    obtain ⟨d0, d1, d2, d3, d4, d5, d6, d7, d8, d9, d10, d11, d12, d13, d14, d15, d16, d17, d18, d19, d20, d21, d22, d23, d24, d25, d26⟩ := cells27 X1.out
    go_wp2_with fail
    refine HS.out.mono ?_
    rintro e w2 ⟨rfl, hb2⟩
    clear c0 c1 c2 c3 c4 c5 c6 c7 c8 c9 c10 c11 c12 c13 c14 c15 c16 c17 c18 c19 c20 c21 c22 c23 c24 c25 c26 d0 d1 d2 d3 d4 d5 d6 d7 d8 d9 d10 d11 d12 d13 d14 d15 d16 d17 d18 d19 d20 d21 d22 d23 d24 d25 d26
    have X0a := Lib.hid (X0.out.under hb2)
    have X1a := Lib.hid (X1.out.under hb2)
    obtain ⟨c0, c1, c2, c3, c4, c5, c6, c7, c8, c9, c10, c11, c12, c13, c14, c15, c16, c17, c18, c19, c20, c21, c22, c23, c24, c25, c26⟩ := cells27 X0a.out
    obtain ⟨d0, d1, d2, d3, d4, d5, d6, d7, d8, d9, d10, d11, d12, d13, d14, d15, d16, d17, d18, d19, d20, d21, d22, d23, d24, d25, d26⟩ := cells27 X1a.out
    have HBa := Lib.hid (HB.out.trans (hb2.mono HB.out.size))
    have HRa := Lib.hid (HR.out.below (hb2.mono HZ.out.1))
    have HRa' := Lib.hid (HR'.out.below (hb2.mono HZ.out.2))
    have HZa := Lib.hid (And.intro (Nat.le_trans HZ.out.1 hb2.size) (Nat.le_trans HZ.out.2 hb2.size))
    clear hb2 HB X0 X1 HR HR' HZ
    go_wp2_with fail
    refine (equalI_any a.A b.A p.its.length a.c q.its.length b.c p.its q.its Z Z' w2 HRa.out.its HRa'.out.its hi).mono ?_
    rintro e w3 ⟨rfl, k3, hk3⟩
    rw [HE5.out]
    have hb3 : Below w2.heap.size w2 w3 := by rw [hk3]; exact below_drewB (Below.refl _ _) _
    clear hk3
    clear c0 c1 c2 c3 c4 c5 c6 c7 c8 c9 c10 c11 c12 c13 c14 c15 c16 c17 c18 c19 c20 c21 c22 c23 c24 c25 c26 d0 d1 d2 d3 d4 d5 d6 d7 d8 d9 d10 d11 d12 d13 d14 d15 d16 d17 d18 d19 d20 d21 d22 d23 d24 d25 d26
    have X0b := Lib.hid (X0a.out.under hb3)
    have X1b := Lib.hid (X1a.out.under hb3)
    obtain ⟨c0, c1, c2, c3, c4, c5, c6, c7, c8, c9, c10, c11, c12, c13, c14, c15, c16, c17, c18, c19, c20, c21, c22, c23, c24, c25, c26⟩ := cells27 X0b.out
    obtain ⟨d0, d1, d2, d3, d4, d5, d6, d7, d8, d9, d10, d11, d12, d13, d14, d15, d16, d17, d18, d19, d20, d21, d22, d23, d24, d25, d26⟩ := cells27 X1b.out
    have HBb := Lib.hid (HBa.out.trans (hb3.mono HBa.out.size))
    have HRb := Lib.hid (HRa.out.below (hb3.mono HZa.out.1))
    have HRb' := Lib.hid (HRa'.out.below (hb3.mono HZa.out.2))
    have HZb := Lib.hid (And.intro (Nat.le_trans HZa.out.1 hb3.size) (Nat.le_trans HZa.out.2 hb3.size))
    clear hb3 HBa X0a X1a HRa HRa' HZa
    go_wp2_with fail
    refine (equalKp_any a.B b.B p.kps.length a.d q.kps.length b.d p.kps q.kps Z Z' w3 HRb.out.kps HRb'.out.kps hk).mono ?_
    rintro e w4 ⟨rfl, k4, hk4⟩
    rw [HE6.out]
    have hb4 : Below w3.heap.size w3 w4 := by rw [hk4]; exact below_drewB (Below.refl _ _) _
    clear hk4
    clear c0 c1 c2 c3 c4 c5 c6 c7 c8 c9 c10 c11 c12 c13 c14 c15 c16 c17 c18 c19 c20 c21 c22 c23 c24 c25 c26 d0 d1 d2 d3 d4 d5 d6 d7 d8 d9 d10 d11 d12 d13 d14 d15 d16 d17 d18 d19 d20 d21 d22 d23 d24 d25 d26
    have X0c := Lib.hid (X0b.out.under hb4)
    have X1c := Lib.hid (X1b.out.under hb4)
    obtain ⟨c0, c1, c2, c3, c4, c5, c6, c7, c8, c9, c10, c11, c12, c13, c14, c15, c16, c17, c18, c19, c20, c21, c22, c23, c24, c25, c26⟩ := cells27 X0c.out
    obtain ⟨d0, d1, d2, d3, d4, d5, d6, d7, d8, d9, d10, d11, d12, d13, d14, d15, d16, d17, d18, d19, d20, d21, d22, d23, d24, d25, d26⟩ := cells27 X1c.out
    have HBc := Lib.hid (HBb.out.trans (hb4.mono HBb.out.size))
    have HRc := Lib.hid (HRb.out.below (hb4.mono HZb.out.1))
    have HRc' := Lib.hid (HRb'.out.below (hb4.mono HZb.out.2))
    have HZc := Lib.hid (And.intro (Nat.le_trans HZb.out.1 hb4.size) (Nat.le_trans HZb.out.2 hb4.size))
    clear hb4 HBb X0b X1b HRb HRb' HZb
    go_wp2_with fail
    go_ret
    exact ⟨by rw [HF.out]; rfl, HBc.out⟩
  have HE6 := Lib.hid (decide_eq_true t6)
  have HT6 := Lib.hid t6
  clear t6
  have HF := Lib.hid (show r = true by rw [← HRes.out]; simp [HT0.out, HT1.out, HT2.out, HT3.out, HT5.out, HT6.out])
  go_enter Tryz.func23, Tryz.ntmps23
  go_upto_region 1 with fail
  refine wpV (fun V2 hV2 => ?_)
  obtain rfl : V = V2 := HV.out.symm.trans hV2
  clear HV hV2
  obtain ⟨c0, c1, c2, c3, c4, c5, c6, c7, c8, c9, c10, c11, c12, c13, c14, c15, c16, c17, c18, c19, c20, c21, c22, c23, c24, c25, c26⟩ := cells27 X0.out
  obtain ⟨d0, d1, d2, d3, d4, d5, d6, d7, d8, d9, d10, d11, d12, d13, d14, d15, d16, d17, d18, d19, d20, d21, d22, d23, d24, d25, d26⟩ := cells27 X1.out
  go_wp2_with fail
  refine HS.out.mono ?_
  rintro e w2 ⟨rfl, hb2⟩
  clear c0 c1 c2 c3 c4 c5 c6 c7 c8 c9 c10 c11 c12 c13 c14 c15 c16 c17 c18 c19 c20 c21 c22 c23 c24 c25 c26 d0 d1 d2 d3 d4 d5 d6 d7 d8 d9 d10 d11 d12 d13 d14 d15 d16 d17 d18 d19 d20 d21 d22 d23 d24 d25 d26
  have X0a := Lib.hid (X0.out.under hb2)
  have X1a := Lib.hid (X1.out.under hb2)
  obtain ⟨c0, c1, c2, c3, c4, c5, c6, c7, c8, c9, c10, c11, c12, c13, c14, c15, c16, c17, c18, c19, c20, c21, c22, c23, c24, c25, c26⟩ := cells27 X0a.out
  obtain ⟨d0, d1, d2, d3, d4, d5, d6, d7, d8, d9, d10, d11, d12, d13, d14, d15, d16, d17, d18, d19, d20, d21, d22, d23, d24, d25, d26⟩ := cells27 X1a.out
  have HBa := Lib.hid (HB.out.trans (hb2.mono HB.out.size))
  have HRa := Lib.hid (HR.out.below (hb2.mono HZ.out.1))
  have HRa' := Lib.hid (HR'.out.below (hb2.mono HZ.out.2))
  have HZa := Lib.hid (And.intro (Nat.le_trans HZ.out.1 hb2.size) (Nat.le_trans HZ.out.2 hb2.size))
  clear hb2 HB X0 X1 HR HR' HZ
  go_wp2_with fail
  refine (equalI_any a.A b.A p.its.length a.c q.its.length b.c p.its q.its Z Z' w2 HRa.out.its HRa'.out.its hi).mono ?_
  rintro e w3 ⟨rfl, k3, hk3⟩
  rw [HE5.out]
  have hb3 : Below w2.heap.size w2 w3 := by rw [hk3]; exact below_drewB (Below.refl _ _) _
  clear hk3
  clear c0 c1 c2 c3 c4 c5 c6 c7 c8 c9 c10 c11 c12 c13 c14 c15 c16 c17 c18 c19 c20 c21 c22 c23 c24 c25 c26 d0 d1 d2 d3 d4 d5 d6 d7 d8 d9 d10 d11 d12 d13 d14 d15 d16 d17 d18 d19 d20 d21 d22 d23 d24 d25 d26
  have X0b := Lib.hid (X0a.out.under hb3)
  have X1b := Lib.hid (X1a.out.under hb3)
  obtain ⟨c0, c1, c2, c3, c4, c5, c6, c7, c8, c9, c10, c11, c12, c13, c14, c15, c16, c17, c18, c19, c20, c21, c22, c23, c24, c25, c26⟩ := cells27 X0b.out
  obtain ⟨d0, d1, d2, d3, d4, d5, d6, d7, d8, d9, d10, d11, d12, d13, d14, d15, d16, d17, d18, d19, d20, d21, d22, d23, d24, d25, d26⟩ := cells27 X1b.out
  have HBb := Lib.hid (HBa.out.trans (hb3.mono HBa.out.size))
  have HRb := Lib.hid (HRa.out.below (hb3.mono HZa.out.1))
  have HRb' := Lib.hid (HRa'.out.below (hb3.mono HZa.out.2))
  have HZb := Lib.hid (And.intro (Nat.le_trans HZa.out.1 hb3.size) (Nat.le_trans HZa.out.2 hb3.size))
  clear hb3 HBa X0a X1a HRa HRa' HZa
  go_wp2_with fail
  refine (equalKp_any a.B b.B p.kps.length a.d q.kps.length b.d p.kps q.kps Z Z' w3 HRb.out.kps HRb'.out.kps hk).mono ?_
  rintro e w4 ⟨rfl, k4, hk4⟩
  rw [HE6.out]
  have hb4 : Below w3.heap.size w3 w4 := by rw [hk4]; exact below_drewB (Below.refl _ _) _
  clear hk4
  clear c0 c1 c2 c3 c4 c5 c6 c7 c8 c9 c10 c11 c12 c13 c14 c15 c16 c17 c18 c19 c20 c21 c22 c23 c24 c25 c26 d0 d1 d2 d3 d4 d5 d6 d7 d8 d9 d10 d11 d12 d13 d14 d15 d16 d17 d18 d19 d20 d21 d22 d23 d24 d25 d26
  have X0c := Lib.hid (X0b.out.under hb4)
  have X1c := Lib.hid (X1b.out.under hb4)
  obtain ⟨c0, c1, c2, c3, c4, c5, c6, c7, c8, c9, c10, c11, c12, c13, c14, c15, c16, c17, c18, c19, c20, c21, c22, c23, c24, c25, c26⟩ := cells27 X0c.out
  obtain ⟨d0, d1, d2, d3, d4, d5, d6, d7, d8, d9, d10, d11, d12, d13, d14, d15, d16, d17, d18, d19, d20, d21, d22, d23, d24, d25, d26⟩ := cells27 X1c.out
  have HBc := Lib.hid (HBb.out.trans (hb4.mono HBb.out.size))
  have HRc := Lib.hid (HRb.out.below (hb4.mono HZb.out.1))
  have HRc' := Lib.hid (HRb'.out.below (hb4.mono HZb.out.2))
  have HZc := Lib.hid (And.intro (Nat.le_trans HZb.out.1 hb4.size) (Nat.le_trans HZb.out.2 hb4.size))
  clear hb4 HBb X0b X1b HRb HRb' HZb
  go_wp2_with fail
  go_ret
  exact ⟨by rw [HF.out]; rfl, HBc.out⟩

end Go.Proofs.YtdaimejlcfhfiaaGreatDoor
