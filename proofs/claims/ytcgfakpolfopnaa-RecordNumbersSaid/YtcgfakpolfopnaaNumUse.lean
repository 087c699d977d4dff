/-
  Small words for what calls package num: literals, appends, slices cut, rows put and taken. Conditions: those that each theorem names.
-/
import Derived.Test.YtcgfakpolfopnaaNumTakeRow
import Derived.OpenShut
import Derived.Laws.AppendOwnNone
namespace Go.Proofs.Ytcgfakpolfopnaa
open Go.RowKit Go.Shelf

/-- A literal slice reads as it is written. -/
theorem rd_lit (W : World) (cs : List Value) (t : TypeId) (n : Nat) (hn : cs.length = n) : Rd (W.alloc (.cells cs.toArray t)) (W.heap.size + 1) (some ⟨W.heap.size, 0, none⟩) n cs := by
  refine ⟨hn, fun _ => ⟨W.heap.size, 0, rfl, by omega, fun j hj => ?_⟩⟩
  rw [Nat.zero_add, cell_new]
  simp

theorem rd_lit_at (W : World) (cs : List Value) (t : TypeId) (n b : Nat) (hn : cs.length = n) (hb : W.heap.size = b) : Rd (W.alloc (.cells cs.toArray t)) (b + 1) (some ⟨b, 0, none⟩) n cs := by
  subst hb; exact rd_lit W cs t n hn

/-- It reads so behind whatever leaves what was there. -/
theorem Rd.on {W W' : World} {B n : Nat} {A : Option Addr} {xs : List Value} (h : Rd W B A n xs) (hB : B ≤ W.heap.size) (hb : Below W.heap.size W W') : Rd W' B A n xs := h.below (hb.mono hB)

theorem AddInv.rd {base j : Nat} {ys : List Value} {w w' : World} {A : Option Addr} {c : Nat} (h : AddInv base j ys w (.slice A j c) w') : Rd w' w'.heap.size A j ys := Rd.of_own h.1

def WakePost (w : World) (e : Ending) (w' : World) : Prop := e = .returned (.bool true) ∧ Below w.heap.size w w'

/-- 'x[:k]', as the model cuts it. -/
theorem run_head (A : Option Addr) (n c k : Nat) (hk : k ≤ c) (w : World) : (Instr.slice 26 (.slice A n c) none (some (.int .i64 (k : Int))) none).run Try.prog w = .ok (.slice A k c) w := by
  obtain ⟨i0, hi, hz0, hz1, hz2⟩ := info_parts info_u8
  have hz : (sizeOf (Try.prog.elem 26)).run Try.prog w = .ok 1 w := by
    have he : Try.prog.elem 26 = 5 := by kernel_rfl
    simp [he, Go.sizeOf, typeInfo, hi, hz1]
  have h63 : (k : Int).toNat = k := by omega
  rw [run_slice_h (P := Try.prog) w 26 A n c Try.underlying26 .i64 (k : Int) (by omega) (by omega), hz, h63]
  have e : ∀ o : Option Addr, o.map (fun a => a.add (0 * 1)) = o := fun o => by cases o <;> simp [Addr.add]
  simp only [Result.andThen_ok, sliced, e, Nat.sub_zero, ite_self]

theorem AddInv.cap {base j : Nat} {ys : List Value} {w w' : World} {A : Option Addr} {c : Nat} (h : AddInv base j ys w (.slice A j c) w') : j ≤ c := by
  rcases h.1.2 with ⟨h1, h2⟩ | ⟨g, cap, cur, h1, _, _, h2, _⟩
  · omega
  · injection h1 with _ _ h3
    omega

theorem Rd.take {w : World} {B n k : Nat} {A : Option Addr} {xs : List Value} (h : Rd w B A n xs) (hk : k ≤ n) : Rd w B A k (xs.take k) := by
  refine ⟨by rw [List.length_take, h.1]; omega, fun hp => ?_⟩
  obtain ⟨b, off, e, hb, hc⟩ := h.2 (by omega)
  refine ⟨b, off, e, hb, fun j hj => ?_⟩
  rw [hc j (by omega), List.getElem?_take, if_pos hj]

theorem put_take_iff {N M : Nat} : put N = (put M).take (put N).length ↔ N = M := by
  refine ⟨fun h => ?_, fun h => by subst h; rw [List.take_length]⟩
  have h1 : put N ++ (put M).drop (put N).length = put M ++ [] := by
    conv => lhs; lhs; rw [h]
    rw [List.take_append_drop, List.append_nil]
  exact (put_prefix N M _ _ h1).1

/-- What came in as a slice of integers reads as a list. -/
theorem rd_of_ints {w : World} {a : Option Addr} {len cap : Nat} {zs : List Int}
    (h : (a = none ∧ len = 0 ∧ cap = 0 ∧ zs = []) ∨ ∃ x, a = some x ∧ len ≤ cap ∧ cap ≤ maxLen ∧ zs.length = cap ∧ (∀ i, i < zs.length → w.cell? (x.add i) = some (.int .i64 (zs.getD i 0))) ∧ ∀ n ∈ zs, (Lit.int .i64 n).wf = true) :
    Rd w w.heap.size a len (iv (zs.take len)) ∧ len ≤ cap ∧ cap ≤ maxLen := by
  rcases h with ⟨rfl, rfl, rfl, rfl⟩ | ⟨x, rfl, hl, hm, hz, hc, _⟩
  · exact ⟨⟨rfl, fun h => absurd h (by omega)⟩, Nat.le_refl _, by omega⟩
  · refine ⟨⟨by rw [iv_length, List.length_take]; omega, fun hp => ?_⟩, hl, hm⟩
    obtain ⟨b, off, rfl, hc'⟩ := ints_at hc (by omega)
    refine ⟨b, off, rfl, World.block_lt_of_cell? w _ (hc' 0 (by omega)), fun j hj => ?_⟩
    rw [hc' j (by omega), iv, List.getElem?_map, List.getElem?_take, if_pos hj, List.getElem?_eq_getElem (by omega)]
    simp [List.getD, List.getElem?_eq_getElem (show j < zs.length by omega)]

theorem rd_of_bytes {w : World} {a : Option Addr} {len cap : Nat} {zs : List Int}
    (h : (a = none ∧ len = 0 ∧ cap = 0 ∧ zs = []) ∨ ∃ x, a = some x ∧ len ≤ cap ∧ cap ≤ maxLen ∧ zs.length = cap ∧ (∀ i, i < zs.length → w.cell? (x.add i) = some (.int .u8 (zs.getD i 0))) ∧ ∀ n ∈ zs, (Lit.int .u8 n).wf = true) :
    ∃ bs : List Nat, Rd w w.heap.size a len (bv bs) ∧ (∀ x ∈ bs, x < 256) ∧ len ≤ cap ∧ cap ≤ maxLen := by
  rcases h with ⟨rfl, rfl, rfl, rfl⟩ | ⟨x, rfl, hl, hm, hz, hc, hw⟩
  · exact ⟨[], ⟨rfl, fun h => absurd h (by omega)⟩, by simp, Nat.le_refl _, by omega⟩
  · have hr : ∀ n ∈ zs, 0 ≤ n ∧ n < 256 := fun n hn => by
      have := hw n hn
      have := bounds_u8 this
      omega
    refine ⟨nats (zs.take len), ⟨by rw [bv_length, nats, List.length_map, List.length_take]; omega, fun hp => ?_⟩, ?_, hl, hm⟩
    · obtain ⟨b, off, rfl, hc'⟩ := ints_at hc (by omega)
      refine ⟨b, off, rfl, World.block_lt_of_cell? w _ (hc' 0 (by omega)), fun j hj => ?_⟩
      have hjz : j < zs.length := by omega
      rw [hc' j hjz, bv, nats, List.getElem?_map, List.getElem?_map, List.getElem?_take, if_pos hj, List.getElem?_eq_getElem hjz]
      have := hr zs[j] (List.getElem_mem hjz)
      simp [List.getD, List.getElem?_eq_getElem hjz]
      omega
    · intro y hy
      simp only [nats, List.mem_map] at hy
      obtain ⟨z, hz1, rfl⟩ := hy
      have := hr z (List.mem_of_mem_take hz1)
      omega

theorem row_ok {A : Option Addr} {n c : Nat} {zs : List Int} {B : Nat} {w : World} (hr : Rd w B A n (iv zs)) (hB : B ≤ w.heap.size) (hn : n ≤ 40) (h : zs.all isNum = true) :
    Calls Try.prog 25 #[.slice A n c] w (TwoPost w.heap.size (sofar n zs).length (bv (sofar n zs)) w) := by
  have hl : zs.length = n := by have := hr.1; rwa [iv_length] at this
  refine (row_short A n c zs w (hr.more hB) hn).mono ?_
  rintro e w' (⟨_, A', c', he, hI⟩ | ⟨h0, _⟩)
  · rw [← sofar_row, hl] at he hI
    exact ⟨A', c', he, hI⟩
  · simp only [isRow, h, Bool.and_true, decide_eq_false_iff_not] at h0; omega

/-- 'append(v, x...)' at bytes: v of the call's own, x whatever reads. -/
theorem run_app (w : World) (base : Nat) (v : Value) (n : Nat) (xs : List Value) (hown : w.ownsRow base 5 1 v n xs) (B : Nat) (A : Option Addr) (m c : Nat) (bs : List Nat) (hr : Rd w B A m (bv bs)) (hm : n + m ≤ 1000000) (hbase : base ≤ w.heap.size) :
    ∃ v' w', (Builtin.append_ #[26, 26] 26 #[v, .slice A m c]).run Try.prog w = .ok v' w' ∧ w'.ownsRow base 5 1 v' (n + m) (xs ++ bv bs) ∧ w.grownBy w' v.ownBlock := by
  obtain ⟨i0, hi, hz0, hz1, hz2⟩ := info_parts info_u8
  rcases A with _ | ad
  · have hm0 : m = 0 := by
      rcases Nat.eq_zero_or_pos m with h | h
      · exact h
      · obtain ⟨b, off, e, _⟩ := hr.2 h
        cases e
    subst hm0
    have hb : bs = [] := by have := hr.1; rw [bv_length] at this; exact List.eq_nil_of_length_eq_zero this
    subst hb
    have ht := Try.underlying26
    refine ⟨v, w, ?_, by simpa [bv] using hown, World.grownBy.refl w _⟩
    rcases hown.2 with ⟨rfl, _⟩ | ⟨g, cap, cur, rfl, _, _, hnc, _⟩
    · simp [Builtin.append_, run_underlying ht, sizeOf, typeInfo, hi, Builtin.lenOf, Builtin.firstCells]
    · simp [Builtin.append_, run_underlying ht, sizeOf, typeInfo, hi, Builtin.lenOf, Builtin.firstCells, hnc, storeCells]
  · have hcells : ∀ j u, (bv bs)[j]? = some u → w.cell? (ad.add j) = some u := by
      intro j u hu
      have hj : j < m := by rw [← hr.1]; exact (List.getElem?_eq_some_iff.1 hu).1
      obtain ⟨b, off, e, _, hc⟩ := hr.2 (by omega)
      injection e with e
      subst e
      rw [Addr.add_lit, hc j hj, hu]
    obtain ⟨v', w', h1, h2, h3, _⟩ := run_append_own (P := Try.prog) w base 26 26 5 i0 (.int .u8 0) 1 1 Try.underlying26 hi hz0 hz1 hz2 rfl (by decide) v n xs hown ad m c (bv bs) (by rw [hr.1, Nat.mul_one]) hcells (bv_one bs) (by unfold maxLen; omega) (by omega) hbase
    exact ⟨v', w', h1, h2, h3⟩

/-- An append whose run is known, guarded or not. -/
theorem wpList_app {P : Program} {w : World} {ops : Array Oper} {rest : List Oper} {o : Oper} {a : Act} {Q : Exit → Act → World → Prop} (hw : Region.wanted o (yielded ops a.tmps) = true) (s x : Operand) (t : TypeId)
    (ho : o.op = .call { callee := .builtin .append, args := #[s, x], argTypes := #[t, t] }) (vs vx v' : Value) (w' : World) (hs : a.eval s = vs) (hx : a.eval x = vx)
    (hr : (Builtin.append_ #[t, t] o.type #[vs, vx]).run P w = .ok v' w') (h : wpList P ops Q rest (a.put o.dst v') w') : wpList P ops Q (o :: rest) a w := by
  unfold wpList
  rw [if_pos hw]
  left
  unfold Oper.wp execOp
  simp only [ho, resolve, invoke, builtin, Sem.run_bind, Sem.run_pure, Result.andThen_ok, List.map_toArray, List.map_cons, List.map_nil, hs, hx, hr]
  exact h

/-- 'append(append([]byte{}, a...), b...)': both run, and what comes reads as both. -/
theorem run_two (w : World) (B : Nat) (A1 A2 : Option Addr) (m1 c1 m2 c2 : Nat) (a b : List Nat) (h1 : Rd w B A1 m1 (bv a)) (h2 : Rd w B A2 m2 (bv b)) (hB : B ≤ w.heap.size) (hm : m1 + m2 ≤ 1000000) :
    ∃ v1 W1 A3 c3 W2, (Builtin.append_ #[26, 26] 26 #[.slice (some ⟨w.heap.size, 0, none⟩) 0 0, .slice A1 m1 c1]).run Try.prog (w.alloc (.cells #[] 5)) = .ok v1 W1 ∧
      (Builtin.append_ #[26, 26] 26 #[v1, .slice A2 m2 c2]).run Try.prog W1 = .ok (.slice A3 (m1 + m2) c3) W2 ∧ Rd W2 W2.heap.size A3 (m1 + m2) (bv (a ++ b)) ∧ Below w.heap.size w W2 ∧ m1 + m2 ≤ c3 := by
  have ho := World.ownsRow_made (base := w.heap.size) (e := 5) (size := 1) w #[] 0 (Nat.le_refl _) (Nat.zero_le _) rfl
  obtain ⟨v1, W1, r1, o1, g1⟩ := run_app (w.alloc (.cells #[] 5)) w.heap.size _ 0 [] ho B A1 m1 c1 a (h1.alloc hB _) (by omega) (by simp)
  have b1 : Below w.heap.size w W1 := ((Below.refl _ w).alloc (Nat.le_refl _) _).trans (below_row ho g1 (by simp))
  obtain ⟨v2, W2, r2, o2, g2⟩ := run_app W1 w.heap.size v1 (0 + m1) _ o1 B A2 m2 c2 b (h2.below (b1.mono hB)) (by omega) b1.size
  have b2 : Below w.heap.size w W2 := b1.trans (below_row o1 g2 b1.size)
  rw [Nat.zero_add, List.nil_append, ← bv_append] at o2
  obtain ⟨A3, c3, rfl⟩ := own_form o2
  have hc3 : m1 + m2 ≤ c3 := by
    rcases o2.2 with ⟨h3, h4⟩ | ⟨g, cap, cur, h3, _, _, h4, _⟩
    · omega
    · injection h3 with _ _ h5
      omega
  exact ⟨v1, W1, A3, c3, W2, r1, r2, Rd.of_own o2, b2, hc3⟩

/-- What 'x[:len(x)-1]' is. -/
theorem run_less (A : Option Addr) (n c : Nat) (h0 : 0 < n) (hc : n ≤ c) (w : World) : (Instr.slice 26 (.slice A n c) none (some (.int .i64 ((n : Int) - 1))) none).run Try.prog w = .ok (.slice A (n - 1) c) w := by
  have h := run_head A n c (n - 1) (by omega) w
  rw [show ((n - 1 : Nat) : Int) = (n : Int) - 1 by omega] at h
  exact h

theorem nats_ints (l : List Nat) : nats (ints l) = l := by
  induction l with
  | nil => rfl
  | cons x l ih => simp only [nats, ints, List.map_cons, Int.toNat_natCast] at ih ⊢; rw [ih]

theorem ints_all {l : List Nat} (h : ∀ n ∈ l, n ≤ 1099511627776) : (ints l).all isNum = true := by
  simp only [List.all_eq_true, ints, List.mem_map]
  rintro x ⟨y, hy, rfl⟩
  exact isNum_yes (by omega) (by have := h y hy; omega)

theorem row_is {A : Option Addr} {c : Nat} {l : List Nat} {B : Nat} {w : World} (hr : Rd w B A l.length (iv (ints l))) (hB : B ≤ w.heap.size) (hn : l.length ≤ 40) (h : ∀ n ∈ l, n ≤ 1099511627776) :
    Calls Try.prog 25 #[.slice A l.length c] w (TwoPost w.heap.size (row l).length (bv (row l)) w) := by
  refine (row_short A l.length c (ints l) w (hr.more hB) hn).mono ?_
  rintro e w' (⟨_, A', c', he, hI⟩ | ⟨h0, _⟩)
  · rw [nats_ints] at he hI
    exact ⟨A', c', he, hI⟩
  · have h1 : (ints l).length = l.length := by simp [ints]
    simp only [isRow, ints_all h, Bool.and_true, decide_eq_false_iff_not] at h0; omega

theorem row_pos (l : List Nat) : 0 < (row l).length := by have := put_pos l.length; rw [row, List.length_append]; omega

theorem puts_len (l : List Nat) (h : ∀ n ∈ l, n ≤ 1099511627776) : (puts l).length ≤ 6 * l.length := by
  have := puts_six (ints l) (ints_all h)
  rw [nats_ints] at this
  simpa [ints] using this

theorem takes_is (A : Option Addr) (n c : Nat) (bs : List Nat) (B : Nat) (w : World) (hr : Rd w B A n (bv bs)) (hB : B ≤ w.heap.size) (hb : ∀ x ∈ bs, x < 256) (hn : n ≤ 140737488355328) (hc : n ≤ c) {E : Nat} {l rest : List Nat}
    (h1 : (takeRow bs).2.1 = l) (h2 : (takeRow bs).2.2 = E) (h3 : behindRow bs = rest) : Calls Try.prog 29 #[.slice A n c] w (RowIs l rest E w) := by
  subst h1; subst h2; subst h3
  exact takeRow_any A n c bs B w hr hB hb hn hc

theorem put_all {N : Nat} {k : Nat} : ∀ x ∈ (put N).take k, x < 256 := fun x hx => put_bytes N x (List.mem_of_mem_take hx)

theorem row_bytes (l : List Nat) : ∀ x ∈ row l, x < 256 := by
  intro x hx
  simp only [row, puts, List.mem_append, List.mem_flatMap] at hx
  rcases hx with hx | ⟨y, _, hx⟩
  · exact put_bytes _ x hx
  · exact put_bytes _ x hx

theorem row_any (A : Option Addr) (n c : Nat) (zs : List Int) (w : World) (hr : Rd w w.heap.size A n (iv zs)) : Calls Try.prog 25 #[.slice A n c] w (RowPost zs w) := by
  have hl : zs.length = n := by have := hr.1; rwa [iv_length] at this
  by_cases h : n ≤ 40
  · exact row_short A n c zs w hr h
  · exact row_long A n c zs w hl (by omega)

end Go.Proofs.Ytcgfakpolfopnaa
