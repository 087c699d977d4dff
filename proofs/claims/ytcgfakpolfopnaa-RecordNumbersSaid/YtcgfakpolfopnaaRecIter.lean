/-
  The walks of 'row' of package record and of the iterator that it hands back: a record's kind, then its numbers. Conditions: those that each theorem names.
-/
import Derived.Test.YtcgfakpolfopnaaRecMany
import Derived.Test.YtcgfakpolfopnaaNumEach
namespace Go.Proofs.Ytcgfakpolfopnaa
open Go.RowKit Go.Shelf
attribute [local go_sem] Oper.semAt_some

/-- Block b is just these cells, all of which may be written. -/
def Whole (w : World) (b : Nat) (t : TypeId) (cs : Array Value) : Prop := w.heap[b]? = some (.cells cs t (0, 0))
section
variable {w w' : World} {b : Nat} {t : TypeId} {cs : Array Value}
theorem Whole.new (w : World) (t : TypeId) (cs : Array Value) : Whole (w.alloc (.cells cs t)) w.heap.size t cs := heap_alloc_new w _
theorem Whole.lt (h : Whole w b t cs) : b < w.heap.size := by
  rcases Nat.lt_or_ge b w.heap.size with h1 | h1
  · exact h1
  · unfold Whole at h; rw [Array.getElem?_eq_none h1] at h; cases h
theorem Whole.cell (h : Whole w b t cs) (i : Nat) : w.cell? ⟨b, i, none⟩ = cs[i]? := cell_of_row w b i cs t (0, 0) h
theorem Whole.frozen (h : Whole w b t cs) (i : Nat) : w.frozen? ⟨b, i, none⟩ = false := by unfold Whole at h; simp [World.frozen?, h]
theorem Whole.alloc (h : Whole w b t cs) (o : Obj) : Whole (w.alloc o) b t cs := (Below.heap_alloc w o b h.lt).trans h
theorem Whole.below (h : Whole w b t cs) {B : Nat} (hb : Below B w w') (hB : b < B) : Whole w' b t cs := (hb.block b hB).trans h
theorem Whole.under (h : Whole w b t cs) (hb : Below w.heap.size w w') : Whole w' b t cs := h.below hb h.lt
theorem Whole.grown (h : Whole w b t cs) {row : Option Nat} (hg : w.grownBy w' row) (hne : some b ≠ row) : Whole w' b t cs := (hg.block b h.lt hne).trans h
theorem Whole.set (h : Whole w b t cs) (i : Nat) (u : Value) : Whole (w.setCell ⟨b, i, none⟩ u) b t (cs.setIfInBounds i u) := by
  unfold Whole at h ⊢
  simp [World.setCell, Array.getElem?_modify, h]
theorem Whole.far (h : Whole w b t cs) {p : Addr} (hp : b ≠ p.block) (u : Value) : Whole (w.setCell p u) b t cs := (Below.heap_setCell w p u b hp).trans h
end

set_option maxHeartbeats 400000 in
theorem rowOf_any (k : Nat) (A : Option Addr) (n c : Nat) (w : World) :
    Calls Try.prog 27 #[.agg #[.int .u8 (k : Int), .slice A n c]] w fun e w' => e = .returned (.func (.func 39) #[] #[.pointer (some ⟨w.heap.size, 0, none⟩)]) ∧ w' = w.alloc (.cells #[.int .u8 (k : Int), .slice A n c] 24) := by
  go_enter Try.func27, Try.ntmps27
  go_wp2
  go_ret
  exact ⟨rfl, rfl⟩

/-- Where the iterator stands: what has been handed over, what is next. -/
def IterAt (l Bn n₀ : Nat) (A : Option Addr) (n c : Nat) (zs xs : List Int) (J : List Int → World → Prop) (a' : Act) (w' : World) : Prop :=
  ∃ (pre rest : List Int) (x : Int) (u5 u6 u7 u8 u9 u10 u11 u12 u13 u14 u15 u16 u17 u18 u19 u20 u21 u22 u23 u24 u25 : Value), a' = { tmps := #[.func (.yield l) #[] #[], .pointer (some ⟨Bn, 0, none⟩), undef, .int .i64 x, .int .i64 (pre.length : Int), u5, u6, u7, u8, u9, u10, u11, u12, u13, u14, u15, u16, u17, u18, u19, u20, u21, u22, u23, u24, u25], defers := [] } ∧ xs = pre ++ x :: rest ∧ w'.cell? ⟨Bn, 1, none⟩ = some (.slice A n c) ∧ Rd w' n₀ A n (iv zs) ∧ J pre w'

set_option maxRecDepth 100000 in
set_option maxHeartbeats 1000000 in
theorem rowOf1_in (m l Bn n₀ : Nat) (k : Nat) (hk : k < 256) (A : Option Addr) (n c : Nat) (zs : List Int) (hn : n ≤ maxLen) (J Jx : List Int → World → Prop)
    (hY : ∀ pre x W, J pre W → pre.length < ((k : Int) :: zs).length → YieldAt Fence.wide (m - 1) Try.prog l #[.int .i64 x] W fun e W' =>
      (e = .returned (.bool true) ∧ J (pre ++ [x]) W' ∧ KpB n₀ Bn W W') ∨ (e = .returned (.bool false) ∧ Jx (pre ++ [x]) W'))
    (W : World) (hBn : W.cell? ⟨Bn, 0, none⟩ = some (.int .u8 (k : Int))) (hBn1 : W.cell? ⟨Bn, 1, none⟩ = some (.slice A n c)) (hr : Rd W n₀ A n (iv zs)) (h0 : J [] W) :
    CallsIn Fence.wide m Try.prog 39 #[.func (.yield l) #[] #[], .pointer (some ⟨Bn, 0, none⟩)] W fun e W' => (∃ v, e = .returned v) ∧
      ((∃ ys, ys = (k : Int) :: zs ∧ J ys W') ∨ (∃ pre, pre <+: ((k : Int) :: zs) ∧ Jx pre W')) := by
  unfold maxLen at hn
  have HY := Lib.hid hY
  clear hY
  have Hr := Lib.hid hr
  clear hr
  obtain ⟨xs, hxs⟩ : ∃ xs, (k : Int) :: zs = xs := ⟨_, rfl⟩
  have hlen : xs.length = n + 1 := by have := Hr.out.1; rw [iv_length] at this; rw [← hxs]; simp [this]
  rw [hxs] at HY ⊢
  have Hxs := Lib.hid hxs
  clear hxs
  have hk' : (k : Int) < 256 := by omega
  refine callsIn_of_wp Try.func39 rfl trivial ?_ rfl
  simp only [Try.ntmps39, List.size_toArray, List.length_cons, List.length_nil, Nat.reduceAdd, Nat.reduceSub, Array.replicate_succ, Array.replicate_zero, List.push_toArray, List.append_toArray, List.nil_append, List.cons_append]
  gi_wp2_with fail
  refine wpIn_wide.2 (wp_scope_back_behind 0 (IterAt l Bn n₀ A n c zs xs J)
    (fun a' _ => n + 1 - (intOf (a'.tmps.getD 4 undef)).toNat) rfl (wpIn_wide (n := m).1 ?ahead) (fun a' w' hJ' => wpIn_wide (n := m).1 ?pass))
  case ahead =>
    gi_wp2_with fail
    exact ⟨[], zs, k, _, _, _, _, _, _, _, _, _, _, _, _, _, _, _, _, _, _, _, _, _, rfl, Hxs.out.symm, hBn1, Hr.out, h0⟩
  case pass =>
    obtain ⟨pre, rest, x, u5, u6, u7, u8, u9, u10, u11, u12, u13, u14, u15, u16, u17, u18, u19, u20, u21, u22, u23, u24, u25, rfl, hx, hBn', hr', hJp⟩ := hJ'
    clear hBn hBn1
    have Hr' := Lib.hid hr'
    have Hx := Lib.hid hx
    have HJ := Lib.hid hJp
    have hl : pre.length + rest.length = n := by rw [hx, List.length_append] at hlen; simp at hlen; omega
    clear hr' hx hJp h0 Hr hlen
    have hpn : pre.length ≤ n := by omega
    obtain ⟨fn, tmps, assign, body, hy, hR⟩ := HY.out pre x w' HJ.out (by rw [Hx.out]; simp)
    have HR := Lib.hid hR
    have Hl := Lib.hid hl
    clear hR hl
    gi_wp2_with fail
    refine ⟨fun h => (by cases h), HR.out.mono ?_⟩
    rintro e W3 (⟨rfl, hJ3, hk3⟩ | ⟨rfl, hJx3⟩)
    · have hb3 : W3.cell? ⟨Bn, 1, none⟩ = some (.slice A n c) := (World.cell?_of_block (a := ⟨Bn, 1, none⟩) hk3.2).trans hBn'
      have HJ3 := Lib.hid hJ3
      have HK3 := Lib.hid hk3
      clear hJ3 hk3
      cases rest with
      | nil =>
        have he : pre.length = n := by have := Hl.out; simpa using this
        have heq : ((pre.length : Int) == (n : Int)) = true := by simp [he]
        clear he
        gi_wp2_with fail
        simp only [Exit.jump]
        refine bodyPost_ret (results_none rfl _ _ _) rfl ?_
        exact ⟨⟨_, rfl⟩, .inl ⟨pre ++ [x], Hx.out.symm, HJ3.out⟩⟩
      | cons y rest =>
        have hlt : (pre.length : Int) < (n : Int) := by have := Hl.out; simp at this; omega
        have hltn : pre.length < n := by omega
        have hne : ((pre.length : Int) == (n : Int)) = false := by rw [beq_eq_false_iff_ne]; omega
        have Hr3 := Lib.hid (Hr'.out.below HK3.out.1)
        obtain ⟨b, off, rfl, hb, hc⟩ := Hr3.out.2 (by omega)
        have hcell := hc pre.length hltn
        have e1 : (iv zs)[pre.length]? = some (.int .i64 y) := by
          have h1 : xs[pre.length + 1]? = some y := by rw [Hx.out]; simp
          rw [← Hxs.out, List.getElem?_cons_succ] at h1
          simp [iv, h1]
        rw [e1] at hcell
        clear e1 hc
        gi_wp2_with fail
        refine wpIn_goto ?_
        have el : ((pre.length : Int) + 1) = ((pre ++ [x]).length : Int) := by simp
        rw [el]
        refine ⟨rfl, ⟨pre ++ [x], rest, y, _, _, _, _, _, _, _, _, _, _, _, _, _, _, _, _, _, _, _, _, _, rfl, by rw [Hx.out]; simp, hb3, Hr3.out, HJ3.out⟩, ?_⟩
        simp [intOf]; omega
    · have HJx := Lib.hid hJx3
      clear hJx3
      gi_wp2_with fail
      simp only [Exit.jump]
      refine bodyPost_ret (results_none rfl _ _ _) rfl ?_
      exact ⟨⟨_, rfl⟩, .inr ⟨pre ++ [x], ⟨rest, by rw [Hx.out]; simp⟩, HJx.out⟩⟩

/-- The iterator hands over the record's kind, then its numbers. -/
theorem rowOf_stops (m Bn n₀ : Nat) (k : Nat) (hk : k < 256) (A : Option Addr) (n c : Nat) (zs : List Int) (hn : n ≤ maxLen) (w : World) (hBl : Bn < w.heap.size) (hn₀ : n₀ ≤ w.heap.size) (hBn : w.cell? ⟨Bn, 0, none⟩ = some (.int .u8 (k : Int))) (hBn1 : w.cell? ⟨Bn, 1, none⟩ = some (.slice A n c)) (hr : Rd w n₀ A n (iv zs)) :
    SeqStopsK Fence.wide m Try.prog 39 #[.pointer (some ⟨Bn, 0, none⟩)] (fun x : Int => #[Value.int .i64 x]) (KpB n₀ Bn) (fun ys => ys = (k : Int) :: zs) (fun pre => pre <+: ((k : Int) :: zs)) ((k : Int) :: zs).length w := fun l J Jx W hW _ _ hY h0 =>
  rowOf1_in m l Bn n₀ k hk A n c zs hn J Jx hY W ((hW.cell (p := ⟨Bn, 0, none⟩) hBl).trans hBn) ((hW.cell (p := ⟨Bn, 1, none⟩) hBl).trans hBn1) (hr.below (hW.mono hn₀)) h0

end Go.Proofs.Ytcgfakpolfopnaa
