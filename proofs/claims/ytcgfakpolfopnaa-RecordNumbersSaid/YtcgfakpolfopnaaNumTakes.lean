/-
  The walks of 'takes' and of the iterator that it hands back (package num). Conditions: those that each theorem names.
-/
import Derived.Test.YtcgfakpolfopnaaNumEach
namespace Go.Proofs.Ytcgfakpolfopnaa
open Go.RowKit Go.Shelf
attribute [local go_sem] Oper.semAt_some

/-- What may come of taking a number: at most six bytes, and no number above the greatest one. -/
abbrev Tk := { x : Nat × Nat × Nat // x.2.1 ≤ 6 ∧ x.1 ≤ 1099511627776 }
theorem scan_six : ∀ (bs : List Nat) (n long : Nat), long ≤ 5 → (scan n long bs).2.1 ≤ 6 := by
  intro bs
  induction bs with
  | nil => intro n long _; simp [scan]
  | cons d r ih =>
    intro n long h
    simp only [scan]
    split
    · exact ih _ _ (by omega)
    · split
      · simp
      · simp; omega
theorem first_le {bs : List Nat} {N K E : Nat} (h : first bs = (N, K, E)) : K ≤ bs.length ∧ N ≤ 1099511627776 ∧ E ≤ 11 := by
  rcases scan_cases bs 0 0 with hc | hc | ⟨N', K', hc, h1, _, h2⟩
  all_goals
    unfold first at h
    rw [hc] at h
    simp only [Prod.mk.injEq] at h
    omega
def firstT (bs : List Nat) : Tk := ⟨first bs, scan_six bs 0 0 (by omega), (first_le (N := (first bs).1) (K := (first bs).2.1) (E := (first bs).2.2) rfl).2.1⟩

/-- What comes of taking, number by number: each with how many bytes it has, up to the first error. -/
def items : Nat → List Nat → List Tk
  | 0, _ => []
  | k + 1, bs => firstT bs :: (if (first bs).2.2 = 0 then items k (bs.drop (first bs).2.1) else [])

set_option maxHeartbeats 400000 in
theorem takes_any (A : Option Addr) (n c : Nat) (m : Int) (w : World) :
    Calls Try.prog 42 #[.slice A n c, .int .i64 m] w fun e w' => e = .returned (.func (.func 47) #[] #[.pointer (some ⟨w.heap.size + 1, 0, none⟩), .pointer (some ⟨w.heap.size, 0, none⟩)]) ∧
      w' = (w.alloc (.cells #[.slice A n c] 26)).alloc (.cells #[.int .i64 m] 3) := by
  go_enter Try.func42, Try.ntmps42
  go_wp2
  go_ret
  exact ⟨rfl, rfl⟩

/-- What a round that goes on keeps: what lies below n₀, the box of the bytes, and each box of what was taken. -/
def KpT (n₀ Bs : Nat) (W W' : World) : Prop :=
  Below n₀ W W' ∧ W'.heap[Bs]? = W.heap[Bs]? ∧ ∀ (g : Nat) (cs : Array Value) (fz : Nat × Nat), W.heap[g]? = some (Obj.cells cs 64 fz) → W'.heap[g]? = W.heap[g]?
theorem kpT_t {n₀ Bs : Nat} {A B C : World} (h : KpT n₀ Bs A B) (k : KpT n₀ Bs B C) : KpT n₀ Bs A C :=
  ⟨h.1.trans k.1, k.2.1.trans h.2.1, fun g cs fz hg => (k.2.2 g cs fz ((h.2.2 g cs fz hg).trans hg)).trans (h.2.2 g cs fz hg)⟩
theorem kpT_b {n₀ Bs : Nat} {w : World} (hn : n₀ ≤ w.heap.size) (hBs : Bs < w.heap.size) (W : World) (l : Nat) (o o' : Obj) (hl : w.heap.size ≤ l) (h : W.heap[l]? = some o) (h1 : o.isCells = false) (h2 : o.isWalk = false) : KpT n₀ Bs W (W.putObj l o') :=
  ⟨belowK_b hn W l o o' hl h h1 h2, World.putObj_heap_other (by omega), fun g cs fz hg => World.putObj_heap_other (by rintro rfl; rw [hg] at h; cases h; cases h1)⟩

/-- What has been taken so far, and what is still to come. -/
structure TakesInv (bs : List Nat) (k n₀ Bs : Nat) (A : Option Addr) (n c : Nat) (J : List Tk → World → Prop) (pre : List Tk) (at_ left : Nat) (W : World) : Prop where
  all : pre ++ items left (bs.drop at_) = items k bs
  le : at_ ≤ n
  many : left ≤ k
  box : W.cell? ⟨Bs, 0, none⟩ = some (.slice A n c)
  rd : Rd W n₀ A n (bv bs)
  inv : J pre W

set_option maxRecDepth 100000 in
set_option maxHeartbeats 1000000 in
theorem takes1_in (m l Bm Bs n₀ : Nat) (A : Option Addr) (n c k : Nat) (bs : List Nat) (hn : n ≤ 140737488355328) (hc : n ≤ c) (hk : k ≤ 1000000) (hb : ∀ x ∈ bs, x < 256) (J Jx : List Tk → World → Prop)
    (W0 : World) (hJ : AbidesFrom W0.heap.size J)
    (hY : ∀ pre x W, J pre W → pre.length < (items k bs).length → YieldAt Fence.wide (m - 1) Try.prog l #[takenV x.1] W fun e W' =>
      (e = .returned (.bool true) ∧ J (pre ++ [x]) W' ∧ KpT n₀ Bs W W') ∨ (e = .returned (.bool false) ∧ Jx (pre ++ [x]) W'))
    (hBm : W0.cell? ⟨Bm, 0, none⟩ = some (.int .i64 (k : Int))) (hBs : W0.cell? ⟨Bs, 0, none⟩ = some (.slice A n c)) (hBsl : Bs < W0.heap.size) (hn₀ : n₀ ≤ W0.heap.size) (hr : Rd W0 n₀ A n (bv bs)) (h0 : J [] W0) :
    CallsIn Fence.wide m Try.prog 47 #[.func (.yield l) #[] #[], .pointer (some ⟨Bm, 0, none⟩), .pointer (some ⟨Bs, 0, none⟩)] W0 fun e W' => (∃ v, e = .returned v) ∧
      ((∃ ys, ys = items k bs ∧ J ys W') ∨ (∃ pre, pre <+: items k bs ∧ Jx pre W')) := by
  have HY := Lib.hid hY
  have HJ := Lib.hid hJ
  have Hb := Lib.hid hb
  have H0 : Hid (∀ nq, TakesInv bs k n₀ Bs A n c J [] 0 k (W0.drewN nq)) := fun nq => ⟨rfl, Nat.zero_le _, Nat.le_refl _, hBs, hr, hJ [] W0 (W0.drewN nq) none h0 ⟨rfl, rfl, rfl, Nat.le_refl _, fun _ _ _ => rfl⟩ (fun r e => by cases e)⟩
  have Hs := Lib.hid (show Bs < W0.heap.size from hBsl)
  have Hn := Lib.hid hn₀
  clear hY hJ hb hr h0 hBs hn₀ hBsl
  refine callsIn_of_wp Try.func47 rfl trivial ?_ rfl
  simp only [Try.ntmps47, List.size_toArray, List.length_cons, List.length_nil, Nat.reduceAdd, Nat.reduceSub, Array.replicate_succ, Array.replicate_zero, List.push_toArray, List.append_toArray, List.nil_append, List.cons_append]
  gi_wp2_with fail
  refine wpIn_wide.2 (wp_scope_back_behind 0 (fun a' w' => W0.heap.size ≤ w'.heap.size ∧ ∃ (pre : List Tk) (at_ left : Nat) (u6 u7 u8 u9 u10 u11 u12 u13 u14 u15 u16 u17 u18 u19 u20 u21 u22 u23 u24 u25 u26 u27 : Value), a' = { tmps := #[.func (.yield l) #[] #[], .pointer (some ⟨Bm, 0, none⟩), .pointer (some ⟨Bs, 0, none⟩), undef, .int .i64 (at_ : Int), .int .i64 (left : Int), u6, u7, u8, u9, u10, u11, u12, u13, u14, u15, u16, u17, u18, u19, u20, u21, u22, u23, u24, u25, u26, u27], defers := [] } ∧ TakesInv bs k n₀ Bs A n c J pre at_ left w')
    (fun a' _ => (intOf (a'.tmps.getD 5 undef)).toNat) rfl ?ahead (fun a' w' hJ' => wpIn_wide (n := m).1 ?pass))
  case ahead =>
    go_wp2_with fail
    go_quiet (fail)
    go_wp2_with fail
    exact ⟨[], 0, k, ⟨rfl, rfl⟩, H0.out nq⟩
  case pass =>
    obtain ⟨hsz, pre, at_, left, u6, u7, u8, u9, u10, u11, u12, u13, u14, u15, u16, u17, u18, u19, u20, u21, u22, u23, u24, u25, u26, u27, rfl, hI⟩ := hJ'
    have hat := hI.le
    have hleft := hI.many
    have hBox := hI.box
    have HI := Lib.hid hI
    clear hI hBm
    cases left with
    | zero =>
      gi_wp2_with fail
      simp only [Exit.jump]
      refine bodyPost_ret (results_none rfl _ _ _) rfl ?_
      exact ⟨⟨_, rfl⟩, .inl ⟨pre, by rw [← HI.out.all]; simp [items], HI.out.inv⟩⟩
    | succ left =>
      have hne : (((left + 1 : Nat) : Int) == 0) = false := by simp; omega
      obtain ⟨N, K, E, hF⟩ : ∃ N K E, first (bs.drop at_) = (N, K, E) := ⟨_, _, _, rfl⟩
      obtain ⟨hKl, hN, hE⟩ := first_le hF
      obtain ⟨A', hA1, hA2⟩ := run_rest A n c at_ hat
      have hl : bs.length = n := by have := HI.out.rd.1; rwa [bv_length] at this
      rw [List.length_drop, hl] at hKl
      have Hf : Hid (∀ W : World, Rd W n₀ A n (bv bs) → n₀ ≤ W.heap.size → Calls Try.prog 41 #[.slice A' (n - at_) (c - at_)] W fun e w' => e = .returned (.agg #[.int .i64 (N : Int), .int .i64 (K : Int), .int .i64 (E : Int)]) ∧ Below W.heap.size W w' ∧ KeepsOthers W w') := fun W hW hB => by
        have h2 := hW.cut hat A' (fun hk => hA2 ⟨hk, hc⟩)
        rw [bv, ← List.map_drop] at h2
        exact first_eq A' (n - at_) (c - at_) (bs.drop at_) n₀ W h2 hB (fun x hx => Hb.out x (List.mem_of_mem_drop hx)) (by unfold maxLen; omega) hF
      have HF := Lib.hid hF
      have HL := Lib.hid hl
      clear hF hA2 hl
      gi_wp2_with fail
      refine ⟨trivial, fun h => (by cases h), (callsIn_wide.2 (Hf.out _ HI.out.rd (by have := Hn.out; omega))).mono ?_⟩
      rintro e w1 ⟨rfl, hb1, _⟩
      clear Hf
      have hs1 := hb1.size
      obtain ⟨W2, hW2⟩ : ∃ W2, w1.alloc (.cells #[.int .i64 (N : Int), .int .i64 (K : Int), .int .i64 (E : Int)] 64) = W2 := ⟨_, rfl⟩
      have hb2 : Below w'.heap.size w' W2 := by rw [← hW2]; exact hb1.alloc hs1 _
      have hbox2 : W2.heap[w1.heap.size]? = some (Obj.cells #[.int .i64 (N : Int), .int .i64 (K : Int), .int .i64 (E : Int)] 64 (0, 0)) := by rw [← hW2]; exact heap_alloc_new w1 _
      have hJ2 : J pre W2 := HJ.out pre w' W2 none HI.out.inv ⟨hb2.os, hb2.tape, hb2.output, hb2.size, fun i hi _ => hb2.block i hi⟩ (fun r e => by cases e)
      obtain ⟨x, hx⟩ : ∃ x, firstT (bs.drop at_) = x := ⟨_, rfl⟩
      have hx1 : x.1 = (N, K, E) := by rw [← hx]; exact HF.out
      have hit : items k bs = pre ++ x :: (if E = 0 then items left ((bs.drop at_).drop K) else []) := by rw [← HI.out.all, items, HF.out, hx]
      obtain ⟨fn, tmps, assign, body, hy, hR⟩ := HY.out pre x W2 hJ2 (by rw [hit]; simp)
      rw [hx1] at hy
      dsimp only [takenV] at hy
      clear hx1 hx
      have x0 : W2.cell? ⟨w1.heap.size, 0, none⟩ = some (.int .i64 (N : Int)) := cell_of_row W2 _ 0 _ _ _ hbox2
      have x1 : W2.cell? ⟨w1.heap.size, 1, none⟩ = some (.int .i64 (K : Int)) := cell_of_row W2 _ 1 _ _ _ hbox2
      have x2 : W2.cell? ⟨w1.heap.size, 2, none⟩ = some (.int .i64 (E : Int)) := cell_of_row W2 _ 2 _ _ _ hbox2
      have HR := Lib.hid hR
      have HB2 := Lib.hid hb2
      have HX2 := Lib.hid hbox2
      have HT := Lib.hid hit
      clear hR hb2 hbox2 hit hJ2 hb1
      gi_wp2_with fail
      clear hW2 hy
      refine ⟨fun h => (by cases h), HR.out.mono ?_⟩
      clear x0 x1 x2
      rintro e W3 (⟨rfl, hJ3, hk3⟩ | ⟨rfl, hJx3⟩)
      · have hX3 := (hk3.2.2 _ _ _ HX2.out).trans HX2.out
        have y2 : W3.cell? ⟨w1.heap.size, 2, none⟩ = some (.int .i64 (E : Int)) := cell_of_row W3 _ 2 _ _ _ hX3
        have HJ3 := Lib.hid hJ3
        have HK3 := Lib.hid hk3
        clear hJ3 hk3 hX3
        by_cases hE0 : E = 0
        · have hEb : ((E : Int) == 0) = true := by simp; omega
          have hit := HT.out
          rw [if_pos hE0] at hit
          have HT2 := Lib.hid hit
          clear hE0 hit
          gi_wp2_with fail
          refine wpIn_goto ?_
          have hs2 := HB2.out.size
          have hBs' : Bs < w'.heap.size := by have := Hs.out; omega
          have hb3 : W3.cell? ⟨Bs, 0, none⟩ = some (.slice A n c) := ((World.cell?_of_block (a := ⟨Bs, 0, none⟩) HK3.out.2.1).trans (HB2.out.cell (p := ⟨Bs, 0, none⟩) hBs')).trans HI.out.box
          have hr3 : Rd W3 n₀ A n (bv bs) := (HI.out.rd.below (HB2.out.mono (by have := Hn.out; omega))).below HK3.out.1
          have hs3 := HK3.out.1.size
          refine ⟨rfl, ⟨by omega, pre ++ [x], at_ + K, left, _, _, _, _, _, _, _, _, _, _, _, _, _, _, _, _, _, _, _, _, _, _, rfl, ⟨by rw [HT2.out, List.drop_drop]; simp, by omega, by omega, hb3, hr3, HJ3.out⟩⟩, ?_⟩
          simp [intOf]
        · have hEb : ((E : Int) == 0) = false := by simp; omega
          have hit := HT.out
          rw [if_neg hE0] at hit
          have HT2 := Lib.hid hit
          clear hE0 hit
          gi_wp2_with fail
          simp only [Exit.jump]
          go_end0
          exact ⟨⟨_, rfl⟩, .inl ⟨pre ++ [x], HT2.out.symm, HJ3.out⟩⟩
      · have HJx := Lib.hid hJx3
        clear hJx3
        gi_wp2_with fail
        simp only [Exit.jump]
        go_end0
        exact ⟨⟨_, rfl⟩, .inr ⟨pre ++ [x], ⟨_, by rw [HT.out, List.append_assoc]; rfl⟩, HJx.out⟩⟩

/-- The iterator hands over what comes of taking, number by number. -/
theorem takes_stops (m Bm Bs n₀ : Nat) (A : Option Addr) (n c k : Nat) (bs : List Nat) (hn : n ≤ 140737488355328) (hc : n ≤ c) (hk : k ≤ 1000000) (hb : ∀ x ∈ bs, x < 256) (w : World) (hBm : Bm < w.heap.size) (hBs : Bs < w.heap.size) (hn₀ : n₀ ≤ w.heap.size)
    (hcm : w.cell? ⟨Bm, 0, none⟩ = some (.int .i64 (k : Int))) (hcs : w.cell? ⟨Bs, 0, none⟩ = some (.slice A n c)) (hr : Rd w n₀ A n (bv bs)) :
    SeqStopsK Fence.wide m Try.prog 47 #[.pointer (some ⟨Bm, 0, none⟩), .pointer (some ⟨Bs, 0, none⟩)] (fun x : Tk => #[takenV x.1]) (KpT n₀ Bs) (fun ys => ys = items k bs) (fun pre => pre <+: items k bs) (items k bs).length w := fun l J Jx W hW hJ _ hY h0 =>
  takes1_in m l Bm Bs n₀ A n c k bs hn hc hk hb J Jx W hJ hY ((hW.cell (p := ⟨Bm, 0, none⟩) hBm).trans hcm) ((hW.cell (p := ⟨Bs, 0, none⟩) hBs).trans hcs) (by have := hW.size; omega) (by have := hW.size; omega) (hr.below (hW.mono hn₀)) h0

end Go.Proofs.Ytcgfakpolfopnaa
