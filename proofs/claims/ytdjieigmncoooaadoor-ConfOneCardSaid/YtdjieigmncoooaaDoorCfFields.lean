/-
  The walks of 'fields' and of the iterator that it hands back (package conf): where a group's numbers lie, one by one. Conditions: those that each theorem names.
-/
import Derived.Test.YtdjieigmncoooaaDoorCfMath
import Derived.Test.YtdjieigmncoooaaDoorRangeMem
import Derived.Test.YtdjieigmncoooaaDoorHand
namespace Go.Proofs.YtdjieigmncoooaaDoor
open Go.RowKit Go.Shelf
attribute [local go_sem] Oper.semAt_some

set_option maxRecDepth 100000 in
/-- A scope at whose label, behind two pieces of code, the run comes back. -/
theorem wp_scope_back_behind2 {P : Program} {a : Act} {w : World} {Q : Exit → Act → World → Prop} {pre pre2 rest : Code} (l : Nat) (J : Act → World → Prop) (μ : Act → World → Nat) (hn : findLabel pre l = none) (hn2 : findLabel pre2 l = none)
    (h0 : pre.wp P (fun e a w => e = .normal ∧ pre2.wp P (fun e a w => e = .normal ∧ J a w) a w) a w)
    (pass : ∀ a w, J a w → rest.wp P (Exit.jump l (fun a' w' => J a' w' ∧ μ a' w' < μ a w) Q) a w) : (Code.scope (pre.seq (pre2.seq ((Code.label l).seq rest)))).wp P Q a w := by
  refine wp_scope_jumps l J μ (rest := Code.skip.seq rest) (by simp [findLabel, hn, hn2]) (wp_seq (wp_mono h0 ?_)) (fun a w hJ => wp_seq (wp_skip (pass a w hJ)))
  rintro e a1 w1 ⟨rfl, h1⟩
  refine wp_seq (wp_mono h1 ?_)
  rintro e a1 w1 ⟨rfl, h1⟩
  refine wp_seq (wp_label (wp_mono (pass a1 w1 h1) ?_))
  rintro (_ | _ | l | _ | _ | _) a2 w2 h
  all_goals first | exact h | exact ⟨h.1, h.2.1⟩

set_option maxRecDepth 100000 in
theorem below_rowset {w w' : World} {B g : Nat} (h : Below B w w') (hg : B ≤ g) (cs : Array Value) : Below B w (w'.setRow g cs) :=
  ⟨h.os, h.tape, h.output, by rw [setRow_size]; exact h.size, fun i hi => (setRow_other w' g i cs (by omega)).trans (h.block i hi)⟩

set_option maxRecDepth 100000 in
set_option maxHeartbeats 400000 in
theorem fields_any (p : Option Addr) (w : World) :
    Calls Tryd.prog 23 #[.pointer p] w fun e w' => e = .returned (.func (.func 32) #[] #[.pointer (some ⟨w.heap.size, 0, none⟩)]) ∧ w' = w.alloc (.cells #[.pointer p] 46) := by
  go_enter Tryd.func23, Tryd.ntmps23
  go_wp2
  go_ret
  exact ⟨rfl, rfl⟩

/-- Where the numbers lie. -/
def ptrs (B : Nat) : Array Value := #[.pointer (some ⟨B, 0, none⟩), .pointer (some ⟨B, 1, none⟩), .pointer (some ⟨B, 2, none⟩), .pointer (some ⟨B, 3, none⟩), .pointer (some ⟨B, 4, none⟩), .pointer (some ⟨B, 5, none⟩), .pointer (some ⟨B, 6, none⟩), .pointer (some ⟨B, 7, none⟩), .pointer (some ⟨B, 8, none⟩), .pointer (some ⟨B, 9, none⟩), .pointer (some ⟨B, 10, none⟩), .pointer (some ⟨B, 11, none⟩), .pointer (some ⟨B, 12, none⟩)]
set_option maxRecDepth 100000 in
theorem ptrs_at (B k : Nat) (hk : k < 13) : (ptrs B)[k]? = some (.pointer (some ⟨B, k, none⟩)) := by
  rcases (by omega : k = 0 ∨ k = 1 ∨ k = 2 ∨ k = 3 ∨ k = 4 ∨ k = 5 ∨ k = 6 ∨ k = 7 ∨ k = 8 ∨ k = 9 ∨ k = 10 ∨ k = 11 ∨ k = 12) with rfl | rfl | rfl | rfl | rfl | rfl | rfl | rfl | rfl | rfl | rfl | rfl | rfl <;> rfl

/-- What a round that goes on keeps: each row of places. -/
def KpP (W W' : World) : Prop := ∀ (g : Nat) (cs : Array Value) (fz : Nat × Nat), W.heap[g]? = some (Obj.cells cs 39 fz) → W'.heap[g]? = W.heap[g]?
set_option maxRecDepth 100000 in
theorem kpP_refl {W : World} : KpP W W := fun _ _ _ _ => rfl
set_option maxRecDepth 100000 in
theorem kpP_t {A B C : World} (h : KpP A B) (k : KpP B C) : KpP A C := fun g cs fz hg => (k g cs fz ((h g cs fz hg).trans hg)).trans (h g cs fz hg)
set_option maxRecDepth 100000 in
theorem kpP_b (W : World) (l : Nat) (o o' : Obj) (h : W.heap[l]? = some o) (h1 : o.isCells = false) : KpP W (W.putObj l o') :=
  fun g cs fz hg => World.putObj_heap_other (by rintro rfl; rw [hg] at h; cases h; cases h1)
set_option maxRecDepth 100000 in
theorem kpP_below {W W' : World} (hb : Below W.heap.size W W') : KpP W W' := fun g _ _ hg => hb.block g (Array.getElem?_eq_some_iff.1 hg).1
set_option maxRecDepth 100000 in
theorem kpP_set {W : World} {b i : Nat} {t : TypeId} {cs : Array Value} {fz : Nat × Nat} (h : W.heap[b]? = some (Obj.cells cs t fz)) (ht : t ≠ 39) (u : Value) : KpP W (W.setCell ⟨b, i, none⟩ u) :=
  fun g cs' fz' hg => Below.heap_setCell W ⟨b, i, none⟩ u g (by
    rintro rfl
    rw [hg] at h
    cases h
    exact ht rfl)

/-- Where the iterator stands. -/
structure FldInv (Y Bc : Nat) (J : List Nat → World → Prop) (pre : List Nat) (W : World) : Prop where
  le : pre.length ≤ 13
  box : Whole W Y 39 (ptrs Bc)
  inv : J pre W
def FldAt (l X Bc : Nat) (J : List Nat → World → Prop) (a' : Act) (w' : World) : Prop :=
  ∃ (Y : Nat) (pre : List Nat) (u5 u6 u7 u8 u9 u10 u11 u12 u13 u14 u15 u16 u17 u18 u19 u20 u21 u22 u23 u24 u25 u26 u27 u28 u29 u30 u31 u32 u33 u34 u35 u36 u37 u38 u39 u40 u41 u42 u43 u44 u45 u46 u47 u48 u49 u50 u51 u52 u53 u54 u55 u56 : Value), a' = { tmps := #[.func (.yield l) #[] #[], .pointer (some ⟨X, 0, none⟩), undef, .pointer (some ⟨Y, 0, none⟩), .int .i64 (pre.length : Int), u5, u6, u7, u8, u9, u10, u11, u12, u13, u14, u15, u16, u17, u18, u19, u20, u21, u22, u23, u24, u25, u26, u27, u28, u29, u30, u31, u32, u33, u34, u35, u36, u37, u38, u39, u40, u41, u42, u43, u44, u45, u46, u47, u48, u49, u50, u51, u52, u53, u54, u55, u56], defers := [] } ∧ FldInv Y Bc J pre w'

set_option maxRecDepth 100000 in
set_option maxHeartbeats 4000000 in
theorem fields1_in (m l X Bc : Nat) (J : List Nat → World → Prop) (Jx : World → Prop) (W0 : World) (hJ : AbidesFrom W0.heap.size J)
    (hY : ∀ pre x W, J pre W → (x = pre.length ∧ x < 13) → YieldAt Fence.wide (m - 1) Tryd.prog l #[.int .i64 (x : Int), .pointer (some ⟨Bc, x, none⟩)] W fun e W' =>
      (e = .returned (.bool true) ∧ J (pre ++ [x]) W' ∧ KpP W W') ∨ (e = .returned (.bool false) ∧ Jx W'))
    (hX : W0.cell? ⟨X, 0, none⟩ = some (.pointer (some ⟨Bc, 0, none⟩))) (hXl : X < W0.heap.size) (h0 : J [] W0) :
    CallsIn Fence.wide m Tryd.prog 32 #[.func (.yield l) #[] #[], .pointer (some ⟨X, 0, none⟩)] W0 fun e W' => (∃ v, e = .returned v) ∧
      ((∃ ys : List Nat, ys.length = 13 ∧ J ys W') ∨ Jx W') := by
  have HY := Lib.hid hY
  have HJ := Lib.hid hJ
  have H0 := Lib.hid h0
  have HXl := Lib.hid hXl
  clear hY hJ h0
  refine callsIn_of_wp Tryd.func32 rfl trivial ?_ rfl
  simp only [Tryd.ntmps32, List.size_toArray, List.length_cons, List.length_nil, Nat.reduceAdd, Nat.reduceSub, Array.replicate_succ, Array.replicate_zero, List.push_toArray, List.append_toArray, List.nil_append, List.cons_append]
  gi_wp2_with fail
  refine wpIn_wide.2 (wp_scope_back_behind2 0 (FldAt l X Bc J) (fun a' _ => 13 - (intOf (a'.tmps.getD 4 undef)).toNat) rfl rfl ?ahead (fun a' w' hJ' => wpIn_wide (n := m).1 ?pass))
  case ahead =>
    clear HY
    have HL := Lib.hid (show ∀ W : World, (W.cell? ⟨X, 0, none⟩ = some (.pointer (some ⟨Bc, 0, none⟩)) ∧ X < W.heap.size) → W.cell? ⟨X, 0, none⟩ = some (.pointer (some ⟨Bc, 0, none⟩)) from fun _ h => h.1)
    have HC := Lib.hid (show W0.drew.cell? ⟨X, 0, none⟩ = some (.pointer (some ⟨Bc, 0, none⟩)) ∧ X < W0.drew.heap.size from ⟨hX, hXl⟩)
    have HS1 : Hid (∀ o, (W0.drew.alloc o).cell? ⟨X, 0, none⟩ = some (.pointer (some ⟨Bc, 0, none⟩)) ∧ X < (W0.drew.alloc o).heap.size) := fun o =>
      ⟨(((Below.refl W0.drew.heap.size W0.drew).alloc (Nat.le_refl _) o).cell (p := ⟨X, 0, none⟩) HC.out.2).trans HC.out.1, by have := HC.out.2; rw [World.size_alloc]; omega⟩
    have HJd : Hid (J [] W0.drew) := HJ.out [] W0 W0.drew none H0.out ⟨rfl, rfl, rfl, Nat.le_refl _, fun _ _ _ => rfl⟩ (fun r e => by cases e)
    refine wp_region_held_drew (S := fun W => W.cell? ⟨X, 0, none⟩ = some (.pointer (some ⟨Bc, 0, none⟩)) ∧ X < W.heap.size) (by kernel_rfl) HC.out (fun _ => ?_)
    clear hX HXl hXl H0
    refine takeH (i := 0) (v := ?_) rfl (by kernel_rfl) (by kernel_rfl) (by kernel_rfl) (fun _ _ _ h => nomatch h.1) (by rfl) ?_ HC.out ?_
    rotate_left
    · intro W hW; have hc := HL.out W hW; go_simp <;> with_reducible rfl
    simp only [Act.put, List.setIfInBounds_toArray, List.set_cons_zero, List.set_cons_succ]
    refine takeH (i := 1) (v := ?_) rfl (by kernel_rfl) (by kernel_rfl) (by kernel_rfl) (fun _ _ _ h => nomatch h.1) (by rfl) ?_ HC.out ?_
    rotate_left
    · intro W hW; have hc := HL.out W hW; go_simp <;> with_reducible rfl
    simp only [Act.put, List.setIfInBounds_toArray, List.set_cons_zero, List.set_cons_succ]
    refine takeH (i := 2) (v := ?_) rfl (by kernel_rfl) (by kernel_rfl) (by kernel_rfl) (fun _ _ _ h => nomatch h.1) (by rfl) ?_ HC.out ?_
    rotate_left
    · intro W hW; have hc := HL.out W hW; go_simp <;> with_reducible rfl
    simp only [Act.put, List.setIfInBounds_toArray, List.set_cons_zero, List.set_cons_succ]
    refine takeH (i := 3) (v := ?_) rfl (by kernel_rfl) (by kernel_rfl) (by kernel_rfl) (fun _ _ _ h => nomatch h.1) (by rfl) ?_ HC.out ?_
    rotate_left
    · intro W hW; have hc := HL.out W hW; go_simp <;> with_reducible rfl
    simp only [Act.put, List.setIfInBounds_toArray, List.set_cons_zero, List.set_cons_succ]
    refine takeH (i := 4) (v := ?_) rfl (by kernel_rfl) (by kernel_rfl) (by kernel_rfl) (fun _ _ _ h => nomatch h.1) (by rfl) ?_ HC.out ?_
    rotate_left
    · intro W hW; have hc := HL.out W hW; go_simp <;> with_reducible rfl
    simp only [Act.put, List.setIfInBounds_toArray, List.set_cons_zero, List.set_cons_succ]
    refine takeH (i := 5) (v := ?_) rfl (by kernel_rfl) (by kernel_rfl) (by kernel_rfl) (fun _ _ _ h => nomatch h.1) (by rfl) ?_ HC.out ?_
    rotate_left
    · intro W hW; have hc := HL.out W hW; go_simp <;> with_reducible rfl
    simp only [Act.put, List.setIfInBounds_toArray, List.set_cons_zero, List.set_cons_succ]
    refine takeH (i := 6) (v := ?_) rfl (by kernel_rfl) (by kernel_rfl) (by kernel_rfl) (fun _ _ _ h => nomatch h.1) (by rfl) ?_ HC.out ?_
    rotate_left
    · intro W hW; have hc := HL.out W hW; go_simp <;> with_reducible rfl
    simp only [Act.put, List.setIfInBounds_toArray, List.set_cons_zero, List.set_cons_succ]
    refine takeH (i := 7) (v := ?_) rfl (by kernel_rfl) (by kernel_rfl) (by kernel_rfl) (fun _ _ _ h => nomatch h.1) (by rfl) ?_ HC.out ?_
    rotate_left
    · intro W hW; have hc := HL.out W hW; go_simp <;> with_reducible rfl
    simp only [Act.put, List.setIfInBounds_toArray, List.set_cons_zero, List.set_cons_succ]
    refine takeH (i := 8) (v := ?_) rfl (by kernel_rfl) (by kernel_rfl) (by kernel_rfl) (fun _ _ _ h => nomatch h.1) (by rfl) ?_ HC.out ?_
    rotate_left
    · intro W hW; have hc := HL.out W hW; go_simp <;> with_reducible rfl
    simp only [Act.put, List.setIfInBounds_toArray, List.set_cons_zero, List.set_cons_succ]
    refine takeH (i := 9) (v := ?_) rfl (by kernel_rfl) (by kernel_rfl) (by kernel_rfl) (fun _ _ _ h => nomatch h.1) (by rfl) ?_ HC.out ?_
    rotate_left
    · intro W hW; have hc := HL.out W hW; go_simp <;> with_reducible rfl
    simp only [Act.put, List.setIfInBounds_toArray, List.set_cons_zero, List.set_cons_succ]
    refine takeH (i := 10) (v := ?_) rfl (by kernel_rfl) (by kernel_rfl) (by kernel_rfl) (fun _ _ _ h => nomatch h.1) (by rfl) ?_ HC.out ?_
    rotate_left
    · intro W hW; have hc := HL.out W hW; go_simp <;> with_reducible rfl
    simp only [Act.put, List.setIfInBounds_toArray, List.set_cons_zero, List.set_cons_succ]
    refine takeH (i := 11) (v := ?_) rfl (by kernel_rfl) (by kernel_rfl) (by kernel_rfl) (fun _ _ _ h => nomatch h.1) (by rfl) ?_ HC.out ?_
    rotate_left
    · intro W hW; have hc := HL.out W hW; go_simp <;> with_reducible rfl
    simp only [Act.put, List.setIfInBounds_toArray, List.set_cons_zero, List.set_cons_succ]
    refine takeH (i := 12) (v := ?_) rfl (by kernel_rfl) (by kernel_rfl) (by kernel_rfl) (fun _ _ _ h => nomatch h.1) (by rfl) ?_ HC.out ?_
    rotate_left
    · intro W hW; have hc := HL.out W hW; go_simp <;> with_reducible rfl
    simp only [Act.put, List.setIfInBounds_toArray, List.set_cons_zero, List.set_cons_succ]
    refine takeH (i := 13) (v := ?_) rfl (by kernel_rfl) (by kernel_rfl) (by kernel_rfl) (fun _ _ _ h => nomatch h.1) (by rfl) ?_ HC.out ?_
    rotate_left
    · intro W hW; have hc := HL.out W hW; go_simp <;> with_reducible rfl
    simp only [Act.put, List.setIfInBounds_toArray, List.set_cons_zero, List.set_cons_succ]
    refine takeH (i := 14) (v := ?_) rfl (by kernel_rfl) (by kernel_rfl) (by kernel_rfl) (fun _ _ _ h => nomatch h.1) (by rfl) ?_ HC.out ?_
    rotate_left
    · intro W hW; have hc := HL.out W hW; go_simp <;> with_reducible rfl
    simp only [Act.put, List.setIfInBounds_toArray, List.set_cons_zero, List.set_cons_succ]
    refine takeH (i := 15) (v := ?_) rfl (by kernel_rfl) (by kernel_rfl) (by kernel_rfl) (fun _ _ _ h => nomatch h.1) (by rfl) ?_ HC.out ?_
    rotate_left
    · intro W hW; have hc := HL.out W hW; go_simp <;> with_reducible rfl
    simp only [Act.put, List.setIfInBounds_toArray, List.set_cons_zero, List.set_cons_succ]
    refine takeH (i := 16) (v := ?_) rfl (by kernel_rfl) (by kernel_rfl) (by kernel_rfl) (fun _ _ _ h => nomatch h.1) (by rfl) ?_ HC.out ?_
    rotate_left
    · intro W hW; have hc := HL.out W hW; go_simp <;> with_reducible rfl
    simp only [Act.put, List.setIfInBounds_toArray, List.set_cons_zero, List.set_cons_succ]
    refine takeH (i := 17) (v := ?_) rfl (by kernel_rfl) (by kernel_rfl) (by kernel_rfl) (fun _ _ _ h => nomatch h.1) (by rfl) ?_ HC.out ?_
    rotate_left
    · intro W hW; have hc := HL.out W hW; go_simp <;> with_reducible rfl
    simp only [Act.put, List.setIfInBounds_toArray, List.set_cons_zero, List.set_cons_succ]
    refine takeH (i := 18) (v := ?_) rfl (by kernel_rfl) (by kernel_rfl) (by kernel_rfl) (fun _ _ _ h => nomatch h.1) (by rfl) ?_ HC.out ?_
    rotate_left
    · intro W hW; have hc := HL.out W hW; go_simp <;> with_reducible rfl
    simp only [Act.put, List.setIfInBounds_toArray, List.set_cons_zero, List.set_cons_succ]
    refine takeH (i := 19) (v := ?_) rfl (by kernel_rfl) (by kernel_rfl) (by kernel_rfl) (fun _ _ _ h => nomatch h.1) (by rfl) ?_ HC.out ?_
    rotate_left
    · intro W hW; have hc := HL.out W hW; go_simp <;> with_reducible rfl
    simp only [Act.put, List.setIfInBounds_toArray, List.set_cons_zero, List.set_cons_succ]
    refine takeH (i := 20) (v := ?_) rfl (by kernel_rfl) (by kernel_rfl) (by kernel_rfl) (fun _ _ _ h => nomatch h.1) (by rfl) ?_ HC.out ?_
    rotate_left
    · intro W hW; have hc := HL.out W hW; go_simp <;> with_reducible rfl
    simp only [Act.put, List.setIfInBounds_toArray, List.set_cons_zero, List.set_cons_succ]
    refine takeH (i := 21) (v := ?_) rfl (by kernel_rfl) (by kernel_rfl) (by kernel_rfl) (fun _ _ _ h => nomatch h.1) (by rfl) ?_ HC.out ?_
    rotate_left
    · intro W hW; have hc := HL.out W hW; go_simp <;> with_reducible rfl
    simp only [Act.put, List.setIfInBounds_toArray, List.set_cons_zero, List.set_cons_succ]
    refine takeH (i := 22) (v := ?_) rfl (by kernel_rfl) (by kernel_rfl) (by kernel_rfl) (fun _ _ _ h => nomatch h.1) (by rfl) ?_ HC.out ?_
    rotate_left
    · intro W hW; have hc := HL.out W hW; go_simp <;> with_reducible rfl
    simp only [Act.put, List.setIfInBounds_toArray, List.set_cons_zero, List.set_cons_succ]
    refine takeH (i := 23) (v := ?_) rfl (by kernel_rfl) (by kernel_rfl) (by kernel_rfl) (fun _ _ _ h => nomatch h.1) (by rfl) ?_ HC.out ?_
    rotate_left
    · intro W hW; have hc := HL.out W hW; go_simp <;> with_reducible rfl
    simp only [Act.put, List.setIfInBounds_toArray, List.set_cons_zero, List.set_cons_succ]
    refine takeH (i := 24) (v := ?_) rfl (by kernel_rfl) (by kernel_rfl) (by kernel_rfl) (fun _ _ _ h => nomatch h.1) (by rfl) ?_ HC.out ?_
    rotate_left
    · intro W hW; have hc := HL.out W hW; go_simp <;> with_reducible rfl
    simp only [Act.put, List.setIfInBounds_toArray, List.set_cons_zero, List.set_cons_succ]
    refine takeH (i := 25) (v := ?_) rfl (by kernel_rfl) (by kernel_rfl) (by kernel_rfl) (fun _ _ _ h => nomatch h.1) (by rfl) ?_ HC.out ?_
    rotate_left
    · intro W hW; have hc := HL.out W hW; go_simp <;> with_reducible rfl
    simp only [Act.put, List.setIfInBounds_toArray, List.set_cons_zero, List.set_cons_succ]
    refine takeH (i := 26) (v := ?_) rfl (by kernel_rfl) (by kernel_rfl) (by kernel_rfl) (fun _ _ _ h => nomatch h.1) (by rfl) ?_ HC.out ?_
    rotate_left
    · intro W hW; have hc := HL.out W hW; go_simp <;> with_reducible rfl
    simp only [Act.put, List.setIfInBounds_toArray, List.set_cons_zero, List.set_cons_succ]
    refine takeH (i := 27) (v := ?_) rfl (by kernel_rfl) (by kernel_rfl) (by kernel_rfl) (fun _ _ _ h => nomatch h.1) (by rfl) ?_ HC.out ?_
    rotate_left
    · intro W hW; have hc := HL.out W hW; go_simp <;> with_reducible rfl
    simp only [Act.put, List.setIfInBounds_toArray, List.set_cons_zero, List.set_cons_succ]
    refine takeH (i := 28) (v := ?_) rfl (by kernel_rfl) (by kernel_rfl) (by kernel_rfl) (fun _ _ _ h => nomatch h.1) (by rfl) ?_ HC.out ?_
    rotate_left
    · intro W hW; have hc := HL.out W hW; go_simp <;> with_reducible rfl
    simp only [Act.put, List.setIfInBounds_toArray, List.set_cons_zero, List.set_cons_succ]
    refine takeH (i := 29) (v := ?_) rfl (by kernel_rfl) (by kernel_rfl) (by kernel_rfl) (fun _ _ _ h => nomatch h.1) (by rfl) ?_ HC.out ?_
    rotate_left
    · intro W hW; have hc := HL.out W hW; go_simp <;> with_reducible rfl
    simp only [Act.put, List.setIfInBounds_toArray, List.set_cons_zero, List.set_cons_succ]
    refine takeH (i := 30) (v := ?_) rfl (by kernel_rfl) (by kernel_rfl) (by kernel_rfl) (fun _ _ _ h => nomatch h.1) (by rfl) ?_ HC.out ?_
    rotate_left
    · intro W hW; have hc := HL.out W hW; go_simp <;> with_reducible rfl
    simp only [Act.put, List.setIfInBounds_toArray, List.set_cons_zero, List.set_cons_succ]
    refine takeH (i := 31) (v := ?_) rfl (by kernel_rfl) (by kernel_rfl) (by kernel_rfl) (fun _ _ _ h => nomatch h.1) (by rfl) ?_ HC.out ?_
    rotate_left
    · intro W hW; have hc := HL.out W hW; go_simp <;> with_reducible rfl
    simp only [Act.put, List.setIfInBounds_toArray, List.set_cons_zero, List.set_cons_succ]
    refine takeH (i := 32) (v := ?_) rfl (by kernel_rfl) (by kernel_rfl) (by kernel_rfl) (fun _ _ _ h => nomatch h.1) (by rfl) ?_ HC.out ?_
    rotate_left
    · intro W hW; have hc := HL.out W hW; go_simp <;> with_reducible rfl
    simp only [Act.put, List.setIfInBounds_toArray, List.set_cons_zero, List.set_cons_succ]
    refine takeH (i := 33) (v := ?_) rfl (by kernel_rfl) (by kernel_rfl) (by kernel_rfl) (fun _ _ _ h => nomatch h.1) (by rfl) ?_ HC.out ?_
    rotate_left
    · intro W hW; have hc := HL.out W hW; go_simp <;> with_reducible rfl
    simp only [Act.put, List.setIfInBounds_toArray, List.set_cons_zero, List.set_cons_succ]
    refine takeH (i := 34) (v := ?_) rfl (by kernel_rfl) (by kernel_rfl) (by kernel_rfl) (fun _ _ _ h => nomatch h.1) (by rfl) ?_ HC.out ?_
    rotate_left
    · intro W hW; have hc := HL.out W hW; go_simp <;> with_reducible rfl
    simp only [Act.put, List.setIfInBounds_toArray, List.set_cons_zero, List.set_cons_succ]
    refine takeH (i := 35) (v := ?_) rfl (by kernel_rfl) (by kernel_rfl) (by kernel_rfl) (fun _ _ _ h => nomatch h.1) (by rfl) ?_ HC.out ?_
    rotate_left
    · intro W hW; have hc := HL.out W hW; go_simp <;> with_reducible rfl
    simp only [Act.put, List.setIfInBounds_toArray, List.set_cons_zero, List.set_cons_succ]
    refine takeH (i := 36) (v := ?_) rfl (by kernel_rfl) (by kernel_rfl) (by kernel_rfl) (fun _ _ _ h => nomatch h.1) (by rfl) ?_ HC.out ?_
    rotate_left
    · intro W hW; have hc := HL.out W hW; go_simp <;> with_reducible rfl
    simp only [Act.put, List.setIfInBounds_toArray, List.set_cons_zero, List.set_cons_succ]
    refine takeH (i := 37) (v := ?_) rfl (by kernel_rfl) (by kernel_rfl) (by kernel_rfl) (fun _ _ _ h => nomatch h.1) (by rfl) ?_ HC.out ?_
    rotate_left
    · intro W hW; have hc := HL.out W hW; go_simp <;> with_reducible rfl
    simp only [Act.put, List.setIfInBounds_toArray, List.set_cons_zero, List.set_cons_succ]
    refine takeH (i := 38) (v := ?_) rfl (by kernel_rfl) (by kernel_rfl) (by kernel_rfl) (fun _ _ _ h => nomatch h.1) (by rfl) ?_ HC.out ?_
    rotate_left
    · intro W hW; have hc := HL.out W hW; go_simp <;> with_reducible rfl
    simp only [Act.put, List.setIfInBounds_toArray, List.set_cons_zero, List.set_cons_succ]
    refine takeH (i := 39) (v := ?_) rfl (by kernel_rfl) (by kernel_rfl) (by kernel_rfl) (fun _ _ _ h => nomatch h.1) (by rfl) ?_ HC.out ?_
    rotate_left
    · intro W hW; have hc := HL.out W hW; go_simp <;> with_reducible rfl
    simp only [Act.put, List.setIfInBounds_toArray, List.set_cons_zero, List.set_cons_succ]
    refine oneH (i := 40) rfl (by kernel_rfl) (by rfl) (fun K hK => ?_)
    go_simp
    refine hK.out _ _ (HS1.out _) (fun _ => ?_)
    clear hK K
    refine oneH (i := 41) rfl (by kernel_rfl) (by rfl) (fun K hK => ?_)
    refine wp_store_row 39 _ _ rfl W0.drew.heap.size (ptrs Bc) (by rfl) (by rfl) 39 _ (heap_alloc_new W0.drew _) (by kernel_rfl) rfl (by simp [ptrs, Value.oneCell']) ?_
    have HS2 : Hid (∀ o cs, ((W0.drew.alloc o).setRow W0.drew.heap.size cs).cell? ⟨X, 0, none⟩ = some (.pointer (some ⟨Bc, 0, none⟩)) ∧ X < ((W0.drew.alloc o).setRow W0.drew.heap.size cs).heap.size) := fun o cs =>
      ⟨(cell_setRow_other _ _ _ ⟨X, 0, none⟩ (by have := HC.out.2; simp only; omega)).trans (HS1.out o).1, by rw [setRow_size]; exact (HS1.out o).2⟩
    refine hK.out _ _ (HS2.out _ _) (fun _ => ?_)
    clear hK K
    refine wpAnyH_done (by kernel_rfl) ?_ _
    refine ⟨rfl, ?_⟩
    have hw2 : Whole ((W0.alloc (.cells #[.pointer none, .pointer none, .pointer none, .pointer none, .pointer none, .pointer none, .pointer none, .pointer none, .pointer none, .pointer none, .pointer none, .pointer none, .pointer none] 39)).drew.setRow W0.heap.size (ptrs Bc)) W0.heap.size 39 (ptrs Bc) := setRow_heap (W0.drew.alloc (.cells #[.pointer none, .pointer none, .pointer none, .pointer none, .pointer none, .pointer none, .pointer none, .pointer none, .pointer none, .pointer none, .pointer none, .pointer none, .pointer none] 39)) W0.drew.heap.size _ (ptrs Bc) 39 (0, 0) (heap_alloc_new W0.drew _)
    have hb2 : Below W0.drew.heap.size W0.drew ((W0.alloc (.cells #[.pointer none, .pointer none, .pointer none, .pointer none, .pointer none, .pointer none, .pointer none, .pointer none, .pointer none, .pointer none, .pointer none, .pointer none, .pointer none] 39)).drew.setRow W0.heap.size (ptrs Bc)) := below_rowset ((Below.refl W0.drew.heap.size W0.drew).alloc (Nat.le_refl _) (.cells #[.pointer none, .pointer none, .pointer none, .pointer none, .pointer none, .pointer none, .pointer none, .pointer none, .pointer none, .pointer none, .pointer none, .pointer none, .pointer none] 39)) (g := W0.drew.heap.size) (Nat.le_refl _) (ptrs Bc)
    have hJ2 := HJ.out [] W0.drew _ none HJd.out (show World.grownBy _ _ _ from ⟨hb2.os, hb2.tape, hb2.output, hb2.size, fun i hi _ => hb2.block i hi⟩) (fun r e => by cases e)
    have HW2 := Lib.hid hw2
    have HJ2 := Lib.hid hJ2
    clear hw2 hb2 hJ2 HS1 HS2 HJd HC HL
    go_wp2_with fail
    exact ⟨_, [], _, _, _, _, _, _, _, _, _, _, _, _, _, _, _, _, _, _, _, _, _, _, _, _, _, _, _, _, _, _, _, _, _, _, _, _, _, _, _, _, _, _, _, _, _, _, _, _, _, _, _, _, rfl, ⟨Nat.zero_le _, HW2.out, HJ2.out⟩⟩
  case pass =>
    obtain ⟨Y, pre, u5, u6, u7, u8, u9, u10, u11, u12, u13, u14, u15, u16, u17, u18, u19, u20, u21, u22, u23, u24, u25, u26, u27, u28, u29, u30, u31, u32, u33, u34, u35, u36, u37, u38, u39, u40, u41, u42, u43, u44, u45, u46, u47, u48, u49, u50, u51, u52, u53, u54, u55, u56, rfl, hI⟩ := hJ'
    have hle := hI.le
    have HI := Lib.hid hI
    clear hI
    by_cases hlt : pre.length < 13
    · have hcell := (HI.out.box.cell pre.length).trans (ptrs_at Bc pre.length hlt)
      have hi : (pre.length : Int) < 13 := by omega
      obtain ⟨fn, tmps, assign, body, hy, hRR⟩ := HY.out pre pre.length w' HI.out.inv ⟨rfl, hlt⟩
      have HRR := Lib.hid hRR
      clear hRR
      gi_wp2_with fail
      refine ⟨fun h => (by cases h), HRR.out.mono ?_⟩
      clear hcell hy
      rintro e W3 (⟨rfl, hJ3, hk3⟩ | ⟨rfl, hJx3⟩)
      · have HJ3 := Lib.hid hJ3
        have HB3 := Lib.hid ((hk3 _ _ _ HI.out.box).trans HI.out.box)
        clear hJ3 hk3
        gi_wp2_with fail
        refine wpIn_goto ?_
        have e1 : (pre.length : Int) + 1 = ((pre ++ [pre.length]).length : Int) := by rw [List.length_append, List.length_singleton]; omega
        refine ⟨rfl, ⟨Y, pre ++ [pre.length], _, _, _, _, _, _, _, _, _, _, _, _, _, _, _, _, _, _, _, _, _, _, _, _, _, _, _, _, _, _, _, _, _, _, _, _, _, _, _, _, _, _, _, _, _, _, _, _, _, _, _, _, by rw [← e1], ⟨by rw [List.length_append, List.length_singleton]; omega, HB3.out, HJ3.out⟩⟩, ?_⟩
        simp [intOf]; omega
      · have HJx := Lib.hid hJx3
        clear hJx3
        gi_wp2_with fail
        simp only [Exit.jump]
        go_end0
        exact ⟨⟨_, rfl⟩, .inr HJx.out⟩
    · have hEq : pre.length = 13 := by omega
      have HE := Lib.hid hEq
      have hno : ¬ (pre.length : Int) < 13 := by omega
      clear hEq hle
      gi_wp2_with fail
      refine ⟨fun _ h => (by cases h), ?_⟩
      gi_wp2_with fail
      simp only [Exit.jump]
      go_end0
      exact ⟨⟨_, rfl⟩, .inl ⟨pre, HE.out, HI.out.inv⟩⟩

set_option maxRecDepth 100000 in
/-- The iterator hands over where each number lies, in order. -/
theorem fields_mem (m X Bc : Nat) (w : World) (hXl : X < w.heap.size) (hX : w.cell? ⟨X, 0, none⟩ = some (.pointer (some ⟨Bc, 0, none⟩))) :
    SeqMem m Tryd.prog 32 #[.pointer (some ⟨X, 0, none⟩)] (fun k : Nat => #[Value.int .i64 (k : Int), Value.pointer (some ⟨Bc, k, none⟩)]) (fun pre x _ => x = pre.length ∧ x < 13) KpP (fun ys => ys.length = 13) w := fun l J Jx W hW hJ hY h0 =>
  fields1_in m l X Bc J Jx W hJ hY ((hW.cell (p := ⟨X, 0, none⟩) hXl).trans hX) (by have := hW.size; omega) h0

end Go.Proofs.YtdjieigmncoooaaDoor
