/-
  Texts that the walk of a statement over brains leans on, joined (CfFields, CfMarked, RoundHeld). Conditions: those that each theorem names.
-/
import Derived.Test.YtplejbgecihnpaaDoorK0
import Derived.Test.YtplejbgecihnpaaDoorK2

namespace Go.Proofs.YtplejbgecihnpaaDoor
open Go.RowKit Go.Shelf
attribute [local go_sem] Oper.semAt_some

set_option maxRecDepth 100000 in
theorem below_rowset {w w' : World} {B g : Nat} (h : Below B w w') (hg : B ≤ g) (cs : Array Value) : Below B w (w'.setRow g cs) :=
  ⟨h.os, h.tape, h.output, by rw [setRow_size]; exact h.size, fun i hi => (setRow_other w' g i cs (by omega)).trans (h.block i hi)⟩

set_option maxRecDepth 100000 in
set_option maxHeartbeats 400000 in
theorem fields_any (p : Option Addr) (w : World) :
    Calls Tryd.prog 66 #[.pointer p] w fun e w' => e = .returned (.func (.func 69) #[] #[.pointer (some ⟨w.heap.size, 0, none⟩)]) ∧ w' = w.alloc (.cells #[.pointer p] 83) := by
  go_enter Tryd.func66, Tryd.ntmps66
  go_wp2
  go_ret
  exact ⟨rfl, rfl⟩

/-- Where the numbers lie. -/
def ptrs (B : Nat) : Array Value := #[.pointer (some ⟨B, 0, none⟩), .pointer (some ⟨B, 1, none⟩), .pointer (some ⟨B, 2, none⟩), .pointer (some ⟨B, 3, none⟩), .pointer (some ⟨B, 4, none⟩), .pointer (some ⟨B, 5, none⟩), .pointer (some ⟨B, 6, none⟩), .pointer (some ⟨B, 7, none⟩), .pointer (some ⟨B, 8, none⟩), .pointer (some ⟨B, 9, none⟩), .pointer (some ⟨B, 10, none⟩), .pointer (some ⟨B, 11, none⟩), .pointer (some ⟨B, 12, none⟩)]
set_option maxRecDepth 100000 in
theorem ptrs_at (B k : Nat) (hk : k < 13) : (ptrs B)[k]? = some (.pointer (some ⟨B, k, none⟩)) := by
  rcases (by omega : k = 0 ∨ k = 1 ∨ k = 2 ∨ k = 3 ∨ k = 4 ∨ k = 5 ∨ k = 6 ∨ k = 7 ∨ k = 8 ∨ k = 9 ∨ k = 10 ∨ k = 11 ∨ k = 12) with rfl | rfl | rfl | rfl | rfl | rfl | rfl | rfl | rfl | rfl | rfl | rfl | rfl <;> rfl

/-- What a round that goes on keeps: each row of places. -/
def KpP (W W' : World) : Prop := ∀ (g : Nat) (cs : Array Value) (fz : Nat × Nat), W.heap[g]? = some (Obj.cells cs 89 fz) → W'.heap[g]? = W.heap[g]?
set_option maxRecDepth 100000 in
theorem kpP_refl {W : World} : KpP W W := fun _ _ _ _ => rfl
set_option maxRecDepth 100000 in
theorem kpP_t {A B C : World} (h : KpP A B) (k : KpP B C) : KpP A C := fun g cs fz hg => (k g cs fz ((h g cs fz hg).trans hg)).trans (h g cs fz hg)
set_option maxRecDepth 100000 in
theorem kpP_b (W : World) (l : Nat) (o o' : Obj) (h : W.heap[l]? = some o) (h1 : o.isCells = false) : KpP W (W.putObj l o') :=
  fun g cs fz hg => World.putObj_heap_other (by rintro rfl; rw [hg] at h; cases h; cases h1)
set_option maxRecDepth 100000 in
theorem kpP_below {W W' : World} (hb : Below W.heap.size W W') : KpP W W' := fun g _ _ hg => hb.block g (Array.getElem?_eq_some_iff.1 hg).1
/-- Where the iterator stands. -/
structure FldInv (Y Bc : Nat) (J : List Nat → World → Prop) (pre : List Nat) (W : World) : Prop where
  le : pre.length ≤ 13
  box : Whole W Y 89 (ptrs Bc)
  inv : J pre W
def FldAt (l X Bc : Nat) (J : List Nat → World → Prop) (a' : Act) (w' : World) : Prop :=
  ∃ (Y : Nat) (pre : List Nat) (u5 u6 u7 u8 u9 u10 u11 u12 u13 u14 u15 u16 u17 u18 u19 u20 u21 u22 u23 u24 u25 u26 u27 u28 u29 u30 u31 u32 u33 u34 u35 u36 u37 u38 u39 u40 u41 u42 u43 u44 u45 u46 u47 u48 u49 u50 u51 u52 u53 u54 u55 u56 : Value), a' = { tmps := #[.func (.yield l) #[] #[], .pointer (some ⟨X, 0, none⟩), undef, .pointer (some ⟨Y, 0, none⟩), .int .i64 (pre.length : Int), u5, u6, u7, u8, u9, u10, u11, u12, u13, u14, u15, u16, u17, u18, u19, u20, u21, u22, u23, u24, u25, u26, u27, u28, u29, u30, u31, u32, u33, u34, u35, u36, u37, u38, u39, u40, u41, u42, u43, u44, u45, u46, u47, u48, u49, u50, u51, u52, u53, u54, u55, u56], defers := [] } ∧ FldInv Y Bc J pre w'

set_option maxRecDepth 100000 in
set_option maxHeartbeats 4000000 in
theorem fields1_in (m l X Bc : Nat) (J : List Nat → World → Prop) (Jx : World → Prop) (W0 : World) (hJ : AbidesFrom W0.heap.size J)
    (hY : ∀ pre x W, J pre W → (x = pre.length ∧ x < 13) → YieldAt Fence.wide (m - 1) Tryd.prog l #[.int .i64 (x : Int), .pointer (some ⟨Bc, x, none⟩)] W fun e W' =>
      (e = .returned (.bool true) ∧ J (pre ++ [x]) W' ∧ KpP W W') ∨ (e = .returned (.bool false) ∧ Jx W'))
    (hX : W0.cell? ⟨X, 0, none⟩ = some (.pointer (some ⟨Bc, 0, none⟩))) (hXl : X < W0.heap.size) (h0 : J [] W0) :
    CallsIn Fence.wide m Tryd.prog 69 #[.func (.yield l) #[] #[], .pointer (some ⟨X, 0, none⟩)] W0 fun e W' => (∃ v, e = .returned v) ∧
      ((∃ ys : List Nat, ys.length = 13 ∧ J ys W') ∨ Jx W') := by
  have HY := Lib.hid hY
  have HJ := Lib.hid hJ
  have H0 := Lib.hid h0
  have HXl := Lib.hid hXl
  clear hY hJ h0
  refine callsIn_of_wp Tryd.func69 rfl trivial ?_ rfl
  simp only [Tryd.ntmps69, List.size_toArray, List.length_cons, List.length_nil, Nat.reduceAdd, Nat.reduceSub, Array.replicate_succ, Array.replicate_zero, List.push_toArray, List.append_toArray, List.nil_append, List.cons_append]
  gi_wp2_with fail
  refine wpIn_wide.2 (wp_scope_back_behind2 0 (FldAt l X Bc J) (fun a' _ => 13 - (intOf (a'.tmps.getD 4 undef)).toNat) rfl rfl ?ahead (fun a' w' hJ' => wpIn_wide (n := m).1 ?pass))
  case ahead =>
    clear HY
    have HL := Lib.hid (show ∀ W : World, (W.cell? ⟨X, 0, none⟩ = some (.pointer (some ⟨Bc, 0, none⟩)) ∧ X < W.heap.size) → W.cell? ⟨X, 0, none⟩ = some (.pointer (some ⟨Bc, 0, none⟩)) from fun _ h => h.1)
    have HC := Lib.hid (show W0.drew.cell? ⟨X, 0, none⟩ = some (.pointer (some ⟨Bc, 0, none⟩)) ∧ X < W0.drew.heap.size from ⟨hX, hXl⟩)
    have HS1 : Hid (∀ o, (W0.drew.alloc o).cell? ⟨X, 0, none⟩ = some (.pointer (some ⟨Bc, 0, none⟩)) ∧ X < (W0.drew.alloc o).heap.size) := fun o =>
      ⟨(((Below.refl W0.drew.heap.size W0.drew).alloc (Nat.le_refl _) o).cell (p := ⟨X, 0, none⟩) HC.out.2).trans HC.out.1, by have := HC.out.2; rw [World.size_alloc]; omega⟩
    have HJd : Hid (J [] W0.drew) := HJ.out [] W0 W0.drew none H0.out ⟨rfl, rfl, rfl, Nat.le_refl _, fun _ _ _ => rfl⟩ (fun r e => by cases e)
    refine wp_region_held_drew (S := fun W => W.cell? ⟨X, 0, none⟩ = some (.pointer (some ⟨Bc, 0, none⟩)) ∧ X < W.heap.size) (by kernel_rfl) HC.out (fun _ => ?_)
    clear hX HXl hXl H0
    refine takeH (i := 0) (v := ?_) rfl (by kernel_rfl) (by kernel_rfl) (by kernel_rfl) (fun _ _ _ h => nomatch h.1) (by rfl) ?_ HC.out ?_
    rotate_left
    · intro W hW; have hc := HL.out W hW; go_simp <;> with_reducible rfl
    simp only [Act.put, List.setIfInBounds_toArray, List.set_cons_zero, List.set_cons_succ]
    refine takeH (i := 1) (v := ?_) rfl (by kernel_rfl) (by kernel_rfl) (by kernel_rfl) (fun _ _ _ h => nomatch h.1) (by rfl) ?_ HC.out ?_
    rotate_left
    · intro W hW; have hc := HL.out W hW; go_simp <;> with_reducible rfl
    simp only [Act.put, List.setIfInBounds_toArray, List.set_cons_zero, List.set_cons_succ]
    refine takeH (i := 2) (v := ?_) rfl (by kernel_rfl) (by kernel_rfl) (by kernel_rfl) (fun _ _ _ h => nomatch h.1) (by rfl) ?_ HC.out ?_
    rotate_left
    · intro W hW; have hc := HL.out W hW; go_simp <;> with_reducible rfl
    simp only [Act.put, List.setIfInBounds_toArray, List.set_cons_zero, List.set_cons_succ]
    refine takeH (i := 3) (v := ?_) rfl (by kernel_rfl) (by kernel_rfl) (by kernel_rfl) (fun _ _ _ h => nomatch h.1) (by rfl) ?_ HC.out ?_
    rotate_left
    · intro W hW; have hc := HL.out W hW; go_simp <;> with_reducible rfl
    simp only [Act.put, List.setIfInBounds_toArray, List.set_cons_zero, List.set_cons_succ]
    refine takeH (i := 4) (v := ?_) rfl (by kernel_rfl) (by kernel_rfl) (by kernel_rfl) (fun _ _ _ h => nomatch h.1) (by rfl) ?_ HC.out ?_
    rotate_left
    · intro W hW; have hc := HL.out W hW; go_simp <;> with_reducible rfl
    simp only [Act.put, List.setIfInBounds_toArray, List.set_cons_zero, List.set_cons_succ]
    refine takeH (i := 5) (v := ?_) rfl (by kernel_rfl) (by kernel_rfl) (by kernel_rfl) (fun _ _ _ h => nomatch h.1) (by rfl) ?_ HC.out ?_
    rotate_left
    · intro W hW; have hc := HL.out W hW; go_simp <;> with_reducible rfl
    simp only [Act.put, List.setIfInBounds_toArray, List.set_cons_zero, List.set_cons_succ]
    refine takeH (i := 6) (v := ?_) rfl (by kernel_rfl) (by kernel_rfl) (by kernel_rfl) (fun _ _ _ h => nomatch h.1) (by rfl) ?_ HC.out ?_
    rotate_left
    · intro W hW; have hc := HL.out W hW; go_simp <;> with_reducible rfl
    simp only [Act.put, List.setIfInBounds_toArray, List.set_cons_zero, List.set_cons_succ]
    refine takeH (i := 7) (v := ?_) rfl (by kernel_rfl) (by kernel_rfl) (by kernel_rfl) (fun _ _ _ h => nomatch h.1) (by rfl) ?_ HC.out ?_
    rotate_left
    · intro W hW; have hc := HL.out W hW; go_simp <;> with_reducible rfl
    simp only [Act.put, List.setIfInBounds_toArray, List.set_cons_zero, List.set_cons_succ]
    refine takeH (i := 8) (v := ?_) rfl (by kernel_rfl) (by kernel_rfl) (by kernel_rfl) (fun _ _ _ h => nomatch h.1) (by rfl) ?_ HC.out ?_
    rotate_left
    · intro W hW; have hc := HL.out W hW; go_simp <;> with_reducible rfl
    simp only [Act.put, List.setIfInBounds_toArray, List.set_cons_zero, List.set_cons_succ]
    refine takeH (i := 9) (v := ?_) rfl (by kernel_rfl) (by kernel_rfl) (by kernel_rfl) (fun _ _ _ h => nomatch h.1) (by rfl) ?_ HC.out ?_
    rotate_left
    · intro W hW; have hc := HL.out W hW; go_simp <;> with_reducible rfl
    simp only [Act.put, List.setIfInBounds_toArray, List.set_cons_zero, List.set_cons_succ]
    refine takeH (i := 10) (v := ?_) rfl (by kernel_rfl) (by kernel_rfl) (by kernel_rfl) (fun _ _ _ h => nomatch h.1) (by rfl) ?_ HC.out ?_
    rotate_left
    · intro W hW; have hc := HL.out W hW; go_simp <;> with_reducible rfl
    simp only [Act.put, List.setIfInBounds_toArray, List.set_cons_zero, List.set_cons_succ]
    refine takeH (i := 11) (v := ?_) rfl (by kernel_rfl) (by kernel_rfl) (by kernel_rfl) (fun _ _ _ h => nomatch h.1) (by rfl) ?_ HC.out ?_
    rotate_left
    · intro W hW; have hc := HL.out W hW; go_simp <;> with_reducible rfl
    simp only [Act.put, List.setIfInBounds_toArray, List.set_cons_zero, List.set_cons_succ]
    refine takeH (i := 12) (v := ?_) rfl (by kernel_rfl) (by kernel_rfl) (by kernel_rfl) (fun _ _ _ h => nomatch h.1) (by rfl) ?_ HC.out ?_
    rotate_left
    · intro W hW; have hc := HL.out W hW; go_simp <;> with_reducible rfl
    simp only [Act.put, List.setIfInBounds_toArray, List.set_cons_zero, List.set_cons_succ]
    refine takeH (i := 13) (v := ?_) rfl (by kernel_rfl) (by kernel_rfl) (by kernel_rfl) (fun _ _ _ h => nomatch h.1) (by rfl) ?_ HC.out ?_
    rotate_left
    · intro W hW; have hc := HL.out W hW; go_simp <;> with_reducible rfl
    simp only [Act.put, List.setIfInBounds_toArray, List.set_cons_zero, List.set_cons_succ]
    refine takeH (i := 14) (v := ?_) rfl (by kernel_rfl) (by kernel_rfl) (by kernel_rfl) (fun _ _ _ h => nomatch h.1) (by rfl) ?_ HC.out ?_
    rotate_left
    · intro W hW; have hc := HL.out W hW; go_simp <;> with_reducible rfl
    simp only [Act.put, List.setIfInBounds_toArray, List.set_cons_zero, List.set_cons_succ]
    refine takeH (i := 15) (v := ?_) rfl (by kernel_rfl) (by kernel_rfl) (by kernel_rfl) (fun _ _ _ h => nomatch h.1) (by rfl) ?_ HC.out ?_
    rotate_left
    · intro W hW; have hc := HL.out W hW; go_simp <;> with_reducible rfl
    simp only [Act.put, List.setIfInBounds_toArray, List.set_cons_zero, List.set_cons_succ]
    refine takeH (i := 16) (v := ?_) rfl (by kernel_rfl) (by kernel_rfl) (by kernel_rfl) (fun _ _ _ h => nomatch h.1) (by rfl) ?_ HC.out ?_
    rotate_left
    · intro W hW; have hc := HL.out W hW; go_simp <;> with_reducible rfl
    simp only [Act.put, List.setIfInBounds_toArray, List.set_cons_zero, List.set_cons_succ]
    refine takeH (i := 17) (v := ?_) rfl (by kernel_rfl) (by kernel_rfl) (by kernel_rfl) (fun _ _ _ h => nomatch h.1) (by rfl) ?_ HC.out ?_
    rotate_left
    · intro W hW; have hc := HL.out W hW; go_simp <;> with_reducible rfl
    simp only [Act.put, List.setIfInBounds_toArray, List.set_cons_zero, List.set_cons_succ]
    refine takeH (i := 18) (v := ?_) rfl (by kernel_rfl) (by kernel_rfl) (by kernel_rfl) (fun _ _ _ h => nomatch h.1) (by rfl) ?_ HC.out ?_
    rotate_left
    · intro W hW; have hc := HL.out W hW; go_simp <;> with_reducible rfl
    simp only [Act.put, List.setIfInBounds_toArray, List.set_cons_zero, List.set_cons_succ]
    refine takeH (i := 19) (v := ?_) rfl (by kernel_rfl) (by kernel_rfl) (by kernel_rfl) (fun _ _ _ h => nomatch h.1) (by rfl) ?_ HC.out ?_
    rotate_left
    · intro W hW; have hc := HL.out W hW; go_simp <;> with_reducible rfl
    simp only [Act.put, List.setIfInBounds_toArray, List.set_cons_zero, List.set_cons_succ]
    refine takeH (i := 20) (v := ?_) rfl (by kernel_rfl) (by kernel_rfl) (by kernel_rfl) (fun _ _ _ h => nomatch h.1) (by rfl) ?_ HC.out ?_
    rotate_left
    · intro W hW; have hc := HL.out W hW; go_simp <;> with_reducible rfl
    simp only [Act.put, List.setIfInBounds_toArray, List.set_cons_zero, List.set_cons_succ]
    refine takeH (i := 21) (v := ?_) rfl (by kernel_rfl) (by kernel_rfl) (by kernel_rfl) (fun _ _ _ h => nomatch h.1) (by rfl) ?_ HC.out ?_
    rotate_left
    · intro W hW; have hc := HL.out W hW; go_simp <;> with_reducible rfl
    simp only [Act.put, List.setIfInBounds_toArray, List.set_cons_zero, List.set_cons_succ]
    refine takeH (i := 22) (v := ?_) rfl (by kernel_rfl) (by kernel_rfl) (by kernel_rfl) (fun _ _ _ h => nomatch h.1) (by rfl) ?_ HC.out ?_
    rotate_left
    · intro W hW; have hc := HL.out W hW; go_simp <;> with_reducible rfl
    simp only [Act.put, List.setIfInBounds_toArray, List.set_cons_zero, List.set_cons_succ]
    refine takeH (i := 23) (v := ?_) rfl (by kernel_rfl) (by kernel_rfl) (by kernel_rfl) (fun _ _ _ h => nomatch h.1) (by rfl) ?_ HC.out ?_
    rotate_left
    · intro W hW; have hc := HL.out W hW; go_simp <;> with_reducible rfl
    simp only [Act.put, List.setIfInBounds_toArray, List.set_cons_zero, List.set_cons_succ]
    refine takeH (i := 24) (v := ?_) rfl (by kernel_rfl) (by kernel_rfl) (by kernel_rfl) (fun _ _ _ h => nomatch h.1) (by rfl) ?_ HC.out ?_
    rotate_left
    · intro W hW; have hc := HL.out W hW; go_simp <;> with_reducible rfl
    simp only [Act.put, List.setIfInBounds_toArray, List.set_cons_zero, List.set_cons_succ]
    refine takeH (i := 25) (v := ?_) rfl (by kernel_rfl) (by kernel_rfl) (by kernel_rfl) (fun _ _ _ h => nomatch h.1) (by rfl) ?_ HC.out ?_
    rotate_left
    · intro W hW; have hc := HL.out W hW; go_simp <;> with_reducible rfl
    simp only [Act.put, List.setIfInBounds_toArray, List.set_cons_zero, List.set_cons_succ]
    refine takeH (i := 26) (v := ?_) rfl (by kernel_rfl) (by kernel_rfl) (by kernel_rfl) (fun _ _ _ h => nomatch h.1) (by rfl) ?_ HC.out ?_
    rotate_left
    · intro W hW; have hc := HL.out W hW; go_simp <;> with_reducible rfl
    simp only [Act.put, List.setIfInBounds_toArray, List.set_cons_zero, List.set_cons_succ]
    refine takeH (i := 27) (v := ?_) rfl (by kernel_rfl) (by kernel_rfl) (by kernel_rfl) (fun _ _ _ h => nomatch h.1) (by rfl) ?_ HC.out ?_
    rotate_left
    · intro W hW; have hc := HL.out W hW; go_simp <;> with_reducible rfl
    simp only [Act.put, List.setIfInBounds_toArray, List.set_cons_zero, List.set_cons_succ]
    refine takeH (i := 28) (v := ?_) rfl (by kernel_rfl) (by kernel_rfl) (by kernel_rfl) (fun _ _ _ h => nomatch h.1) (by rfl) ?_ HC.out ?_
    rotate_left
    · intro W hW; have hc := HL.out W hW; go_simp <;> with_reducible rfl
    simp only [Act.put, List.setIfInBounds_toArray, List.set_cons_zero, List.set_cons_succ]
    refine takeH (i := 29) (v := ?_) rfl (by kernel_rfl) (by kernel_rfl) (by kernel_rfl) (fun _ _ _ h => nomatch h.1) (by rfl) ?_ HC.out ?_
    rotate_left
    · intro W hW; have hc := HL.out W hW; go_simp <;> with_reducible rfl
    simp only [Act.put, List.setIfInBounds_toArray, List.set_cons_zero, List.set_cons_succ]
    refine takeH (i := 30) (v := ?_) rfl (by kernel_rfl) (by kernel_rfl) (by kernel_rfl) (fun _ _ _ h => nomatch h.1) (by rfl) ?_ HC.out ?_
    rotate_left
    · intro W hW; have hc := HL.out W hW; go_simp <;> with_reducible rfl
    simp only [Act.put, List.setIfInBounds_toArray, List.set_cons_zero, List.set_cons_succ]
    refine takeH (i := 31) (v := ?_) rfl (by kernel_rfl) (by kernel_rfl) (by kernel_rfl) (fun _ _ _ h => nomatch h.1) (by rfl) ?_ HC.out ?_
    rotate_left
    · intro W hW; have hc := HL.out W hW; go_simp <;> with_reducible rfl
    simp only [Act.put, List.setIfInBounds_toArray, List.set_cons_zero, List.set_cons_succ]
    refine takeH (i := 32) (v := ?_) rfl (by kernel_rfl) (by kernel_rfl) (by kernel_rfl) (fun _ _ _ h => nomatch h.1) (by rfl) ?_ HC.out ?_
    rotate_left
    · intro W hW; have hc := HL.out W hW; go_simp <;> with_reducible rfl
    simp only [Act.put, List.setIfInBounds_toArray, List.set_cons_zero, List.set_cons_succ]
    refine takeH (i := 33) (v := ?_) rfl (by kernel_rfl) (by kernel_rfl) (by kernel_rfl) (fun _ _ _ h => nomatch h.1) (by rfl) ?_ HC.out ?_
    rotate_left
    · intro W hW; have hc := HL.out W hW; go_simp <;> with_reducible rfl
    simp only [Act.put, List.setIfInBounds_toArray, List.set_cons_zero, List.set_cons_succ]
    refine takeH (i := 34) (v := ?_) rfl (by kernel_rfl) (by kernel_rfl) (by kernel_rfl) (fun _ _ _ h => nomatch h.1) (by rfl) ?_ HC.out ?_
    rotate_left
    · intro W hW; have hc := HL.out W hW; go_simp <;> with_reducible rfl
    simp only [Act.put, List.setIfInBounds_toArray, List.set_cons_zero, List.set_cons_succ]
    refine takeH (i := 35) (v := ?_) rfl (by kernel_rfl) (by kernel_rfl) (by kernel_rfl) (fun _ _ _ h => nomatch h.1) (by rfl) ?_ HC.out ?_
    rotate_left
    · intro W hW; have hc := HL.out W hW; go_simp <;> with_reducible rfl
    simp only [Act.put, List.setIfInBounds_toArray, List.set_cons_zero, List.set_cons_succ]
    refine takeH (i := 36) (v := ?_) rfl (by kernel_rfl) (by kernel_rfl) (by kernel_rfl) (fun _ _ _ h => nomatch h.1) (by rfl) ?_ HC.out ?_
    rotate_left
    · intro W hW; have hc := HL.out W hW; go_simp <;> with_reducible rfl
    simp only [Act.put, List.setIfInBounds_toArray, List.set_cons_zero, List.set_cons_succ]
    refine takeH (i := 37) (v := ?_) rfl (by kernel_rfl) (by kernel_rfl) (by kernel_rfl) (fun _ _ _ h => nomatch h.1) (by rfl) ?_ HC.out ?_
    rotate_left
    · intro W hW; have hc := HL.out W hW; go_simp <;> with_reducible rfl
    simp only [Act.put, List.setIfInBounds_toArray, List.set_cons_zero, List.set_cons_succ]
    refine takeH (i := 38) (v := ?_) rfl (by kernel_rfl) (by kernel_rfl) (by kernel_rfl) (fun _ _ _ h => nomatch h.1) (by rfl) ?_ HC.out ?_
    rotate_left
    · intro W hW; have hc := HL.out W hW; go_simp <;> with_reducible rfl
    simp only [Act.put, List.setIfInBounds_toArray, List.set_cons_zero, List.set_cons_succ]
    refine takeH (i := 39) (v := ?_) rfl (by kernel_rfl) (by kernel_rfl) (by kernel_rfl) (fun _ _ _ h => nomatch h.1) (by rfl) ?_ HC.out ?_
    rotate_left
    · intro W hW; have hc := HL.out W hW; go_simp <;> with_reducible rfl
    simp only [Act.put, List.setIfInBounds_toArray, List.set_cons_zero, List.set_cons_succ]
    refine oneH (i := 40) rfl (by kernel_rfl) (by rfl) (fun K hK => ?_)
    go_simp
    refine hK.out _ _ (HS1.out _) (fun _ => ?_)
    clear hK K
    refine oneH (i := 41) rfl (by kernel_rfl) (by rfl) (fun K hK => ?_)
    refine wp_store_row 89 _ _ rfl W0.drew.heap.size (ptrs Bc) (by rfl) (by rfl) 89 _ (heap_alloc_new W0.drew _) (by kernel_rfl) rfl (by simp [ptrs, Value.oneCell']) ?_
    have HS2 : Hid (∀ o cs, ((W0.drew.alloc o).setRow W0.drew.heap.size cs).cell? ⟨X, 0, none⟩ = some (.pointer (some ⟨Bc, 0, none⟩)) ∧ X < ((W0.drew.alloc o).setRow W0.drew.heap.size cs).heap.size) := fun o cs =>
      ⟨(cell_setRow_other _ _ _ ⟨X, 0, none⟩ (by have := HC.out.2; simp only; omega)).trans (HS1.out o).1, by rw [setRow_size]; exact (HS1.out o).2⟩
    refine hK.out _ _ (HS2.out _ _) (fun _ => ?_)
    clear hK K
    refine wpAnyH_done (by kernel_rfl) ?_ _
    refine ⟨rfl, ?_⟩
    have hw2 : Whole ((W0.alloc (.cells #[.pointer none, .pointer none, .pointer none, .pointer none, .pointer none, .pointer none, .pointer none, .pointer none, .pointer none, .pointer none, .pointer none, .pointer none, .pointer none] 89)).drew.setRow W0.heap.size (ptrs Bc)) W0.heap.size 89 (ptrs Bc) := setRow_heap (W0.drew.alloc (.cells #[.pointer none, .pointer none, .pointer none, .pointer none, .pointer none, .pointer none, .pointer none, .pointer none, .pointer none, .pointer none, .pointer none, .pointer none, .pointer none] 89)) W0.drew.heap.size _ (ptrs Bc) 89 (0, 0) (heap_alloc_new W0.drew _)
    have hb2 : Below W0.drew.heap.size W0.drew ((W0.alloc (.cells #[.pointer none, .pointer none, .pointer none, .pointer none, .pointer none, .pointer none, .pointer none, .pointer none, .pointer none, .pointer none, .pointer none, .pointer none, .pointer none] 89)).drew.setRow W0.heap.size (ptrs Bc)) := below_rowset ((Below.refl W0.drew.heap.size W0.drew).alloc (Nat.le_refl _) (.cells #[.pointer none, .pointer none, .pointer none, .pointer none, .pointer none, .pointer none, .pointer none, .pointer none, .pointer none, .pointer none, .pointer none, .pointer none, .pointer none] 89)) (g := W0.drew.heap.size) (Nat.le_refl _) (ptrs Bc)
    have hJ2 := HJ.out [] W0.drew _ none HJd.out (show World.grownBy _ _ _ from ⟨hb2.os, hb2.tape, hb2.output, hb2.size, fun i hi _ => hb2.block i hi⟩) (fun r e => by cases e)
    have HW2 := Lib.hid hw2
    have HJ2 := Lib.hid hJ2
    clear hw2 hb2 hJ2 HS1 HS2 HJd HC HL
    go_wp2_with fail
    exact ⟨_, [], _, _, _, _, _, _, _, _, _, _, _, _, _, _, _, _, _, _, _, _, _, _, _, _, _, _, _, _, _, _, _, _, _, _, _, _, _, _, _, _, _, _, _, _, _, _, _, _, _, _, _, _, rfl, ⟨Nat.zero_le _, HW2.out, HJ2.out⟩⟩
  case pass =>
    obtain ⟨Y, pre, u5, u6, u7, u8, u9, u10, u11, u12, u13, u14, u15, u16, u17, u18, u19, u20, u21, u22, u23, u24, u25, u26, u27, u28, u29, u30, u31, u32, u33, u34, u35, u36, u37, u38, u39, u40, u41, u42, u43, u44, u45, u46, u47, u48, u49, u50, u51, u52, u53, u54, u55, u56, rfl, hI⟩ := hJ'
    have hle := hI.le
    have HI := Lib.hid hI
    clear hI
    by_cases hlt : pre.length < 13
    · have hcell := (HI.out.box.cell pre.length).trans (ptrs_at Bc pre.length hlt)
      have hi : (pre.length : Int) < 13 := by omega
      obtain ⟨fn, tmps, assign, body, hy, hRR⟩ := HY.out pre pre.length w' HI.out.inv ⟨rfl, hlt⟩
      have HRR := Lib.hid hRR
      clear hRR
      gi_wp2_with fail
      refine ⟨fun h => (by cases h), HRR.out.mono ?_⟩
      clear hcell hy
      rintro e W3 (⟨rfl, hJ3, hk3⟩ | ⟨rfl, hJx3⟩)
      · have HJ3 := Lib.hid hJ3
        have HB3 := Lib.hid ((hk3 _ _ _ HI.out.box).trans HI.out.box)
        clear hJ3 hk3
        gi_wp2_with fail
        refine wpIn_goto ?_
        have e1 : (pre.length : Int) + 1 = ((pre ++ [pre.length]).length : Int) := by rw [List.length_append, List.length_singleton]; omega
        refine ⟨rfl, ⟨Y, pre ++ [pre.length], _, _, _, _, _, _, _, _, _, _, _, _, _, _, _, _, _, _, _, _, _, _, _, _, _, _, _, _, _, _, _, _, _, _, _, _, _, _, _, _, _, _, _, _, _, _, _, _, _, _, _, _, by rw [← e1], ⟨by rw [List.length_append, List.length_singleton]; omega, HB3.out, HJ3.out⟩⟩, ?_⟩
        simp [intOf]; omega
      · have HJx := Lib.hid hJx3
        clear hJx3
        gi_wp2_with fail
        simp only [Exit.jump]
        go_end0
        exact ⟨⟨_, rfl⟩, .inr HJx.out⟩
    · have hEq : pre.length = 13 := by omega
      have HE := Lib.hid hEq
      have hno : ¬ (pre.length : Int) < 13 := by omega
      clear hEq hle
      gi_wp2_with fail
      refine ⟨fun _ h => (by cases h), ?_⟩
      gi_wp2_with fail
      simp only [Exit.jump]
      go_end0
      exact ⟨⟨_, rfl⟩, .inl ⟨pre, HE.out, HI.out.inv⟩⟩

set_option maxRecDepth 100000 in
/-- The iterator hands over where each number lies, in order. -/
theorem fields_mem (m X Bc : Nat) (w : World) (hXl : X < w.heap.size) (hX : w.cell? ⟨X, 0, none⟩ = some (.pointer (some ⟨Bc, 0, none⟩))) :
    SeqMem m Tryd.prog 69 #[.pointer (some ⟨X, 0, none⟩)] (fun k : Nat => #[Value.int .i64 (k : Int), Value.pointer (some ⟨Bc, k, none⟩)]) (fun pre x _ => x = pre.length ∧ x < 13) KpP (fun ys => ys.length = 13) w := fun l J Jx W hW hJ hY h0 =>
  fields1_in m l X Bc J Jx W hJ hY ((hW.cell (p := ⟨X, 0, none⟩) hXl).trans hX) (by have := hW.size; omega) h0

end Go.Proofs.YtplejbgecihnpaaDoor

namespace Go.Proofs.YtplejbgecihnpaaDoor
open Go.RowKit Go.Shelf

set_option maxRecDepth 100000 in
theorem upB_last {m last : Int} {r : List Int} (h : m ≤ last) : upB last (m :: r) = false := by simp [upB, show ¬ last < m by omega]
set_option maxRecDepth 100000 in
theorem upB_big {m last : Int} {r : List Int} (h : 100 < m) : upB last (m :: r) = false := by simp [upB, show ¬ m ≤ 100 by omega]
set_option maxRecDepth 100000 in
theorem upB_next {m last : Int} {r : List Int} (h : last < m) (h1 : m ≤ 100) : upB last (m :: r) = upB m r := by simp [upB, h, h1]

/-- Where the run stands at the label. -/
def BadMarks (w : World) (A : Option Addr) (n c : Nat) (l : List Int) (a' : Act) (W : World) : Prop :=
  ∃ (u1 u2 u3 u4 u5 u6 u7 u8 u9 u10 u11 u12 u13 u14 u15 u16 u17 u18 u19 u20 u21 u22 u23 : Value), a' = { tmps := #[.slice A n c, u1, u2, u3, u4, u5, u6, u7, u8, u9, u10, u11, u12, u13, u14, u15, u16, u17, u18, u19, u20, u21, u22, u23], defers := [] } ∧ marksB l = false ∧ W = w

set_option maxRecDepth 100000 in
set_option maxHeartbeats 1000000 in
theorem marked_any (A : Option Addr) (n c : Nat) (l : List Int) (B : Nat) (w : World) (hr : Rd w B A n (iv l)) : Calls Tryd.prog 67 #[.slice A n c] w fun e w' => e = .returned (.bool (marksB l)) ∧ w' = w := by
  have hl : l.length = n := by have := hr.1; rwa [iv_length] at this
  have HR := Lib.hid hr
  have HL := Lib.hid hl
  clear hr hl
  go_enter Tryd.func67, Tryd.ntmps67
  go_wp2_with fail
  refine wp_scope_fwd 0 (BadMarks w A n c l) rfl ?first ?tail
  case tail =>
    rintro a' w' ⟨u1, u2, u3, u4, u5, u6, u7, u8, u9, u10, u11, u12, u13, u14, u15, u16, u17, u18, u19, u20, u21, u22, u23, rfl, hb, rfl⟩
    have HB := Lib.hid hb
    clear hb
    go_wp2_with fail
    simp only [Exit.jump]
    refine bodyPost_ret (v := .bool false) (by simp [results, Tryd.results67]) rfl ⟨by rw [HB.out], rfl⟩
  case first =>
    by_cases h4 : n ≤ 4
    · have h4i : ¬ (4 : Int) < (n : Int) := by omega
      go_wp2_with fail
      go_loopw [3, 5, 11] (fun la _ i wr => ∃ (j : Nat) (last : Int) (rest : List Int), i = .int .i64 (j : Int) ∧ la = .int .i64 last ∧ j ≤ n ∧ rest = l.drop j ∧ upB 0 l = upB last rest ∧ wr = w) (fun _ _ i _ => n - (intOf i).toNat)
      case atStart => exact ⟨0, 0, l, rfl, rfl, Nat.zero_le _, rfl, rfl, rfl⟩
      case round =>
        obtain ⟨j, last, rest, rfl, rfl, hj, hrest, hup, rfl⟩ := hrel
        have HU := Lib.hid hup
        have HRs := Lib.hid hrest
        have h4m : Hid (marksB l = upB 0 l) := by unfold marksB; rw [decide_eq_true (by rw [HL.out]; exact h4)]; rfl
        clear hup hrest
        by_cases hlt : j < n
        · have hji : (j : Int) < (n : Int) := by omega
          obtain ⟨b, off, rfl, _, hc⟩ := HR.out.2 (by omega)
          have hjl : j < l.length := by rw [HL.out]; exact hlt
          obtain ⟨x, hx⟩ : ∃ x, l[j]? = some x := ⟨_, List.getElem?_eq_getElem hjl⟩
          have hcell := hc j hlt
          rw [show (iv l)[j]? = some (.int .i64 x) by simp [iv, hx]] at hcell
          have hd : l.drop j = x :: l.drop (j + 1) := by
            rw [List.drop_eq_getElem_cons hjl]
            rw [List.getElem?_eq_getElem hjl] at hx
            rw [Option.some.inj hx]
          have HD := Lib.hid (HRs.out.trans hd)
          clear hc hx hd
          by_cases h1 : x ≤ last
          · have HM : Hid (marksB l = false) := Lib.hid (by rw [h4m.out, HU.out, HD.out, upB_last h1])
            go_wp2_with fail
            refine wp_goto ⟨rfl, _, _, _, _, _, _, _, _, _, _, _, _, _, _, _, _, _, _, _, _, _, _, _, rfl, HM.out, rfl⟩
          · by_cases h2 : 100 < x
            · have HM : Hid (marksB l = false) := Lib.hid (by rw [h4m.out, HU.out, HD.out, upB_big h2])
              go_wp2_with fail
              refine wp_goto ⟨rfl, _, _, _, _, _, _, _, _, _, _, _, _, _, _, _, _, _, _, _, _, _, _, _, rfl, HM.out, rfl⟩
            · have HN := Lib.hid (HU.out.trans ((congrArg (upB last) HD.out).trans (upB_next (r := l.drop (j + 1)) (show last < x by omega) (show x ≤ 100 by omega))))
              go_wp2_with fail
              go_roundw
              case rel => exact ⟨j + 1, x, _, by go_num, rfl, by omega, rfl, HN.out, by simp⟩
              case measure => simp [intOf]; omega
        · have hji : ¬ (j : Int) < (n : Int) := by omega
          have HM : Hid (marksB l = true) := by
            rw [h4m.out, HU.out, HRs.out, List.drop_of_length_le (by rw [HL.out]; omega)]; rfl
          go_wp2_with fail
          simp only [Exit.jump]
          refine bodyPost_ret (v := .bool true) (by simp [results, Tryd.results67]) rfl ⟨by rw [HM.out], rfl⟩
    · have h4i : (4 : Int) < (n : Int) := by omega
      have HM : Hid (marksB l = false) := by unfold marksB; rw [decide_eq_false (by rw [HL.out]; exact h4)]; rfl
      go_wp2_with fail
      refine wp_goto ⟨rfl, _, _, _, _, _, _, _, _, _, _, _, _, _, _, _, _, _, _, _, _, _, _, _, rfl, HM.out, rfl⟩

end Go.Proofs.YtplejbgecihnpaaDoor

namespace Go.Proofs.YtplejbgecihnpaaDoor
open Go.RowKit Go.Shelf

section
variable {P : Program} {ops : Array Oper} {Q : Exit → Act → World → Prop} {S : World → Prop} {l m : Nat}

set_option maxRecDepth 100000 in
theorem rowsIn_round {row : String} {args : Array Value} {w : World} {R : Value → World → Prop} (h : Rows P row args w R) : RowsIn (Fence.wide.inRound l) m P row args w R :=
  fun c cs _ => let ⟨v, w', r, s⟩ := h c cs; ⟨v, w', r, stepsIn_wide.2 s⟩

set_option maxRecDepth 100000 in
theorem wpIn_round_of_wp {o : Oper} {a : Act} {w : World} {K : Act → World → Prop} (hd : ∀ c, o.op ≠ .defer c) (h : o.wp P a w K Q) : o.wpIn (Fence.wide.inRound l) m P a w K Q := by
  refine ⟨fun _ _ => trivial, ?_⟩
  rw [Fence.inRound_round, Oper.semAt_some l _ _ hd]
  unfold Oper.wp at h
  generalize (execOp a.eval o).run P w = r at h ⊢
  cases r with
  | ok n w' =>
    cases n with
    | value v => exact h
    | skip => exact h
    | defer d => exact h
    | enter f args => exact ⟨fun h => (by cases h), CallsIn.inRound l (callsIn_wide.2 h)⟩
    | row r args => exact ⟨fun h => (by cases h), rowsIn_round h⟩
    | _ => exact h.elim
  | halt x w' =>
    cases x <;> first | exact h | exact h.elim

def noDefer (ops : Array Oper) : Bool := ops.all fun o => match o.op with | .defer _ => false | _ => true
set_option maxRecDepth 100000 in
theorem noDefer_at (h : noDefer ops = true) {i : Nat} {o : Oper} (ho : ops[i]? = some o) : ∀ c, o.op ≠ .defer c := by
  intro c hc
  have hm := Array.all_eq_true_iff_forall_mem.1 h o (Array.mem_of_getElem? ho)
  rw [hc] at hm
  cases hm

set_option maxRecDepth 100000 in
theorem wpAnyIn_round (hd : noDefer ops = true) (hno : ¬ LetsOut Q) : ∀ (fuel : Nat) (listed : Array Bool) (a : Act) (w : World), wpAny P .any ops Q fuel listed a w → wpAnyIn (Fence.wide.inRound l) m P .any ops Q fuel listed a w := by
  intro fuel
  induction fuel with
  | zero => intro listed a w h; exact h
  | succ fuel ih =>
    intro listed a w h
    refine ⟨h.1, fun i hi => ?_⟩
    have h1 := h.2 i hi
    unfold wpOp at h1
    unfold wpOpIn
    cases ho : ops[i]? with
    | none => rw [ho] at h1; exact ih _ _ _ h1
    | some o =>
      rw [ho] at h1
      dsimp only at h1 ⊢
      split at h1
      · rename_i hw
        rw [if_pos hw]
        rcases h1 with h1 | h1
        · exact Oper.wpIn_mono (fun a' w' h' => ih _ _ _ h') (wpIn_round_of_wp (noDefer_at hd ho) h1)
        · exact absurd h1.2 hno
      · rename_i hw
        rw [if_neg hw]
        exact ⟨fun _ _ => trivial, ih _ _ _ h1⟩

set_option maxRecDepth 100000 in
theorem region_round_held {id : Nat} {a : Act} {w : World} (hm : P.follows .mixedOrders = true) (hd : noDefer ops = true) (hno : ¬ LetsOut Q)
    (h : wpAnyH P .any ops Q S ops.size (Array.replicate ops.size false) a w.drew) : (Code.region id ops true).wpIn (Fence.wide.inRound l) m P Q a w :=
  wpIn_region_any hm (wpAnyIn_round hd hno _ _ _ _ (wpAny_of_held _ _ _ _ h))
end

end Go.Proofs.YtplejbgecihnpaaDoor
