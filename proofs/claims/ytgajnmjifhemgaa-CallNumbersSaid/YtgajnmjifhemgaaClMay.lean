/-
  The walks of 'may' and of 'Right' of package call: what is left by a panic is told of. Conditions: those that each theorem names.
-/
import Derived.Test.YtgajnmjifhemgaaClLook
import Derived.Recover
namespace Go.Proofs.Ytgajnmjifhemgaa
open Go.RowKit Go.Shelf

set_option maxRecDepth 100000 in
/-- Whether calls may be: it comes to its end just if they may. -/
theorem look_any (c : Cs) (A : Option Addr) (n k : Nat) (B : Nat) (w : World) (hr : RdC w B A n c.l) (hB : B ≤ w.heap.size) (hn : n ≤ 1000) :
    Calls Try.prog 37 #[.agg #[.int .i64 c.ep, .int .i64 c.nx, .slice A n k]] w (EndsIf (rightC c) w) := by
  unfold rightC
  cases h : headB c.ep c.nx with
  | true => rw [Bool.true_and]; exact look_in c.ep c.nx A n k c.l w (hr.more hB) hn h
  | false => rw [Bool.false_and]; exact look_out c.ep c.nx A n k w h

theorem recd_panicking (p : Addr) (x : Bool) (w : World) (hc : w.cell? p = some (.bool x)) (hz : w.frozen? p = false) :
    CallsD Try.prog 44 #[.pointer (some p)] (.panicking boom) w fun e u' w' =>
      e = .returned (.tuple #[]) ∧ settle u' = .returning ∧ w' = w.setCell p (.bool false) := by
  refine callsD_of_wpS Try.func44 rfl fun c₀ cs hu => ?_
  unfold boom at hu
  apply wpS_region
  simp [wpOpsS, go_sem, recoverD, hu, Try.ntmps44, hc, hz, bodyPostS, results, Try.results44, settle]

theorem recd_idle (p : Addr) (x : Bool) (w : World) (hc : w.cell? p = some (.bool x)) (hz : w.frozen? p = false) :
    CallsD Try.prog 44 #[.pointer (some p)] .returning w fun e u' w' => e = .returned (.tuple #[]) ∧ u' = .returning ∧ w' = w.setCell p (.bool true) := by
  refine callsD_of_wpS Try.func44 rfl fun c₀ cs hu => ?_
  apply wpS_region
  simp [wpOpsS, go_sem, recoverD, hu, Try.ntmps44, hc, hz, bodyPostS, results, Try.results44]
  cases c₀
  simp_all

set_option maxRecDepth 100000 in
set_option maxHeartbeats 1000000 in
/-- Whether a function comes to its end. -/
theorem may_any (f : FuncId) (lb : Array Value) (b : Bool) (w : World) (eg : ∀ args w, (callFunc f args).run Try.prog w = .ok (.enter f args) w)
    (h : Calls Try.prog f lb (w.alloc (.cells #[.bool false] 4)) (EndsIf b (w.alloc (.cells #[.bool false] 4)))) :
    Calls Try.prog 27 #[.func (.func f) #[] lb] w (BoolPost b w) := by
  have hmf : ∀ (fn : Fn) (first cap : Array Value) (w : World), (Instr.makeFunc fn first cap).run Try.prog w = .ok (.func fn first cap) w := fun _ _ _ _ => rfl
  obtain ⟨V, hV⟩ : ∃ V, w.alloc (.cells #[.bool false] 4) = V := ⟨_, rfl⟩
  rw [hV] at h
  have hw : Whole V w.heap.size 4 #[.bool false] := by rw [← hV]; exact Whole.new _ _ _
  have hb : Below w.heap.size w V := by rw [← hV]; exact (Below.refl _ _).alloc (Nat.le_refl _) _
  have H := Lib.hid h
  have HW := Lib.hid hw
  have HB := Lib.hid hb
  clear h hw hb
  go_enter_defers Try.func27, Try.ntmps27
  go_wp2_with fail
  refine H.out.mono ?_
  rintro e w1 ⟨hb1, ⟨rfl, rfl⟩ | ⟨rfl, rfl⟩⟩
  · have hw1 := HW.out.under hb1
    have c0 := cells1 hw1
    have z0 := hw1.frozen 0
    have B1 := Lib.hid (HB.out.trans (hb1.mono HB.out.size))
    have W1 := Lib.hid hw1
    clear hb1 hw1
    go_wp2_with fail
    obtain ⟨e2, k2⟩ := put1 W1.out (.bool true)
    obtain ⟨e3, k3⟩ := put1 e2 (.bool true)
    refine leaves_cons (f := 44) (args := #[.pointer (some ⟨w.heap.size, 0, none⟩)]) (by simp) (by simp [go_sem]) ?_
    refine (recd_idle ⟨w.heap.size, 0, none⟩ true _ (cells1 e2) (e2.frozen 0)).mono ?_
    rintro e u' w'' ⟨rfl, rfl, rfl⟩
    have c3 := cells1 e3
    have hbe := k3.bel (k2.bel B1.out (Nat.le_refl _)) (Nat.le_refl _)
    simp [Leaves, settle, results, Try.results27, go_sem, c3, BoolPost, hbe]
  · have hw1 := HW.out.under hb1
    obtain ⟨e3, k3⟩ := put1 hw1 (.bool false)
    have hbe := k3.bel (HB.out.trans (hb1.mono HB.out.size)) (Nat.le_refl _)
    refine leaves_cons (f := 44) (args := #[.pointer (some ⟨w.heap.size, 0, none⟩)]) (by simp) (by simp [go_sem]) ?_
    refine (recd_panicking ⟨w.heap.size, 0, none⟩ false _ (cells1 hw1) (hw1.frozen 0)).mono ?_
    rintro e u' w'' ⟨rfl, hu, rfl⟩
    have c3 := cells1 e3
    simp [Leaves, hu, results, Try.results27, go_sem, c3, BoolPost, hbe]

/-- A function that enters as it is called. -/
theorem rightc_any (c : Cs) (A : Option Addr) (n k : Nat) (B : Nat) (w : World) (hr : RdC w B A n c.l) (hB : B ≤ w.heap.size) (hn : n ≤ 1000) :
    Calls Try.prog 17 #[.agg #[.int .i64 c.ep, .int .i64 c.nx, .slice A n k]] w (BoolPost (rightC c) w) := by
  have hmf : ∀ (fn : Fn) (first cap : Array Value) (w : World), (Instr.makeFunc fn first cap).run Try.prog w = .ok (.func fn first cap) w := fun _ _ _ _ => rfl
  obtain ⟨V, hV⟩ : ∃ V, w.alloc (.cells #[.int .i64 c.ep, .int .i64 c.nx, .slice A n k] 24) = V := ⟨_, rfl⟩
  have hw : Whole V w.heap.size 24 #[.int .i64 c.ep, .int .i64 c.nx, .slice A n k] := by rw [← hV]; exact Whole.new _ _ _
  have hb : Below w.heap.size w V := by rw [← hV]; exact (Below.refl _ _).alloc (Nat.le_refl _) _
  obtain ⟨V2, hV2⟩ : ∃ V2, V.alloc (.cells #[.bool false] 4) = V2 := ⟨_, rfl⟩
  have hb2 : Below V.heap.size V V2 := by rw [← hV2]; exact (Below.refl _ _).alloc (Nat.le_refl _) _
  have hL := look_any c A n k B V2 ((hr.below (hb.mono hB)).below (hb2.mono (Nat.le_trans hB hb.size))) (Nat.le_trans (Nat.le_trans hB hb.size) hb2.size) hn
  obtain ⟨c0, c1, c2⟩ := cells3 (hw.under hb2)
  have H := Lib.hid (may_any 36 #[.pointer (some ⟨w.heap.size, 0, none⟩)] (rightC c) V (enters_of Try.func36 (by kernel_rfl) rfl) (by
    rw [hV2]
    have HL := Lib.hid hL
    clear hL hV hw hb hV2 hb2 hr hB hn
    go_enter Try.func36, Try.ntmps36
    go_wp2_with fail
    refine HL.out.mono ?_
    rintro e w1 ⟨hb1, ⟨h, rfl⟩ | ⟨h, rfl⟩⟩
    · go_wp2_with fail
      go_end0
      exact ⟨hb1, .inl ⟨by first | exact h | rfl, rfl⟩⟩
    · go_wp2_with fail
      exact ⟨rfl, hb1, .inr ⟨by first | exact h | rfl, rfl⟩⟩))
  have HB := Lib.hid hb
  clear hL hw hb hV2 hb2 hr hB hn c0 c1 c2
  go_enter Try.func17, Try.ntmps17
  go_wp2_with fail
  refine H.out.mono ?_
  rintro e w1 ⟨rfl, hb1⟩
  go_wp2_with fail
  go_ret
  exact ⟨rfl, HB.out.trans (hb1.mono HB.out.size)⟩

end Go.Proofs.Ytgajnmjifhemgaa
