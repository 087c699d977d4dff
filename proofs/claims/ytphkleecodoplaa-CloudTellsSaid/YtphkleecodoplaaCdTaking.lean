/-
  The walk of what 'taking' hands back (package cloud). Conditions: those that each theorem names.
-/
import Derived.Test.YtphkleecodoplaaCdTouch
import Derived.Test.YtphkleecodoplaaHand
namespace Go.Proofs.Ytphkleecodoplaa
open Go.RowKit Go.Shelf

set_option maxRecDepth 100000 in
/-- A cloud's cells, one by one. -/
theorem Clu.cells {W : World} {base Cb : Nat} {A : Option Addr} {n c : Nat} {x : Cw} (h : Clu W base Cb A n c x) :
    W.cell? ⟨Cb, 0, none⟩ = some (.slice A n c) ∧ W.cell? ⟨Cb, 1, none⟩ = some (.int .i64 x.fl) ∧ W.cell? ⟨Cb, 2, none⟩ = some (.int .i64 x.dr) ∧ W.cell? ⟨Cb, 3, none⟩ = some (.int .i64 x.nw) ∧ W.cell? ⟨Cb, 4, none⟩ = some (.bool x.tg) :=
  ⟨h.box.cell 0, h.box.cell 1, h.box.cell 2, h.box.cell 3, h.box.cell 4⟩

/-- Whether it is forbidden to take a box away. -/
def barred (x : Cw) (y : Bx) : Bool := cnt y && decide ((hN x.l : Int) - 1 < x.fl)

section
variable {base Cb g n c o j P f : Nat} {lb : Array Value} {x : Cw} {y y' : Bx} {W0 : World}

set_option maxRecDepth 100000 in
set_option maxHeartbeats 2000000 in
theorem taking1_no (h : Clu W0 base Cb (some ⟨g, 0, none⟩) n c x) (hx : x.l[j]? = some y) (ho : j * 11 = o) (hP : W0.cell? ⟨P, 0, none⟩ = some (.func (.func f) #[] lb))
    (hf : ∀ args w, (callFunc f args).run Try.prog w = .ok (.enter f args) w) (hin : ∀ W, Below W0.heap.size W0 W → Calls Try.prog f (#[.pointer (some ⟨Cb, 0, none⟩), .pointer (some ⟨g, o, none⟩)] ++ lb) W (TouchPost base Cb g n c x j 1 y' W)) (hc : cnt y = false) :
    Calls Try.prog 49 #[.pointer (some ⟨Cb, 0, none⟩), .pointer (some ⟨g, o, none⟩), .pointer (some ⟨P, 0, none⟩)] W0 (TouchPost base Cb g n c x j 1 y' W0) := by
  have H0 := Lib.hid h
  have HI := Lib.hid hin
  have HAt := Lib.hid (fun W (hW : Below W0.heap.size W0 W) => show BxAt W g o y by rw [← ho]; exact (h.under hW).at_ hx)
  have HCn := Lib.hid (fun W => counted_any y W)
  rw [hc] at HCn
  have HP := Lib.hid (fun W (hW : Below W0.heap.size W0 W) => cell_below hP hW)
  clear h hx ho hc hin hP
  go_enter Try.func49, Try.ntmps49
  go_wp2_with fail
  have HC := Lib.hid ((Below.refl W0.heap.size W0).drew)
  have HL := Lib.hid (fun W (hW : Below W0.heap.size W0 W) => And.intro (HAt.out W hW) (H0.out.under hW).cells)
  refine wp_region_held_drew (S := fun W => Below W0.heap.size W0 W) (by kernel_rfl) HC.out (fun _ => ?_)
  refine takeH (i := 0) (v := ?_) rfl (by kernel_rfl) (by kernel_rfl) (by kernel_rfl) (fun _ _ _ h => h) (by rfl) ?_ HC.out ?_
  rotate_left
  · intro W hW; obtain ⟨⟨b0, b1, b2, b3, b4, b5, b6, b7, b8, b9, b10⟩, d0, d1, d2, d3, d4⟩ := HL.out W hW; go_simp <;> with_reducible rfl
  simp only [Act.put, List.setIfInBounds_toArray, List.set_cons_zero, List.set_cons_succ]
  refine takeH (i := 1) (v := ?_) rfl (by kernel_rfl) (by kernel_rfl) (by kernel_rfl) (fun _ _ _ h => h) (by rfl) ?_ HC.out ?_
  rotate_left
  · intro W hW; obtain ⟨⟨b0, b1, b2, b3, b4, b5, b6, b7, b8, b9, b10⟩, d0, d1, d2, d3, d4⟩ := HL.out W hW; go_simp <;> with_reducible rfl
  simp only [Act.put, List.setIfInBounds_toArray, List.set_cons_zero, List.set_cons_succ]
  refine takeH (i := 2) (v := ?_) rfl (by kernel_rfl) (by kernel_rfl) (by kernel_rfl) (fun _ _ _ h => h) (by rfl) ?_ HC.out ?_
  rotate_left
  · intro W hW; obtain ⟨⟨b0, b1, b2, b3, b4, b5, b6, b7, b8, b9, b10⟩, d0, d1, d2, d3, d4⟩ := HL.out W hW; go_simp <;> with_reducible rfl
  simp only [Act.put, List.setIfInBounds_toArray, List.set_cons_zero, List.set_cons_succ]
  refine oneH (i := 3) rfl (by kernel_rfl) (by rfl) (fun K hK => ?_)
  go_simp
  go_at_call 19
  refine (HCn.out _).mono ?_
  rintro e y1 ⟨rfl, b9⟩
  have HC2 := Lib.hid (HC.out.trans (b9.mono HC.out.size))
  clear HC b9
  have HC := HC2
  clear HC2
  refine hK.out _ _ HC.out (fun _ => ?_)
  clear hK K
  refine takeH (i := 4) (v := ?_) rfl (by kernel_rfl) (by kernel_rfl) (by kernel_rfl) (fun _ _ _ h => h) (by rfl) ?_ HC.out ?_
  rotate_left
  · intro W hW; obtain ⟨⟨b0, b1, b2, b3, b4, b5, b6, b7, b8, b9, b10⟩, d0, d1, d2, d3, d4⟩ := HL.out W hW; go_simp <;> with_reducible rfl
  simp only [Act.put, List.setIfInBounds_toArray, List.set_cons_zero, List.set_cons_succ]
  refine skipH (i := 5) rfl (by kernel_rfl) (by kernel_rfl) (by kernel_rfl) (fun _ _ _ h => h) (by rfl) HC.out ?_
  simp only [Act.put, List.setIfInBounds_toArray, List.set_cons_zero, List.set_cons_succ]
  refine skipH (i := 6) rfl (by kernel_rfl) (by kernel_rfl) (by kernel_rfl) (fun _ _ _ h => h) (by rfl) HC.out ?_
  simp only [Act.put, List.setIfInBounds_toArray, List.set_cons_zero, List.set_cons_succ]
  refine skipH (i := 7) rfl (by kernel_rfl) (by kernel_rfl) (by kernel_rfl) (fun _ _ _ h => h) (by rfl) HC.out ?_
  simp only [Act.put, List.setIfInBounds_toArray, List.set_cons_zero, List.set_cons_succ]
  refine skipH (i := 8) rfl (by kernel_rfl) (by kernel_rfl) (by kernel_rfl) (fun _ _ _ h => h) (by rfl) HC.out ?_
  simp only [Act.put, List.setIfInBounds_toArray, List.set_cons_zero, List.set_cons_succ]
  refine skipH (i := 9) rfl (by kernel_rfl) (by kernel_rfl) (by kernel_rfl) (fun _ _ _ h => h) (by rfl) HC.out ?_
  simp only [Act.put, List.setIfInBounds_toArray, List.set_cons_zero, List.set_cons_succ]
  refine skipH (i := 10) rfl (by kernel_rfl) (by kernel_rfl) (by kernel_rfl) (fun _ _ _ h => h) (by rfl) HC.out ?_
  simp only [Act.put, List.setIfInBounds_toArray, List.set_cons_zero, List.set_cons_succ]
  refine skipH (i := 11) rfl (by kernel_rfl) (by kernel_rfl) (by kernel_rfl) (fun _ _ _ h => h) (by rfl) HC.out ?_
  simp only [Act.put, List.setIfInBounds_toArray, List.set_cons_zero, List.set_cons_succ]
  refine skipH (i := 12) rfl (by kernel_rfl) (by kernel_rfl) (by kernel_rfl) (fun _ _ _ h => h) (by rfl) HC.out ?_
  simp only [Act.put, List.setIfInBounds_toArray, List.set_cons_zero, List.set_cons_succ]
  refine skipH (i := 13) rfl (by kernel_rfl) (by kernel_rfl) (by kernel_rfl) (fun _ _ _ h => h) (by rfl) HC.out ?_
  simp only [Act.put, List.setIfInBounds_toArray, List.set_cons_zero, List.set_cons_succ]
  refine skipH (i := 14) rfl (by kernel_rfl) (by kernel_rfl) (by kernel_rfl) (fun _ _ _ h => h) (by rfl) HC.out ?_
  simp only [Act.put, List.setIfInBounds_toArray, List.set_cons_zero, List.set_cons_succ]
  refine takeH (i := 15) (v := ?_) rfl (by kernel_rfl) (by kernel_rfl) (by kernel_rfl) (fun _ _ _ h => h) (by rfl) ?_ HC.out ?_
  rotate_left
  · intro W hW; obtain ⟨⟨b0, b1, b2, b3, b4, b5, b6, b7, b8, b9, b10⟩, d0, d1, d2, d3, d4⟩ := HL.out W hW; go_simp <;> with_reducible rfl
  simp only [Act.put, List.setIfInBounds_toArray, List.set_cons_zero, List.set_cons_succ]
  refine wpAnyH_done (by kernel_rfl) ?_ _
  have bb := HC.out
  clear HL
  have hp := HP.out _ bb
  go_wp2_with fail
  refine (HI.out _ bb).mono ?_
  rintro e w3 ⟨rfl, h3, b3⟩
  go_wp2_with fail
  go_ret
  exact ⟨rfl, h3, grown_t (below_grown bb _) b3⟩

set_option maxRecDepth 100000 in
set_option maxHeartbeats 2000000 in
theorem taking1_free (h : Clu W0 base Cb (some ⟨g, 0, none⟩) n c x) (hx : x.l[j]? = some y) (ho : j * 11 = o) (hn : n ≤ 1000) (hP : W0.cell? ⟨P, 0, none⟩ = some (.func (.func f) #[] lb))
    (hf : ∀ args w, (callFunc f args).run Try.prog w = .ok (.enter f args) w) (hin : ∀ W, Below W0.heap.size W0 W → Calls Try.prog f (#[.pointer (some ⟨Cb, 0, none⟩), .pointer (some ⟨g, o, none⟩)] ++ lb) W (TouchPost base Cb g n c x j 1 y' W)) (hc : cnt y = true) (hb : ¬ (hN x.l : Int) - 1 < x.fl) :
    Calls Try.prog 49 #[.pointer (some ⟨Cb, 0, none⟩), .pointer (some ⟨g, o, none⟩), .pointer (some ⟨P, 0, none⟩)] W0 (TouchPost base Cb g n c x j 1 y' W0) := by
  have H0 := Lib.hid h
  have HI := Lib.hid hin
  have HAt := Lib.hid (fun W (hW : Below W0.heap.size W0 W) => show BxAt W g o y by rw [← ho]; exact (h.under hW).at_ hx)
  have HCn := Lib.hid (fun W => counted_any y W)
  rw [hc] at HCn
  have HP := Lib.hid (fun W (hW : Below W0.heap.size W0 W) => cell_below hP hW)
  have HH := Lib.hid (fun W (hW : Below W0.heap.size W0 W) => h_any (some ⟨g, 0, none⟩) n c x W.heap.size W (h.under hW).rd (Nat.le_refl _) hn)
  have hM1 := hN_le x.l
  have hM2 := h.len
  obtain ⟨M, hM⟩ : ∃ M, hN x.l = M := ⟨_, rfl⟩
  unfold HPost at HH
  rw [hM] at HH hM1 hb
  have ew : IntKind.i64.wrap ((M : Int) - 1) = (M : Int) - 1 := IntWalk.i64_in _ ⟨by omega, by omega⟩
  have hd : decide ((M : Int) - 1 < x.fl) = false := by simpa using hb
  clear hb hM hM1 hM2
  clear h hx ho hc hin hP
  go_enter Try.func49, Try.ntmps49
  go_wp2_with fail
  have HC := Lib.hid ((Below.refl W0.heap.size W0).drew)
  have HL := Lib.hid (fun W (hW : Below W0.heap.size W0 W) => And.intro (HAt.out W hW) (H0.out.under hW).cells)
  refine wp_region_held_drew (S := fun W => Below W0.heap.size W0 W) (by kernel_rfl) HC.out (fun _ => ?_)
  refine takeH (i := 0) (v := ?_) rfl (by kernel_rfl) (by kernel_rfl) (by kernel_rfl) (fun _ _ _ h => h) (by rfl) ?_ HC.out ?_
  rotate_left
  · intro W hW; obtain ⟨⟨b0, b1, b2, b3, b4, b5, b6, b7, b8, b9, b10⟩, d0, d1, d2, d3, d4⟩ := HL.out W hW; go_simp <;> with_reducible rfl
  simp only [Act.put, List.setIfInBounds_toArray, List.set_cons_zero, List.set_cons_succ]
  refine takeH (i := 1) (v := ?_) rfl (by kernel_rfl) (by kernel_rfl) (by kernel_rfl) (fun _ _ _ h => h) (by rfl) ?_ HC.out ?_
  rotate_left
  · intro W hW; obtain ⟨⟨b0, b1, b2, b3, b4, b5, b6, b7, b8, b9, b10⟩, d0, d1, d2, d3, d4⟩ := HL.out W hW; go_simp <;> with_reducible rfl
  simp only [Act.put, List.setIfInBounds_toArray, List.set_cons_zero, List.set_cons_succ]
  refine takeH (i := 2) (v := ?_) rfl (by kernel_rfl) (by kernel_rfl) (by kernel_rfl) (fun _ _ _ h => h) (by rfl) ?_ HC.out ?_
  rotate_left
  · intro W hW; obtain ⟨⟨b0, b1, b2, b3, b4, b5, b6, b7, b8, b9, b10⟩, d0, d1, d2, d3, d4⟩ := HL.out W hW; go_simp <;> with_reducible rfl
  simp only [Act.put, List.setIfInBounds_toArray, List.set_cons_zero, List.set_cons_succ]
  refine oneH (i := 3) rfl (by kernel_rfl) (by rfl) (fun K hK => ?_)
  go_simp
  go_at_call 19
  refine (HCn.out _).mono ?_
  rintro e y1 ⟨rfl, b9⟩
  have HC2 := Lib.hid (HC.out.trans (b9.mono HC.out.size))
  clear HC b9
  have HC := HC2
  clear HC2
  refine hK.out _ _ HC.out (fun _ => ?_)
  clear hK K
  refine takeH (i := 4) (v := ?_) rfl (by kernel_rfl) (by kernel_rfl) (by kernel_rfl) (fun _ _ _ h => h) (by rfl) ?_ HC.out ?_
  rotate_left
  · intro W hW; obtain ⟨⟨b0, b1, b2, b3, b4, b5, b6, b7, b8, b9, b10⟩, d0, d1, d2, d3, d4⟩ := HL.out W hW; go_simp <;> with_reducible rfl
  simp only [Act.put, List.setIfInBounds_toArray, List.set_cons_zero, List.set_cons_succ]
  refine takeH (i := 5) (v := ?_) rfl (by kernel_rfl) (by kernel_rfl) (by kernel_rfl) (fun _ _ _ h => h) (by rfl) ?_ HC.out ?_
  rotate_left
  · intro W hW; obtain ⟨⟨b0, b1, b2, b3, b4, b5, b6, b7, b8, b9, b10⟩, d0, d1, d2, d3, d4⟩ := HL.out W hW; go_simp <;> with_reducible rfl
  simp only [Act.put, List.setIfInBounds_toArray, List.set_cons_zero, List.set_cons_succ]
  refine takeH (i := 6) (v := ?_) rfl (by kernel_rfl) (by kernel_rfl) (by kernel_rfl) (fun _ _ _ h => h) (by rfl) ?_ HC.out ?_
  rotate_left
  · intro W hW; obtain ⟨⟨b0, b1, b2, b3, b4, b5, b6, b7, b8, b9, b10⟩, d0, d1, d2, d3, d4⟩ := HL.out W hW; go_simp <;> with_reducible rfl
  simp only [Act.put, List.setIfInBounds_toArray, List.set_cons_zero, List.set_cons_succ]
  refine takeH (i := 7) (v := ?_) rfl (by kernel_rfl) (by kernel_rfl) (by kernel_rfl) (fun _ _ _ h => h) (by rfl) ?_ HC.out ?_
  rotate_left
  · intro W hW; obtain ⟨⟨b0, b1, b2, b3, b4, b5, b6, b7, b8, b9, b10⟩, d0, d1, d2, d3, d4⟩ := HL.out W hW; go_simp <;> with_reducible rfl
  simp only [Act.put, List.setIfInBounds_toArray, List.set_cons_zero, List.set_cons_succ]
  refine takeH (i := 10) (v := ?_) rfl (by kernel_rfl) (by kernel_rfl) (by kernel_rfl) (fun _ _ _ h => h) (by rfl) ?_ HC.out ?_
  rotate_left
  · intro W hW; obtain ⟨⟨b0, b1, b2, b3, b4, b5, b6, b7, b8, b9, b10⟩, d0, d1, d2, d3, d4⟩ := HL.out W hW; go_simp <;> with_reducible rfl
  simp only [Act.put, List.setIfInBounds_toArray, List.set_cons_zero, List.set_cons_succ]
  refine takeH (i := 11) (v := ?_) rfl (by kernel_rfl) (by kernel_rfl) (by kernel_rfl) (fun _ _ _ h => h) (by rfl) ?_ HC.out ?_
  rotate_left
  · intro W hW; obtain ⟨⟨b0, b1, b2, b3, b4, b5, b6, b7, b8, b9, b10⟩, d0, d1, d2, d3, d4⟩ := HL.out W hW; go_simp <;> with_reducible rfl
  simp only [Act.put, List.setIfInBounds_toArray, List.set_cons_zero, List.set_cons_succ]
  refine takeH (i := 12) (v := ?_) rfl (by kernel_rfl) (by kernel_rfl) (by kernel_rfl) (fun _ _ _ h => h) (by rfl) ?_ HC.out ?_
  rotate_left
  · intro W hW; obtain ⟨⟨b0, b1, b2, b3, b4, b5, b6, b7, b8, b9, b10⟩, d0, d1, d2, d3, d4⟩ := HL.out W hW; go_simp <;> with_reducible rfl
  simp only [Act.put, List.setIfInBounds_toArray, List.set_cons_zero, List.set_cons_succ]
  refine takeH (i := 13) (v := ?_) rfl (by kernel_rfl) (by kernel_rfl) (by kernel_rfl) (fun _ _ _ h => h) (by rfl) ?_ HC.out ?_
  rotate_left
  · intro W hW; obtain ⟨⟨b0, b1, b2, b3, b4, b5, b6, b7, b8, b9, b10⟩, d0, d1, d2, d3, d4⟩ := HL.out W hW; go_simp <;> with_reducible rfl
  simp only [Act.put, List.setIfInBounds_toArray, List.set_cons_zero, List.set_cons_succ]
  refine oneH (i := 8) rfl (by kernel_rfl) (by rfl) (fun K hK => ?_)
  go_simp
  go_at_call 15
  refine (HH.out _ (HC.out)).mono ?_
  rintro e y2 ⟨rfl, b9⟩
  have HC2 := Lib.hid (HC.out.trans (b9.mono HC.out.size))
  clear HC b9
  have HC := HC2
  clear HC2
  refine hK.out _ _ HC.out (fun _ => ?_)
  clear hK K
  refine takeH (i := 9) (v := ?_) rfl (by kernel_rfl) (by kernel_rfl) (by kernel_rfl) (fun _ _ _ h => h) (by rfl) ?_ HC.out ?_
  rotate_left
  · intro W hW; obtain ⟨⟨b0, b1, b2, b3, b4, b5, b6, b7, b8, b9, b10⟩, d0, d1, d2, d3, d4⟩ := HL.out W hW; go_simp <;> with_reducible rfl
  simp only [Act.put, List.setIfInBounds_toArray, List.set_cons_zero, List.set_cons_succ]
  refine takeH (i := 14) (v := ?_) rfl (by kernel_rfl) (by kernel_rfl) (by kernel_rfl) (fun _ _ _ h => h) (by rfl) ?_ HC.out ?_
  rotate_left
  · intro W hW; obtain ⟨⟨b0, b1, b2, b3, b4, b5, b6, b7, b8, b9, b10⟩, d0, d1, d2, d3, d4⟩ := HL.out W hW; go_simp <;> with_reducible rfl
  simp only [Act.put, List.setIfInBounds_toArray, List.set_cons_zero, List.set_cons_succ]
  refine takeH (i := 15) (v := ?_) rfl (by kernel_rfl) (by kernel_rfl) (by kernel_rfl) (fun _ _ _ h => h) (by rfl) ?_ HC.out ?_
  rotate_left
  · intro W hW; obtain ⟨⟨b0, b1, b2, b3, b4, b5, b6, b7, b8, b9, b10⟩, d0, d1, d2, d3, d4⟩ := HL.out W hW; go_simp <;> with_reducible rfl
  simp only [Act.put, List.setIfInBounds_toArray, List.set_cons_zero, List.set_cons_succ]
  refine wpAnyH_done (by kernel_rfl) ?_ _
  have bb := HC.out
  clear HL
  have hp := HP.out _ bb
  go_wp2_with fail
  refine (HI.out _ bb).mono ?_
  rintro e w3 ⟨rfl, h3, b3⟩
  go_wp2_with fail
  go_ret
  exact ⟨rfl, h3, grown_t (below_grown bb _) b3⟩

set_option maxRecDepth 100000 in
set_option maxHeartbeats 2000000 in
theorem taking1_bar (h : Clu W0 base Cb (some ⟨g, 0, none⟩) n c x) (hx : x.l[j]? = some y) (ho : j * 11 = o) (hn : n ≤ 1000) (hP : W0.cell? ⟨P, 0, none⟩ = some (.func (.func f) #[] lb))
    (hin : ∀ W, Below W0.heap.size W0 W → Calls Try.prog f (#[.pointer (some ⟨Cb, 0, none⟩), .pointer (some ⟨g, o, none⟩)] ++ lb) W (TouchPost base Cb g n c x j 1 y' W)) (hc : cnt y = true) (hb : (hN x.l : Int) - 1 < x.fl) :
    Calls Try.prog 49 #[.pointer (some ⟨Cb, 0, none⟩), .pointer (some ⟨g, o, none⟩), .pointer (some ⟨P, 0, none⟩)] W0 (TouchPost base Cb g n c x j 3 y W0) := by
  have H0 := Lib.hid h
  have HI := Lib.hid hin
  have HAt := Lib.hid (fun W (hW : Below W0.heap.size W0 W) => show BxAt W g o y by rw [← ho]; exact (h.under hW).at_ hx)
  have HCn := Lib.hid (fun W => counted_any y W)
  rw [hc] at HCn
  have HP := Lib.hid (fun W (hW : Below W0.heap.size W0 W) => cell_below hP hW)
  have HH := Lib.hid (fun W (hW : Below W0.heap.size W0 W) => h_any (some ⟨g, 0, none⟩) n c x W.heap.size W (h.under hW).rd (Nat.le_refl _) hn)
  have hM1 := hN_le x.l
  have hM2 := h.len
  obtain ⟨M, hM⟩ : ∃ M, hN x.l = M := ⟨_, rfl⟩
  unfold HPost at HH
  rw [hM] at HH hM1 hb
  have ew : IntKind.i64.wrap ((M : Int) - 1) = (M : Int) - 1 := IntWalk.i64_in _ ⟨by omega, by omega⟩
  have hd : decide ((M : Int) - 1 < x.fl) = true := by simpa using hb
  clear hb hM hM1 hM2
  have HS : Hid (Clu W0 base Cb (some ⟨g, 0, none⟩) n c { x with l := x.l.set j y }) := Lib.hid (by rw [set_same hx]; exact h)
  clear h hx ho hc hin hP
  go_enter Try.func49, Try.ntmps49
  go_wp2_with fail
  have HC := Lib.hid ((Below.refl W0.heap.size W0).drew)
  have HL := Lib.hid (fun W (hW : Below W0.heap.size W0 W) => And.intro (HAt.out W hW) (H0.out.under hW).cells)
  refine wp_region_held_drew (S := fun W => Below W0.heap.size W0 W) (by kernel_rfl) HC.out (fun _ => ?_)
  refine takeH (i := 0) (v := ?_) rfl (by kernel_rfl) (by kernel_rfl) (by kernel_rfl) (fun _ _ _ h => h) (by rfl) ?_ HC.out ?_
  rotate_left
  · intro W hW; obtain ⟨⟨b0, b1, b2, b3, b4, b5, b6, b7, b8, b9, b10⟩, d0, d1, d2, d3, d4⟩ := HL.out W hW; go_simp <;> with_reducible rfl
  simp only [Act.put, List.setIfInBounds_toArray, List.set_cons_zero, List.set_cons_succ]
  refine takeH (i := 1) (v := ?_) rfl (by kernel_rfl) (by kernel_rfl) (by kernel_rfl) (fun _ _ _ h => h) (by rfl) ?_ HC.out ?_
  rotate_left
  · intro W hW; obtain ⟨⟨b0, b1, b2, b3, b4, b5, b6, b7, b8, b9, b10⟩, d0, d1, d2, d3, d4⟩ := HL.out W hW; go_simp <;> with_reducible rfl
  simp only [Act.put, List.setIfInBounds_toArray, List.set_cons_zero, List.set_cons_succ]
  refine takeH (i := 2) (v := ?_) rfl (by kernel_rfl) (by kernel_rfl) (by kernel_rfl) (fun _ _ _ h => h) (by rfl) ?_ HC.out ?_
  rotate_left
  · intro W hW; obtain ⟨⟨b0, b1, b2, b3, b4, b5, b6, b7, b8, b9, b10⟩, d0, d1, d2, d3, d4⟩ := HL.out W hW; go_simp <;> with_reducible rfl
  simp only [Act.put, List.setIfInBounds_toArray, List.set_cons_zero, List.set_cons_succ]
  refine oneH (i := 3) rfl (by kernel_rfl) (by rfl) (fun K hK => ?_)
  go_simp
  go_at_call 19
  refine (HCn.out _).mono ?_
  rintro e y1 ⟨rfl, b9⟩
  have HC2 := Lib.hid (HC.out.trans (b9.mono HC.out.size))
  clear HC b9
  have HC := HC2
  clear HC2
  refine hK.out _ _ HC.out (fun _ => ?_)
  clear hK K
  refine takeH (i := 4) (v := ?_) rfl (by kernel_rfl) (by kernel_rfl) (by kernel_rfl) (fun _ _ _ h => h) (by rfl) ?_ HC.out ?_
  rotate_left
  · intro W hW; obtain ⟨⟨b0, b1, b2, b3, b4, b5, b6, b7, b8, b9, b10⟩, d0, d1, d2, d3, d4⟩ := HL.out W hW; go_simp <;> with_reducible rfl
  simp only [Act.put, List.setIfInBounds_toArray, List.set_cons_zero, List.set_cons_succ]
  refine takeH (i := 5) (v := ?_) rfl (by kernel_rfl) (by kernel_rfl) (by kernel_rfl) (fun _ _ _ h => h) (by rfl) ?_ HC.out ?_
  rotate_left
  · intro W hW; obtain ⟨⟨b0, b1, b2, b3, b4, b5, b6, b7, b8, b9, b10⟩, d0, d1, d2, d3, d4⟩ := HL.out W hW; go_simp <;> with_reducible rfl
  simp only [Act.put, List.setIfInBounds_toArray, List.set_cons_zero, List.set_cons_succ]
  refine takeH (i := 6) (v := ?_) rfl (by kernel_rfl) (by kernel_rfl) (by kernel_rfl) (fun _ _ _ h => h) (by rfl) ?_ HC.out ?_
  rotate_left
  · intro W hW; obtain ⟨⟨b0, b1, b2, b3, b4, b5, b6, b7, b8, b9, b10⟩, d0, d1, d2, d3, d4⟩ := HL.out W hW; go_simp <;> with_reducible rfl
  simp only [Act.put, List.setIfInBounds_toArray, List.set_cons_zero, List.set_cons_succ]
  refine takeH (i := 7) (v := ?_) rfl (by kernel_rfl) (by kernel_rfl) (by kernel_rfl) (fun _ _ _ h => h) (by rfl) ?_ HC.out ?_
  rotate_left
  · intro W hW; obtain ⟨⟨b0, b1, b2, b3, b4, b5, b6, b7, b8, b9, b10⟩, d0, d1, d2, d3, d4⟩ := HL.out W hW; go_simp <;> with_reducible rfl
  simp only [Act.put, List.setIfInBounds_toArray, List.set_cons_zero, List.set_cons_succ]
  refine takeH (i := 10) (v := ?_) rfl (by kernel_rfl) (by kernel_rfl) (by kernel_rfl) (fun _ _ _ h => h) (by rfl) ?_ HC.out ?_
  rotate_left
  · intro W hW; obtain ⟨⟨b0, b1, b2, b3, b4, b5, b6, b7, b8, b9, b10⟩, d0, d1, d2, d3, d4⟩ := HL.out W hW; go_simp <;> with_reducible rfl
  simp only [Act.put, List.setIfInBounds_toArray, List.set_cons_zero, List.set_cons_succ]
  refine takeH (i := 11) (v := ?_) rfl (by kernel_rfl) (by kernel_rfl) (by kernel_rfl) (fun _ _ _ h => h) (by rfl) ?_ HC.out ?_
  rotate_left
  · intro W hW; obtain ⟨⟨b0, b1, b2, b3, b4, b5, b6, b7, b8, b9, b10⟩, d0, d1, d2, d3, d4⟩ := HL.out W hW; go_simp <;> with_reducible rfl
  simp only [Act.put, List.setIfInBounds_toArray, List.set_cons_zero, List.set_cons_succ]
  refine takeH (i := 12) (v := ?_) rfl (by kernel_rfl) (by kernel_rfl) (by kernel_rfl) (fun _ _ _ h => h) (by rfl) ?_ HC.out ?_
  rotate_left
  · intro W hW; obtain ⟨⟨b0, b1, b2, b3, b4, b5, b6, b7, b8, b9, b10⟩, d0, d1, d2, d3, d4⟩ := HL.out W hW; go_simp <;> with_reducible rfl
  simp only [Act.put, List.setIfInBounds_toArray, List.set_cons_zero, List.set_cons_succ]
  refine takeH (i := 13) (v := ?_) rfl (by kernel_rfl) (by kernel_rfl) (by kernel_rfl) (fun _ _ _ h => h) (by rfl) ?_ HC.out ?_
  rotate_left
  · intro W hW; obtain ⟨⟨b0, b1, b2, b3, b4, b5, b6, b7, b8, b9, b10⟩, d0, d1, d2, d3, d4⟩ := HL.out W hW; go_simp <;> with_reducible rfl
  simp only [Act.put, List.setIfInBounds_toArray, List.set_cons_zero, List.set_cons_succ]
  refine oneH (i := 8) rfl (by kernel_rfl) (by rfl) (fun K hK => ?_)
  go_simp
  go_at_call 15
  refine (HH.out _ (HC.out)).mono ?_
  rintro e y2 ⟨rfl, b9⟩
  have HC2 := Lib.hid (HC.out.trans (b9.mono HC.out.size))
  clear HC b9
  have HC := HC2
  clear HC2
  refine hK.out _ _ HC.out (fun _ => ?_)
  clear hK K
  refine takeH (i := 9) (v := ?_) rfl (by kernel_rfl) (by kernel_rfl) (by kernel_rfl) (fun _ _ _ h => h) (by rfl) ?_ HC.out ?_
  rotate_left
  · intro W hW; obtain ⟨⟨b0, b1, b2, b3, b4, b5, b6, b7, b8, b9, b10⟩, d0, d1, d2, d3, d4⟩ := HL.out W hW; go_simp <;> with_reducible rfl
  simp only [Act.put, List.setIfInBounds_toArray, List.set_cons_zero, List.set_cons_succ]
  refine takeH (i := 14) (v := ?_) rfl (by kernel_rfl) (by kernel_rfl) (by kernel_rfl) (fun _ _ _ h => h) (by rfl) ?_ HC.out ?_
  rotate_left
  · intro W hW; obtain ⟨⟨b0, b1, b2, b3, b4, b5, b6, b7, b8, b9, b10⟩, d0, d1, d2, d3, d4⟩ := HL.out W hW; go_simp <;> with_reducible rfl
  simp only [Act.put, List.setIfInBounds_toArray, List.set_cons_zero, List.set_cons_succ]
  refine takeH (i := 15) (v := ?_) rfl (by kernel_rfl) (by kernel_rfl) (by kernel_rfl) (fun _ _ _ h => h) (by rfl) ?_ HC.out ?_
  rotate_left
  · intro W hW; obtain ⟨⟨b0, b1, b2, b3, b4, b5, b6, b7, b8, b9, b10⟩, d0, d1, d2, d3, d4⟩ := HL.out W hW; go_simp <;> with_reducible rfl
  simp only [Act.put, List.setIfInBounds_toArray, List.set_cons_zero, List.set_cons_succ]
  refine wpAnyH_done (by kernel_rfl) ?_ _
  have bb := HC.out
  clear HL
  go_wp2_with fail
  go_ret
  exact ⟨rfl, HS.out.under bb, below_grown bb _⟩

set_option maxRecDepth 100000 in
/-- What is told, and the box then, where taking it away may be forbidden. -/
theorem taking1_any (h : Clu W0 base Cb (some ⟨g, 0, none⟩) n c x) (hx : x.l[j]? = some y) (ho : j * 11 = o) (hn : n ≤ 1000) (hP : W0.cell? ⟨P, 0, none⟩ = some (.func (.func f) #[] lb))
    (hf : ∀ args w, (callFunc f args).run Try.prog w = .ok (.enter f args) w) (hin : ∀ W, Below W0.heap.size W0 W → Calls Try.prog f (#[.pointer (some ⟨Cb, 0, none⟩), .pointer (some ⟨g, o, none⟩)] ++ lb) W (TouchPost base Cb g n c x j 1 y' W)) :
    Calls Try.prog 49 #[.pointer (some ⟨Cb, 0, none⟩), .pointer (some ⟨g, o, none⟩), .pointer (some ⟨P, 0, none⟩)] W0 (TouchPost base Cb g n c x j (if barred x y = true then 3 else 1) (if barred x y = true then y else y') W0) := by
  cases hc : cnt y with
  | false =>
    have e : barred x y = false := by simp [barred, hc]
    rw [e]
    exact taking1_no h hx ho hP hf hin hc
  | true =>
    by_cases hb : (hN x.l : Int) - 1 < x.fl
    · have e : barred x y = true := by simp [barred, hc, hb]
      rw [e]
      exact taking1_bar h hx ho hn hP hin hc hb
    · have e : barred x y = false := by simp [barred, hb]
      rw [e]
      exact taking1_free h hx ho hn hP hf hin hc hb
end

end Go.Proofs.Ytphkleecodoplaa
