/-
  The walk of 'Swap' of package disk. Conditions: those that each theorem names.
-/
import Derived.Test.YtekffkoggnbgeaaDiskPut
namespace Go.Proofs.Ytekffkoggnbgeaa
open Go.RowKit Go.Shelf

def swapR (b : List Nat) (D : Dk) : Option Dk := (writeD b (wipeD D)).map secureD
theorem runs_swap (c1 c2 : Nat) (k1 k2 k3 : Array Value) (f1 : Nat) (b : List Nat) (D : Dk) : runs [⟨c1, k1, fun D => some (wipeD D)⟩, ⟨c2, k2, writeD b⟩, ⟨f1, k3, fun D => some (secureD D)⟩] D = swapR b D := by
  simp only [runs, List.foldlM_cons, List.foldlM_nil, swapR]
  cases h : writeD b (wipeD D) <;> simp [h]

/-- What 'changed' is handed by 'Swap'. -/
theorem changed_swap (A : Option Addr) (n c : Nat) (s r : Int) (bs : List Nat) (Ab : Option Addr) (nb cb : Nat) (b : List Nat) (w W : World) (hr : Rd w w.heap.size A n (bv bs)) (hc : n ≤ c) (hby : ∀ x ∈ bs, x < 256) (hrb : Rd w w.heap.size Ab nb (bv b)) (hcb : nb ≤ cb) (hcm : cb ≤ maxLen) (hbb : ∀ x ∈ b, x < 256) (hnb : nb ≤ 100000)
    (hW : Below w.heap.size w W) (bl bc cl : Nat) (hbl : bl < W.heap.size) (hbc : bc < W.heap.size) (h0 : W.cell? ⟨bl, 0, none⟩ = some (.func (.func 29) #[] #[])) (h1 : W.cell? ⟨bl, 1, none⟩ = some (.func (.func 34) #[] #[.pointer (some ⟨bc, 0, none⟩)])) (h3 : W.cell? ⟨bl, 2, none⟩ = some (.func (.func 30) #[] #[])) (h2 : W.cell? ⟨bc, 0, none⟩ = some (.slice Ab nb cb)) :
    Calls Try.prog 27 #[diskV A n c s r, .slice (some ⟨bl, 0, none⟩) 3 cl] W (ChangedIs (swapR b (cnt bs s r)) (cnt bs s r) W) := by
  have hB := hW.size
  have h := changed_any A n c s r bs w.heap.size W (hr.below hW) hB hc hby [⟨29, #[], fun D => some (wipeD D)⟩, ⟨34, #[.pointer (some ⟨bc, 0, none⟩)], writeD b⟩, ⟨30, #[], fun D => some (secureD D)⟩] bl cl hbl ?_ (by simp) ?_
  · rw [runs_swap] at h
    exact h
  · intro k ch hk
    match k, hk with
    | 0, hk =>
      simp only [List.getElem?_cons_zero, Option.some.injEq] at hk
      subst hk
      exact h0
    | 1, hk =>
      simp only [List.getElem?_cons_succ, List.getElem?_cons_zero, Option.some.injEq] at hk
      subst hk
      exact h1
    | 2, hk =>
      simp only [List.getElem?_cons_succ, List.getElem?_cons_zero, Option.some.injEq] at hk
      subst hk
      exact h3
  · intro ch hch
    have hbel : Below W.heap.size W ((W.alloc (diskB A n c s r)).alloc zeroB) := ((Below.refl _ W).alloc (Nat.le_refl _) _).alloc (by simp) _
    simp only [List.mem_cons, List.not_mem_nil, or_false] at hch
    rcases hch with rfl | rfl | rfl
    · exact wipe_chg _ _
    · exact write_chg _ _ bc Ab nb cb b (by omega) ((hbel.cell (p := ⟨bc, 0, none⟩) hbc).trans h2) (((hrb.below hW).more (by omega)).below (hbel.mono hB) |>.more (by omega)) hbb hnb hcb hcm
    · exact secure_chg _ _

set_option maxRecDepth 100000 in
set_option maxHeartbeats 1000000 in
theorem swap_any (A : Option Addr) (n c : Nat) (s r : Int) (bs : List Nat) (Ab : Option Addr) (nb cb : Nat) (b : List Nat) (w : World) (hr : Rd w w.heap.size A n (bv bs)) (hc : n ≤ c) (hby : ∀ x ∈ bs, x < 256) (hrb : Rd w w.heap.size Ab nb (bv b)) (hcb : nb ≤ cb) (hcm : cb ≤ maxLen) (hbb : ∀ x ∈ b, x < 256) (hnb : nb ≤ 100000) {D : Dk} (hD : cnt bs s r = D) :
    Calls Try.prog 12 #[diskV A n c s r, .slice Ab nb cb] w (DiskRes ((swapR b D).getD D) (errE (swapR b D)) w) := by
  have hbel : Below w.heap.size w ((((w.alloc (diskB A n c s r)).alloc zeroB).alloc (.cells #[.slice Ab nb cb] 22)).alloc (.cells #[.func (.func 29) #[] #[], .func (.func 34) #[] #[.pointer (some ⟨w.heap.size + 1 + 1, 0, none⟩)], .func (.func 30) #[] #[]] 46)) := ((((Below.refl _ w).alloc (Nat.le_refl _) _).alloc (by simp) _).alloc (by simp; omega) _).alloc (by simp; omega) _
  have hcl := Whole.new (((w.alloc (diskB A n c s r)).alloc zeroB).alloc (.cells #[.slice Ab nb cb] 22)) 46 #[.func (.func 29) #[] #[], .func (.func 34) #[] #[.pointer (some ⟨w.heap.size + 1 + 1, 0, none⟩)], .func (.func 30) #[] #[]]
  have HC := Lib.hid (changed_swap A n c s r bs Ab nb cb b w _ hr hc hby hrb hcb hcm hbb hnb hbel.drew (w.heap.size + 1 + 1 + 1) (w.heap.size + 1 + 1) 3 (by simp) (by simp) (by simpa using hcl.cell 0) (by simpa using hcl.cell 1) (by simpa using hcl.cell 2)
    (by simpa using ((Whole.new ((w.alloc (diskB A n c s r)).alloc zeroB) 22 #[.slice Ab nb cb]).alloc (.cells #[.func (.func 29) #[] #[], .func (.func 34) #[] #[.pointer (some ⟨w.heap.size + 1 + 1, 0, none⟩)], .func (.func 30) #[] #[]] 46)).cell 0))
  clear hcl
  rw [hD] at HC
  obtain ⟨D', hD'⟩ : ∃ D', (swapR b D).getD D = D' := ⟨_, rfl⟩
  obtain ⟨E, hE⟩ : ∃ E, errE (swapR b D) = E := ⟨_, rfl⟩
  have HX := Lib.hid (Whole.drew ((((Whole.new w 24 #[.slice A n c, .int .i64 s, .int .i64 r]).alloc zeroB).alloc (.cells #[.slice Ab nb cb] 22)).alloc (.cells #[.func (.func 29) #[] #[], .func (.func 34) #[] #[.pointer (some ⟨w.heap.size + 1 + 1, 0, none⟩)], .func (.func 30) #[] #[]] 46)))
  have hy := (Whole.drew (((Whole.new (w.alloc (diskB A n c s r)) 24 #[.slice none 0 0, .int .i64 0, .int .i64 0]).alloc (.cells #[.slice Ab nb cb] 22)).alloc (.cells #[.func (.func 29) #[] #[], .func (.func 34) #[] #[.pointer (some ⟨w.heap.size + 1 + 1, 0, none⟩)], .func (.func 30) #[] #[]] 46)))
  rw [World.size_alloc] at hy
  have HY := Lib.hid hy
  clear hy
  have HCD : Hid (∀ W e w', ChangedIs (swapR b D) D W e w' → DiskRes D' E W e w') := fun W e w' h => by rw [← hD', ← hE]; exact changed_res h
  rw [hD', hE]
  have HBE := Lib.hid hbel
  have hw0 := (Whole.new w 24 #[.slice A n c, .int .i64 s, .int .i64 r]).alloc zeroB
  have x0 := hw0.cell 0
  have x1 := hw0.cell 1
  have x2 := hw0.cell 2
  simp only [List.getElem?_toArray, List.getElem?_cons_zero, List.getElem?_cons_succ] at x0 x1 x2
  clear hr hby hrb hbb hD hw0 hD' hE hbel
  go_enter Try.func12, Try.ntmps12
  go_wp2_with fail
  go_region_held3 (fun W => W.cell? ⟨w.heap.size, 0, none⟩ = some (.slice A n c) ∧ W.cell? ⟨w.heap.size, 1, none⟩ = some (.int .i64 s) ∧ W.cell? ⟨w.heap.size, 2, none⟩ = some (.int .i64 r)) (first | (with_reducible exact S4.out) | (with_reducible exact S3.out) | go_keep)
    (first | (go_at_call 28; ((with_reducible refine (write_any _ _ _ _).mono ?_); rintro e w2 ⟨rfl, rfl⟩)) | (go_at_call 27; refine (HC.out).mono ?_; intro e w5 hch; obtain ⟨A5, c5, rfl, o5, b5⟩ := HCD.out _ _ _ hch; have O5 := Lib.hid o5; have B5 := Lib.hid b5; have X5 := Lib.hid (HX.out.under b5); have Y5 := Lib.hid (HY.out.under b5); have S3 := Lib.hid X5.out.cells3; have Z5 := Lib.hid (X5.out.farDisk (b' := w.heap.size + 1) (by omega) (.slice A5 D'.bs.length c5) (.int .i64 D'.syn) (.int .i64 D'.room)); have S4 := Lib.hid Z5.out.cells3; have y0 := Y5.out.cell 0; have y1 := Y5.out.cell 1; have y2 := Y5.out.cell 2; simp only [List.getElem?_toArray, List.getElem?_cons_zero, List.getElem?_cons_succ] at y0 y1 y2; have f0 := Y5.out.frozen 0; have f1 := Y5.out.frozen 1; have f2 := Y5.out.frozen 2; clear hch o5 b5))
  rename_i hHeld
  have hz := Y5.out.disk (.slice A5 D'.bs.length c5) (.int .i64 D'.syn) (.int .i64 D'.room)
  have p0 := hz.cell 0
  have p1 := hz.cell 1
  have p2 := hz.cell 2
  simp at p0 p1 p2
  clear hHeld S3 S4 Z5 y0 y1 y2 f0 f1 f2 x0 x1 x2
  go_wp2_with fail
  refine bodyPost_ret (v := .tuple #[diskV A5 D'.bs.length c5 D'.syn D'.room, .int .i64 E]) (by simp [results, Try.results12, go_sem, p0, p1, p2]) rfl ⟨A5, c5, rfl, ?_, ?_⟩
  · exact own_weaker (own_setDisk O5.out (b := w.heap.size + 1) (by simp) _ _ _) (by simp; omega)
  · exact below_setDisk (HBE.out.drew.trans (B5.out.mono (by simp; omega))) (b := w.heap.size + 1) (Nat.le_succ _) _ _ _

end Go.Proofs.Ytekffkoggnbgeaa
