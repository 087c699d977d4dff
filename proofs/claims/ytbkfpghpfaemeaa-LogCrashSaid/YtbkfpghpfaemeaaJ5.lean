/-
  Texts that the walks of the statements over logs lean on, joined (DiskSwap, DiskSame, DiskWakes, DiskUse, DiskLawRoom, RefDisk, RefRest, RefMore, BytesEqual, FrFirst, FrTake). Conditions: those that each theorem names.
-/
import Derived.Test.YtbkfpghpfaemeaaJ2
import Derived.Test.YtbkfpghpfaemeaaJ3
import Derived.Test.YtbkfpghpfaemeaaJ4
import Derived.Deep.RegionWith
import Derived.Deep.DeepCutAuto
import Derived.Laws.OwnMore

/-
  The walk of 'Swap' of package disk. Conditions: those that each theorem names.
-/
namespace Go.Proofs.Ytbkfpghpfaemeaa
open Go.RowKit Go.Shelf

def swapR (b : List Nat) (D : Dk) : Option Dk := (writeD b (wipeD D)).map secureD
set_option maxRecDepth 100000 in
theorem runs_swap (c1 c2 : Nat) (k1 k2 k3 : Array Value) (f1 : Nat) (b : List Nat) (D : Dk) : runs [⟨c1, k1, fun D => some (wipeD D)⟩, ⟨c2, k2, writeD b⟩, ⟨f1, k3, fun D => some (secureD D)⟩] D = swapR b D := by
  simp only [runs, List.foldlM_cons, List.foldlM_nil, swapR]
  cases h : writeD b (wipeD D) <;> simp [h]

set_option maxRecDepth 100000 in
/-- What 'changed' is handed by 'Swap'. -/
theorem changed_swap (A : Option Addr) (n c : Nat) (s r : Int) (bs : List Nat) (Ab : Option Addr) (nb cb : Nat) (b : List Nat) (w W : World) (hr : Rd w w.heap.size A n (bv bs)) (hc : n ≤ c) (hby : ∀ x ∈ bs, x < 256) (hrb : Rd w w.heap.size Ab nb (bv b)) (hcb : nb ≤ cb) (hcm : cb ≤ maxLen) (hbb : ∀ x ∈ b, x < 256) (hnb : nb ≤ 100000)
    (hW : Below w.heap.size w W) (bl bc cl : Nat) (hbl : bl < W.heap.size) (hbc : bc < W.heap.size) (h0 : W.cell? ⟨bl, 0, none⟩ = some (.func (.func 53) #[] #[])) (h1 : W.cell? ⟨bl, 1, none⟩ = some (.func (.func 67) #[] #[.pointer (some ⟨bc, 0, none⟩)])) (h3 : W.cell? ⟨bl, 2, none⟩ = some (.func (.func 54) #[] #[])) (h2 : W.cell? ⟨bc, 0, none⟩ = some (.slice Ab nb cb)) :
    Calls Try.prog 49 #[diskV A n c s r, .slice (some ⟨bl, 0, none⟩) 3 cl] W (ChangedIs (swapR b (cnt bs s r)) (cnt bs s r) W) := by
  have hB := hW.size
  have h := changed_any A n c s r bs w.heap.size W (hr.below hW) hB hc hby [⟨53, #[], fun D => some (wipeD D)⟩, ⟨67, #[.pointer (some ⟨bc, 0, none⟩)], writeD b⟩, ⟨54, #[], fun D => some (secureD D)⟩] bl cl hbl ?_ (by simp) ?_
  · rw [runs_swap] at h
    exact h
  · intro k ch hk
    match k, hk with
    | 0, hk =>
      simp only [List.getElem?_cons_zero, Option.some.injEq] at hk
      subst hk
      exact h0
    | 1, hk =>
      simp only [List.getElem?_cons_succ, List.getElem?_cons_zero, Option.some.injEq] at hk
      subst hk
      exact h1
    | 2, hk =>
      simp only [List.getElem?_cons_succ, List.getElem?_cons_zero, Option.some.injEq] at hk
      subst hk
      exact h3
  · intro ch hch
    have hbel : Below W.heap.size W ((W.alloc (diskB A n c s r)).alloc zeroB) := ((Below.refl _ W).alloc (Nat.le_refl _) _).alloc (by simp) _
    simp only [List.mem_cons, List.not_mem_nil, or_false] at hch
    rcases hch with rfl | rfl | rfl
    · exact wipe_chg _ _
    · exact write_chg _ _ bc Ab nb cb b (by omega) ((hbel.cell (p := ⟨bc, 0, none⟩) hbc).trans h2) (((hrb.below hW).more (by omega)).below (hbel.mono hB) |>.more (by omega)) hbb hnb hcb hcm
    · exact secure_chg _ _

set_option maxRecDepth 100000 in
set_option maxHeartbeats 1000000 in
theorem swap_any (A : Option Addr) (n c : Nat) (s r : Int) (bs : List Nat) (Ab : Option Addr) (nb cb : Nat) (b : List Nat) (w : World) (hr : Rd w w.heap.size A n (bv bs)) (hc : n ≤ c) (hby : ∀ x ∈ bs, x < 256) (hrb : Rd w w.heap.size Ab nb (bv b)) (hcb : nb ≤ cb) (hcm : cb ≤ maxLen) (hbb : ∀ x ∈ b, x < 256) (hnb : nb ≤ 100000) {D : Dk} (hD : cnt bs s r = D) :
    Calls Try.prog 37 #[diskV A n c s r, .slice Ab nb cb] w (DiskRes ((swapR b D).getD D) (errE (swapR b D)) w) := by
  have hbel : Below w.heap.size w ((((w.alloc (diskB A n c s r)).alloc zeroB).alloc (.cells #[.slice Ab nb cb] 22)).alloc (.cells #[.func (.func 53) #[] #[], .func (.func 67) #[] #[.pointer (some ⟨w.heap.size + 1 + 1, 0, none⟩)], .func (.func 54) #[] #[]] 84)) := ((((Below.refl _ w).alloc (Nat.le_refl _) _).alloc (by simp) _).alloc (by simp; omega) _).alloc (by simp; omega) _
  have hcl := Whole.new (((w.alloc (diskB A n c s r)).alloc zeroB).alloc (.cells #[.slice Ab nb cb] 22)) 84 #[.func (.func 53) #[] #[], .func (.func 67) #[] #[.pointer (some ⟨w.heap.size + 1 + 1, 0, none⟩)], .func (.func 54) #[] #[]]
  have HC := Lib.hid (changed_swap A n c s r bs Ab nb cb b w _ hr hc hby hrb hcb hcm hbb hnb hbel.drew (w.heap.size + 1 + 1 + 1) (w.heap.size + 1 + 1) 3 (by simp) (by simp) (by simpa using hcl.cell 0) (by simpa using hcl.cell 1) (by simpa using hcl.cell 2)
    (by simpa using ((Whole.new ((w.alloc (diskB A n c s r)).alloc zeroB) 22 #[.slice Ab nb cb]).alloc (.cells #[.func (.func 53) #[] #[], .func (.func 67) #[] #[.pointer (some ⟨w.heap.size + 1 + 1, 0, none⟩)], .func (.func 54) #[] #[]] 84)).cell 0))
  clear hcl
  rw [hD] at HC
  obtain ⟨D', hD'⟩ : ∃ D', (swapR b D).getD D = D' := ⟨_, rfl⟩
  obtain ⟨E, hE⟩ : ∃ E, errE (swapR b D) = E := ⟨_, rfl⟩
  have HX := Lib.hid (Whole.drew ((((Whole.new w 24 #[.slice A n c, .int .i64 s, .int .i64 r]).alloc zeroB).alloc (.cells #[.slice Ab nb cb] 22)).alloc (.cells #[.func (.func 53) #[] #[], .func (.func 67) #[] #[.pointer (some ⟨w.heap.size + 1 + 1, 0, none⟩)], .func (.func 54) #[] #[]] 84)))
  have hy := (Whole.drew (((Whole.new (w.alloc (diskB A n c s r)) 24 #[.slice none 0 0, .int .i64 0, .int .i64 0]).alloc (.cells #[.slice Ab nb cb] 22)).alloc (.cells #[.func (.func 53) #[] #[], .func (.func 67) #[] #[.pointer (some ⟨w.heap.size + 1 + 1, 0, none⟩)], .func (.func 54) #[] #[]] 84)))
  rw [World.size_alloc] at hy
  have HY := Lib.hid hy
  clear hy
  have HCD : Hid (∀ W e w', ChangedIs (swapR b D) D W e w' → DiskRes D' E W e w') := fun W e w' h => by rw [← hD', ← hE]; exact changed_res h
  rw [hD', hE]
  have HBE := Lib.hid hbel
  have hw0 := (Whole.new w 24 #[.slice A n c, .int .i64 s, .int .i64 r]).alloc zeroB
  have x0 := hw0.cell 0
  have x1 := hw0.cell 1
  have x2 := hw0.cell 2
  simp only [List.getElem?_toArray, List.getElem?_cons_zero, List.getElem?_cons_succ] at x0 x1 x2
  clear hr hby hrb hbb hD hw0 hD' hE hbel
  go_enter Try.func37, Try.ntmps37
  go_wp2_with fail
  go_region_held3 (fun W => W.cell? ⟨w.heap.size, 0, none⟩ = some (.slice A n c) ∧ W.cell? ⟨w.heap.size, 1, none⟩ = some (.int .i64 s) ∧ W.cell? ⟨w.heap.size, 2, none⟩ = some (.int .i64 r)) (first | (with_reducible exact S4.out) | (with_reducible exact S3.out) | go_keep)
    (first | (go_at_call 50; ((with_reducible refine (write_any _ _ _ _).mono ?_); rintro e w2 ⟨rfl, rfl⟩)) | (go_at_call 49; refine (HC.out).mono ?_; intro e w5 hch; obtain ⟨A5, c5, rfl, o5, b5⟩ := HCD.out _ _ _ hch; have O5 := Lib.hid o5; have B5 := Lib.hid b5; have X5 := Lib.hid (HX.out.under b5); have Y5 := Lib.hid (HY.out.under b5); have S3 := Lib.hid X5.out.cells3; have Z5 := Lib.hid (X5.out.farDisk (b' := w.heap.size + 1) (by omega) (.slice A5 D'.bs.length c5) (.int .i64 D'.syn) (.int .i64 D'.room)); have S4 := Lib.hid Z5.out.cells3; have y0 := Y5.out.cell 0; have y1 := Y5.out.cell 1; have y2 := Y5.out.cell 2; simp only [List.getElem?_toArray, List.getElem?_cons_zero, List.getElem?_cons_succ] at y0 y1 y2; have f0 := Y5.out.frozen 0; have f1 := Y5.out.frozen 1; have f2 := Y5.out.frozen 2; clear hch o5 b5))
  rename_i hHeld
  have hz := Y5.out.disk (.slice A5 D'.bs.length c5) (.int .i64 D'.syn) (.int .i64 D'.room)
  have p0 := hz.cell 0
  have p1 := hz.cell 1
  have p2 := hz.cell 2
  simp at p0 p1 p2
  clear hHeld S3 S4 Z5 y0 y1 y2 f0 f1 f2 x0 x1 x2
  go_wp2_with fail
  refine bodyPost_ret (v := .tuple #[diskV A5 D'.bs.length c5 D'.syn D'.room, .int .i64 E]) (by simp [results, Try.results37, go_sem, p0, p1, p2]) rfl ⟨A5, c5, rfl, ?_, ?_⟩
  · exact own_weaker (own_setDisk O5.out (b := w.heap.size + 1) (by simp) _ _ _) (by simp; omega)
  · exact below_setDisk (HBE.out.drew.trans (B5.out.mono (by simp; omega))) (b := w.heap.size + 1) (Nat.le_succ _) _ _ _

end Go.Proofs.Ytbkfpghpfaemeaa

/-
  The walk of 'Same' of package disk. Conditions: those that each theorem names.
-/
namespace Go.Proofs.Ytbkfpghpfaemeaa
open Go.RowKit Go.Shelf

set_option maxRecDepth 100000 in
theorem cnt_rd {A : Option Addr} {n : Nat} {s r : Int} {bs : List Nat} {B : Nat} {w : World} (hr : Rd w B A n (bv bs)) : Rd w B A (cnt bs s r).bs.length (bv (cnt bs s r).bs) := by
  have hl : bs.length = n := by have := hr.1; rwa [bv_length] at this
  have h := hr.take (k := min (clampN r 65536) n) (by omega)
  have e : (cnt bs s r).bs = bs.take (min (clampN r 65536) n) := by
    simp only [cnt]; rw [List.take_eq_take_iff]; omega
  rw [e, List.length_take, hl]
  simp only [bv, ← List.map_take] at h
  rwa [show min (min (clampN r 65536) n) n = min (clampN r 65536) n by omega]

end Go.Proofs.Ytbkfpghpfaemeaa

/-
  The walk of the statements' 'wakes' of disks: it answers true, and nothing that was there turns. Conditions: none.
-/
namespace Go.Proofs.Ytbkfpghpfaemeaa
open Go.RowKit Go.Shelf

/-- A disk that is answered, its numbers written out. -/
def DiskN (n : Nat) (bs : List Nat) (s r : Int) (w : World) (e : Ending) (w' : World) : Prop :=
  ∃ A c, e = .returned (diskV A n c s r) ∧ w'.ownsRow w.heap.size 5 1 (.slice A n c) n (bv bs) ∧ Below w.heap.size w w'
def DiskNE (n : Nat) (bs : List Nat) (s r E : Int) (w : World) (e : Ending) (w' : World) : Prop :=
  ∃ A c, e = .returned (.tuple #[diskV A n c s r, .int .i64 E]) ∧ w'.ownsRow w.heap.size 5 1 (.slice A n c) n (bv bs) ∧ Below w.heap.size w w'

set_option maxRecDepth 100000 in
theorem wk_one (A Ab : Option Addr) (c : Nat) (w : World) (hr : Rd w w.heap.size A 0 (bv [])) (hrb : Rd w w.heap.size Ab 3 (bv [1, 2, 3])) : Calls Try.prog 34 #[diskV A 0 c 0 9, .slice Ab 3 3] w (DiskNE 3 [1, 2, 3] 0 9 0 w) := by
  have h := append_any A 0 c 0 9 [] Ab 3 3 [1, 2, 3] w hr (Nat.zero_le _) (by decide) hrb (Nat.le_refl _) (by decide) (by decide) (by decide) (D := ⟨[], 0, 9⟩) (by decide)
  rw [show (writeD [1, 2, 3] ⟨[], 0, 9⟩).getD ⟨[], 0, 9⟩ = ⟨[1, 2, 3], 0, 9⟩ by decide, show errE (writeD [1, 2, 3] ⟨[], 0, 9⟩) = 0 by decide] at h
  exact h
set_option maxRecDepth 100000 in
theorem wk_two (A Ab : Option Addr) (c : Nat) (w : World) (hr : Rd w w.heap.size A 3 (bv [1, 2, 3])) (hc : 3 ≤ c) (hrb : Rd w w.heap.size Ab 2 (bv [4, 5])) : Calls Try.prog 34 #[diskV A 3 c 3 9, .slice Ab 2 2] w (DiskNE 5 [1, 2, 3, 4, 5] 3 9 0 w) := by
  have h := append_any A 3 c 3 9 [1, 2, 3] Ab 2 2 [4, 5] w hr hc (by decide) hrb (Nat.le_refl _) (by decide) (by decide) (by decide) (D := ⟨[1, 2, 3], 3, 9⟩) (by decide)
  rw [show (writeD [4, 5] ⟨[1, 2, 3], 3, 9⟩).getD ⟨[1, 2, 3], 3, 9⟩ = ⟨[1, 2, 3, 4, 5], 3, 9⟩ by decide, show errE (writeD [4, 5] ⟨[1, 2, 3], 3, 9⟩) = 0 by decide] at h
  exact h
set_option maxRecDepth 100000 in
theorem wk_full (A Ab : Option Addr) (c : Nat) (w : World) (hr : Rd w w.heap.size A 4 (bv [1, 2, 3, 4])) (hc : 4 ≤ c) (hrb : Rd w w.heap.size Ab 6 (bv [0, 0, 0, 0, 0, 0])) : Calls Try.prog 34 #[diskV A 4 c 4 9, .slice Ab 6 6] w (DiskNE 4 [1, 2, 3, 4] 4 9 30 w) := by
  have h := append_any A 4 c 4 9 [1, 2, 3, 4] Ab 6 6 [0, 0, 0, 0, 0, 0] w hr hc (by decide) hrb (Nat.le_refl _) (by decide) (by decide) (by decide) (D := ⟨[1, 2, 3, 4], 4, 9⟩) (by decide)
  rw [show (writeD [0, 0, 0, 0, 0, 0] ⟨[1, 2, 3, 4], 4, 9⟩).getD ⟨[1, 2, 3, 4], 4, 9⟩ = ⟨[1, 2, 3, 4], 4, 9⟩ by decide, show errE (writeD [0, 0, 0, 0, 0, 0] ⟨[1, 2, 3, 4], 4, 9⟩) = 30 by decide] at h
  exact h
set_option maxRecDepth 100000 in
theorem wk_free (A : Option Addr) (c : Nat) (w : World) (hr : Rd w w.heap.size A 4 (bv [1, 2, 3, 4])) (hc : 4 ≤ c) : Calls Try.prog 69 #[diskV A 4 c 4 9] w fun e w' => e = .returned (.int .i64 5) ∧ Below w.heap.size w w' := by
  have h := free_any A 4 c 4 9 [1, 2, 3, 4] w.heap.size w hr (Nat.le_refl _) hc (D := ⟨[1, 2, 3, 4], 4, 9⟩) (by decide)
  rw [show freeD ⟨[1, 2, 3, 4], 4, 9⟩ = 5 by decide] at h
  exact h
set_option maxRecDepth 100000 in
theorem field0_disk (A : Option Addr) (n c : Nat) (s r : Int) (w : World) : (Instr.field 24 (diskV A n c s r) 0).run Try.prog w = .ok (.slice A n c) w := by kernel_rfl
set_option maxRecDepth 100000 in
theorem field2_disk (A : Option Addr) (n c : Nat) (s r : Int) (w : World) : (Instr.field 24 (diskV A n c s r) 2).run Try.prog w = .ok (.int .i64 r) w := by kernel_rfl
abbrev sixB : Obj := .cells #[.int .u8 0, .int .u8 0, .int .u8 0, .int .u8 0, .int .u8 0, .int .u8 0] 5
set_option maxRecDepth 100000 in
theorem make_six (w : World) : (Instr.makeSlice 22 (.int .i64 6) (.int .i64 6)).run Try.prog w = .ok (.slice (some ⟨w.heap.size, 0, none⟩) 6 6) (w.alloc sixB) := by kernel_rfl

set_option maxRecDepth 100000 in
/-- An append that finds no room, six noughts being at block b. -/
theorem wk_six (A : Option Addr) (c b : Nat) (w0 w : World) (hr : Rd w0 w0.heap.size A 4 (bv [1, 2, 3, 4])) (hc : 4 ≤ c) (hb : Below w0.heap.size w0 w) (hx : Whole w b 5 #[.int .u8 0, .int .u8 0, .int .u8 0, .int .u8 0, .int .u8 0, .int .u8 0]) :
    Calls Try.prog 34 #[diskV A 4 c 4 9, .slice (some ⟨b, 0, none⟩) 6 6] w fun e w' => ∃ A' c', e = .returned (.tuple #[diskV A' 4 c' 4 9, .int .i64 30]) ∧ Below w.heap.size w w' := by
  refine (wk_full A _ c w ((hr.below hb).more hb.size) hc ⟨rfl, fun _ => ⟨b, 0, rfl, hx.lt, fun j hj => ?_⟩⟩).mono ?_
  · rw [Nat.zero_add, hx.cell]; simp [bv]
  · rintro e w' ⟨A', c', rfl, _, h⟩
    exact ⟨A', c', rfl, h⟩

end Go.Proofs.Ytbkfpghpfaemeaa

/-
  What the statements over disks ask of package disk, its answers written out. Conditions: those that each theorem names.
-/
namespace Go.Proofs.Ytbkfpghpfaemeaa
open Go.RowKit Go.Shelf

set_option maxRecDepth 100000 in
theorem swapR_yes {b : List Nat} {D : Dk} (h : b.length ≤ D.room) : swapR b D = some ⟨b, b.length, D.room⟩ := by
  have e : writeD b (wipeD D) = some (plusD b (wipeD D)) := by rw [writeD, if_pos (by simpa [wipeD] using h)]
  rw [swapR, e]
  simp [plusD, wipeD, secureD]
set_option maxRecDepth 100000 in
theorem swapR_no {b : List Nat} {D : Dk} (h : ¬ b.length ≤ D.room) : swapR b D = none := by
  have e : writeD b (wipeD D) = none := by rw [writeD, if_neg (by simpa [wipeD] using h)]
  rw [swapR, e]
  rfl
set_option maxRecDepth 100000 in
theorem crash_safe (keep : Int) (b : List Nat) (R : Nat) : crashD keep ⟨b, b.length, R⟩ = ⟨b, b.length, R⟩ := by
  have h : clampN keep 0 = 0 := by unfold clampN; omega
  simp [crashD, loseD, secureD, loseN, h]
set_option maxRecDepth 100000 in
theorem crash_zero (b m : List Nat) (R : Nat) : crashD 0 ⟨b ++ m, b.length, R⟩ = ⟨b, b.length, R⟩ := by
  simp [crashD, loseD, secureD, loseN, clampN]

section
variable {A : Option Addr} {n c : Nat} {W : World} {bs : List Nat} {s R : Nat}
set_option maxRecDepth 100000 in
theorem swap_N {s0 r0 : Int} {bs0 b : List Nat} {Ab : Option Addr} {nb cb : Nat} {D : Dk} {R' : Nat} (hD : cnt bs0 s0 r0 = D) (hr : Rd W W.heap.size A n (bv bs0)) (hc : n ≤ c) (hby : ∀ x ∈ bs0, x < 256) (hrb : Rd W W.heap.size Ab nb (bv b)) (hcb : nb ≤ cb) (hcm : cb ≤ maxLen) (hbb : ∀ x ∈ b, x < 256) (hnb : nb ≤ 100000) (hR : D.room = R') (hf : b.length ≤ R') :
    Calls Try.prog 37 #[diskV A n c s0 r0, .slice Ab nb cb] W (DiskNE b.length b b.length R' 0 W) := by
  have h := swap_any A n c s0 r0 bs0 Ab nb cb b W hr hc hby hrb hcb hcm hbb hnb hD
  rw [swapR_yes (by omega), hR] at h
  exact h
set_option maxRecDepth 100000 in
theorem swap_full {s0 r0 : Int} {bs0 b : List Nat} {Ab : Option Addr} {nb cb : Nat} {D : Dk} (hD : cnt bs0 s0 r0 = D) (hr : Rd W W.heap.size A n (bv bs0)) (hc : n ≤ c) (hby : ∀ x ∈ bs0, x < 256) (hrb : Rd W W.heap.size Ab nb (bv b)) (hcb : nb ≤ cb) (hcm : cb ≤ maxLen) (hbb : ∀ x ∈ b, x < 256) (hnb : nb ≤ 100000) (hf : ¬ b.length ≤ D.room) :
    Calls Try.prog 37 #[diskV A n c s0 r0, .slice Ab nb cb] W (DiskNE D.bs.length D.bs D.syn D.room 30 W) := by
  have h := swap_any A n c s0 r0 bs0 Ab nb cb b W hr hc hby hrb hcb hcm hbb hnb hD
  rw [swapR_no hf] at h
  exact h
set_option maxRecDepth 100000 in
theorem append_N {s0 r0 : Int} {bs0 b : List Nat} {Ab : Option Addr} {nb cb : Nat} {D : Dk} (hD : cnt bs0 s0 r0 = D) (hr : Rd W W.heap.size A n (bv bs0)) (hc : n ≤ c) (hby : ∀ x ∈ bs0, x < 256) (hrb : Rd W W.heap.size Ab nb (bv b)) (hcb : nb ≤ cb) (hcm : cb ≤ maxLen) (hbb : ∀ x ∈ b, x < 256) (hnb : nb ≤ 100000) (hf : D.bs.length + b.length ≤ D.room) :
    Calls Try.prog 34 #[diskV A n c s0 r0, .slice Ab nb cb] W (DiskNE (D.bs.length + b.length) (D.bs ++ b) D.syn D.room 0 W) := by
  have h := append_any A n c s0 r0 bs0 Ab nb cb b W hr hc hby hrb hcb hcm hbb hnb hD
  have e : writeD b D = some (plusD b D) := by rw [writeD, if_pos hf]
  rw [e] at h
  have e2 : (plusD b D).bs.length = D.bs.length + b.length := by simp [plusD]
  unfold DiskRes at h
  simp only [Option.getD_some] at h
  rw [e2] at h
  exact h
set_option maxRecDepth 100000 in
theorem append_full {s0 r0 : Int} {bs0 b : List Nat} {Ab : Option Addr} {nb cb : Nat} {D : Dk} (hD : cnt bs0 s0 r0 = D) (hr : Rd W W.heap.size A n (bv bs0)) (hc : n ≤ c) (hby : ∀ x ∈ bs0, x < 256) (hrb : Rd W W.heap.size Ab nb (bv b)) (hcb : nb ≤ cb) (hcm : cb ≤ maxLen) (hbb : ∀ x ∈ b, x < 256) (hnb : nb ≤ 100000) (hf : ¬ D.bs.length + b.length ≤ D.room) :
    Calls Try.prog 34 #[diskV A n c s0 r0, .slice Ab nb cb] W (DiskNE D.bs.length D.bs D.syn D.room 30 W) := by
  have h := append_any A n c s0 r0 bs0 Ab nb cb b W hr hc hby hrb hcb hcm hbb hnb hD
  have e : writeD b D = none := by rw [writeD, if_neg hf]
  rw [e] at h
  exact h
set_option maxRecDepth 100000 in
theorem free_N (hok : (⟨bs, s, R⟩ : Dk).Ok) (hn : bs.length = n) (hr : Rd W W.heap.size A n (bv bs)) (hc : n ≤ c) :
    Calls Try.prog 69 #[diskV A n c s R] W fun e w' => e = .returned (.int .i64 ((R : Int) - (n : Int))) ∧ Below W.heap.size W w' := by
  have h1 := free_any A n c s R bs W.heap.size W hr (Nat.le_refl _) hc (D := ⟨bs, s, R⟩) (cnt_self hok)
  subst hn
  exact h1
end

end Go.Proofs.Ytbkfpghpfaemeaa

/-
  The walk of the statement 'DiskRoom': it answers true, and nothing that was there turns. Conditions: none.
-/
namespace Go.Proofs.Ytbkfpghpfaemeaa
open Go.RowKit Go.Shelf

set_option maxRecDepth 100000 in
/-- 'append([]byte{}, x...)': it runs, and what comes reads as x, in memory of its own. -/
theorem run_copy (W : World) (B : Nat) (A : Option Addr) (n c : Nat) (bs : List Nat) (hr : Rd W B A n (bv bs)) (hB : B ≤ W.heap.size) (hn : n ≤ 1000000) (g : Nat) (hg : W.heap.size = g) :
    ∃ A1 c1 W1, (Builtin.append_ #[22, 22] 22 #[.slice (some ⟨g, 0, none⟩) 0 0, .slice A n c]).run Try.prog (W.alloc (.cells #[] 5)) = .ok (.slice A1 n c1) W1 ∧ W1.ownsRow W.heap.size 5 1 (.slice A1 n c1) n (bv bs) ∧ Below W.heap.size W W1 := by
  subst hg
  have ho := World.ownsRow_made (base := W.heap.size) (e := 5) (size := 1) W #[] 0 (Nat.le_refl _) (Nat.zero_le _) rfl
  obtain ⟨v1, W1, r1, o1, g1⟩ := run_app (W.alloc (.cells #[] 5)) W.heap.size _ 0 [] ho B A n c bs (hr.alloc hB _) (by omega) (by simp)
  rw [Nat.zero_add, List.nil_append] at o1
  obtain ⟨A1, c1, rfl⟩ := own_form o1
  exact ⟨A1, c1, W1, r1, o1, ((Below.refl _ W).alloc (Nat.le_refl _) _).trans (below_row ho g1 (by simp))⟩

set_option maxRecDepth 100000 in
theorem Rd.up {w : World} {n : Nat} {A : Option Addr} {xs : List Value} (h : Rd w w.heap.size A n xs) (o : Obj) : Rd (w.alloc o) (w.alloc o).heap.size A n xs := (h.alloc (Nat.le_refl _) o).more (by simp)

/-- What holds between two rounds of the loop that writes. -/
structure RoomAt (b6 b10 : Nat) (W6 : World) (A : Option Addr) (na c : Nat) (u1 u2 : Value) (W : World) : Prop where
  below : Below b6 W6 W
  box : Whole W b10 24 #[.slice A na c, u1, u2]
  row : ∃ ys, W.ownsRow b6 5 1 (.slice A na c) na ys

end Go.Proofs.Ytbkfpghpfaemeaa

/-
  The document's own answers for package disk (herdref03): 'Own' and 'New'. Conditions: those that each theorem names.
-/
namespace Go.Proofs.Ytbkfpghpfaemeaa
open Go.RowKit Go.Shelf

set_option maxRecDepth 100000 in
set_option maxHeartbeats 1000000 in
theorem refOwn_z (A : Option Addr) (n c : Nat) (s r : Int) (ob : List Nat) (K R : Nat) (Z : Int) (w : World) (hr : Rd w w.heap.size A K (bv ob)) (hc : n ≤ c) (hnm : n ≤ 500000) (hR : min (max r 0) 65536 = (R : Int)) (hK : (n ≤ R ∧ K = n) ∨ (R < n ∧ K = R)) (hZ : (s < 0 ∧ Z = 0) ∨ (0 ≤ s ∧ s ≤ (K : Int) ∧ Z = s) ∨ ((K : Int) < s ∧ Z = (K : Int))) :
    Calls Try.prog 28 #[diskV A n c s r] w (DiskN K ob Z R w) := by
  have hR2 : R ≤ 65536 := by omega
  have hKn : K ≤ n := by omega
  obtain ⟨W1, hW1⟩ : ∃ W, (w.alloc (diskB A n c s r)).alloc zeroB = W := ⟨_, rfl⟩
  have b1 : Below w.heap.size w W1 := by rw [← hW1]; exact ((Below.refl _ w).alloc (Nat.le_refl _) _).alloc (by simp) _
  have X1 : Whole W1 w.heap.size 24 #[.slice A n c, .int .i64 s, .int .i64 r] := by rw [← hW1]; exact (Whole.new w _ _).alloc _
  have Y1 : Whole W1 (w.heap.size + 1) 24 #[.slice none 0 0, .int .i64 0, .int .i64 0] := by
    rw [← hW1]; have := Whole.new (w.alloc (diskB A n c s r)) 24 #[.slice none 0 0, .int .i64 0, .int .i64 0]; simpa using this
  have s1 : W1.heap.size = w.heap.size + 2 := by rw [← hW1]; simp
  obtain ⟨A5, c5, W5, e5, o5, b5⟩ := run_copy W1 W1.heap.size A K c ob ((hr.below b1).more b1.size) (Nat.le_refl _) (by omega) W1.heap.size rfl
  have X5 := Lib.hid (X1.under b5)
  have Y5 := Lib.hid (Y1.under b5)
  have B5 := Lib.hid (b1.trans (b5.mono b1.size))
  have O5 := Lib.hid (own_weaker o5 (by omega) : W5.ownsRow (w.heap.size + 2) 5 1 (.slice A5 K c5) K (bv ob))
  have HE := Lib.hid e5
  have HX1 := Lib.hid X1
  have HW1 := Lib.hid hW1
  have HRR := Lib.hid hR
  have HZZ := Lib.hid hZ
  have HKK := Lib.hid hK
  have hh := fun W => run_head A n c K (by omega) W
  have HH := Lib.hid hh
  clear hr b1 X1 Y1 s1 e5 o5 b5 hh hR hZ hK hW1
  go_enter Try.func28, Try.ntmps28
  go_upto_region 1 with fail
  rw [HW1.out]
  go_cut [3] (fun s3 wx => s3 = .int .i64 (R : Int) ∧ wx = W1)
  case first =>
    obtain ⟨x0, x1, x2⟩ := HX1.out.cells3
    go_wp2_with fail
    all_goals go_meet
    all_goals (have h := HRR.out; refine ⟨?_, rfl⟩; congr 1; omega)
  case rest =>
    obtain ⟨rfl, rfl⟩ := hcut
    go_upto_region 2 with fail
    go_cut [4] (fun s4 wx => s4 = .slice A5 K c5 ∧ wx = W5)
    case first =>
      obtain ⟨x0, x1, x2⟩ := HX1.out.cells3
      have lw := HX1.out.lt
      have hh := HH.out
      rcases HKK.out with ⟨h, rfl⟩ | ⟨h, rfl⟩
      · have h' : (K : Int) ≤ (R : Int) := by omega
        go_wp2_with (at_builtin; refine wpList_app (by rfl) _ _ _ rfl _ _ _ _ rfl rfl HE.out ?_)
        go_meet
        exact ⟨rfl, rfl⟩
      · have h' : (K : Int) < (n : Int) := by omega
        go_wp2_with (at_builtin; refine wpList_app (by rfl) _ _ _ rfl _ _ _ _ rfl rfl HE.out ?_)
        go_meet
        exact ⟨rfl, rfl⟩
    case rest =>
      obtain ⟨rfl, rfl⟩ := hcut
      obtain ⟨x0, x1, x2⟩ := X5.out.cells3
      obtain ⟨y0, y1, y2⟩ := Y5.out.cells3
      have f0 := Y5.out.frozen 0
      have f1 := Y5.out.frozen 1
      have f2 := Y5.out.frozen 2
      rcases HZZ.out with ⟨h, rfl⟩ | ⟨h, h2, rfl⟩ | ⟨h, rfl⟩
      all_goals
        have hs : ¬ (K : Int) < 0 := by omega
      all_goals go_wp2_with fail
      all_goals
        have hz := fun z => (Y5.out.disk (.slice A5 K c5) (.int .i64 z) (.int .i64 R)).cells3
        have p0 := fun z => (hz z).1
        have p1 := fun z => (hz z).2.1
        have p2 := fun z => (hz z).2.2
        clear hz
        refine bodyPost_ret (v := diskV A5 K c5 _ R) (by simp [results, Try.results28, go_sem, p0, p1, p2]) rfl ⟨A5, c5, rfl, own_weaker (own_setDisk O5.out (Nat.lt_succ_self _) _ _ _) (by omega), below_setDisk B5.out (Nat.le_succ _) _ _ _⟩

set_option maxRecDepth 100000 in
theorem refOwn_any (A : Option Addr) (n c : Nat) (s r : Int) (bs : List Nat) (w : World) (hr : Rd w w.heap.size A n (bv bs)) (hc : n ≤ c) (hnm : n ≤ 500000) {ob : List Nat} {K S R : Nat} (hD : cnt bs s r = ⟨ob, S, R⟩) (hK : ob.length = K) :
    Calls Try.prog 28 #[diskV A n c s r] w (DiskN K ob S R w) := by
  have hl : bs.length = n := by have := hr.1; rwa [bv_length] at this
  simp only [cnt, Dk.mk.injEq] at hD
  obtain ⟨h1, h2, h3⟩ := hD
  have hob : ob = bs.take K := by rw [← h1, ← hK, ← h1, List.length_take, List.take_eq_take_iff]; omega
  have hk : K = min R n := by rw [← hK, ← h1, h3, List.length_take, hl]
  have h4 : clampN s K = S := by rw [← hK, ← h1]; exact h2
  refine refOwn_z A n c s r ob K R S w ?_ hc hnm (by have h := clampN_int r 65536; rw [h3] at h; exact h) (by omega) (by unfold clampN at h4; omega)
  have h := hr.take (k := K) (by omega)
  rw [hob]
  simpa only [bv, ← List.map_take] using h

end Go.Proofs.Ytbkfpghpfaemeaa

/-
  The document's own answers for package disk (herdref03): 'New', 'Sync', 'Free', 'Crash'. Conditions: those that each theorem names.
-/
namespace Go.Proofs.Ytbkfpghpfaemeaa
open Go.RowKit Go.Shelf

set_option maxRecDepth 100000 in
set_option maxHeartbeats 1000000 in
theorem refNew_any (room : Int) (w : World) {R : Nat} (hD : cnt [] 0 room = ⟨[], 0, R⟩) : Calls Try.prog 23 #[.int .i64 room] w (DiskN 0 [] 0 R w) := by
  have HO := Lib.hid (fun W => refOwn_any (w := W) none 0 0 0 room [] ⟨rfl, fun h => absurd h (by omega)⟩ (Nat.le_refl _) (by omega) hD (K := 0) rfl)
  have Y1 := Lib.hid (Whole.new w 24 #[.slice none 0 0, .int .i64 0, .int .i64 0])
  have B1 := Lib.hid ((Below.refl w.heap.size w).alloc (Nat.le_refl _) zeroB)
  clear hD
  go_enter Try.func23, Try.ntmps23
  go_wp2_with fail
  refine (HO.out _).mono ?_
  rintro e w1 ⟨A5, c5, rfl, o5, b5⟩
  have Y5 := Lib.hid (Y1.out.under b5)
  obtain ⟨y0, y1, y2⟩ := Y5.out.cells3
  have f0 := Y5.out.frozen 0
  have f1 := Y5.out.frozen 1
  have f2 := Y5.out.frozen 2
  have O5 := Lib.hid o5
  have B5 := Lib.hid (B1.out.trans (b5.mono B1.out.size))
  clear o5 b5
  go_wp2_with fail
  obtain ⟨p0, p1, p2⟩ := (Y5.out.disk (.slice A5 0 c5) (.int .i64 0) (.int .i64 R)).cells3
  refine bodyPost_ret (v := diskV A5 0 c5 0 R) (by simp [results, Try.results23, go_sem, p0, p1, p2]) rfl ⟨A5, c5, rfl, own_weaker (own_setDisk O5.out (by simp) _ _ _) (by simp), below_setDisk B5.out (Nat.le_refl _) _ _ _⟩

section
variable (A : Option Addr) (n c : Nat) (s r : Int) (bs : List Nat) (w : World) (hr : Rd w w.heap.size A n (bv bs)) (hc : n ≤ c) (hnm : n ≤ 500000) {ob : List Nat} {K S R : Nat} (hD : cnt bs s r = ⟨ob, S, R⟩) (hK : ob.length = K)
include hr hc hnm hD hK

set_option maxRecDepth 100000 in
theorem refOwn_hid : Hid (∀ W, Below w.heap.size w W → Calls Try.prog 28 #[diskV A n c s r] W (DiskN K ob S R W)) :=
  fun W hW => refOwn_any A n c s r bs W ((hr.below hW).more hW.size) hc hnm hD hK

set_option maxRecDepth 100000 in
set_option maxHeartbeats 1000000 in
theorem refSync_any : Calls Try.prog 24 #[diskV A n c s r] w (DiskN K ob K R w) := by
  have HO := refOwn_hid A n c s r bs w hr hc hnm hD hK
  have X1 := Lib.hid ((Whole.new w 24 #[.slice A n c, .int .i64 s, .int .i64 r]).alloc zeroB)
  have Y1 := Lib.hid (by have := Whole.new (w.alloc (diskB A n c s r)) 24 #[.slice none 0 0, .int .i64 0, .int .i64 0]; simpa using this : Whole ((w.alloc (diskB A n c s r)).alloc zeroB) (w.heap.size + 1) 24 #[.slice none 0 0, .int .i64 0, .int .i64 0])
  have B1 := Lib.hid (((Below.refl w.heap.size w).alloc (Nat.le_refl _) (diskB A n c s r)).alloc (by simp) zeroB)
  clear hr hc hnm hD hK
  go_enter Try.func24, Try.ntmps24
  go_wp2_with fail
  refine (HO.out _ B1.out).mono ?_
  rintro e w1 ⟨A5, c5, rfl, o5, b5⟩
  have X5 := X1.out.under b5
  have Y5 := Y1.out.under b5
  obtain ⟨x0, x1, x2⟩ := X5.cells3
  have e0 := X5.frozen 0
  have e1 := X5.frozen 1
  have e2 := X5.frozen 2
  obtain ⟨W6, hW6⟩ : ∃ W, setDisk w1 w.heap.size (.slice A5 K c5) (.int .i64 S) (.int .i64 R) = W := ⟨_, rfl⟩
  have X6 := Lib.hid (show Whole W6 w.heap.size 24 #[.slice A5 K c5, .int .i64 S, .int .i64 R] by rw [← hW6]; exact X5.disk _ _ _)
  have Y6 := Lib.hid (show Whole W6 (w.heap.size + 1) 24 #[.slice none 0 0, .int .i64 0, .int .i64 0] by rw [← hW6]; exact Y5.farDisk (by omega) _ _ _)
  have O6 := Lib.hid (show W6.ownsRow (w.heap.size + 2) 5 1 (.slice A5 K c5) K (bv ob) by rw [← hW6]; exact own_setDisk (own_weaker o5 (by simp)) (by omega) _ _ _)
  have B6 := Lib.hid (show Below w.heap.size w W6 by rw [← hW6]; exact below_setDisk (B1.out.trans (b5.mono B1.out.size)) (Nat.le_refl _) _ _ _)
  have HW6 := Lib.hid (show ((w1.setCell ⟨w.heap.size, 0, none⟩ (.slice A5 K c5)).setCell ⟨w.heap.size, 1, none⟩ (.int .i64 S)).setCell ⟨w.heap.size, 2, none⟩ (.int .i64 R) = W6 from hW6)
  have lw6 : w.heap.size < W6.heap.size := X6.out.lt
  have C5 := own_cap O6.out
  clear o5 b5 X5 Y5 hW6
  go_wp2_with (rw [HW6.out]; clear x0 x1 x2 e0 e1 e2; obtain ⟨x0, x1, x2⟩ := X6.out.cells3; have e0 := X6.out.frozen 0; have e1 := X6.out.frozen 1; have e2 := X6.out.frozen 2; obtain ⟨y0, y1, y2⟩ := Y6.out.cells3; have f0 := Y6.out.frozen 0; have f1 := Y6.out.frozen 1; have f2 := Y6.out.frozen 2)
  have hz := (Y6.out.far (p := ⟨w.heap.size, 1, none⟩) (by simp) (.int .i64 K)).disk (.slice A5 K c5) (.int .i64 K) (.int .i64 R)
  obtain ⟨p0, p1, p2⟩ := hz.cells3
  refine bodyPost_ret (v := diskV A5 K c5 K R) (by simp [results, Try.results24, go_sem, p0, p1, p2]) rfl ⟨A5, c5, rfl, ?_, ?_⟩
  · exact own_weaker (own_setDisk (own_set O6.out (by omega) _) (b := w.heap.size + 1) (by simp) _ _ _) (by omega)
  · exact below_setDisk (B6.out.setCell (p := ⟨w.heap.size, 1, none⟩) (Nat.le_refl _) _) (b := w.heap.size + 1) (Nat.le_succ _) _ _ _

set_option maxRecDepth 100000 in
set_option maxHeartbeats 1000000 in
theorem refFree_any : Calls Try.prog 52 #[diskV A n c s r] w (fun e w' => e = .returned (.int .i64 ((R : Int) - (K : Int))) ∧ Below w.heap.size w w') := by
  have hok : K ≤ R ∧ R ≤ 65536 := by
    simp only [cnt, Dk.mk.injEq] at hD
    obtain ⟨h1, h2, h3⟩ := hD
    have := clampN_le r 65536
    rw [← hK, ← h1, List.length_take]; omega
  have HO := refOwn_hid A n c s r bs w hr hc hnm hD hK
  have X1 := Lib.hid ((Whole.new w 24 #[.slice A n c, .int .i64 s, .int .i64 r]))
  have B1 := Lib.hid (((Below.refl w.heap.size w).alloc (Nat.le_refl _) (diskB A n c s r)))
  have g : IntKind.i64.wrap ((R : Int) - (K : Int)) = (R : Int) - (K : Int) := IntWalk.i64_in _ ⟨by omega, by omega⟩
  clear hr hc hnm hD hK
  go_enter Try.func52, Try.ntmps52
  go_wp2_with fail
  refine (HO.out _ B1.out).mono ?_
  rintro e w1 ⟨A5, c5, rfl, o5, b5⟩
  have X5 := Lib.hid (X1.out.under b5)
  obtain ⟨x0, x1, x2⟩ := X5.out.cells3
  have e0 := X5.out.frozen 0
  have e1 := X5.out.frozen 1
  have e2 := X5.out.frozen 2
  have B5 := Lib.hid (B1.out.trans (b5.mono B1.out.size))
  clear o5 b5
  go_wp2_with fail
  go_ret
  exact ⟨rfl, below_setDisk B5.out (Nat.le_refl _) _ _ _⟩

set_option maxRecDepth 100000 in
set_option maxHeartbeats 1000000 in
theorem refCrash_any (keep : Int) {L : Nat} (hL : S + clampN keep (K - S) = L) : Calls Try.prog 25 #[diskV A n c s r, .int .i64 keep] w (DiskN L (ob.take L) L R w) := by
  have hok : S ≤ K ∧ K ≤ R ∧ R ≤ 65536 := by
    simp only [cnt, Dk.mk.injEq] at hD
    obtain ⟨h1, h2, h3⟩ := hD
    have := clampN_le r 65536
    have h5 := clampN_le s (bs.take (clampN r 65536)).length
    rw [h2, h1, hK] at h5
    have h6 : ob.length ≤ R := by rw [← h1, List.length_take, h3]; omega
    omega
  have HO := refOwn_hid A n c s r bs w hr hc hnm hD hK
  have X1 := Lib.hid ((Whole.new w 24 #[.slice A n c, .int .i64 s, .int .i64 r]).alloc zeroB)
  have Y1 := Lib.hid (by have := Whole.new (w.alloc (diskB A n c s r)) 24 #[.slice none 0 0, .int .i64 0, .int .i64 0]; simpa using this : Whole ((w.alloc (diskB A n c s r)).alloc zeroB) (w.heap.size + 1) 24 #[.slice none 0 0, .int .i64 0, .int .i64 0])
  have B1 := Lib.hid (((Below.refl w.heap.size w).alloc (Nat.le_refl _) (diskB A n c s r)).alloc (by simp) zeroB)
  obtain ⟨hok1, hok2, hok3⟩ := hok
  obtain ⟨mm, hmm⟩ : ∃ mm, K - S = mm := ⟨_, rfl⟩
  have g3 : (K : Int) - (S : Int) = (mm : Int) := by omega
  have g4 : IntKind.i64.wrap (mm : Int) = (mm : Int) := IntWalk.i64_in _ ⟨by omega, by omega⟩
  have hLK : L ≤ K ∧ S ≤ L := by have := clampN_le keep (K - S); omega
  have g5 : IntKind.i64.wrap (L : Int) = (L : Int) := IntWalk.i64_in _ ⟨by omega, by omega⟩
  have HL : Hid ((keep < 0 ∧ (L : Int) = S) ∨ (0 ≤ keep ∧ keep ≤ (mm : Int) ∧ (S : Int) + keep = L) ∨ ((mm : Int) < keep ∧ (S : Int) + (mm : Int) = L)) := Lib.hid (by rw [hmm] at hL; unfold clampN at hL; omega)
  clear hr hc hnm hD hK hL hmm
  go_enter Try.func25, Try.ntmps25
  go_wp2_with fail
  refine (HO.out _ B1.out).mono ?_
  rintro e w1 ⟨A5, c5, rfl, o5, b5⟩
  have X5 := X1.out.under b5
  have Y5 := Y1.out.under b5
  obtain ⟨x0, x1, x2⟩ := X5.cells3
  have e0 := X5.frozen 0
  have e1 := X5.frozen 1
  have e2 := X5.frozen 2
  obtain ⟨W6, hW6⟩ : ∃ W, setDisk w1 w.heap.size (.slice A5 K c5) (.int .i64 S) (.int .i64 R) = W := ⟨_, rfl⟩
  have X6 := Lib.hid (show Whole W6 w.heap.size 24 #[.slice A5 K c5, .int .i64 S, .int .i64 R] by rw [← hW6]; exact X5.disk _ _ _)
  have Y6 := Lib.hid (show Whole W6 (w.heap.size + 1) 24 #[.slice none 0 0, .int .i64 0, .int .i64 0] by rw [← hW6]; exact Y5.farDisk (by omega) _ _ _)
  have O6 := Lib.hid (show W6.ownsRow (w.heap.size + 2) 5 1 (.slice A5 K c5) K (bv ob) by rw [← hW6]; exact own_setDisk (own_weaker o5 (by simp)) (by omega) _ _ _)
  have B6 := Lib.hid (show Below w.heap.size w W6 by rw [← hW6]; exact below_setDisk (B1.out.trans (b5.mono B1.out.size)) (Nat.le_refl _) _ _ _)
  have HW6 := Lib.hid (show ((w1.setCell ⟨w.heap.size, 0, none⟩ (.slice A5 K c5)).setCell ⟨w.heap.size, 1, none⟩ (.int .i64 S)).setCell ⟨w.heap.size, 2, none⟩ (.int .i64 R) = W6 from hW6)
  have lw6 : w.heap.size < W6.heap.size := X6.out.lt
  have C5 := own_cap O6.out
  clear o5 b5 X5 Y5 hW6
  have hh := fun W => run_head A5 K c5 L (by omega) W
  go_upto_region 2 with fail
  rw [HW6.out]
  clear x0 x1 x2 e0 e1 e2
  go_cut [5] (fun s5 wx => s5 = .int .i64 (L : Int) ∧ wx = W6)
  case first =>
    obtain ⟨x0, x1, x2⟩ := X6.out.cells3
    rcases HL.out with ⟨h, h2⟩ | ⟨h, h1, h2⟩ | ⟨h, h2⟩
    · rw [h2] at g5
      have h3 : ¬ (mm : Int) < 0 := by omega
      go_wp2_with fail
      go_meet
      exact ⟨by rw [h2], rfl⟩
    · have h3 : ¬ keep < 0 := by omega
      go_wp2_with fail
      go_meet
      exact ⟨rfl, rfl⟩
    · have h3 : ¬ keep < 0 := by omega
      go_wp2_with fail
      go_meet
      exact ⟨rfl, rfl⟩
  case rest =>
    obtain ⟨rfl, rfl⟩ := hcut
    obtain ⟨x0, x1, x2⟩ := X6.out.cells3
    have e0 := X6.out.frozen 0
    have e1 := X6.out.frozen 1
    have e2 := X6.out.frozen 2
    obtain ⟨y0, y1, y2⟩ := Y6.out.cells3
    have f0 := Y6.out.frozen 0
    have f1 := Y6.out.frozen 1
    have f2 := Y6.out.frozen 2
    go_wp2_with fail
    have hz := ((Y6.out.far (p := ⟨w.heap.size, 0, none⟩) (by simp) (.slice A5 L c5)).far (p := ⟨w.heap.size, 1, none⟩) (by simp) (.int .i64 L)).disk (.slice A5 L c5) (.int .i64 L) (.int .i64 R)
    obtain ⟨p0, p1, p2⟩ := hz.cells3
    refine bodyPost_ret (v := diskV A5 L c5 L R) (by simp [results, Try.results25, go_sem, p0, p1, p2]) rfl ⟨A5, c5, rfl, ?_, ?_⟩
    · exact own_weaker (own_setDisk (own_set (own_set (own_head O6.out (by omega)) (by omega) _) (by omega) _) (b := w.heap.size + 1) (by simp) _ _ _) (by omega)
    · exact below_setDisk ((B6.out.setCell (p := ⟨w.heap.size, 0, none⟩) (Nat.le_refl _) _).setCell (p := ⟨w.heap.size, 1, none⟩) (Nat.le_refl _) _) (b := w.heap.size + 1) (Nat.le_succ _) _ _ _
end

end Go.Proofs.Ytbkfpghpfaemeaa

/-
  The document's own answers for package disk (herdref03): 'Append', 'Swap'. Conditions: those that each theorem names.
-/
namespace Go.Proofs.Ytbkfpghpfaemeaa
open Go.RowKit Go.Shelf

section
variable (A : Option Addr) (n c : Nat) (s r : Int) (bs : List Nat) (Ab : Option Addr) (nb cb : Nat) (b : List Nat) (w : World) (hr : Rd w w.heap.size A n (bv bs)) (hc : n ≤ c) (hnm : n ≤ 500000) (hby : ∀ x ∈ bs, x < 256) {ob : List Nat} {K S R : Nat} (hD : cnt bs s r = ⟨ob, S, R⟩) (hK : ob.length = K) (hrb : Rd w w.heap.size Ab nb (bv b)) (hnb : nb ≤ 100000)
include hr hc hnm hby hD hK hrb hnb

set_option maxRecDepth 100000 in
set_option maxHeartbeats 1000000 in
theorem refAppend_full (hf : ¬ K + nb ≤ R) : Calls Try.prog 36 #[diskV A n c s r, .slice Ab nb cb] w (DiskNE K ob S R 30 w) := by
  have hok : (⟨ob, S, R⟩ : Dk).Ok := by have h := cnt_ok s r hby; rwa [hD] at h
  have hlen : S ≤ K ∧ K ≤ R ∧ R ≤ 65536 := by have h1 := hok.syn; have h2 := hok.len; have h3 := hok.room; simp only at h1 h2 h3; omega
  obtain ⟨hl1, hl2, hl3⟩ := hlen
  have HOK := Lib.hid hok
  have HK := Lib.hid hK
  have HRB := Lib.hid hrb
  have HO := refOwn_hid A n c s r bs w hr hc hnm hD hK
  have X1 := Lib.hid ((Whole.new w 24 #[.slice A n c, .int .i64 s, .int .i64 r]).alloc zeroB)
  have Y1 := Lib.hid (by have := Whole.new (w.alloc (diskB A n c s r)) 24 #[.slice none 0 0, .int .i64 0, .int .i64 0]; simpa using this : Whole ((w.alloc (diskB A n c s r)).alloc zeroB) (w.heap.size + 1) 24 #[.slice none 0 0, .int .i64 0, .int .i64 0])
  have B1 := Lib.hid (((Below.refl w.heap.size w).alloc (Nat.le_refl _) (diskB A n c s r)).alloc (by simp) zeroB)
  clear hr hc hnm hD hK hby hok hrb
  go_enter Try.func36, Try.ntmps36
  go_wp2_with fail
  refine (HO.out _ B1.out).mono ?_
  rintro e w1 ⟨A5, c5, rfl, o5, b5⟩
  have X5 := X1.out.under b5
  have Y5 := Y1.out.under b5
  obtain ⟨x0, x1, x2⟩ := X5.cells3
  have e0 := X5.frozen 0
  have e1 := X5.frozen 1
  have e2 := X5.frozen 2
  obtain ⟨W6, hW6⟩ : ∃ W, setDisk w1 w.heap.size (.slice A5 K c5) (.int .i64 S) (.int .i64 R) = W := ⟨_, rfl⟩
  have X6 := Lib.hid (show Whole W6 w.heap.size 24 #[.slice A5 K c5, .int .i64 S, .int .i64 R] by rw [← hW6]; exact X5.disk _ _ _)
  have Y6 := Lib.hid (show Whole W6 (w.heap.size + 1) 24 #[.slice none 0 0, .int .i64 0, .int .i64 0] by rw [← hW6]; exact Y5.farDisk (by omega) _ _ _)
  have O6 := Lib.hid (show W6.ownsRow (w.heap.size + 2) 5 1 (.slice A5 K c5) K (bv ob) by rw [← hW6]; exact own_setDisk (own_weaker o5 (by simp)) (by omega) _ _ _)
  have B6 := Lib.hid (show Below w.heap.size w W6 by rw [← hW6]; exact below_setDisk (B1.out.trans (b5.mono B1.out.size)) (Nat.le_refl _) _ _ _)
  have HW6 := Lib.hid (show ((w1.setCell ⟨w.heap.size, 0, none⟩ (.slice A5 K c5)).setCell ⟨w.heap.size, 1, none⟩ (.int .i64 S)).setCell ⟨w.heap.size, 2, none⟩ (.int .i64 R) = W6 from hW6)
  have lw6 : w.heap.size < W6.heap.size := X6.out.lt
  have C5 := own_cap O6.out
  clear o5 b5 X5 Y5 hW6
  have HF := Lib.hid (refFree_any A5 K c5 S R ob W6 (Rd.of_own O6.out) C5 (by omega) (cnt_self HOK.out) HK.out)
  go_wp2_with (rw [HW6.out]; clear x0 x1 x2 e0 e1 e2; obtain ⟨x0, x1, x2⟩ := X6.out.cells3; have e0 := X6.out.frozen 0; have e1 := X6.out.frozen 1; have e2 := X6.out.frozen 2; obtain ⟨y0, y1, y2⟩ := Y6.out.cells3; have f0 := Y6.out.frozen 0; have f1 := Y6.out.frozen 1; have f2 := Y6.out.frozen 2)
  refine (HF.out).mono ?_
  rintro e w7 ⟨rfl, b7⟩
  have X7 := Lib.hid (X6.out.under b7)
  have Y7 := Lib.hid (Y6.out.under b7)
  have O7 := Lib.hid (own_under O6.out b7)
  have B7 := Lib.hid (B6.out.trans (b7.mono B6.out.size))
  have lw7 : w.heap.size + 1 < w7.heap.size := Y7.out.lt
  clear x0 x1 x2 e0 e1 e2 y0 y1 y2 f0 f1 f2 b7
  obtain ⟨x0, x1, x2⟩ := X7.out.cells3
  have e0 := X7.out.frozen 0
  have e1 := X7.out.frozen 1
  have e2 := X7.out.frozen 2
  obtain ⟨y0, y1, y2⟩ := Y7.out.cells3
  have f0 := Y7.out.frozen 0
  have f1 := Y7.out.frozen 1
  have f2 := Y7.out.frozen 2
  have d1 : decide ((R : Int) - (K : Int) < (nb : Int)) = true := by simp; omega
  have d2 : (R : Int) - (K : Int) < (nb : Int) := by omega
  go_wp2_with fail
  obtain ⟨p0, p1, p2⟩ := (Y7.out.disk (.slice A5 K c5) (.int .i64 S) (.int .i64 R)).cells3
  refine bodyPost_ret (v := .tuple #[diskV A5 K c5 S R, .int .i64 30]) (by simp [results, Try.results36, go_sem, p0, p1, p2]) rfl ⟨A5, c5, rfl, own_weaker (own_setDisk O7.out (b := w.heap.size + 1) (by simp) _ _ _) (by omega), below_setDisk B7.out (b := w.heap.size + 1) (Nat.le_succ _) _ _ _⟩

omit hnb in
set_option maxRecDepth 100000 in
set_option maxHeartbeats 1000000 in
theorem refAppend_fit (hf : K + nb ≤ R) : Calls Try.prog 36 #[diskV A n c s r, .slice Ab nb cb] w (DiskNE (K + nb) (ob ++ b) S R 0 w) := by
  have hok : (⟨ob, S, R⟩ : Dk).Ok := by have h := cnt_ok s r hby; rwa [hD] at h
  have hlen : S ≤ K ∧ K ≤ R ∧ R ≤ 65536 := by have h1 := hok.syn; have h2 := hok.len; have h3 := hok.room; simp only at h1 h2 h3; omega
  obtain ⟨hl1, hl2, hl3⟩ := hlen
  have HOK := Lib.hid hok
  have HK := Lib.hid hK
  have HRB := Lib.hid hrb
  have HO := refOwn_hid A n c s r bs w hr hc hnm hD hK
  have X1 := Lib.hid ((Whole.new w 24 #[.slice A n c, .int .i64 s, .int .i64 r]).alloc zeroB)
  have Y1 := Lib.hid (by have := Whole.new (w.alloc (diskB A n c s r)) 24 #[.slice none 0 0, .int .i64 0, .int .i64 0]; simpa using this : Whole ((w.alloc (diskB A n c s r)).alloc zeroB) (w.heap.size + 1) 24 #[.slice none 0 0, .int .i64 0, .int .i64 0])
  have B1 := Lib.hid (((Below.refl w.heap.size w).alloc (Nat.le_refl _) (diskB A n c s r)).alloc (by simp) zeroB)
  clear hr hc hnm hD hK hby hok hrb
  go_enter Try.func36, Try.ntmps36
  go_wp2_with fail
  refine (HO.out _ B1.out).mono ?_
  rintro e w1 ⟨A5, c5, rfl, o5, b5⟩
  have X5 := X1.out.under b5
  have Y5 := Y1.out.under b5
  obtain ⟨x0, x1, x2⟩ := X5.cells3
  have e0 := X5.frozen 0
  have e1 := X5.frozen 1
  have e2 := X5.frozen 2
  obtain ⟨W6, hW6⟩ : ∃ W, setDisk w1 w.heap.size (.slice A5 K c5) (.int .i64 S) (.int .i64 R) = W := ⟨_, rfl⟩
  have X6 := Lib.hid (show Whole W6 w.heap.size 24 #[.slice A5 K c5, .int .i64 S, .int .i64 R] by rw [← hW6]; exact X5.disk _ _ _)
  have Y6 := Lib.hid (show Whole W6 (w.heap.size + 1) 24 #[.slice none 0 0, .int .i64 0, .int .i64 0] by rw [← hW6]; exact Y5.farDisk (by omega) _ _ _)
  have O6 := Lib.hid (show W6.ownsRow (w.heap.size + 2) 5 1 (.slice A5 K c5) K (bv ob) by rw [← hW6]; exact own_setDisk (own_weaker o5 (by simp)) (by omega) _ _ _)
  have B6 := Lib.hid (show Below w.heap.size w W6 by rw [← hW6]; exact below_setDisk (B1.out.trans (b5.mono B1.out.size)) (Nat.le_refl _) _ _ _)
  have HW6 := Lib.hid (show ((w1.setCell ⟨w.heap.size, 0, none⟩ (.slice A5 K c5)).setCell ⟨w.heap.size, 1, none⟩ (.int .i64 S)).setCell ⟨w.heap.size, 2, none⟩ (.int .i64 R) = W6 from hW6)
  have lw6 : w.heap.size < W6.heap.size := X6.out.lt
  have C5 := own_cap O6.out
  clear o5 b5 X5 Y5 hW6
  have HF := Lib.hid (refFree_any A5 K c5 S R ob W6 (Rd.of_own O6.out) C5 (by omega) (cnt_self HOK.out) HK.out)
  go_wp2_with (rw [HW6.out]; clear x0 x1 x2 e0 e1 e2; obtain ⟨x0, x1, x2⟩ := X6.out.cells3; have e0 := X6.out.frozen 0; have e1 := X6.out.frozen 1; have e2 := X6.out.frozen 2; obtain ⟨y0, y1, y2⟩ := Y6.out.cells3; have f0 := Y6.out.frozen 0; have f1 := Y6.out.frozen 1; have f2 := Y6.out.frozen 2)
  refine (HF.out).mono ?_
  rintro e w7 ⟨rfl, b7⟩
  have X7 := Lib.hid (X6.out.under b7)
  have Y7 := Lib.hid (Y6.out.under b7)
  have O7 := Lib.hid (own_under O6.out b7)
  have B7 := Lib.hid (B6.out.trans (b7.mono B6.out.size))
  have lw7 : w.heap.size + 1 < w7.heap.size := Y7.out.lt
  clear x0 x1 x2 e0 e1 e2 y0 y1 y2 f0 f1 f2 b7
  obtain ⟨v8, w8, h8, o8, g8⟩ := run_app w7 (w.heap.size + 2) (.slice A5 K c5) K (bv ob) O7.out w.heap.size Ab nb cb b (HRB.out.below B7.out) (by omega) (by omega)
  rw [← bv_append] at o8
  obtain ⟨A9, c9, rfl⟩ := own_form o8
  have X8 := Lib.hid (X7.out.grown g8 (Ne.symm (own_apart_of (by decide) O7.out X7.out)))
  have Y8 := Lib.hid (Y7.out.grown g8 (Ne.symm (own_apart_of (by decide) O7.out Y7.out)))
  have B8 := Lib.hid (B7.out.trans ((below_row O7.out g8 (by omega)).mono (by omega)))
  have O8 := Lib.hid o8
  have H8 := Lib.hid h8
  clear g8 o8 h8
  obtain ⟨x0, x1, x2⟩ := X7.out.cells3
  have e0 := X7.out.frozen 0
  have e1 := X7.out.frozen 1
  have e2 := X7.out.frozen 2
  obtain ⟨y0, y1, y2⟩ := Y7.out.cells3
  have f0 := Y7.out.frozen 0
  have f1 := Y7.out.frozen 1
  have f2 := Y7.out.frozen 2
  obtain ⟨x0q, x1q, x2q⟩ := X8.out.cells3
  have e0q := X8.out.frozen 0
  have e1q := X8.out.frozen 1
  have e2q := X8.out.frozen 2
  obtain ⟨y0q, y1q, y2q⟩ := Y8.out.cells3
  have f0q := Y8.out.frozen 0
  have f1q := Y8.out.frozen 1
  have f2q := Y8.out.frozen 2
  have d1 : decide ((R : Int) - (K : Int) < (nb : Int)) = false := by simp; omega
  have d2 : ¬ (R : Int) - (K : Int) < (nb : Int) := by omega
  go_wp2_with (at_builtin; refine wpList_app (by rfl) _ _ _ rfl _ _ _ _ rfl rfl H8.out ?_)
  obtain ⟨p0, p1, p2⟩ := ((Y8.out.far (p := ⟨w.heap.size, 0, none⟩) (by simp) (.slice A9 (K + nb) c9)).disk (.slice A9 (K + nb) c9) (.int .i64 S) (.int .i64 R)).cells3
  refine bodyPost_ret (v := .tuple #[diskV A9 (K + nb) c9 S R, .int .i64 0]) (by simp [results, Try.results36, go_sem, p0, p1, p2]) rfl ⟨A9, c9, rfl, own_weaker (own_setDisk (own_set O8.out (by omega) _) (b := w.heap.size + 1) (by simp) _ _ _) (by omega), below_setDisk (B8.out.setCell (p := ⟨w.heap.size, 0, none⟩) (Nat.le_refl _) _) (b := w.heap.size + 1) (Nat.le_succ _) _ _ _⟩

omit hnb in
end

end Go.Proofs.Ytbkfpghpfaemeaa

/-
  The walk of bytes.Equal. Conditions: those that each theorem names.
-/
namespace Go.Proofs.Ytbkfpghpfaemeaa
open Go.RowKit Go.Shelf

set_option maxRecDepth 100000 in
set_option maxHeartbeats 400000 in
theorem equalB_any (A A' : Option Addr) (n c n' c' : Nat) (a b : List Nat) (B : Nat) (w : World) (hr : Rd w B A n (bv a)) (hr' : Rd w B A' n' (bv b)) (ha : ∀ x ∈ a, x < 256) (hb : ∀ x ∈ b, x < 256) :
    Calls Try.prog 88 #[.slice A n c, .slice A' n' c'] w fun e w' => e = .returned (.bool (decide (a = b))) ∧ w = w' := by
  have h1 := run_string w A n c a B hr
  have h2 := run_string w A' n' c' b B hr'
  have H3 := Lib.hid (strB_inj ha hb)
  clear hr hr' ha hb
  obtain ⟨s, hs⟩ : ∃ s, strB a = s := ⟨_, rfl⟩
  obtain ⟨t, ht⟩ : ∃ t, strB b = t := ⟨_, rfl⟩
  rw [hs] at h1 H3
  rw [ht] at h2 H3
  clear hs ht
  go_enter Try.func88, Try.ntmps88
  go_wp2_with fail
  go_ret
  exact ⟨by rw [← H3.out]; rfl, rfl⟩

end Go.Proofs.Ytbkfpghpfaemeaa

/-
  The walk of 'first' of package frame: the frame that bytes begin with. Conditions: those that each theorem names.
-/
namespace Go.Proofs.Ytbkfpghpfaemeaa
open Go.RowKit Go.Shelf

set_option maxRecDepth 100000 in
theorem take_any (A : Option Addr) (n c : Nat) (bs : List Nat) (B : Nat) (w : World) (hr : Rd w B A n (bv bs)) (hB : B ≤ w.heap.size) (hb : ∀ x ∈ bs, x < 256) (hn : n ≤ 140737488355328) (hc : n ≤ c) :
    Calls Try.prog 87 #[.slice A n c] w (TakePost bs w) := by
  by_cases h : (first bs).2.2 = 0
  · exact take_ok A n c bs B w hr hB hb hn hc h
  · exact take_err A n c bs B w hr hB hb (by unfold maxLen; omega) h

set_option maxRecDepth 100000 in
theorem Rd.mid {w : World} {B n : Nat} {A A' : Option Addr} {bs : List Nat} {i q : Nat} (h : Rd w B A n (bv bs)) (hj : i + q ≤ n) (hA : i < i + q → ∀ b off, A = some ⟨b, off, none⟩ → A' = some ⟨b, off + i, none⟩) : Rd w B A' q (bv ((bs.drop i).take q)) := by
  have hl : bs.length = n := by have := h.1; rwa [bv_length] at this
  refine ⟨by rw [bv_length, List.length_take, List.length_drop]; omega, fun hq => ?_⟩
  obtain ⟨b, off, e, hb, hc⟩ := h.2 (by omega)
  refine ⟨b, off + i, hA (by omega) b off e, hb, fun j hj' => ?_⟩
  rw [Nat.add_assoc, hc (i + j) (by omega)]
  simp only [bv, List.getElem?_map, List.getElem?_take, List.getElem?_drop]
  rw [if_pos hj']

/-- What 'first' answers if there is no frame; and if there is one. -/
def FirstNo (w : World) (e : Ending) (w' : World) : Prop := e = .returned (.agg #[.slice none 0 0, .int .i64 0]) ∧ Below w.heap.size w w'
def FirstYes (p : List Nat) (B : Nat) (w : World) (e : Ending) (w' : World) : Prop :=
  ∃ A c, e = .returned (.agg #[.slice A p.length c, .int .i64 (frLen p.length : Int)]) ∧ Rd w B A p.length (bv p) ∧ Below w.heap.size w w'

/-- Where the run stands at the label. -/
def NoneAt (w : World) (bs : List Nat) (A : Option Addr) (n c : Nat) (a' : Act) (w' : World) : Prop :=
  ∃ u3 u4 u5 u6 u7 u8 u9 u10 u11 u12 u13 u14 u15 u16 u17 u18 u19 u20 u21 u22 u23 u24 u25 u26 u27 u28 u29 u30 u31 u32 u33 u34 u35 u36 u37 u38 u39 u40 u41 u42 u43 u44 u45 u46 u47 u48 u49 u50 u51 u52 u53 u54 : Value, a' = { tmps := #[.slice A n c, undef, .pointer (some ⟨w.heap.size, 0, none⟩), u3, u4, u5, u6, u7, u8, u9, u10, u11, u12, u13, u14, u15, u16, u17, u18, u19, u20, u21, u22, u23, u24, u25, u26, u27, u28, u29, u30, u31, u32, u33, u34, u35, u36, u37, u38, u39, u40, u41, u42, u43, u44, u45, u46, u47, u48, u49, u50, u51, u52, u53, u54], defers := [] } ∧
    (∀ p, ¬ IsFr bs p) ∧ Whole w' w.heap.size 93 #[.slice none 0 0, .int .i64 0] ∧ Below w.heap.size w w'

def FirstIs (bs : List Nat) (B : Nat) (w : World) (e : Ending) (w' : World) : Prop :=
  ((∀ p, ¬ IsFr bs p) ∧ FirstNo w e w') ∨ ∃ p, IsFr bs p ∧ FirstYes p B w e w'

set_option maxRecDepth 100000 in
set_option maxHeartbeats 1000000 in
theorem frFirst_any (A : Option Addr) (n c : Nat) (bs : List Nat) (B : Nat) (w : World) (hr : Rd w B A n (bv bs)) (hB : B ≤ w.heap.size) (hb : ∀ x ∈ bs, x < 256) (hn : n ≤ 1000000) (hc : n ≤ c) :
    Calls Try.prog 74 #[.slice A n c] w (FirstIs bs B w) := by
  have hl : bs.length = n := by have := hr.1; rwa [bv_length] at this
  obtain ⟨N, K, E, hF⟩ : ∃ N K E, first (bs.take 2) = (N, K, E) := ⟨_, _, _, rfl⟩
  obtain ⟨m, hm2⟩ : ∃ m, min 2 n = m := ⟨_, rfl⟩
  have hR2 : Rd w w.heap.size A m (bv (bs.take 2)) := by
    have h := (hr.more hB).take (k := m) (by omega)
    have e : bs.take m = bs.take 2 := by
      rw [← hm2]
      rcases Nat.le_total 2 n with h2 | h2
      · rw [Nat.min_eq_left h2]
      · rw [Nat.min_eq_right h2, List.take_of_length_le (by omega), List.take_of_length_le (by omega)]
    rw [bv, ← List.map_take, e] at h
    exact h
  have HT := Lib.hid (fun (W : World) (hW : Below w.heap.size w W) => take_any A m c (bs.take 2) w.heap.size W (hR2.below hW) hW.size (fun x hx => hb x (List.mem_of_mem_take hx)) (by omega) (by omega))
  unfold TakePost at HT
  rw [hF] at HT
  have hH1 := run_head A n c m (by omega)
  have HF := Lib.hid hF
  have HR := Lib.hid (hr.more hB)
  have HR0 := Lib.hid hr
  have HB1 := Lib.hid hB
  have HBy := Lib.hid hb
  have HL := Lib.hid hl
  have HX := Lib.hid ((Whole.new w 93 #[.slice none 0 0, .int .i64 0]).alloc (.cells #[.slice none 0 0, .int .i64 0] 93))
  have HY : Hid (Whole ((w.alloc (.cells #[.slice none 0 0, .int .i64 0] 93)).alloc (.cells #[.slice none 0 0, .int .i64 0] 93)) (w.heap.size + 1) 93 #[.slice none 0 0, .int .i64 0]) := by
    have h := Whole.new (w.alloc (.cells #[.slice none 0 0, .int .i64 0] 93)) 93 #[.slice none 0 0, .int .i64 0]
    rw [World.size_alloc] at h
    exact Lib.hid h
  have HB0 := Lib.hid (((Below.refl _ w).alloc (Nat.le_refl _) (.cells #[.slice none 0 0, .int .i64 0] 93)).alloc (by simp) (.cells #[.slice none 0 0, .int .i64 0] 93))
  have hmin : (if (n : Int) < 2 then (n : Int) else 2) = (m : Int) := by split <;> omega
  clear hr hB hb hl hF hm2 hR2
  go_enter Try.func74, Try.ntmps74
  go_wp2_with fail
  refine wp_scope_fwd 0 (NoneAt w bs A n c) rfl ?first ?tail
  case tail =>
    rintro a' w' ⟨u3, u4, u5, u6, u7, u8, u9, u10, u11, u12, u13, u14, u15, u16, u17, u18, u19, u20, u21, u22, u23, u24, u25, u26, u27, u28, u29, u30, u31, u32, u33, u34, u35, u36, u37, u38, u39, u40, u41, u42, u43, u44, u45, u46, u47, u48, u49, u50, u51, u52, u53, u54, rfl, hno, hx, hb⟩
    have x0 := hx.cell 0
    have x1 := hx.cell 1
    simp only [List.getElem?_toArray, List.getElem?_cons_zero, List.getElem?_cons_succ] at x0 x1
    have f0 := hx.frozen 0
    have f1 := hx.frozen 1
    have HNo := Lib.hid hno
    have HB := Lib.hid hb
    have HX2 := Lib.hid ((hx.set 0 (.slice none 0 0)).set 1 (.int .i64 0))
    clear hno hb hx
    go_wp2_with fail
    simp only [Exit.jump]
    have p0 := HX2.out.cell 0
    have p1 := HX2.out.cell 1
    simp at p0 p1
    refine bodyPost_ret (v := .agg #[.slice none 0 0, .int .i64 0]) (by simp [results, Try.results74, go_sem, p0, p1]) rfl (.inl ⟨HNo.out, rfl, ?_⟩)
    exact (HB.out.setCell (p := ⟨w.heap.size, 0, none⟩) (Nat.le_refl _) _).setCell (p := ⟨w.heap.size, 1, none⟩) (Nat.le_refl _) _
  case first =>
    go_wp2_with fail
    refine (HT.out _ HB0.out).mono ?_
    rintro e w1 ⟨A1, c1, rfl, hI⟩
    have X1 := Lib.hid (HX.out.under hI.2.1)
    have Y1 := Lib.hid (HY.out.under hI.2.1)
    have B1 := Lib.hid (HB0.out.trans (hI.2.1.mono HB0.out.size))
    clear hI HT HX HY
    by_cases hE : E = 0
    · subst hE
      by_cases hN : N ≤ 4000
      · by_cases hlen : frLen N ≤ n
        · have hK := first_ok (bs := bs.take 2) (fun x hx => HBy.out x (List.mem_of_mem_take hx)) (by rw [HF.out])
          rw [HF.out] at hK
          simp only at hK
          obtain ⟨hK1, hK2, _⟩ := hK
          have hP2 := put_two hN
          have hput : put N = bs.take (put N).length := by
            have h1 : (bs.take 2).take (put N).length = put N := by conv => lhs; rw [hK1]; rw [List.take_left]
            rw [List.take_take, Nat.min_eq_left hP2] at h1
            exact h1.symm
          have hnot : ∀ p, IsFr bs p → N = p.length := fun p hp => by
            have h1 := isFr_first hp 2 (Nat.le_refl _)
            rw [HF.out] at h1
            simp only [Prod.mk.injEq] at h1
            exact h1.1
          obtain ⟨P, hP⟩ : ∃ P, (put N).length = P := ⟨_, rfl⟩
          obtain ⟨F, hFr⟩ : ∃ F, frLen N = F := ⟨_, rfl⟩
          have hF0 : F = P + N + 4 := by rw [← hFr, ← hP]; rfl
          rw [hFr] at hlen
          obtain ⟨p, hp⟩ : ∃ p, (bs.drop P).take N = p := ⟨_, rfl⟩
          obtain ⟨s, hs⟩ : ∃ s, (bs.drop (P + N)).take 4 = s := ⟨_, rfl⟩
          have hpl : p.length = N := by rw [← hp, List.length_take, List.length_drop, HL.out]; omega
          obtain ⟨A2, hA1, hA2⟩ := run_mid A n c P (P + N) (by omega) (by omega) hc
          obtain ⟨A3, hA3, hA4⟩ := run_mid A n c (P + N) F (by omega) (by omega) hc
          rw [show P + N - P = N by omega] at hA1
          rw [show F - (P + N) = 4 by omega] at hA3
          rw [show ((P + N : Nat) : Int) = (F : Int) - 4 by omega] at hA1 hA3
          have HRp : Hid (Rd w B A2 N (bv p)) := by rw [← hp]; exact HR0.out.mid (by omega) hA2
          have HRs : Hid (Rd w w.heap.size A3 4 (bv s)) := by rw [← hs]; exact HR.out.mid (by omega) (fun h => hA4 (by omega))
          have HPb : Hid (∀ x ∈ p, x < 256) := fun x hx => HBy.out x (List.mem_of_mem_drop (List.mem_of_mem_take (hp ▸ hx)))
          have HSb : Hid (∀ x ∈ s, x < 256) := fun x hx => HBy.out x (List.mem_of_mem_drop (List.mem_of_mem_take (hs ▸ hx)))
          have HYes : Hid (le4 (sumOf p) = s → IsFr bs p) := fun e => isFr_of hN hput (by rw [hFr, HL.out]; exact hlen) (by rw [hP]; exact hp) (by rw [hP, hs, e])
          have HNot : Hid (le4 (sumOf p) ≠ s → ∀ q, ¬ IsFr bs q) := fun e q hq => by
            obtain ⟨h1, h2, _⟩ := hq.lies
            rw [← hnot q hq, hP] at h1 h2
            rw [hp] at h1
            rw [hs, ← h1] at h2
            exact e h2.symm
          have HLong := Lib.hid (frLong_yes N hN)
          have HLn := Lib.hid (long_yes N (by omega))
          rw [hFr] at HLong
          rw [hP] at HLn
          have hle : ¬ (n : Int) < (F : Int) := by omega
          have hle2 : decide ((n : Int) < (F : Int)) = false := decide_eq_false hle
          have HPL := Lib.hid hpl
          have HFr := Lib.hid hFr
          have hFb : (F : Int) ≤ 4006 := by omega
          have hFb2 : (4 : Int) ≤ (F : Int) := by omega
          have hwr : IntKind.i64.wrap ((F : Int) - 4) = (F : Int) - 4 := by rw [IntKind.wrap_i64]; omega
          have HA2 := Lib.hid hA1
          have HA3 := Lib.hid hA3
          clear hK1 hK2 hput hnot hp hs hpl hFr hF0 hlen hA1 hA2 hA3 hA4 hP HF
          have hNi : ¬ (4000 : Int) < (N : Int) := by omega
          go_wp2_with fail
          refine (HLong.out _).mono ?_
          rintro e w2 ⟨rfl, b2⟩
          have X2 := Lib.hid (X1.out.under b2)
          have Y2 := Lib.hid (Y1.out.under b2)
          have B2 := Lib.hid (B1.out.trans (b2.mono B1.out.size))
          clear b2 X1 Y1 B1
          go_wp2_with fail
          refine (HLong.out _).mono ?_
          rintro e w3 ⟨rfl, b3⟩
          have X3 := Lib.hid (X2.out.under b3)
          have Y3 := Lib.hid (Y2.out.under b3)
          have B3 := Lib.hid (B2.out.trans (b3.mono B2.out.size))
          have f1 := Y3.out.frozen 1
          have y1 := Y3.out.cell 1
          simp only [List.getElem?_toArray, List.getElem?_cons_zero, List.getElem?_cons_succ] at y1
          clear b3 X2 Y2 B2
          go_wp2_with fail
          have X4 := Lib.hid (X3.out.far (p := ⟨w.heap.size + 1, 1, none⟩) (by simp) (.int .i64 (F : Int)))
          have hy4 := Y3.out.set 1 (.int .i64 (F : Int))
          simp only [List.setIfInBounds_toArray, List.set_cons_zero, List.set_cons_succ] at hy4
          have Y4 := Lib.hid hy4
          have B4 := Lib.hid (B3.out.setCell (p := ⟨w.heap.size + 1, 1, none⟩) (Nat.le_succ _) (.int .i64 (F : Int)))
          clear hy4 f1 y1 X3 Y3 B3
          generalize w3.setCell ⟨w.heap.size + 1, 1, none⟩ (.int .i64 (F : Int)) = W4 at X4 Y4 B4 ⊢
          have y0 := Y4.out.cell 0
          have y1 := Y4.out.cell 1
          have f0 := Y4.out.frozen 0
          simp only [List.getElem?_toArray, List.getElem?_cons_zero, List.getElem?_cons_succ] at y0 y1
          have hA1 := HA2.out
          have hne : (⟨w.heap.size + 1, 0, none⟩ : Addr) ≠ ⟨w.heap.size + 1, 1, none⟩ := by simp
          clear HLong
          go_region_held3 (fun W => W.cell? ⟨w.heap.size + 1, 1, none⟩ = some (.int .i64 (F : Int))) (first | (with_reducible exact S6.out) | (with_reducible exact S5.out) | go_keep)
            (first | (go_at_call 62; refine (HLn.out _).mono ?_; rintro e w5 ⟨rfl, b5, _⟩; have B5 := Lib.hid b5; have X5 := Lib.hid (Whole.under (w := W4.drew) X4.out b5); have Y5 := Lib.hid (Whole.under (w := W4.drew) Y4.out b5); have S5 := Lib.hid (Y5.out.cell 1); have q0 := Y5.out.cell 0; have f5 := Y5.out.frozen 0; simp only [List.getElem?_toArray, List.getElem?_cons_zero, List.getElem?_cons_succ] at q0 S5; have S6 := Lib.hid ((World.cell?_setCell_other w5 ⟨w.heap.size + 1, 0, none⟩ ⟨w.heap.size + 1, 1, none⟩ (.slice A2 N (c - P)) hne).trans S5.out); clear b5))
          have X6 := Lib.hid (X5.out.far (p := ⟨w.heap.size + 1, 0, none⟩) (by simp) (.slice A2 N (c - P)))
          have hy6 := Y5.out.set 0 (.slice A2 N (c - P))
          simp only [List.setIfInBounds_toArray, List.set_cons_zero] at hy6
          have Y6 := Lib.hid hy6
          have B6 := Lib.hid ((B4.out.drew.trans (B5.out.mono B4.out.size)).setCell (p := ⟨w.heap.size + 1, 0, none⟩) (Nat.le_succ _) (.slice A2 N (c - P)))
          clear hy6 f5 q0 S5 S6 X5 Y5 B5 f0 y0 y1 X4 Y4 B4 hA1 HA2 HLn hne
          rename_i hHeld
          clear hHeld
          generalize w5.setCell ⟨w.heap.size + 1, 0, none⟩ (.slice A2 N (c - P)) = W6 at X6 Y6 B6 ⊢
          have z0 := Y6.out.cell 0
          have z1 := Y6.out.cell 1
          simp only [List.getElem?_toArray, List.getElem?_cons_zero, List.getElem?_cons_succ] at z0 z1
          have hA3 := HA3.out
          have HSum := Lib.hid (fun (W : World) (hW : Below W6.drew.heap.size W6.drew W) => sumBytes_any A2 N (c - P) p w.heap.size W (((HRp.out.more HB1.out).below B6.out.drew).below (hW.mono B6.out.size)) (Nat.le_trans B6.out.size hW.size) HPb.out (by omega))
          by_cases heq : le4 (sumOf p) = s
          · have HDec := Lib.hid (decide_eq_true heq)
            have HY := Lib.hid (HYes.out heq)
            clear heq
            go_wp2_with fail
            go_region_held3 (fun W => W.cell? ⟨w.heap.size + 1, 0, none⟩ = some (.slice A2 N (c - P)) ∧ W.cell? ⟨w.heap.size + 1, 1, none⟩ = some (.int .i64 (F : Int))) (first | (with_reducible exact S7.out) | go_keep)
              (first | (go_at_call 86; refine (HSum.out _ (Below.refl _ _)).mono ?_; rintro e w7 ⟨A7, c7, rfl, o7, b7⟩; have B7 := Lib.hid b7; have X7 := Lib.hid (Whole.under (w := W6.drew) X6.out b7); have Y7 := Lib.hid (Whole.under (w := W6.drew) Y6.out b7); have S7 := Lib.hid (And.intro (Y7.out.cell 0) (Y7.out.cell 1)); simp only [List.getElem?_toArray, List.getElem?_cons_zero, List.getElem?_cons_succ] at S7; have HEq := Lib.hid (equalB_any A7 A3 4 c7 4 (c - (P + N)) (le4 (sumOf p)) s w7.heap.size w7 (Rd.of_own o7) ((HRs.out.below (B6.out.drew.trans (b7.mono B6.out.size))).more (Nat.le_trans B6.out.size b7.size)) (le4_bytes _) HSb.out); rw [HDec.out] at HEq; clear b7 o7) | (go_at_call 88; refine (HEq.out).mono ?_; rintro e w8 ⟨rfl, rfl⟩))
            obtain ⟨s0, s1⟩ := S7.out
            have r0 := X7.out.cell 0
            have r1 := X7.out.cell 1
            have g0 := X7.out.frozen 0
            have g1 := X7.out.frozen 1
            simp only [List.getElem?_toArray, List.getElem?_cons_zero, List.getElem?_cons_succ] at r0 r1
            have HX8 := Lib.hid ((X7.out.set 0 (.slice A2 N (c - P))).set 1 (.int .i64 (F : Int)))
            have HB8 := Lib.hid (((B6.out.drew.trans (B7.out.mono B6.out.size)).setCell (p := ⟨w.heap.size, 0, none⟩) (Nat.le_refl _) (.slice A2 N (c - P))).setCell (p := ⟨w.heap.size, 1, none⟩) (Nat.le_refl _) (.int .i64 (F : Int)))
            go_wp2_with fail
            simp only [Exit.jump]
            have p0 := HX8.out.cell 0
            have p1 := HX8.out.cell 1
            simp at p0 p1
            refine bodyPost_ret (v := .agg #[.slice A2 N (c - P), .int .i64 (F : Int)]) (by simp [results, Try.results74, go_sem, p0, p1]) rfl (.inr ⟨p, HY.out, A2, c - P, by rw [HPL.out, HFr.out], ?_, HB8.out⟩)
            rw [HPL.out]; exact HRp.out
          · have HDec := Lib.hid (decide_eq_false heq)
            have HN := Lib.hid (HNot.out heq)
            clear heq
            go_wp2_with fail
            go_region_held3 (fun W => W.cell? ⟨w.heap.size + 1, 0, none⟩ = some (.slice A2 N (c - P)) ∧ W.cell? ⟨w.heap.size + 1, 1, none⟩ = some (.int .i64 (F : Int))) (first | (with_reducible exact S7.out) | go_keep)
              (first | (go_at_call 86; refine (HSum.out _ (Below.refl _ _)).mono ?_; rintro e w7 ⟨A7, c7, rfl, o7, b7⟩; have B7 := Lib.hid b7; have X7 := Lib.hid (Whole.under (w := W6.drew) X6.out b7); have Y7 := Lib.hid (Whole.under (w := W6.drew) Y6.out b7); have S7 := Lib.hid (And.intro (Y7.out.cell 0) (Y7.out.cell 1)); simp only [List.getElem?_toArray, List.getElem?_cons_zero, List.getElem?_cons_succ] at S7; have HEq := Lib.hid (equalB_any A7 A3 4 c7 4 (c - (P + N)) (le4 (sumOf p)) s w7.heap.size w7 (Rd.of_own o7) ((HRs.out.below (B6.out.drew.trans (b7.mono B6.out.size))).more (Nat.le_trans B6.out.size b7.size)) (le4_bytes _) HSb.out); rw [HDec.out] at HEq; clear b7 o7) | (go_at_call 88; refine (HEq.out).mono ?_; rintro e w8 ⟨rfl, rfl⟩))
            go_wp2_with fail
            go_step3
            exact ⟨rfl, _, _, _, _, _, _, _, _, _, _, _, _, _, _, _, _, _, _, _, _, _, _, _, _, _, _, _, _, _, _, _, _, _, _, _, _, _, _, _, _, _, _, _, _, _, _, _, _, _, _, _, _, rfl, HN.out, X7.out, B6.out.drew.trans (B7.out.mono B6.out.size)⟩
        · have HLong := Lib.hid (frLong_yes N hN)
          have hgt : (n : Int) < (frLen N : Int) := by omega
          have hno : ∀ p, ¬ IsFr bs p := fun p hp => by
            have h1 := isFr_first hp 2 (Nat.le_refl _)
            rw [HF.out] at h1
            simp only [Prod.mk.injEq] at h1
            have h2 := hp.le
            rw [HL.out, ← h1.1] at h2
            omega
          have HNo := Lib.hid hno
          clear hno hlen
          go_wp2_with fail
          refine (HLong.out _).mono ?_
          rintro e w2 ⟨rfl, b2⟩
          have X2 := Lib.hid (X1.out.under b2)
          have B2 := Lib.hid (B1.out.trans (b2.mono B1.out.size))
          clear b2
          go_wp2_with fail
          go_step3
          exact ⟨rfl, _, _, _, _, _, _, _, _, _, _, _, _, _, _, _, _, _, _, _, _, _, _, _, _, _, _, _, _, _, _, _, _, _, _, _, _, _, _, _, _, _, _, _, _, _, _, _, _, _, _, _, _, rfl, HNo.out, X2.out, B2.out⟩
      · have hgt : (4000 : Int) < (N : Int) := by omega
        have hno : ∀ p, ¬ IsFr bs p := fun p hp => by
          have h1 := isFr_first hp 2 (Nat.le_refl _)
          rw [HF.out] at h1
          simp only [Prod.mk.injEq] at h1
          have h2 := hp.1
          omega
        have HNo := Lib.hid hno
        clear hno hN
        go_wp2_with fail
        go_step3
        exact ⟨rfl, _, _, _, _, _, _, _, _, _, _, _, _, _, _, _, _, _, _, _, _, _, _, _, _, _, _, _, _, _, _, _, _, _, _, _, _, _, _, _, _, _, _, _, _, _, _, _, _, _, _, _, _, rfl, HNo.out, X1.out, B1.out⟩
    · have hEb : ((E : Int) != 0) = true := by simp; exact hE
      have hno : ∀ p, ¬ IsFr bs p := fun p hp => by
        have h1 := isFr_first hp 2 (Nat.le_refl _)
        rw [HF.out] at h1
        simp only [Prod.mk.injEq] at h1
        exact hE h1.2.2
      have HNo := Lib.hid hno
      clear hno hE
      go_wp2_with fail
      go_step3
      exact ⟨rfl, _, _, _, _, _, _, _, _, _, _, _, _, _, _, _, _, _, _, _, _, _, _, _, _, _, _, _, _, _, _, _, _, _, _, _, _, _, _, _, _, _, _, _, _, _, _, _, _, _, _, _, _, rfl, HNo.out, X1.out, B1.out⟩

end Go.Proofs.Ytbkfpghpfaemeaa

/-
  The walk of 'Take' of package frame. Conditions: those that each theorem names.
-/
namespace Go.Proofs.Ytbkfpghpfaemeaa
open Go.RowKit Go.Shelf

set_option maxRecDepth 100000 in
theorem frFirst_yes {A : Option Addr} {n c : Nat} {bs p : List Nat} {B : Nat} {w : World} (hp : IsFr bs p) (hr : Rd w B A n (bv bs)) (hB : B ≤ w.heap.size) (hb : ∀ x ∈ bs, x < 256) (hn : n ≤ 1000000) (hc : n ≤ c) :
    Calls Try.prog 74 #[.slice A n c] w (FirstYes p B w) := by
  refine (frFirst_any A n c bs B w hr hB hb hn hc).mono ?_
  rintro e w' (⟨h, _⟩ | ⟨q, hq, h⟩)
  · exact absurd hp (h p)
  · rw [isFr_one hp hq]; exact h
set_option maxRecDepth 100000 in
theorem frFirst_no {A : Option Addr} {n c : Nat} {bs : List Nat} {B : Nat} {w : World} (hp : ∀ p, ¬ IsFr bs p) (hr : Rd w B A n (bv bs)) (hB : B ≤ w.heap.size) (hb : ∀ x ∈ bs, x < 256) (hn : n ≤ 1000000) (hc : n ≤ c) :
    Calls Try.prog 74 #[.slice A n c] w (FirstNo w) := by
  refine (frFirst_any A n c bs B w hr hB hb hn hc).mono ?_
  rintro e w' (⟨_, h⟩ | ⟨q, hq, _⟩)
  · exact h
  · exact absurd hq (hp q)

/-- What 'Take' answers if there is no frame; and if there is one. -/
def TakeNo (w : World) (e : Ending) (w' : World) : Prop := e = .returned (.tuple #[.slice none 0 0, .slice none 0 0, .int .i64 40]) ∧ Below w.heap.size w w'
def TakeYes (p r : List Nat) (w : World) (e : Ending) (w' : World) : Prop :=
  ∃ A c A' c', e = .returned (.tuple #[.slice A p.length c, .slice A' r.length c', .int .i64 0]) ∧ w'.ownsRow w.heap.size 5 1 (.slice A p.length c) p.length (bv p) ∧ w'.ownsRow w.heap.size 5 1 (.slice A' r.length c') r.length (bv r) ∧ Below w.heap.size w w'

end Go.Proofs.Ytbkfpghpfaemeaa
