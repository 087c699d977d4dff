/-
  The walks of 'Sync', 'Crash' and 'New' of package disk. Conditions: those that each theorem names.
-/
import Derived.Test.YtekffkoggnbgeaaDiskPut
namespace Go.Proofs.Ytekffkoggnbgeaa
open Go.RowKit Go.Shelf

def crashD (keep : Int) (D : Dk) : Dk := secureD (loseD keep D)

/-- What 'changed' is handed by 'Sync'. -/
theorem changed_sync (A : Option Addr) (n c : Nat) (s r : Int) (bs : List Nat) (w W : World) (hr : Rd w w.heap.size A n (bv bs)) (hc : n ≤ c) (hby : ∀ x ∈ bs, x < 256)
    (hW : Below w.heap.size w W) (bl cl : Nat) (hbl : bl < W.heap.size) (h1 : W.cell? ⟨bl, 0, none⟩ = some (.func (.func 30) #[] #[])) :
    Calls Try.prog 27 #[diskV A n c s r, .slice (some ⟨bl, 0, none⟩) 1 cl] W (DiskRes (secureD (cnt bs s r)) 0 W) := by
  have h := changed_any A n c s r bs w.heap.size W (hr.below hW) hW.size hc hby [⟨30, #[], fun D => some (secureD D)⟩] bl cl hbl ?_ (by simp) ?_
  · rw [runs_one] at h
    exact h
  · intro k ch hk
    match k, hk with
    | 0, hk =>
      simp only [List.getElem?_cons_zero, Option.some.injEq] at hk
      subst hk
      exact h1
  · intro ch hch
    simp only [List.mem_singleton] at hch
    subst hch
    exact secure_chg _ _

/-- What 'changed' is handed by 'Crash'. -/
theorem changed_crash (A : Option Addr) (n c : Nat) (s r keep : Int) (bs : List Nat) (w W : World) (hr : Rd w w.heap.size A n (bv bs)) (hc : n ≤ c) (hby : ∀ x ∈ bs, x < 256)
    (hW : Below w.heap.size w W) (bl bc cl : Nat) (hbl : bl < W.heap.size) (hbc : bc < W.heap.size) (h0 : W.cell? ⟨bl, 0, none⟩ = some (.func (.func 37) #[] #[.pointer (some ⟨bc, 0, none⟩)])) (h1 : W.cell? ⟨bl, 1, none⟩ = some (.func (.func 30) #[] #[])) (h2 : W.cell? ⟨bc, 0, none⟩ = some (.int .i64 keep)) :
    Calls Try.prog 27 #[diskV A n c s r, .slice (some ⟨bl, 0, none⟩) 2 cl] W (DiskRes (crashD keep (cnt bs s r)) 0 W) := by
  have h := changed_any A n c s r bs w.heap.size W (hr.below hW) hW.size hc hby [⟨37, #[.pointer (some ⟨bc, 0, none⟩)], fun D => some (loseD keep D)⟩, ⟨30, #[], fun D => some (secureD D)⟩] bl cl hbl ?_ (by simp) ?_
  · exact h
  · intro k ch hk
    match k, hk with
    | 0, hk =>
      simp only [List.getElem?_cons_zero, Option.some.injEq] at hk
      subst hk
      exact h0
    | 1, hk =>
      simp only [List.getElem?_cons_succ, List.getElem?_cons_zero, Option.some.injEq] at hk
      subst hk
      exact h1
  · intro ch hch
    have hbel : Below W.heap.size W ((W.alloc (diskB A n c s r)).alloc zeroB) := ((Below.refl _ W).alloc (Nat.le_refl _) _).alloc (by simp) _
    simp only [List.mem_cons, List.not_mem_nil, or_false] at hch
    rcases hch with rfl | rfl
    · exact lose_chg _ _ bc keep (by omega) ((hbel.cell (p := ⟨bc, 0, none⟩) hbc).trans h2)
    · exact secure_chg _ _

set_option maxRecDepth 100000 in
set_option maxHeartbeats 1000000 in
theorem sync_any (A : Option Addr) (n c : Nat) (s r : Int) (bs : List Nat) (w : World) (hr : Rd w w.heap.size A n (bv bs)) (hc : n ≤ c) (hby : ∀ x ∈ bs, x < 256) {D : Dk} (hD : cnt bs s r = D) :
    Calls Try.prog 16 #[diskV A n c s r] w (DiskIs (secureD D) w) := by
  have hbel : Below w.heap.size w (((w.alloc (diskB A n c s r)).alloc zeroB).alloc (.cells #[.func (.func 30) #[] #[]] 46)) := (((Below.refl _ w).alloc (Nat.le_refl _) _).alloc (by simp) _).alloc (by simp; omega) _
  have HC := Lib.hid (changed_sync A n c s r bs w _ hr hc hby hbel (w.heap.size + 1 + 1) 1 (by simp) (by simpa using cell_new ((w.alloc (diskB A n c s r)).alloc zeroB) #[.func (.func 30) #[] #[]] 46 0))
  rw [hD] at HC
  obtain ⟨D', hD'⟩ : ∃ D', secureD D = D' := ⟨_, rfl⟩
  rw [hD'] at HC ⊢
  have HX := Lib.hid (((Whole.new w 24 #[.slice A n c, .int .i64 s, .int .i64 r]).alloc zeroB).alloc (.cells #[.func (.func 30) #[] #[]] 46))
  have hy := (Whole.new (w.alloc (diskB A n c s r)) 24 #[.slice none 0 0, .int .i64 0, .int .i64 0]).alloc (.cells #[.func (.func 30) #[] #[]] 46)
  rw [World.size_alloc] at hy
  have HY := Lib.hid hy
  have HBE := Lib.hid hbel
  clear hr hby hD hD' hbel hy
  go_enter Try.func16, Try.ntmps16
  go_wp2_with fail
  refine (HC.out).mono ?_
  rintro e w5 ⟨A5, c5, rfl, o5, b5⟩
  have X5 := Lib.hid (HX.out.under b5)
  have Y5 := Lib.hid (HY.out.under b5)
  obtain ⟨x0, x1, x2⟩ := X5.out.cells3
  obtain ⟨y0, y1, y2⟩ := Y5.out.cells3
  have e0 := X5.out.frozen 0
  have e1 := X5.out.frozen 1
  have e2 := X5.out.frozen 2
  have f0 := Y5.out.frozen 0
  have f1 := Y5.out.frozen 1
  have f2 := Y5.out.frozen 2
  have O5 := Lib.hid o5
  have B5 := Lib.hid (HBE.out.trans (b5.mono (by simp; omega)))
  clear o5 b5
  go_wp2_with fail
  have hz := (Y5.out.farDisk (b' := w.heap.size) (by omega) (.slice A5 D'.bs.length c5) (.int .i64 D'.syn) (.int .i64 D'.room)).disk (.slice A5 D'.bs.length c5) (.int .i64 D'.syn) (.int .i64 D'.room)
  obtain ⟨p0, p1, p2⟩ := hz.cells3
  refine bodyPost_ret (v := diskV A5 D'.bs.length c5 D'.syn D'.room) (by simp [results, Try.results16, go_sem, p0, p1, p2]) rfl ⟨A5, c5, rfl, ?_, ?_⟩
  · exact own_weaker (own_setDisk (own_setDisk O5.out (b := w.heap.size) (by simp; omega) _ _ _) (b := w.heap.size + 1) (by simp) _ _ _) (by simp; omega)
  · exact below_setDisk (below_setDisk B5.out (b := w.heap.size) (Nat.le_refl _) _ _ _) (b := w.heap.size + 1) (Nat.le_succ _) _ _ _

set_option maxRecDepth 100000 in
set_option maxHeartbeats 1000000 in
theorem crash_any (A : Option Addr) (n c : Nat) (s r keep : Int) (bs : List Nat) (w : World) (hr : Rd w w.heap.size A n (bv bs)) (hc : n ≤ c) (hby : ∀ x ∈ bs, x < 256) {D : Dk} (hD : cnt bs s r = D) :
    Calls Try.prog 17 #[diskV A n c s r, .int .i64 keep] w (DiskIs (crashD keep D) w) := by
  have hbel : Below w.heap.size w ((((w.alloc (diskB A n c s r)).alloc zeroB).alloc (.cells #[.int .i64 keep] 3)).alloc (.cells #[.func (.func 37) #[] #[.pointer (some ⟨w.heap.size + 1 + 1, 0, none⟩)], .func (.func 30) #[] #[]] 46)) := ((((Below.refl _ w).alloc (Nat.le_refl _) _).alloc (by simp) _).alloc (by simp; omega) _).alloc (by simp; omega) _
  have hcl := Whole.new (((w.alloc (diskB A n c s r)).alloc zeroB).alloc (.cells #[.int .i64 keep] 3)) 46 #[.func (.func 37) #[] #[.pointer (some ⟨w.heap.size + 1 + 1, 0, none⟩)], .func (.func 30) #[] #[]]
  have HC := Lib.hid (changed_crash A n c s r keep bs w _ hr hc hby hbel.drew (w.heap.size + 1 + 1 + 1) (w.heap.size + 1 + 1) 2 (by simp) (by simp) (by simpa using hcl.cell 0) (by simpa using hcl.cell 1) (by simpa using ((Whole.new ((w.alloc (diskB A n c s r)).alloc zeroB) 3 #[.int .i64 keep]).alloc (.cells #[.func (.func 37) #[] #[.pointer (some ⟨w.heap.size + 1 + 1, 0, none⟩)], .func (.func 30) #[] #[]] 46)).cell 0))
  clear hcl
  rw [hD] at HC
  obtain ⟨D', hD'⟩ : ∃ D', crashD keep D = D' := ⟨_, rfl⟩
  rw [hD'] at HC ⊢
  have HX := Lib.hid (Whole.drew ((((Whole.new w 24 #[.slice A n c, .int .i64 s, .int .i64 r]).alloc zeroB).alloc (.cells #[.int .i64 keep] 3)).alloc (.cells #[.func (.func 37) #[] #[.pointer (some ⟨w.heap.size + 1 + 1, 0, none⟩)], .func (.func 30) #[] #[]] 46)))
  have hy := (Whole.drew (((Whole.new (w.alloc (diskB A n c s r)) 24 #[.slice none 0 0, .int .i64 0, .int .i64 0]).alloc (.cells #[.int .i64 keep] 3)).alloc (.cells #[.func (.func 37) #[] #[.pointer (some ⟨w.heap.size + 1 + 1, 0, none⟩)], .func (.func 30) #[] #[]] 46)))
  rw [World.size_alloc] at hy
  have HY := Lib.hid hy
  have HBE := Lib.hid hbel
  clear hr hby hD hD' hbel hy
  go_enter Try.func17, Try.ntmps17
  go_wp2_with fail
  go_region_with (first | (go_at_call 32; ((with_reducible refine (lose_any _ _).mono ?_); rintro e w2 ⟨rfl, rfl⟩)) | (go_at_call 27; refine (HC.out).mono ?_; rintro e w5 ⟨A5, c5, rfl, o5, b5⟩; have O5 := Lib.hid o5; have B5 := Lib.hid (HBE.out.drew.trans (b5.mono (by simp; omega))); have X5 := Lib.hid (HX.out.under b5); have Y5 := Lib.hid (HY.out.under b5); obtain ⟨x0, x1, x2⟩ := X5.out.cells3; have e0 := X5.out.frozen 0; have e1 := X5.out.frozen 1; have e2 := X5.out.frozen 2; clear o5 b5))
  all_goals
    have Z5 := Lib.hid (Y5.out.farDisk (b' := w.heap.size) (by omega) (.slice A5 D'.bs.length c5) (.int .i64 D'.syn) (.int .i64 D'.room))
    obtain ⟨y0, y1, y2⟩ := Z5.out.cells3
    have f0 := Z5.out.frozen 0
    have f1 := Z5.out.frozen 1
    have f2 := Z5.out.frozen 2
    obtain ⟨z0, z1, z2⟩ := (X5.out.disk (.slice A5 D'.bs.length c5) (.int .i64 D'.syn) (.int .i64 D'.room)).cells3
    clear x0 x1 x2 e0 e1 e2
    go_wp2_with fail
    have hz := Z5.out.disk (.slice A5 D'.bs.length c5) (.int .i64 D'.syn) (.int .i64 D'.room)
    obtain ⟨p0, p1, p2⟩ := hz.cells3
    refine bodyPost_ret (v := diskV A5 D'.bs.length c5 D'.syn D'.room) (by simp [results, Try.results17, go_sem, p0, p1, p2]) rfl ⟨A5, c5, rfl, ?_, ?_⟩
    · exact own_weaker (own_setDisk (own_setDisk O5.out (b := w.heap.size) (by simp; omega) _ _ _) (b := w.heap.size + 1) (by simp) _ _ _) (by simp; omega)
    · exact below_setDisk (below_setDisk B5.out (b := w.heap.size) (Nat.le_refl _) _ _ _) (b := w.heap.size + 1) (Nat.le_succ _) _ _ _

set_option maxHeartbeats 400000 in
theorem new_any (room : Int) (w : World) : Calls Try.prog 15 #[.int .i64 room] w (DiskIs (cnt [] 0 room) w) := by
  have hbel : Below w.heap.size w (w.alloc zeroB) := (Below.refl _ w).alloc (Nat.le_refl _) _
  have HC := Lib.hid (own_any none 0 0 0 room [] 0 (w.alloc zeroB) (Rd.nil_ _ _ _) (Nat.zero_le _) (Nat.le_refl _))
  obtain ⟨D', hD'⟩ : ∃ D', cnt [] 0 room = D' := ⟨_, rfl⟩
  rw [hD'] at HC ⊢
  have HY := Lib.hid (Whole.new w 24 #[.slice none 0 0, .int .i64 0, .int .i64 0])
  have HBE := Lib.hid hbel
  clear hbel hD'
  go_enter Try.func15, Try.ntmps15
  go_wp2_with fail
  refine (HC.out).mono ?_
  rintro e w5 ⟨A5, c5, rfl, o5, b5⟩
  have Y5 := Lib.hid (HY.out.under b5)
  obtain ⟨y0, y1, y2⟩ := Y5.out.cells3
  have f0 := Y5.out.frozen 0
  have f1 := Y5.out.frozen 1
  have f2 := Y5.out.frozen 2
  have O5 := Lib.hid o5
  have B5 := Lib.hid (HBE.out.trans (b5.mono (by simp)))
  clear o5 b5
  go_wp2_with fail
  obtain ⟨p0, p1, p2⟩ := (Y5.out.disk (.slice A5 D'.bs.length c5) (.int .i64 D'.syn) (.int .i64 D'.room)).cells3
  refine bodyPost_ret (v := diskV A5 D'.bs.length c5 D'.syn D'.room) (by simp [results, Try.results15, go_sem, p0, p1, p2]) rfl ⟨A5, c5, rfl, ?_, ?_⟩
  · exact own_weaker (own_setDisk O5.out (b := w.heap.size) (by simp) _ _ _) (by simp)
  · exact below_setDisk B5.out (b := w.heap.size) (Nat.le_refl _) _ _ _

end Go.Proofs.Ytekffkoggnbgeaa
