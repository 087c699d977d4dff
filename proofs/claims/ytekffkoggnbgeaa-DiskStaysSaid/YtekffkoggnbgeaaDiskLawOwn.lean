/-
  The walk of the statement 'DiskOwn': it answers true, and nothing that was there turns. Conditions: none.
-/
import Derived.Test.YtekffkoggnbgeaaDiskOwn3
import Derived.Test.YtekffkoggnbgeaaHand
namespace Go.Proofs.Ytekffkoggnbgeaa
open Go.RowKit Go.Shelf

section
variable {bs : List Nat} {sy R : Nat} {W : World} {A A' : Option Addr} {c c' : Nat}
theorem same_self (hok : (⟨bs, sy, R⟩ : Dk).Ok) (h : Rd W W.heap.size A bs.length (bv bs)) (hc : bs.length ≤ c) (h' : Rd W W.heap.size A' bs.length (bv bs)) (hc' : bs.length ≤ c') :
    Calls Try.prog 25 #[diskV A bs.length c sy R, diskV A' bs.length c' sy R] W fun e w' => e = .returned (.bool true) ∧ Below W.heap.size W w' := by
  have h1 := same_any A bs.length c sy R bs A' bs.length c' sy R bs W.heap.size W h (Nat.le_refl _) hc hok.byte h' hc' hok.byte (D := ⟨bs, sy, R⟩) (D' := ⟨bs, sy, R⟩) (cnt_self hok) (cnt_self hok)
  rwa [show decide ((⟨bs, sy, R⟩ : Dk) = ⟨bs, sy, R⟩) = true by simp] at h1
theorem own_self (hok : (⟨bs, sy, R⟩ : Dk).Ok) (h : Rd W W.heap.size A bs.length (bv bs)) (hc : bs.length ≤ c) :
    Calls Try.prog 14 #[diskV A bs.length c sy R] W (DiskN bs.length bs sy R W) := by
  have h1 := own_any A bs.length c sy R bs W.heap.size W h (Nat.le_refl _) hc
  rw [cnt_self (D := ⟨bs, sy, R⟩) hok] at h1
  exact h1
end
theorem crashD_form (keep : Int) (D : Dk) : ∃ b3, crashD keep D = ⟨b3, b3.length, D.room⟩ := ⟨(loseD keep D).bs, rfl⟩

set_option maxRecDepth 100000 in
set_option maxHeartbeats 800000 in
theorem diskOwn_out (A : Option Addr) (n c : Nat) (s r nv m : Int) (w : World) (h : 400 < n) :
    Calls Try.prog 6 #[diskV A n c s r, .int .i64 nv, .int .i64 m] w (TruePost w) := by
  have HB := Lib.hid (((Below.refl w.heap.size w).alloc (Nat.le_refl _) (diskB A n c s r)).alloc (by simp) (diskB A n c s r))
  have HG := Lib.hid (fun W => greatD_any A n c s r W (b := true) (by simpa using h))
  clear h
  go_enter Try.func6, Try.ntmps6
  go_wp2_with fail
  refine (HG.out _).mono ?_
  rintro e w1 ⟨rfl, rfl⟩
  go_wp2_with fail
  refine (wakesD_any _).mono ?_
  rintro e w2 ⟨rfl, b2⟩
  have B2 := Lib.hid (HB.out.trans (b2.mono HB.out.size))
  clear b2
  go_wp2_with fail
  go_ret
  exact ⟨rfl, B2.out⟩

set_option maxRecDepth 100000 in
set_option maxHeartbeats 8000000 in
theorem diskOwn_in (A : Option Addr) (n c : Nat) (s r nv m : Int) (bs : List Nat) (w : World) (hr : Rd w w.heap.size A n (bv bs)) (hc : n ≤ c) (hby : ∀ x ∈ bs, x < 256) (hn : n ≤ 400) (bs1 : List Nat) (sy R : Nat) (hD : cnt bs s r = ⟨bs1, sy, R⟩) :
    Calls Try.prog 6 #[diskV A n c s r, .int .i64 nv, .int .i64 m] w (TruePost w) := by
  have hok : (⟨bs1, sy, R⟩ : Dk).Ok := by rw [← hD]; exact cnt_ok s r hby
  have hok2 : (⟨bs1, bs1.length, R⟩ : Dk).Ok := ⟨Nat.le_refl _, hok.len, hok.room, hok.byte⟩
  obtain ⟨b3, hb3⟩ := crashD_form nv ⟨bs1, sy, R⟩
  have hok3 : (⟨b3, b3.length, R⟩ : Dk).Ok := by have h := secure_ok (lose_ok hok nv); unfold crashD at hb3; rw [hb3] at h; exact h
  have h1 : bs1.length ≤ R := hok.len
  have h2 : sy ≤ bs1.length := hok.syn
  have HB := Lib.hid (((Below.refl w.heap.size w).alloc (Nat.le_refl _) (diskB A n c s r)).alloc (by simp) (diskB A n c s r))
  have HG := Lib.hid (fun W => greatD_any A n c s r W (b := false) (by simpa using hn))
  have HX := Lib.hid ((Whole.new w 24 #[.slice A n c, .int .i64 s, .int .i64 r]).alloc (diskB A n c s r))
  have K1 : Hid (∀ W, Below ((w.alloc (diskB A n c s r)).alloc (diskB A n c s r)).heap.size ((w.alloc (diskB A n c s r)).alloc (diskB A n c s r)) W → Calls Try.prog 14 #[diskV A n c s r] W (DiskIs ⟨bs1, sy, R⟩ W)) := fun W hW => by
    have hW' := HB.out.trans (hW.mono HB.out.size)
    have h := own_any A n c s r bs w.heap.size W (hr.below hW') hW'.size hc
    rwa [hD] at h
  have K2 : Hid (∀ W, Below ((w.alloc (diskB A n c s r)).alloc (diskB A n c s r)).heap.size ((w.alloc (diskB A n c s r)).alloc (diskB A n c s r)) W → Calls Try.prog 16 #[diskV A n c s r] W (DiskIs ⟨bs1, bs1.length, R⟩ W)) := fun W hW => by
    have hW' := HB.out.trans (hW.mono HB.out.size)
    exact sync_any A n c s r bs W ((hr.below hW').more hW'.size) hc hby hD
  have K3 : Hid (∀ W, Below ((w.alloc (diskB A n c s r)).alloc (diskB A n c s r)).heap.size ((w.alloc (diskB A n c s r)).alloc (diskB A n c s r)) W → Calls Try.prog 17 #[diskV A n c s r, .int .i64 nv] W (DiskIs ⟨b3, b3.length, R⟩ W)) := fun W hW => by
    have hW' := HB.out.trans (hW.mono HB.out.size)
    have h := crash_any A n c s r nv bs W ((hr.below hW').more hW'.size) hc hby hD
    rwa [hb3] at h
  have HOw := Lib.hid (fun (W : World) (A : Option Addr) (c : Nat) (h : Rd W W.heap.size A bs1.length (bv bs1)) (hc : bs1.length ≤ c) => own_self hok h hc)
  have HS1 := Lib.hid (fun (W : World) (A A' : Option Addr) (c c' : Nat) (h : Rd W W.heap.size A bs1.length (bv bs1)) (hc : bs1.length ≤ c) (h' : Rd W W.heap.size A' bs1.length (bv bs1)) (hc' : bs1.length ≤ c') => same_self hok h hc h' hc')
  have HS2 := Lib.hid (fun (W : World) (A A' : Option Addr) (c c' : Nat) (h : Rd W W.heap.size A bs1.length (bv bs1)) (hc : bs1.length ≤ c) (h' : Rd W W.heap.size A' bs1.length (bv bs1)) (hc' : bs1.length ≤ c') => same_self hok2 h hc h' hc')
  have HS3 := Lib.hid (fun (W : World) (A A' : Option Addr) (c c' : Nat) (h : Rd W W.heap.size A b3.length (bv b3)) (hc : b3.length ≤ c) (h' : Rd W W.heap.size A' b3.length (bv b3)) (hc' : b3.length ≤ c') => same_self hok3 h hc h' hc')
  have HSy := Lib.hid (fun (W : World) (A : Option Addr) (c : Nat) (h : Rd W W.heap.size A bs1.length (bv bs1)) (hc : bs1.length ≤ c) => sync_N (W := W) hok2 rfl h hc)
  have HYc := Lib.hid (fun (W : World) (A : Option Addr) (c : Nat) (h : Rd W W.heap.size A b3.length (bv b3)) (hc : b3.length ≤ c) => sync_N (W := W) hok3 rfl h hc)
  have HCc := Lib.hid (fun (W : World) (A : Option Addr) (c : Nat) (h : Rd W W.heap.size A b3.length (bv b3)) (hc : b3.length ≤ c) => crash_N (W := W) m hok3 (crash_safe m b3 R) h hc)
  have HCs := Lib.hid (fun (W : World) (A : Option Addr) (c : Nat) (h : Rd W W.heap.size A bs1.length (bv bs1)) (hc : bs1.length ≤ c) => crash_N (W := W) nv hok2 (crash_safe nv bs1 R) h hc)
  have HSb : Hid (∀ (W : World) (A A' : Option Addr) (c c' : Nat), Rd W W.heap.size A bs1.length (bv bs1) → Rd W W.heap.size A' bs1.length (bv bs1) → Calls Try.prog 22 #[.slice A bs1.length c, .slice A' bs1.length c'] W fun e w' => e = .returned (.bool true) ∧ w' = W) := fun W A A' c c' h h' => by
    have h1 := same_bytes A A' bs1.length c bs1.length c' bs1 bs1 W.heap.size W.heap.size W h h' hok.byte hok.byte
    rwa [show decide (bs1 = bs1) = true by simp] at h1
  have d1 : decide (bs1.length ≤ R) = true := by simpa using h1
  have d2 : decide (sy ≤ bs1.length) = true := by simpa using h2
  clear hr hby hD hok hok2 hok3 hb3
  go_enter Try.func6, Try.ntmps6
  go_wp2_with fail
  refine (HG.out _).mono ?_
  rintro e w1 ⟨rfl, rfl⟩
  go_wp2_with fail
  refine own3_region rfl (by kernel_rfl) ⟨_, rfl, rfl, rfl, rfl, rfl, by kernel_rfl⟩ ⟨_, rfl, rfl, rfl, rfl, rfl, by kernel_rfl⟩ ⟨_, rfl, rfl, rfl, rfl, rfl, by kernel_rfl⟩ ⟨_, rfl, rfl, rfl, rfl, rfl, by kernel_rfl⟩ ⟨_, rfl, rfl, rfl, rfl, rfl, by kernel_rfl⟩ ⟨_, rfl, rfl, rfl, rfl, rfl, by kernel_rfl⟩ ⟨_, rfl, rfl, rfl, rfl, rfl, by kernel_rfl⟩ ⟨_, rfl, rfl, rfl, rfl, rfl, by kernel_rfl⟩ ⟨_, rfl, rfl, rfl, rfl, rfl, by kernel_rfl⟩ ⟨_, rfl, rfl, rfl, rfl, rfl, by kernel_rfl⟩ ⟨_, rfl, rfl, rfl, rfl, rfl, by kernel_rfl⟩ ⟨_, rfl, rfl, rfl, rfl, rfl, by kernel_rfl⟩ ⟨_, rfl, rfl, rfl, rfl, rfl, by kernel_rfl⟩ _ ?_ w.heap.size _ A n c s r nv ⟨bs1, sy, R⟩ ⟨bs1, bs1.length, R⟩ ⟨b3, b3.length, R⟩ rfl rfl HX.out K1.out K2.out K3.out ?_
  · intro d hd
    simp only [List.mem_cons, List.not_mem_nil, or_false] at hd
    rcases hd with rfl | rfl | rfl | rfl | rfl | rfl | rfl | rfl | rfl | rfl <;> simp
  intro σ W0 A1 c1 A2 c2 A3 c3 b1 b2 b4 s7 s8 s9 hb0 X1 X2 X3 o1 o2 o3
  simp only at X1 X2 X3 o1 o2 o3
  simp only [lay, List.foldl_cons, List.foldl_nil, Act.put, List.setIfInBounds_toArray, List.set_cons_zero, List.set_cons_succ, s7, s8, s9]
  have C1 := own_cap o1
  have C2 := own_cap o2
  have C3 := own_cap o3
  have HL : Hid (∀ W, Below W0.heap.size W0 W → Below w.heap.size w W ∧ Rd W W.heap.size A1 bs1.length (bv bs1) ∧ Rd W W.heap.size A2 bs1.length (bv bs1) ∧ Rd W W.heap.size A3 b3.length (bv b3) ∧
      W.cell? ⟨b1, 0, none⟩ = some (.slice A1 bs1.length c1) ∧ W.cell? ⟨b1, 1, none⟩ = some (.int .i64 sy) ∧ W.cell? ⟨b1, 2, none⟩ = some (.int .i64 R) ∧ W.cell? ⟨b2, 0, none⟩ = some (.slice A2 bs1.length c2) ∧ W.cell? ⟨b2, 1, none⟩ = some (.int .i64 bs1.length) ∧ W.cell? ⟨b2, 2, none⟩ = some (.int .i64 R) ∧
      W.cell? ⟨b4, 0, none⟩ = some (.slice A3 b3.length c3) ∧ W.cell? ⟨b4, 1, none⟩ = some (.int .i64 b3.length) ∧ W.cell? ⟨b4, 2, none⟩ = some (.int .i64 R)) := fun W hW => by
    have g1 := (X1.under hW).cells3
    have g2 := (X2.under hW).cells3
    have g3 := (X3.under hW).cells3
    exact ⟨(HB.out.trans (hb0.mono HB.out.size)).trans (hW.mono (HB.out.trans (hb0.mono HB.out.size)).size), ((Rd.of_own o1).below hW).more hW.size, ((Rd.of_own o2).below hW).more hW.size, ((Rd.of_own o3).below hW).more hW.size, g1.1, g1.2.1, g1.2.2, g2.1, g2.2.1, g2.2.2, g3.1, g3.2.1, g3.2.2⟩
  have HC := Lib.hid ((Below.refl W0.heap.size W0).drew)
  clear s7 s8 s9 hb0 X1 X2 X3 o1 o2 o3 K1 K2 K3 HX HG
  go_wp2_with fail
  refine wp_region_held_drew (S := fun W => Below W0.heap.size W0 W) (by kernel_rfl) HC.out (fun _ => ?_)
  refine takeH (i := 0) (v := ?_) rfl (by kernel_rfl) (by kernel_rfl) (by kernel_rfl) (fun _ _ _ h => h) (by rfl) ?_ HC.out ?_
  rotate_left
  · intro W hW; obtain ⟨L0, L1, L2, L3, M0, M1, M2, M3, M4, M5, M6, M7, M8⟩ := HL.out W hW; go_simp <;> with_reducible rfl
  simp only [Act.put, List.setIfInBounds_toArray, List.set_cons_zero, List.set_cons_succ]
  refine takeH (i := 2) (v := ?_) rfl (by kernel_rfl) (by kernel_rfl) (by kernel_rfl) (fun _ _ _ h => h) (by rfl) ?_ HC.out ?_
  rotate_left
  · intro W hW; obtain ⟨L0, L1, L2, L3, M0, M1, M2, M3, M4, M5, M6, M7, M8⟩ := HL.out W hW; go_simp <;> with_reducible rfl
  simp only [Act.put, List.setIfInBounds_toArray, List.set_cons_zero, List.set_cons_succ]
  refine oneH (i := 1) rfl (by kernel_rfl) (by rfl) (fun K hK => ?_)
  go_simp
  obtain ⟨L0, L1, L2, L3, M0, M1, M2, M3, M4, M5, M6, M7, M8⟩ := HL.out _ HC.out
  refine (HOw.out _ _ _ L1 C1).mono ?_
  rintro e w11 ⟨A11, c11, rfl, o11, d11⟩
  have R11 := Lib.hid (Rd.of_own o11)
  have C11 := own_cap o11
  have HC2 := Lib.hid (HC.out.trans (d11.mono HC.out.size))
  clear HC o11 d11 L0 L1 L2 L3 M0 M1 M2 M3 M4 M5 M6 M7 M8
  have HC := HC2
  clear HC2
  refine hK.out _ _ HC.out (fun _ => ?_)
  clear hK K
  refine oneH (i := 3) rfl (by kernel_rfl) (by rfl) (fun K hK => ?_)
  go_simp
  obtain ⟨L0, L1, L2, L3, M0, M1, M2, M3, M4, M5, M6, M7, M8⟩ := HL.out _ HC.out
  refine (HS1.out _ _ _ _ _ R11.out C11 L1 C1).mono ?_
  rintro e w12 ⟨rfl, d12⟩
  have HC2 := Lib.hid (HC.out.trans (d12.mono HC.out.size))
  clear HC d12 L0 L1 L2 L3 M0 M1 M2 M3 M4 M5 M6 M7 M8 R11 C11
  have HC := HC2
  clear HC2
  refine hK.out _ _ HC.out (fun _ => ?_)
  clear hK K
  refine takeH (i := 4) (v := ?_) rfl (by kernel_rfl) (by kernel_rfl) (by kernel_rfl) (fun _ _ _ h => h) (by rfl) ?_ HC.out ?_
  rotate_left
  · intro W hW; obtain ⟨L0, L1, L2, L3, M0, M1, M2, M3, M4, M5, M6, M7, M8⟩ := HL.out W hW; go_simp <;> with_reducible rfl
  simp only [Act.put, List.setIfInBounds_toArray, List.set_cons_zero, List.set_cons_succ]
  refine takeH (i := 5) (v := ?_) rfl (by kernel_rfl) (by kernel_rfl) (by kernel_rfl) (fun _ _ _ h => h) (by rfl) ?_ HC.out ?_
  rotate_left
  · intro W hW; obtain ⟨L0, L1, L2, L3, M0, M1, M2, M3, M4, M5, M6, M7, M8⟩ := HL.out W hW; go_simp <;> with_reducible rfl
  simp only [Act.put, List.setIfInBounds_toArray, List.set_cons_zero, List.set_cons_succ]
  refine takeH (i := 6) (v := ?_) rfl (by kernel_rfl) (by kernel_rfl) (by kernel_rfl) (fun _ _ _ h => h) (by rfl) ?_ HC.out ?_
  rotate_left
  · intro W hW; obtain ⟨L0, L1, L2, L3, M0, M1, M2, M3, M4, M5, M6, M7, M8⟩ := HL.out W hW; go_simp <;> with_reducible rfl
  simp only [Act.put, List.setIfInBounds_toArray, List.set_cons_zero, List.set_cons_succ]
  refine takeH (i := 7) (v := ?_) rfl (by kernel_rfl) (by kernel_rfl) (by kernel_rfl) (fun _ _ _ h => h) (by rfl) ?_ HC.out ?_
  rotate_left
  · intro W hW; obtain ⟨L0, L1, L2, L3, M0, M1, M2, M3, M4, M5, M6, M7, M8⟩ := HL.out W hW; go_simp <;> with_reducible rfl
  simp only [Act.put, List.setIfInBounds_toArray, List.set_cons_zero, List.set_cons_succ]
  refine takeH (i := 8) (v := ?_) rfl (by kernel_rfl) (by kernel_rfl) (by kernel_rfl) (fun _ _ _ h => h) (by rfl) ?_ HC.out ?_
  rotate_left
  · intro W hW; obtain ⟨L0, L1, L2, L3, M0, M1, M2, M3, M4, M5, M6, M7, M8⟩ := HL.out W hW; go_simp <;> with_reducible rfl
  simp only [Act.put, List.setIfInBounds_toArray, List.set_cons_zero, List.set_cons_succ]
  refine takeH (i := 9) (v := ?_) rfl (by kernel_rfl) (by kernel_rfl) (by kernel_rfl) (fun _ _ _ h => h) (by rfl) ?_ HC.out ?_
  rotate_left
  · intro W hW; obtain ⟨L0, L1, L2, L3, M0, M1, M2, M3, M4, M5, M6, M7, M8⟩ := HL.out W hW; go_simp <;> with_reducible rfl
  simp only [Act.put, List.setIfInBounds_toArray, List.set_cons_zero, List.set_cons_succ]
  refine takeH (i := 10) (v := ?_) rfl (by kernel_rfl) (by kernel_rfl) (by kernel_rfl) (fun _ _ _ h => h) (by rfl) ?_ HC.out ?_
  rotate_left
  · intro W hW; obtain ⟨L0, L1, L2, L3, M0, M1, M2, M3, M4, M5, M6, M7, M8⟩ := HL.out W hW; go_simp <;> with_reducible rfl
  simp only [Act.put, List.setIfInBounds_toArray, List.set_cons_zero, List.set_cons_succ]
  refine takeH (i := 11) (v := ?_) rfl (by kernel_rfl) (by kernel_rfl) (by kernel_rfl) (fun _ _ _ h => h) (by rfl) ?_ HC.out ?_
  rotate_left
  · intro W hW; obtain ⟨L0, L1, L2, L3, M0, M1, M2, M3, M4, M5, M6, M7, M8⟩ := HL.out W hW; go_simp <;> with_reducible rfl
  simp only [Act.put, List.setIfInBounds_toArray, List.set_cons_zero, List.set_cons_succ]
  refine takeH (i := 12) (v := ?_) rfl (by kernel_rfl) (by kernel_rfl) (by kernel_rfl) (fun _ _ _ h => h) (by rfl) ?_ HC.out ?_
  rotate_left
  · intro W hW; obtain ⟨L0, L1, L2, L3, M0, M1, M2, M3, M4, M5, M6, M7, M8⟩ := HL.out W hW; go_simp <;> with_reducible rfl
  simp only [Act.put, List.setIfInBounds_toArray, List.set_cons_zero, List.set_cons_succ]
  refine takeH (i := 13) (v := ?_) rfl (by kernel_rfl) (by kernel_rfl) (by kernel_rfl) (fun _ _ _ h => h) (by rfl) ?_ HC.out ?_
  rotate_left
  · intro W hW; obtain ⟨L0, L1, L2, L3, M0, M1, M2, M3, M4, M5, M6, M7, M8⟩ := HL.out W hW; go_simp <;> with_reducible rfl
  simp only [Act.put, List.setIfInBounds_toArray, List.set_cons_zero, List.set_cons_succ]
  refine takeH (i := 14) (v := ?_) rfl (by kernel_rfl) (by kernel_rfl) (by kernel_rfl) (fun _ _ _ h => h) (by rfl) ?_ HC.out ?_
  rotate_left
  · intro W hW; obtain ⟨L0, L1, L2, L3, M0, M1, M2, M3, M4, M5, M6, M7, M8⟩ := HL.out W hW; go_simp <;> with_reducible rfl
  simp only [Act.put, List.setIfInBounds_toArray, List.set_cons_zero, List.set_cons_succ]
  refine takeH (i := 15) (v := ?_) rfl (by kernel_rfl) (by kernel_rfl) (by kernel_rfl) (fun _ _ _ h => h) (by rfl) ?_ HC.out ?_
  rotate_left
  · intro W hW; obtain ⟨L0, L1, L2, L3, M0, M1, M2, M3, M4, M5, M6, M7, M8⟩ := HL.out W hW; go_simp <;> with_reducible rfl
  simp only [Act.put, List.setIfInBounds_toArray, List.set_cons_zero, List.set_cons_succ]
  refine takeH (i := 16) (v := ?_) rfl (by kernel_rfl) (by kernel_rfl) (by kernel_rfl) (fun _ _ _ h => h) (by rfl) ?_ HC.out ?_
  rotate_left
  · intro W hW; obtain ⟨L0, L1, L2, L3, M0, M1, M2, M3, M4, M5, M6, M7, M8⟩ := HL.out W hW; go_simp <;> with_reducible rfl
  simp only [Act.put, List.setIfInBounds_toArray, List.set_cons_zero, List.set_cons_succ]
  refine takeH (i := 17) (v := ?_) rfl (by kernel_rfl) (by kernel_rfl) (by kernel_rfl) (fun _ _ _ h => h) (by rfl) ?_ HC.out ?_
  rotate_left
  · intro W hW; obtain ⟨L0, L1, L2, L3, M0, M1, M2, M3, M4, M5, M6, M7, M8⟩ := HL.out W hW; go_simp <;> with_reducible rfl
  simp only [Act.put, List.setIfInBounds_toArray, List.set_cons_zero, List.set_cons_succ]
  refine takeH (i := 18) (v := ?_) rfl (by kernel_rfl) (by kernel_rfl) (by kernel_rfl) (fun _ _ _ h => h) (by rfl) ?_ HC.out ?_
  rotate_left
  · intro W hW; obtain ⟨L0, L1, L2, L3, M0, M1, M2, M3, M4, M5, M6, M7, M8⟩ := HL.out W hW; go_simp <;> with_reducible rfl
  simp only [Act.put, List.setIfInBounds_toArray, List.set_cons_zero, List.set_cons_succ]
  refine takeH (i := 19) (v := ?_) rfl (by kernel_rfl) (by kernel_rfl) (by kernel_rfl) (fun _ _ _ h => h) (by rfl) ?_ HC.out ?_
  rotate_left
  · intro W hW; obtain ⟨L0, L1, L2, L3, M0, M1, M2, M3, M4, M5, M6, M7, M8⟩ := HL.out W hW; go_simp <;> with_reducible rfl
  simp only [Act.put, List.setIfInBounds_toArray, List.set_cons_zero, List.set_cons_succ]
  refine takeH (i := 20) (v := ?_) rfl (by kernel_rfl) (by kernel_rfl) (by kernel_rfl) (fun _ _ _ h => h) (by rfl) ?_ HC.out ?_
  rotate_left
  · intro W hW; obtain ⟨L0, L1, L2, L3, M0, M1, M2, M3, M4, M5, M6, M7, M8⟩ := HL.out W hW; go_simp <;> with_reducible rfl
  simp only [Act.put, List.setIfInBounds_toArray, List.set_cons_zero, List.set_cons_succ]
  refine takeH (i := 21) (v := ?_) rfl (by kernel_rfl) (by kernel_rfl) (by kernel_rfl) (fun _ _ _ h => h) (by rfl) ?_ HC.out ?_
  rotate_left
  · intro W hW; obtain ⟨L0, L1, L2, L3, M0, M1, M2, M3, M4, M5, M6, M7, M8⟩ := HL.out W hW; go_simp <;> with_reducible rfl
  simp only [Act.put, List.setIfInBounds_toArray, List.set_cons_zero, List.set_cons_succ]
  refine takeH (i := 22) (v := ?_) rfl (by kernel_rfl) (by kernel_rfl) (by kernel_rfl) (fun _ _ _ h => h) (by rfl) ?_ HC.out ?_
  rotate_left
  · intro W hW; obtain ⟨L0, L1, L2, L3, M0, M1, M2, M3, M4, M5, M6, M7, M8⟩ := HL.out W hW; go_simp <;> with_reducible rfl
  simp only [Act.put, List.setIfInBounds_toArray, List.set_cons_zero, List.set_cons_succ]
  refine takeH (i := 23) (v := ?_) rfl (by kernel_rfl) (by kernel_rfl) (by kernel_rfl) (fun _ _ _ h => h) (by rfl) ?_ HC.out ?_
  rotate_left
  · intro W hW; obtain ⟨L0, L1, L2, L3, M0, M1, M2, M3, M4, M5, M6, M7, M8⟩ := HL.out W hW; go_simp <;> with_reducible rfl
  simp only [Act.put, List.setIfInBounds_toArray, List.set_cons_zero, List.set_cons_succ]
  refine takeH (i := 24) (v := ?_) rfl (by kernel_rfl) (by kernel_rfl) (by kernel_rfl) (fun _ _ _ h => h) (by rfl) ?_ HC.out ?_
  rotate_left
  · intro W hW; obtain ⟨L0, L1, L2, L3, M0, M1, M2, M3, M4, M5, M6, M7, M8⟩ := HL.out W hW; go_simp <;> with_reducible rfl
  simp only [Act.put, List.setIfInBounds_toArray, List.set_cons_zero, List.set_cons_succ]
  refine takeH (i := 25) (v := ?_) rfl (by kernel_rfl) (by kernel_rfl) (by kernel_rfl) (fun _ _ _ h => h) (by rfl) ?_ HC.out ?_
  rotate_left
  · intro W hW; obtain ⟨L0, L1, L2, L3, M0, M1, M2, M3, M4, M5, M6, M7, M8⟩ := HL.out W hW; go_simp <;> with_reducible rfl
  simp only [Act.put, List.setIfInBounds_toArray, List.set_cons_zero, List.set_cons_succ]
  refine takeH (i := 26) (v := ?_) rfl (by kernel_rfl) (by kernel_rfl) (by kernel_rfl) (fun _ _ _ h => h) (by rfl) ?_ HC.out ?_
  rotate_left
  · intro W hW; obtain ⟨L0, L1, L2, L3, M0, M1, M2, M3, M4, M5, M6, M7, M8⟩ := HL.out W hW; go_simp <;> with_reducible rfl
  simp only [Act.put, List.setIfInBounds_toArray, List.set_cons_zero, List.set_cons_succ]
  refine takeH (i := 28) (v := ?_) rfl (by kernel_rfl) (by kernel_rfl) (by kernel_rfl) (fun _ _ _ h => h) (by rfl) ?_ HC.out ?_
  rotate_left
  · intro W hW; obtain ⟨L0, L1, L2, L3, M0, M1, M2, M3, M4, M5, M6, M7, M8⟩ := HL.out W hW; go_simp <;> with_reducible rfl
  simp only [Act.put, List.setIfInBounds_toArray, List.set_cons_zero, List.set_cons_succ]
  refine oneH (i := 27) rfl (by kernel_rfl) (by rfl) (fun K hK => ?_)
  go_simp
  obtain ⟨L0, L1, L2, L3, M0, M1, M2, M3, M4, M5, M6, M7, M8⟩ := HL.out _ HC.out
  refine (HSy.out _ _ _ L2 C2).mono ?_
  rintro e w13 ⟨A13, c13, rfl, o13, d13⟩
  have R13 := Lib.hid (Rd.of_own o13)
  have C13 := own_cap o13
  have HC2 := Lib.hid (HC.out.trans (d13.mono HC.out.size))
  clear HC o13 d13 L0 L1 L2 L3 M0 M1 M2 M3 M4 M5 M6 M7 M8
  have HC := HC2
  clear HC2
  refine hK.out _ _ HC.out (fun _ => ?_)
  clear hK K
  refine oneH (i := 29) rfl (by kernel_rfl) (by rfl) (fun K hK => ?_)
  go_simp
  obtain ⟨L0, L1, L2, L3, M0, M1, M2, M3, M4, M5, M6, M7, M8⟩ := HL.out _ HC.out
  refine (HS2.out _ _ _ _ _ R13.out C13 L2 C2).mono ?_
  rintro e w14 ⟨rfl, d14⟩
  have HC2 := Lib.hid (HC.out.trans (d14.mono HC.out.size))
  clear HC d14 L0 L1 L2 L3 M0 M1 M2 M3 M4 M5 M6 M7 M8 R13 C13
  have HC := HC2
  clear HC2
  refine hK.out _ _ HC.out (fun _ => ?_)
  clear hK K
  refine takeH (i := 30) (v := ?_) rfl (by kernel_rfl) (by kernel_rfl) (by kernel_rfl) (fun _ _ _ h => h) (by rfl) ?_ HC.out ?_
  rotate_left
  · intro W hW; obtain ⟨L0, L1, L2, L3, M0, M1, M2, M3, M4, M5, M6, M7, M8⟩ := HL.out W hW; go_simp <;> with_reducible rfl
  simp only [Act.put, List.setIfInBounds_toArray, List.set_cons_zero, List.set_cons_succ]
  refine takeH (i := 31) (v := ?_) rfl (by kernel_rfl) (by kernel_rfl) (by kernel_rfl) (fun _ _ _ h => h) (by rfl) ?_ HC.out ?_
  rotate_left
  · intro W hW; obtain ⟨L0, L1, L2, L3, M0, M1, M2, M3, M4, M5, M6, M7, M8⟩ := HL.out W hW; go_simp <;> with_reducible rfl
  simp only [Act.put, List.setIfInBounds_toArray, List.set_cons_zero, List.set_cons_succ]
  refine takeH (i := 32) (v := ?_) rfl (by kernel_rfl) (by kernel_rfl) (by kernel_rfl) (fun _ _ _ h => h) (by rfl) ?_ HC.out ?_
  rotate_left
  · intro W hW; obtain ⟨L0, L1, L2, L3, M0, M1, M2, M3, M4, M5, M6, M7, M8⟩ := HL.out W hW; go_simp <;> with_reducible rfl
  simp only [Act.put, List.setIfInBounds_toArray, List.set_cons_zero, List.set_cons_succ]
  refine takeH (i := 33) (v := ?_) rfl (by kernel_rfl) (by kernel_rfl) (by kernel_rfl) (fun _ _ _ h => h) (by rfl) ?_ HC.out ?_
  rotate_left
  · intro W hW; obtain ⟨L0, L1, L2, L3, M0, M1, M2, M3, M4, M5, M6, M7, M8⟩ := HL.out W hW; go_simp <;> with_reducible rfl
  simp only [Act.put, List.setIfInBounds_toArray, List.set_cons_zero, List.set_cons_succ]
  refine takeH (i := 35) (v := ?_) rfl (by kernel_rfl) (by kernel_rfl) (by kernel_rfl) (fun _ _ _ h => h) (by rfl) ?_ HC.out ?_
  rotate_left
  · intro W hW; obtain ⟨L0, L1, L2, L3, M0, M1, M2, M3, M4, M5, M6, M7, M8⟩ := HL.out W hW; go_simp <;> with_reducible rfl
  simp only [Act.put, List.setIfInBounds_toArray, List.set_cons_zero, List.set_cons_succ]
  refine oneH (i := 34) rfl (by kernel_rfl) (by rfl) (fun K hK => ?_)
  go_simp
  obtain ⟨L0, L1, L2, L3, M0, M1, M2, M3, M4, M5, M6, M7, M8⟩ := HL.out _ HC.out
  refine (HCc.out _ _ _ L3 C3).mono ?_
  rintro e w15 ⟨A15, c15, rfl, o15, d15⟩
  have R15 := Lib.hid (Rd.of_own o15)
  have C15 := own_cap o15
  have HC2 := Lib.hid (HC.out.trans (d15.mono HC.out.size))
  clear HC o15 d15 L0 L1 L2 L3 M0 M1 M2 M3 M4 M5 M6 M7 M8
  have HC := HC2
  clear HC2
  refine hK.out _ _ HC.out (fun _ => ?_)
  clear hK K
  refine oneH (i := 36) rfl (by kernel_rfl) (by rfl) (fun K hK => ?_)
  go_simp
  obtain ⟨L0, L1, L2, L3, M0, M1, M2, M3, M4, M5, M6, M7, M8⟩ := HL.out _ HC.out
  refine (HS3.out _ _ _ _ _ R15.out C15 L3 C3).mono ?_
  rintro e w16 ⟨rfl, d16⟩
  have HC2 := Lib.hid (HC.out.trans (d16.mono HC.out.size))
  clear HC d16 L0 L1 L2 L3 M0 M1 M2 M3 M4 M5 M6 M7 M8 R15 C15
  have HC := HC2
  clear HC2
  refine hK.out _ _ HC.out (fun _ => ?_)
  clear hK K
  refine takeH (i := 37) (v := ?_) rfl (by kernel_rfl) (by kernel_rfl) (by kernel_rfl) (fun _ _ _ h => h) (by rfl) ?_ HC.out ?_
  rotate_left
  · intro W hW; obtain ⟨L0, L1, L2, L3, M0, M1, M2, M3, M4, M5, M6, M7, M8⟩ := HL.out W hW; go_simp <;> with_reducible rfl
  simp only [Act.put, List.setIfInBounds_toArray, List.set_cons_zero, List.set_cons_succ]
  refine takeH (i := 38) (v := ?_) rfl (by kernel_rfl) (by kernel_rfl) (by kernel_rfl) (fun _ _ _ h => h) (by rfl) ?_ HC.out ?_
  rotate_left
  · intro W hW; obtain ⟨L0, L1, L2, L3, M0, M1, M2, M3, M4, M5, M6, M7, M8⟩ := HL.out W hW; go_simp <;> with_reducible rfl
  simp only [Act.put, List.setIfInBounds_toArray, List.set_cons_zero, List.set_cons_succ]
  refine takeH (i := 39) (v := ?_) rfl (by kernel_rfl) (by kernel_rfl) (by kernel_rfl) (fun _ _ _ h => h) (by rfl) ?_ HC.out ?_
  rotate_left
  · intro W hW; obtain ⟨L0, L1, L2, L3, M0, M1, M2, M3, M4, M5, M6, M7, M8⟩ := HL.out W hW; go_simp <;> with_reducible rfl
  simp only [Act.put, List.setIfInBounds_toArray, List.set_cons_zero, List.set_cons_succ]
  refine takeH (i := 40) (v := ?_) rfl (by kernel_rfl) (by kernel_rfl) (by kernel_rfl) (fun _ _ _ h => h) (by rfl) ?_ HC.out ?_
  rotate_left
  · intro W hW; obtain ⟨L0, L1, L2, L3, M0, M1, M2, M3, M4, M5, M6, M7, M8⟩ := HL.out W hW; go_simp <;> with_reducible rfl
  simp only [Act.put, List.setIfInBounds_toArray, List.set_cons_zero, List.set_cons_succ]
  refine takeH (i := 42) (v := ?_) rfl (by kernel_rfl) (by kernel_rfl) (by kernel_rfl) (fun _ _ _ h => h) (by rfl) ?_ HC.out ?_
  rotate_left
  · intro W hW; obtain ⟨L0, L1, L2, L3, M0, M1, M2, M3, M4, M5, M6, M7, M8⟩ := HL.out W hW; go_simp <;> with_reducible rfl
  simp only [Act.put, List.setIfInBounds_toArray, List.set_cons_zero, List.set_cons_succ]
  refine oneH (i := 41) rfl (by kernel_rfl) (by rfl) (fun K hK => ?_)
  go_simp
  obtain ⟨L0, L1, L2, L3, M0, M1, M2, M3, M4, M5, M6, M7, M8⟩ := HL.out _ HC.out
  refine (HCs.out _ _ _ L2 C2).mono ?_
  rintro e w17 ⟨A17, c17, rfl, o17, d17⟩
  have R17 := Lib.hid (Rd.of_own o17)
  have C17 := own_cap o17
  have HC2 := Lib.hid (HC.out.trans (d17.mono HC.out.size))
  clear HC o17 d17 L0 L1 L2 L3 M0 M1 M2 M3 M4 M5 M6 M7 M8
  have HC := HC2
  clear HC2
  refine hK.out _ _ HC.out (fun _ => ?_)
  clear hK K
  refine oneH (i := 43) rfl (by kernel_rfl) (by rfl) (fun K hK => ?_)
  go_simp
  obtain ⟨L0, L1, L2, L3, M0, M1, M2, M3, M4, M5, M6, M7, M8⟩ := HL.out _ HC.out
  refine (HS2.out _ _ _ _ _ R17.out C17 L2 C2).mono ?_
  rintro e w18 ⟨rfl, d18⟩
  have HC2 := Lib.hid (HC.out.trans (d18.mono HC.out.size))
  clear HC d18 L0 L1 L2 L3 M0 M1 M2 M3 M4 M5 M6 M7 M8 R17 C17
  have HC := HC2
  clear HC2
  refine hK.out _ _ HC.out (fun _ => ?_)
  clear hK K
  refine takeH (i := 44) (v := ?_) rfl (by kernel_rfl) (by kernel_rfl) (by kernel_rfl) (fun _ _ _ h => h) (by rfl) ?_ HC.out ?_
  rotate_left
  · intro W hW; obtain ⟨L0, L1, L2, L3, M0, M1, M2, M3, M4, M5, M6, M7, M8⟩ := HL.out W hW; go_simp <;> with_reducible rfl
  simp only [Act.put, List.setIfInBounds_toArray, List.set_cons_zero, List.set_cons_succ]
  refine takeH (i := 45) (v := ?_) rfl (by kernel_rfl) (by kernel_rfl) (by kernel_rfl) (fun _ _ _ h => h) (by rfl) ?_ HC.out ?_
  rotate_left
  · intro W hW; obtain ⟨L0, L1, L2, L3, M0, M1, M2, M3, M4, M5, M6, M7, M8⟩ := HL.out W hW; go_simp <;> with_reducible rfl
  simp only [Act.put, List.setIfInBounds_toArray, List.set_cons_zero, List.set_cons_succ]
  refine takeH (i := 46) (v := ?_) rfl (by kernel_rfl) (by kernel_rfl) (by kernel_rfl) (fun _ _ _ h => h) (by rfl) ?_ HC.out ?_
  rotate_left
  · intro W hW; obtain ⟨L0, L1, L2, L3, M0, M1, M2, M3, M4, M5, M6, M7, M8⟩ := HL.out W hW; go_simp <;> with_reducible rfl
  simp only [Act.put, List.setIfInBounds_toArray, List.set_cons_zero, List.set_cons_succ]
  refine takeH (i := 47) (v := ?_) rfl (by kernel_rfl) (by kernel_rfl) (by kernel_rfl) (fun _ _ _ h => h) (by rfl) ?_ HC.out ?_
  rotate_left
  · intro W hW; obtain ⟨L0, L1, L2, L3, M0, M1, M2, M3, M4, M5, M6, M7, M8⟩ := HL.out W hW; go_simp <;> with_reducible rfl
  simp only [Act.put, List.setIfInBounds_toArray, List.set_cons_zero, List.set_cons_succ]
  refine takeH (i := 48) (v := ?_) rfl (by kernel_rfl) (by kernel_rfl) (by kernel_rfl) (fun _ _ _ h => h) (by rfl) ?_ HC.out ?_
  rotate_left
  · intro W hW; obtain ⟨L0, L1, L2, L3, M0, M1, M2, M3, M4, M5, M6, M7, M8⟩ := HL.out W hW; go_simp <;> with_reducible rfl
  simp only [Act.put, List.setIfInBounds_toArray, List.set_cons_zero, List.set_cons_succ]
  refine takeH (i := 49) (v := ?_) rfl (by kernel_rfl) (by kernel_rfl) (by kernel_rfl) (fun _ _ _ h => h) (by rfl) ?_ HC.out ?_
  rotate_left
  · intro W hW; obtain ⟨L0, L1, L2, L3, M0, M1, M2, M3, M4, M5, M6, M7, M8⟩ := HL.out W hW; go_simp <;> with_reducible rfl
  simp only [Act.put, List.setIfInBounds_toArray, List.set_cons_zero, List.set_cons_succ]
  refine oneH (i := 50) rfl (by kernel_rfl) (by rfl) (fun K hK => ?_)
  go_simp
  obtain ⟨L0, L1, L2, L3, M0, M1, M2, M3, M4, M5, M6, M7, M8⟩ := HL.out _ HC.out
  refine (HSb.out _ _ _ _ _ L2 L1).mono ?_
  rintro e w19 ⟨rfl, rfl⟩
  clear L0 L1 L2 L3 M0 M1 M2 M3 M4 M5 M6 M7 M8
  refine hK.out _ _ HC.out (fun _ => ?_)
  clear hK K
  refine takeH (i := 51) (v := ?_) rfl (by kernel_rfl) (by kernel_rfl) (by kernel_rfl) (fun _ _ _ h => h) (by rfl) ?_ HC.out ?_
  rotate_left
  · intro W hW; obtain ⟨L0, L1, L2, L3, M0, M1, M2, M3, M4, M5, M6, M7, M8⟩ := HL.out W hW; go_simp <;> with_reducible rfl
  simp only [Act.put, List.setIfInBounds_toArray, List.set_cons_zero, List.set_cons_succ]
  refine takeH (i := 52) (v := ?_) rfl (by kernel_rfl) (by kernel_rfl) (by kernel_rfl) (fun _ _ _ h => h) (by rfl) ?_ HC.out ?_
  rotate_left
  · intro W hW; obtain ⟨L0, L1, L2, L3, M0, M1, M2, M3, M4, M5, M6, M7, M8⟩ := HL.out W hW; go_simp <;> with_reducible rfl
  simp only [Act.put, List.setIfInBounds_toArray, List.set_cons_zero, List.set_cons_succ]
  refine takeH (i := 53) (v := ?_) rfl (by kernel_rfl) (by kernel_rfl) (by kernel_rfl) (fun _ _ _ h => h) (by rfl) ?_ HC.out ?_
  rotate_left
  · intro W hW; obtain ⟨L0, L1, L2, L3, M0, M1, M2, M3, M4, M5, M6, M7, M8⟩ := HL.out W hW; go_simp <;> with_reducible rfl
  simp only [Act.put, List.setIfInBounds_toArray, List.set_cons_zero, List.set_cons_succ]
  refine takeH (i := 55) (v := ?_) rfl (by kernel_rfl) (by kernel_rfl) (by kernel_rfl) (fun _ _ _ h => h) (by rfl) ?_ HC.out ?_
  rotate_left
  · intro W hW; obtain ⟨L0, L1, L2, L3, M0, M1, M2, M3, M4, M5, M6, M7, M8⟩ := HL.out W hW; go_simp <;> with_reducible rfl
  simp only [Act.put, List.setIfInBounds_toArray, List.set_cons_zero, List.set_cons_succ]
  refine oneH (i := 54) rfl (by kernel_rfl) (by rfl) (fun K hK => ?_)
  go_simp
  obtain ⟨L0, L1, L2, L3, M0, M1, M2, M3, M4, M5, M6, M7, M8⟩ := HL.out _ HC.out
  refine (HYc.out _ _ _ L3 C3).mono ?_
  rintro e w20 ⟨A20, c20, rfl, o20, d20⟩
  have R20 := Lib.hid (Rd.of_own o20)
  have C20 := own_cap o20
  have HC2 := Lib.hid (HC.out.trans (d20.mono HC.out.size))
  clear HC o20 d20 L0 L1 L2 L3 M0 M1 M2 M3 M4 M5 M6 M7 M8
  have HC := HC2
  clear HC2
  refine hK.out _ _ HC.out (fun _ => ?_)
  clear hK K
  refine oneH (i := 56) rfl (by kernel_rfl) (by rfl) (fun K hK => ?_)
  go_simp
  obtain ⟨L0, L1, L2, L3, M0, M1, M2, M3, M4, M5, M6, M7, M8⟩ := HL.out _ HC.out
  refine (HS3.out _ _ _ _ _ R20.out C20 L3 C3).mono ?_
  rintro e w21 ⟨rfl, d21⟩
  have HC2 := Lib.hid (HC.out.trans (d21.mono HC.out.size))
  clear HC d21 L0 L1 L2 L3 M0 M1 M2 M3 M4 M5 M6 M7 M8 R20 C20
  have HC := HC2
  clear HC2
  refine hK.out _ _ HC.out (fun _ => ?_)
  clear hK K
  refine takeH (i := 57) (v := ?_) rfl (by kernel_rfl) (by kernel_rfl) (by kernel_rfl) (fun _ _ _ h => h) (by rfl) ?_ HC.out ?_
  rotate_left
  · intro W hW; obtain ⟨L0, L1, L2, L3, M0, M1, M2, M3, M4, M5, M6, M7, M8⟩ := HL.out W hW; go_simp <;> with_reducible rfl
  simp only [Act.put, List.setIfInBounds_toArray, List.set_cons_zero, List.set_cons_succ]
  refine takeH (i := 58) (v := ?_) rfl (by kernel_rfl) (by kernel_rfl) (by kernel_rfl) (fun _ _ _ h => h) (by rfl) ?_ HC.out ?_
  rotate_left
  · intro W hW; obtain ⟨L0, L1, L2, L3, M0, M1, M2, M3, M4, M5, M6, M7, M8⟩ := HL.out W hW; go_simp <;> with_reducible rfl
  simp only [Act.put, List.setIfInBounds_toArray, List.set_cons_zero, List.set_cons_succ]
  refine oneH (i := 59) rfl (by kernel_rfl) (by rfl) (fun K hK => ?_)
  go_simp
  obtain ⟨L0, L1, L2, L3, M0, M1, M2, M3, M4, M5, M6, M7, M8⟩ := HL.out _ HC.out
  refine (wakesD_any _).mono ?_
  rintro e w22 ⟨rfl, d22⟩
  have HC2 := Lib.hid (HC.out.trans (d22.mono HC.out.size))
  clear HC d22 L0 L1 L2 L3 M0 M1 M2 M3 M4 M5 M6 M7 M8
  have HC := HC2
  clear HC2
  refine hK.out _ _ HC.out (fun _ => ?_)
  clear hK K
  refine takeH (i := 60) (v := ?_) rfl (by kernel_rfl) (by kernel_rfl) (by kernel_rfl) (fun _ _ _ h => h) (by rfl) ?_ HC.out ?_
  rotate_left
  · intro W hW; obtain ⟨L0, L1, L2, L3, M0, M1, M2, M3, M4, M5, M6, M7, M8⟩ := HL.out W hW; go_simp <;> with_reducible rfl
  simp only [Act.put, List.setIfInBounds_toArray, List.set_cons_zero, List.set_cons_succ]
  refine takeH (i := 61) (v := ?_) rfl (by kernel_rfl) (by kernel_rfl) (by kernel_rfl) (fun _ _ _ h => h) (by rfl) ?_ HC.out ?_
  rotate_left
  · intro W hW; obtain ⟨L0, L1, L2, L3, M0, M1, M2, M3, M4, M5, M6, M7, M8⟩ := HL.out W hW; go_simp <;> with_reducible rfl
  simp only [Act.put, List.setIfInBounds_toArray, List.set_cons_zero, List.set_cons_succ]
  refine wpAnyH_done (by kernel_rfl) ?_ _
  have BF := Lib.hid (HL.out _ HC.out).1
  go_wp2_with fail
  go_ret
  exact ⟨rfl, BF.out⟩

theorem diskOwn_walk (A : Option Addr) (n c : Nat) (s r nv m : Int) (bs : List Nat) (w : World) (hr : Rd w w.heap.size A n (bv bs)) (hby : ∀ x ∈ bs, x < 256) (hc : n ≤ c) :
    Calls Try.prog 6 #[diskV A n c s r, .int .i64 nv, .int .i64 m] w (TruePost w) := by
  by_cases hn : n ≤ 400
  · exact diskOwn_in A n c s r nv m bs w hr hc hby hn _ _ _ rfl
  · exact diskOwn_out A n c s r nv m w (by omega)

end Go.Proofs.Ytekffkoggnbgeaa
