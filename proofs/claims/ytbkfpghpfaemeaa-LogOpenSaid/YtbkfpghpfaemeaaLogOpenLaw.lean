/-
  The walk of the statement 'LogOpen': it answers true, and nothing that was there turns. Conditions: none.
-/
import Derived.Test.YtbkfpghpfaemeaaJ10
namespace Go.Proofs.Ytbkfpghpfaemeaa
open Go.RowKit Go.Shelf

set_option maxRecDepth 100000 in
set_option maxHeartbeats 800000 in
theorem logOpen_out (A : Option Addr) (n c : Nat) (s r : Int) (w : World) (h : 1500 < n) :
    Calls Try.prog 5 #[diskV A n c s r] w (TruePost w) := by
  have HB := Lib.hid ((Below.refl w.heap.size w).alloc (Nat.le_refl _) (diskB A n c s r))
  have HX := Lib.hid (Whole.new w 24 #[.slice A n c, .int .i64 s, .int .i64 r])
  obtain ⟨x0, x1, x2⟩ := HX.out.cells3
  have HG := Lib.hid (fun W => great_none A n c s r W)
  rw [show decide (1500 < n) = true by simpa using h] at HG
  clear h
  go_enter Try.func5, Try.ntmps5
  go_wp2_with fail
  refine (HG.out _).mono ?_
  rintro e w1 ⟨rfl, b1⟩
  have HB1 := Lib.hid (HB.out.trans (b1.mono HB.out.size))
  clear b1
  go_wp2_with fail
  refine (wakesL_any _).mono ?_
  rintro e w2 ⟨rfl, b2⟩
  have B2 := Lib.hid (HB1.out.trans (b2.mono HB1.out.size))
  clear b2
  go_wp2_with fail
  go_ret
  exact ⟨rfl, B2.out⟩

theorem long_log {W : World} {base : Nat} {A : Option Addr} {c : Nat} {L : List PR} (h : RecsAt base W (.slice A L.length c) L) (hL : allOk L) (hn : L.length ≤ 1000) : Calls Try.prog 20 #[.slice A L.length c] W fun e w' => e = .returned (.int .i64 ((lbytes L).length : Int)) ∧ Below W.heap.size W w' := by
  obtain ⟨es, he, hr⟩ := h.read
  have h1 := logLong_any A L.length c es L he _ W hr (Nat.le_refl _) hn
  unfold LenIs at h1
  rwa [lenOf_yes hL] at h1

set_option maxRecDepth 100000 in
set_option maxHeartbeats 8000000 in
theorem logOpen_in (A : Option Addr) (n c : Nat) (s r : Int) (bs : List Nat) (w : World) (hr : Rd w w.heap.size A n (bv bs)) (hc : n ≤ c) (hby : ∀ x ∈ bs, x < 256) (hn : n ≤ 1500) (ob : List Nat) (S R : Nat) (hD : cnt bs s r = ⟨ob, S, R⟩) (Lo : List PR) (uo : Nat) (hLo : LogIs ob Lo uo) (q : List Nat) (hq : ob.take uo = q) :
    Calls Try.prog 5 #[diskV A n c s r] w (TruePost w) := by
  have hok : (⟨ob, S, R⟩ : Dk).Ok := by rw [← hD]; exact cnt_ok s r hby
  have hbl : bs.length = n := by have := hr.1; rwa [bv_length] at this
  have hobn : ob.length ≤ n ∧ ob = bs.take ob.length := by
    have h1 := congrArg Dk.bs hD
    simp only [cnt] at h1
    constructor
    · rw [← h1, List.length_take]; omega
    · conv => lhs; rw [← h1]
      rw [← h1, List.length_take, List.take_eq_take_iff]; omega
  have hlR : ob.length ≤ R := hok.len
  have hR : R ≤ 65536 := hok.room
  have hle := hLo.le
  have hqu : q.length = uo := by rw [← hq, List.length_take]; omega
  have hqb : ∀ x ∈ q, x < 256 := fun x hx => hok.byte x (by rw [← hq] at hx; exact List.mem_of_mem_take hx)
  have hqL : q = lbytes Lo := by rw [← hq]; exact hLo.take
  have hqs : bs.take uo = q := by rw [← hq, hobn.2, List.take_take]; congr 1; omega
  have hlq : LogIs q Lo uo := by rw [hqL, hLo.used]; exact logIs_all hLo.ok
  have hcq : cnt q uo R = ⟨q, uo, R⟩ := cnt_at (by omega) (by omega) hR hqb
  have hqt : q.take uo = q := List.take_of_length_le (by omega)
  have hlenLo : Lo.length ≤ 1000 := by have h1 := lbytes_ge Lo; rw [← hLo.used] at h1; omega
  have HD0 := Lib.hid (DAt.start (c := c) (s := s) (r := r) hr)
  have HG := Lib.hid (great_none A n c s r (w.alloc (diskB A n c s r)))
  rw [show decide (1500 < n) = false by simpa using hn] at HG
  have HOp : Hid (∀ W, Rd W W.heap.size A n (bv bs) → Calls Try.prog 14 #[diskV A n c s r] W (OpenIs ob R Lo uo W)) := fun W h => logOpen_any A n c s r bs W h hc hby hD hLo
  have HOp2 : Hid (∀ W A c, Rd W W.heap.size A uo (bv q) → uo ≤ c → Calls Try.prog 14 #[diskV A uo c uo R] W (OpenIs q R Lo uo W)) := fun W A c h hc => logOpen_any A uo c uo R q W h hc hqb hcq hlq
  have HSc : Hid (∀ W A c, Rd W W.heap.size A uo (bv q) → uo ≤ c → Calls Try.prog 10 #[.slice A uo c] W (ScanIs Lo uo W)) := fun W A c h hc => scan_any A uo c q Lo uo W.heap.size W hlq h (Nat.le_refl _) hqb (by omega) hc
  have HSD : Hid (∀ W A A' c c', Rd W W.heap.size A uo (bv q) → uo ≤ c → Rd W W.heap.size A' uo (bv q) → uo ≤ c' → Calls Try.prog 17 #[diskV A uo c uo R, diskV A' uo c' uo R] W (BoolPost true W)) := fun W A A' c c' h hc h' hc' => by
    have h1 := refSame_any A uo c uo R q A' uo c' uo R q W h hc (by omega) hqb h' hc' (by omega) hqb hcq hqu hcq hqu
    rw [show decide ((⟨q, uo, R⟩ : Dk) = ⟨q, uo, R⟩) = true by simp] at h1
    exact h1
  have HS : Hid (∀ W base base' A A' c c', RecsAt base W (.slice A Lo.length c) Lo → RecsAt base' W (.slice A' Lo.length c') Lo → Calls Try.prog 16 #[.slice A Lo.length c, .slice A' Lo.length c'] W (BoolPost true W)) := fun W base base' A A' c c' h h' => by
    have h1 := same_logs h h' hLo.ok (by omega)
    rwa [sameR_self] at h1
  have HLo : Hid (∀ W base A c, RecsAt base W (.slice A Lo.length c) Lo → Calls Try.prog 20 #[.slice A Lo.length c] W fun e w' => e = .returned (.int .i64 (uo : Int)) ∧ Below W.heap.size W w') := fun W base A c h => by
    have h1 := long_log h hLo.ok hlenLo
    rwa [← hLo.used] at h1
  have huc : uo ≤ c := by omega
  have hH : ∀ W : World, (Instr.slice 22 (.slice A n c) none (some (.int .i64 (uo : Int))) none).run Try.prog W = .ok (.slice A uo c) W := fun W => run_head A n c uo huc W
  have hunI : (uo : Int) ≤ (n : Int) := by omega
  have d1 : decide (uo ≤ n) = true := by rw [decide_eq_true_eq]; omega
  have huc2 : (uo : Int) ≤ (c : Int) := by omega
  obtain ⟨st, hst⟩ : ∃ st, strB q = st := ⟨_, rfl⟩
  have HStr : Hid (∀ W A c, Rd W W.heap.size A uo (bv q) → (convert 22 9 (.slice A uo c)).run Try.prog W = .ok (.string st) W) := fun W A c h => by rw [← hst]; exact run_string W A uo c q _ h
  have HTk : Hid (∀ W, Rd W W.heap.size A n (bv bs) → Rd W W.heap.size A uo (bv q)) := fun W h => by
    have h1 := h.take (k := uo) (by omega)
    rw [bv, ← List.map_take, hqs] at h1
    exact h1
  have HQt := Lib.hid hqt
  have HQ := Lib.hid hq
  obtain ⟨x0, x1, x2⟩ := HD0.out.box.cells3
  clear hr hby hD hok hlR hR hLo hn hbl hobn hle hqu hqb hqL hqs hlq hcq hqt hlenLo hst hq
  go_enter Try.func5, Try.ntmps5
  go_wp2_with fail
  refine (HG.out).mono ?_
  rintro e w1 ⟨rfl, b1⟩
  have HD1 := Lib.hid (HD0.out.under b1)
  clear b1 x0 x1 x2 HG
  obtain ⟨x0, x1, x2⟩ := HD1.out.box.cells3
  go_wp2_with fail
  refine (HOp.out _ HD1.out.rd).mono ?_
  rintro e w2 ⟨A2, c2, Al2, cl2, rfl, o2, r2, b2⟩
  rw [HQ.out] at o2
  have b2' := b2.alloc b2.size (.cells #[.slice A2 uo c2, .int .i64 uo, .int .i64 R] 24)
  have hal := (Below.refl w2.heap.size w2).alloc (Nat.le_refl _) (.cells #[.slice A2 uo c2, .int .i64 uo, .int .i64 R] 24)
  have HD2 := Lib.hid (HD1.out.under b2')
  have HR2 := Lib.hid (r2.under hal)
  have HO2 := Lib.hid (own_under o2 hal)
  have HC2 := Lib.hid (own_cap o2)
  have HX2 := Lib.hid (Whole.new w2 24 #[.slice A2 uo c2, .int .i64 uo, .int .i64 R])
  clear b2 b2' r2 o2 hal x0 x1 x2
  obtain ⟨x0, x1, x2⟩ := HX2.out.cells3
  go_wp2_with fail
  refine (HOp2.out _ _ _ (Rd.of_own HO2.out) HC2.out).mono ?_
  rintro e w3 ⟨A3, c3, Al3, cl3, rfl, o3, r3, b3⟩
  rw [HQt.out] at o3
  have b3' := b3.alloc b3.size (.cells #[.slice A3 uo c3, .int .i64 uo, .int .i64 R] 24)
  have hal := (Below.refl w3.heap.size w3).alloc (Nat.le_refl _) (.cells #[.slice A3 uo c3, .int .i64 uo, .int .i64 R] 24)
  have HD3 := Lib.hid (HD2.out.under b3')
  have HR3 := Lib.hid (HR2.out.under b3')
  have HO3 := Lib.hid (own_under HO2.out b3')
  have HX3 := Lib.hid (HX2.out.under b3')
  have HS3 := Lib.hid (r3.under hal)
  have HP3 := Lib.hid (own_under o3 hal)
  have HC3 := Lib.hid (own_cap o3)
  have HY3 := Lib.hid (Whole.new w3 24 #[.slice A3 uo c3, .int .i64 uo, .int .i64 R])
  clear b3 b3' r3 o3 hal x0 x1 x2
  obtain ⟨x0, x1, x2⟩ := HX3.out.cells3
  go_wp2_with fail
  refine (HSc.out _ _ _ (Rd.of_own HO3.out) HC2.out).mono ?_
  rintro e W0 ⟨A4, c4, rfl, _, b4⟩
  have HD4 := Lib.hid (HD3.out.under b4)
  have HR4 := Lib.hid (HR3.out.under b4)
  have HO4 := Lib.hid (own_under HO3.out b4)
  have HX4 := Lib.hid (HX3.out.under b4)
  have HS4 := Lib.hid (HS3.out.under b4)
  have HP4 := Lib.hid (own_under HP3.out b4)
  have HY4 := Lib.hid (HY3.out.under b4)
  clear b4 x0 x1 x2 HD3 HR3 HO3 HX3 HS3 HP3 HY3 HD2 HR2 HO2 HX2 HD1 HD0
  have HL : Hid (∀ W, Below W0.heap.size W0 W → W.cell? ⟨w.heap.size, 0, none⟩ = some (.slice A n c) ∧
      W.cell? ⟨w2.heap.size, 0, none⟩ = some (.slice A2 uo c2) ∧ W.cell? ⟨w2.heap.size, 1, none⟩ = some (.int .i64 uo) ∧ W.cell? ⟨w2.heap.size, 2, none⟩ = some (.int .i64 R) ∧
      W.cell? ⟨w3.heap.size, 0, none⟩ = some (.slice A3 uo c3) ∧ W.cell? ⟨w3.heap.size, 1, none⟩ = some (.int .i64 uo) ∧ W.cell? ⟨w3.heap.size, 2, none⟩ = some (.int .i64 R) ∧
      (convert 22 9 (.slice A2 uo c2)).run Try.prog W = .ok (.string st) W ∧ (convert 22 9 (.slice A uo c)).run Try.prog W = .ok (.string st) W ∧
      Rd W W.heap.size A2 uo (bv q) ∧ Rd W W.heap.size A3 uo (bv q) ∧ RecsAt w1.heap.size W (.slice Al2 Lo.length cl2) Lo ∧ RecsAt (w2.alloc (.cells #[.slice A2 uo c2, .int .i64 uo, .int .i64 R] 24)).heap.size W (.slice Al3 Lo.length cl3) Lo ∧ Below w.heap.size w W) := fun W hW => by
    have g := HD4.out.under hW
    have g2 := (HX4.out.under hW).cells3
    have g3 := (HY4.out.under hW).cells3
    have r2 := Rd.of_own (own_under HO4.out hW)
    exact ⟨g.box.cell 0, g2.1, g2.2.1, g2.2.2, g3.1, g3.2.1, g3.2.2, HStr.out _ _ _ r2, HStr.out _ _ _ (HTk.out _ g.rd), r2, Rd.of_own (own_under HP4.out hW), HR4.out.under hW, HS4.out.under hW, g.below⟩
  have HC := Lib.hid ((Below.refl W0.heap.size W0).drew)
  clear HD4 HR4 HO4 HX4 HS4 HP4 HY4
  go_wp2_with fail
  refine wp_region_held_drew (S := fun W => Below W0.heap.size W0 W) (by kernel_rfl) HC.out (fun _ => ?_)
  refine takeH (i := 0) (v := ?_) rfl (by kernel_rfl) (by kernel_rfl) (by kernel_rfl) (fun _ _ _ h => h) (by rfl) ?_ HC.out ?_
  rotate_left
  · intro W hW; obtain ⟨K0, L0, L1, L2, M0, M1, M2, T0, T1, R2, R3, G1, G2, BA⟩ := HL.out W hW; go_simp <;> with_reducible rfl
  simp only [Act.put, List.setIfInBounds_toArray, List.set_cons_zero, List.set_cons_succ]
  refine takeH (i := 1) (v := ?_) rfl (by kernel_rfl) (by kernel_rfl) (by kernel_rfl) (fun _ _ _ h => h) (by rfl) ?_ HC.out ?_
  rotate_left
  · intro W hW; obtain ⟨K0, L0, L1, L2, M0, M1, M2, T0, T1, R2, R3, G1, G2, BA⟩ := HL.out W hW; go_simp <;> with_reducible rfl
  simp only [Act.put, List.setIfInBounds_toArray, List.set_cons_zero, List.set_cons_succ]
  refine oneH (i := 2) rfl (by kernel_rfl) (by rfl) (fun K hK => ?_)
  go_simp
  obtain ⟨K0, L0, L1, L2, M0, M1, M2, T0, T1, R2, R3, G1, G2, BA⟩ := HL.out _ HC.out
  refine (HSD.out _ _ _ _ _ R2 HC2.out R3 HC3.out).mono ?_
  rintro e w11 ⟨rfl, d11⟩
  have HC9 := Lib.hid (HC.out.trans (d11.mono HC.out.size))
  clear HC d11 K0 L0 L1 L2 M0 M1 M2 T0 T1 R2 R3 G1 G2 BA
  have HC := HC9
  clear HC9
  refine hK.out _ _ HC.out (fun _ => ?_)
  clear hK K
  refine takeH (i := 3) (v := ?_) rfl (by kernel_rfl) (by kernel_rfl) (by kernel_rfl) (fun _ _ _ h => h) (by rfl) ?_ HC.out ?_
  rotate_left
  · intro W hW; obtain ⟨K0, L0, L1, L2, M0, M1, M2, T0, T1, R2, R3, G1, G2, BA⟩ := HL.out W hW; go_simp <;> with_reducible rfl
  simp only [Act.put, List.setIfInBounds_toArray, List.set_cons_zero, List.set_cons_succ]
  refine takeH (i := 4) (v := ?_) rfl (by kernel_rfl) (by kernel_rfl) (by kernel_rfl) (fun _ _ _ h => h) (by rfl) ?_ HC.out ?_
  rotate_left
  · intro W hW; obtain ⟨K0, L0, L1, L2, M0, M1, M2, T0, T1, R2, R3, G1, G2, BA⟩ := HL.out W hW; go_simp <;> with_reducible rfl
  simp only [Act.put, List.setIfInBounds_toArray, List.set_cons_zero, List.set_cons_succ]
  refine takeH (i := 5) (v := ?_) rfl (by kernel_rfl) (by kernel_rfl) (by kernel_rfl) (fun _ _ _ h => h) (by rfl) ?_ HC.out ?_
  rotate_left
  · intro W hW; obtain ⟨K0, L0, L1, L2, M0, M1, M2, T0, T1, R2, R3, G1, G2, BA⟩ := HL.out W hW; go_simp <;> with_reducible rfl
  simp only [Act.put, List.setIfInBounds_toArray, List.set_cons_zero, List.set_cons_succ]
  refine oneH (i := 6) rfl (by kernel_rfl) (by rfl) (fun K hK => ?_)
  go_simp
  obtain ⟨K0, L0, L1, L2, M0, M1, M2, T0, T1, R2, R3, G1, G2, BA⟩ := HL.out _ HC.out
  refine (HS.out _ _ _ _ _ _ _ G1 G2).mono ?_
  rintro e w12 ⟨rfl, d12⟩
  have HC9 := Lib.hid (HC.out.trans (d12.mono HC.out.size))
  clear HC d12 K0 L0 L1 L2 M0 M1 M2 T0 T1 R2 R3 G1 G2 BA
  have HC := HC9
  clear HC9
  refine hK.out _ _ HC.out (fun _ => ?_)
  clear hK K
  refine takeH (i := 7) (v := ?_) rfl (by kernel_rfl) (by kernel_rfl) (by kernel_rfl) (fun _ _ _ h => h) (by rfl) ?_ HC.out ?_
  rotate_left
  · intro W hW; obtain ⟨K0, L0, L1, L2, M0, M1, M2, T0, T1, R2, R3, G1, G2, BA⟩ := HL.out W hW; go_simp <;> with_reducible rfl
  simp only [Act.put, List.setIfInBounds_toArray, List.set_cons_zero, List.set_cons_succ]
  refine takeH (i := 8) (v := ?_) rfl (by kernel_rfl) (by kernel_rfl) (by kernel_rfl) (fun _ _ _ h => h) (by rfl) ?_ HC.out ?_
  rotate_left
  · intro W hW; obtain ⟨K0, L0, L1, L2, M0, M1, M2, T0, T1, R2, R3, G1, G2, BA⟩ := HL.out W hW; go_simp <;> with_reducible rfl
  simp only [Act.put, List.setIfInBounds_toArray, List.set_cons_zero, List.set_cons_succ]
  refine takeH (i := 9) (v := ?_) rfl (by kernel_rfl) (by kernel_rfl) (by kernel_rfl) (fun _ _ _ h => h) (by rfl) ?_ HC.out ?_
  rotate_left
  · intro W hW; obtain ⟨K0, L0, L1, L2, M0, M1, M2, T0, T1, R2, R3, G1, G2, BA⟩ := HL.out W hW; go_simp <;> with_reducible rfl
  simp only [Act.put, List.setIfInBounds_toArray, List.set_cons_zero, List.set_cons_succ]
  refine takeH (i := 10) (v := ?_) rfl (by kernel_rfl) (by kernel_rfl) (by kernel_rfl) (fun _ _ _ h => h) (by rfl) ?_ HC.out ?_
  rotate_left
  · intro W hW; obtain ⟨K0, L0, L1, L2, M0, M1, M2, T0, T1, R2, R3, G1, G2, BA⟩ := HL.out W hW; go_simp <;> with_reducible rfl
  simp only [Act.put, List.setIfInBounds_toArray, List.set_cons_zero, List.set_cons_succ]
  refine takeH (i := 11) (v := ?_) rfl (by kernel_rfl) (by kernel_rfl) (by kernel_rfl) (fun _ _ _ h => h) (by rfl) ?_ HC.out ?_
  rotate_left
  · intro W hW; obtain ⟨K0, L0, L1, L2, M0, M1, M2, T0, T1, R2, R3, G1, G2, BA⟩ := HL.out W hW; go_simp <;> with_reducible rfl
  simp only [Act.put, List.setIfInBounds_toArray, List.set_cons_zero, List.set_cons_succ]
  refine takeH (i := 12) (v := ?_) rfl (by kernel_rfl) (by kernel_rfl) (by kernel_rfl) (fun _ _ _ h => h) (by rfl) ?_ HC.out ?_
  rotate_left
  · intro W hW; obtain ⟨K0, L0, L1, L2, M0, M1, M2, T0, T1, R2, R3, G1, G2, BA⟩ := HL.out W hW; go_simp <;> with_reducible rfl
  simp only [Act.put, List.setIfInBounds_toArray, List.set_cons_zero, List.set_cons_succ]
  refine takeH (i := 13) (v := ?_) rfl (by kernel_rfl) (by kernel_rfl) (by kernel_rfl) (fun _ _ _ h => h) (by rfl) ?_ HC.out ?_
  rotate_left
  · intro W hW; obtain ⟨K0, L0, L1, L2, M0, M1, M2, T0, T1, R2, R3, G1, G2, BA⟩ := HL.out W hW; go_simp <;> with_reducible rfl
  simp only [Act.put, List.setIfInBounds_toArray, List.set_cons_zero, List.set_cons_succ]
  refine takeH (i := 14) (v := ?_) rfl (by kernel_rfl) (by kernel_rfl) (by kernel_rfl) (fun _ _ _ h => h) (by rfl) ?_ HC.out ?_
  rotate_left
  · intro W hW; obtain ⟨K0, L0, L1, L2, M0, M1, M2, T0, T1, R2, R3, G1, G2, BA⟩ := HL.out W hW; go_simp <;> with_reducible rfl
  simp only [Act.put, List.setIfInBounds_toArray, List.set_cons_zero, List.set_cons_succ]
  refine takeH (i := 15) (v := ?_) rfl (by kernel_rfl) (by kernel_rfl) (by kernel_rfl) (fun _ _ _ h => h) (by rfl) ?_ HC.out ?_
  rotate_left
  · intro W hW; obtain ⟨K0, L0, L1, L2, M0, M1, M2, T0, T1, R2, R3, G1, G2, BA⟩ := HL.out W hW; go_simp <;> with_reducible rfl
  simp only [Act.put, List.setIfInBounds_toArray, List.set_cons_zero, List.set_cons_succ]
  refine takeH (i := 16) (v := ?_) rfl (by kernel_rfl) (by kernel_rfl) (by kernel_rfl) (fun _ _ _ h => h) (by rfl) ?_ HC.out ?_
  rotate_left
  · intro W hW; obtain ⟨K0, L0, L1, L2, M0, M1, M2, T0, T1, R2, R3, G1, G2, BA⟩ := HL.out W hW; go_simp <;> with_reducible rfl
  simp only [Act.put, List.setIfInBounds_toArray, List.set_cons_zero, List.set_cons_succ]
  refine takeH (i := 17) (v := ?_) rfl (by kernel_rfl) (by kernel_rfl) (by kernel_rfl) (fun _ _ _ h => h) (by rfl) ?_ HC.out ?_
  rotate_left
  · intro W hW; obtain ⟨K0, L0, L1, L2, M0, M1, M2, T0, T1, R2, R3, G1, G2, BA⟩ := HL.out W hW; go_simp <;> with_reducible rfl
  simp only [Act.put, List.setIfInBounds_toArray, List.set_cons_zero, List.set_cons_succ]
  refine takeH (i := 18) (v := ?_) rfl (by kernel_rfl) (by kernel_rfl) (by kernel_rfl) (fun _ _ _ h => h) (by rfl) ?_ HC.out ?_
  rotate_left
  · intro W hW; obtain ⟨K0, L0, L1, L2, M0, M1, M2, T0, T1, R2, R3, G1, G2, BA⟩ := HL.out W hW; go_simp <;> with_reducible rfl
  simp only [Act.put, List.setIfInBounds_toArray, List.set_cons_zero, List.set_cons_succ]
  refine takeH (i := 19) (v := ?_) rfl (by kernel_rfl) (by kernel_rfl) (by kernel_rfl) (fun _ _ _ h => h) (by rfl) ?_ HC.out ?_
  rotate_left
  · intro W hW; obtain ⟨K0, L0, L1, L2, M0, M1, M2, T0, T1, R2, R3, G1, G2, BA⟩ := HL.out W hW; go_simp <;> with_reducible rfl
  simp only [Act.put, List.setIfInBounds_toArray, List.set_cons_zero, List.set_cons_succ]
  refine takeH (i := 20) (v := ?_) rfl (by kernel_rfl) (by kernel_rfl) (by kernel_rfl) (fun _ _ _ h => h) (by rfl) ?_ HC.out ?_
  rotate_left
  · intro W hW; obtain ⟨K0, L0, L1, L2, M0, M1, M2, T0, T1, R2, R3, G1, G2, BA⟩ := HL.out W hW; go_simp <;> with_reducible rfl
  simp only [Act.put, List.setIfInBounds_toArray, List.set_cons_zero, List.set_cons_succ]
  refine takeH (i := 21) (v := ?_) rfl (by kernel_rfl) (by kernel_rfl) (by kernel_rfl) (fun _ _ _ h => h) (by rfl) ?_ HC.out ?_
  rotate_left
  · intro W hW; obtain ⟨K0, L0, L1, L2, M0, M1, M2, T0, T1, R2, R3, G1, G2, BA⟩ := HL.out W hW; go_simp <;> with_reducible rfl
  simp only [Act.put, List.setIfInBounds_toArray, List.set_cons_zero, List.set_cons_succ]
  refine takeH (i := 22) (v := ?_) rfl (by kernel_rfl) (by kernel_rfl) (by kernel_rfl) (fun _ _ _ h => h) (by rfl) ?_ HC.out ?_
  rotate_left
  · intro W hW; obtain ⟨K0, L0, L1, L2, M0, M1, M2, T0, T1, R2, R3, G1, G2, BA⟩ := HL.out W hW; go_simp <;> with_reducible rfl
  simp only [Act.put, List.setIfInBounds_toArray, List.set_cons_zero, List.set_cons_succ]
  refine takeH (i := 24) (v := ?_) rfl (by kernel_rfl) (by kernel_rfl) (by kernel_rfl) (fun _ _ _ h => h) (by rfl) ?_ HC.out ?_
  rotate_left
  · intro W hW; obtain ⟨K0, L0, L1, L2, M0, M1, M2, T0, T1, R2, R3, G1, G2, BA⟩ := HL.out W hW; go_simp <;> with_reducible rfl
  simp only [Act.put, List.setIfInBounds_toArray, List.set_cons_zero, List.set_cons_succ]
  refine oneH (i := 23) rfl (by kernel_rfl) (by rfl) (fun K hK => ?_)
  go_simp
  obtain ⟨K0, L0, L1, L2, M0, M1, M2, T0, T1, R2, R3, G1, G2, BA⟩ := HL.out _ HC.out
  refine (HLo.out _ _ _ _ G1).mono ?_
  rintro e w13 ⟨rfl, d13⟩
  have HC9 := Lib.hid (HC.out.trans (d13.mono HC.out.size))
  clear HC d13 K0 L0 L1 L2 M0 M1 M2 T0 T1 R2 R3 G1 G2 BA
  have HC := HC9
  clear HC9
  refine hK.out _ _ HC.out (fun _ => ?_)
  clear hK K
  refine takeH (i := 25) (v := ?_) rfl (by kernel_rfl) (by kernel_rfl) (by kernel_rfl) (fun _ _ _ h => h) (by rfl) ?_ HC.out ?_
  rotate_left
  · intro W hW; obtain ⟨K0, L0, L1, L2, M0, M1, M2, T0, T1, R2, R3, G1, G2, BA⟩ := HL.out W hW; go_simp <;> with_reducible rfl
  simp only [Act.put, List.setIfInBounds_toArray, List.set_cons_zero, List.set_cons_succ]
  refine takeH (i := 26) (v := ?_) rfl (by kernel_rfl) (by kernel_rfl) (by kernel_rfl) (fun _ _ _ h => h) (by rfl) ?_ HC.out ?_
  rotate_left
  · intro W hW; obtain ⟨K0, L0, L1, L2, M0, M1, M2, T0, T1, R2, R3, G1, G2, BA⟩ := HL.out W hW; go_simp <;> with_reducible rfl
  simp only [Act.put, List.setIfInBounds_toArray, List.set_cons_zero, List.set_cons_succ]
  refine takeH (i := 27) (v := ?_) rfl (by kernel_rfl) (by kernel_rfl) (by kernel_rfl) (fun _ _ _ h => h) (by rfl) ?_ HC.out ?_
  rotate_left
  · intro W hW; obtain ⟨K0, L0, L1, L2, M0, M1, M2, T0, T1, R2, R3, G1, G2, BA⟩ := HL.out W hW; go_simp <;> with_reducible rfl
  simp only [Act.put, List.setIfInBounds_toArray, List.set_cons_zero, List.set_cons_succ]
  refine takeH (i := 28) (v := ?_) rfl (by kernel_rfl) (by kernel_rfl) (by kernel_rfl) (fun _ _ _ h => h) (by rfl) ?_ HC.out ?_
  rotate_left
  · intro W hW; obtain ⟨K0, L0, L1, L2, M0, M1, M2, T0, T1, R2, R3, G1, G2, BA⟩ := HL.out W hW; go_simp <;> with_reducible rfl
  simp only [Act.put, List.setIfInBounds_toArray, List.set_cons_zero, List.set_cons_succ]
  refine takeH (i := 29) (v := ?_) rfl (by kernel_rfl) (by kernel_rfl) (by kernel_rfl) (fun _ _ _ h => h) (by rfl) ?_ HC.out ?_
  rotate_left
  · intro W hW; obtain ⟨K0, L0, L1, L2, M0, M1, M2, T0, T1, R2, R3, G1, G2, BA⟩ := HL.out W hW; go_simp <;> with_reducible rfl
  simp only [Act.put, List.setIfInBounds_toArray, List.set_cons_zero, List.set_cons_succ]
  refine takeH (i := 30) (v := ?_) rfl (by kernel_rfl) (by kernel_rfl) (by kernel_rfl) (fun _ _ _ h => h) (by rfl) ?_ HC.out ?_
  rotate_left
  · intro W hW; obtain ⟨K0, L0, L1, L2, M0, M1, M2, T0, T1, R2, R3, G1, G2, BA⟩ := HL.out W hW; go_simp <;> with_reducible rfl
  simp only [Act.put, List.setIfInBounds_toArray, List.set_cons_zero, List.set_cons_succ]
  refine takeH (i := 31) (v := ?_) rfl (by kernel_rfl) (by kernel_rfl) (by kernel_rfl) (fun _ _ _ h => h) (by rfl) ?_ HC.out ?_
  rotate_left
  · intro W hW; obtain ⟨K0, L0, L1, L2, M0, M1, M2, T0, T1, R2, R3, G1, G2, BA⟩ := HL.out W hW; go_simp <;> with_reducible rfl
  simp only [Act.put, List.setIfInBounds_toArray, List.set_cons_zero, List.set_cons_succ]
  refine takeH (i := 32) (v := ?_) rfl (by kernel_rfl) (by kernel_rfl) (by kernel_rfl) (fun _ _ _ h => h) (by rfl) ?_ HC.out ?_
  rotate_left
  · intro W hW; obtain ⟨K0, L0, L1, L2, M0, M1, M2, T0, T1, R2, R3, G1, G2, BA⟩ := HL.out W hW; go_simp <;> with_reducible rfl
  simp only [Act.put, List.setIfInBounds_toArray, List.set_cons_zero, List.set_cons_succ]
  refine takeH (i := 33) (v := ?_) rfl (by kernel_rfl) (by kernel_rfl) (by kernel_rfl) (fun _ _ _ h => h) (by rfl) ?_ HC.out ?_
  rotate_left
  · intro W hW; obtain ⟨K0, L0, L1, L2, M0, M1, M2, T0, T1, R2, R3, G1, G2, BA⟩ := HL.out W hW; go_simp <;> with_reducible rfl
  simp only [Act.put, List.setIfInBounds_toArray, List.set_cons_zero, List.set_cons_succ]
  refine takeH (i := 34) (v := ?_) rfl (by kernel_rfl) (by kernel_rfl) (by kernel_rfl) (fun _ _ _ h => h) (by rfl) ?_ HC.out ?_
  rotate_left
  · intro W hW; obtain ⟨K0, L0, L1, L2, M0, M1, M2, T0, T1, R2, R3, G1, G2, BA⟩ := HL.out W hW; go_simp <;> with_reducible rfl
  simp only [Act.put, List.setIfInBounds_toArray, List.set_cons_zero, List.set_cons_succ]
  refine takeH (i := 35) (v := ?_) rfl (by kernel_rfl) (by kernel_rfl) (by kernel_rfl) (fun _ _ _ h => h) (by rfl) ?_ HC.out ?_
  rotate_left
  · intro W hW; obtain ⟨K0, L0, L1, L2, M0, M1, M2, T0, T1, R2, R3, G1, G2, BA⟩ := HL.out W hW; go_simp <;> with_reducible rfl
  simp only [Act.put, List.setIfInBounds_toArray, List.set_cons_zero, List.set_cons_succ]
  refine takeH (i := 36) (v := ?_) rfl (by kernel_rfl) (by kernel_rfl) (by kernel_rfl) (fun _ _ _ h => h) (by rfl) ?_ HC.out ?_
  rotate_left
  · intro W hW; obtain ⟨K0, L0, L1, L2, M0, M1, M2, T0, T1, R2, R3, G1, G2, BA⟩ := HL.out W hW; go_simp <;> with_reducible rfl
  simp only [Act.put, List.setIfInBounds_toArray, List.set_cons_zero, List.set_cons_succ]
  refine takeH (i := 37) (v := ?_) rfl (by kernel_rfl) (by kernel_rfl) (by kernel_rfl) (fun _ _ _ h => h) (by rfl) ?_ HC.out ?_
  rotate_left
  · intro W hW; obtain ⟨K0, L0, L1, L2, M0, M1, M2, T0, T1, R2, R3, G1, G2, BA⟩ := HL.out W hW; go_simp <;> with_reducible rfl
  simp only [Act.put, List.setIfInBounds_toArray, List.set_cons_zero, List.set_cons_succ]
  refine takeH (i := 38) (v := ?_) rfl (by kernel_rfl) (by kernel_rfl) (by kernel_rfl) (fun _ _ _ h => h) (by rfl) ?_ HC.out ?_
  rotate_left
  · intro W hW; obtain ⟨K0, L0, L1, L2, M0, M1, M2, T0, T1, R2, R3, G1, G2, BA⟩ := HL.out W hW; go_simp <;> with_reducible rfl
  simp only [Act.put, List.setIfInBounds_toArray, List.set_cons_zero, List.set_cons_succ]
  refine takeH (i := 39) (v := ?_) rfl (by kernel_rfl) (by kernel_rfl) (by kernel_rfl) (fun _ _ _ h => h) (by rfl) ?_ HC.out ?_
  rotate_left
  · intro W hW; obtain ⟨K0, L0, L1, L2, M0, M1, M2, T0, T1, R2, R3, G1, G2, BA⟩ := HL.out W hW; go_simp <;> with_reducible rfl
  simp only [Act.put, List.setIfInBounds_toArray, List.set_cons_zero, List.set_cons_succ]
  refine takeH (i := 40) (v := ?_) rfl (by kernel_rfl) (by kernel_rfl) (by kernel_rfl) (fun _ _ _ h => h) (by rfl) ?_ HC.out ?_
  rotate_left
  · intro W hW; obtain ⟨K0, L0, L1, L2, M0, M1, M2, T0, T1, R2, R3, G1, G2, BA⟩ := HL.out W hW; go_simp <;> with_reducible rfl
  simp only [Act.put, List.setIfInBounds_toArray, List.set_cons_zero, List.set_cons_succ]
  refine takeH (i := 41) (v := ?_) rfl (by kernel_rfl) (by kernel_rfl) (by kernel_rfl) (fun _ _ _ h => h) (by rfl) ?_ HC.out ?_
  rotate_left
  · intro W hW; obtain ⟨K0, L0, L1, L2, M0, M1, M2, T0, T1, R2, R3, G1, G2, BA⟩ := HL.out W hW; go_simp <;> with_reducible rfl
  simp only [Act.put, List.setIfInBounds_toArray, List.set_cons_zero, List.set_cons_succ]
  refine takeH (i := 42) (v := ?_) rfl (by kernel_rfl) (by kernel_rfl) (by kernel_rfl) (fun _ _ _ h => h) (by rfl) ?_ HC.out ?_
  rotate_left
  · intro W hW; obtain ⟨K0, L0, L1, L2, M0, M1, M2, T0, T1, R2, R3, G1, G2, BA⟩ := HL.out W hW; go_simp <;> with_reducible rfl
  simp only [Act.put, List.setIfInBounds_toArray, List.set_cons_zero, List.set_cons_succ]
  refine takeH (i := 43) (v := ?_) rfl (by kernel_rfl) (by kernel_rfl) (by kernel_rfl) (fun _ _ _ h => h) (by rfl) ?_ HC.out ?_
  rotate_left
  · intro W hW; obtain ⟨K0, L0, L1, L2, M0, M1, M2, T0, T1, R2, R3, G1, G2, BA⟩ := HL.out W hW; go_simp <;> with_reducible rfl
  simp only [Act.put, List.setIfInBounds_toArray, List.set_cons_zero, List.set_cons_succ]
  refine takeH (i := 44) (v := ?_) rfl (by kernel_rfl) (by kernel_rfl) (by kernel_rfl) (fun _ _ _ h => h) (by rfl) ?_ HC.out ?_
  rotate_left
  · intro W hW; obtain ⟨K0, L0, L1, L2, M0, M1, M2, T0, T1, R2, R3, G1, G2, BA⟩ := HL.out W hW; go_simp <;> with_reducible rfl
  simp only [Act.put, List.setIfInBounds_toArray, List.set_cons_zero, List.set_cons_succ]
  refine takeH (i := 45) (v := ?_) rfl (by kernel_rfl) (by kernel_rfl) (by kernel_rfl) (fun _ _ _ h => h) (by rfl) ?_ HC.out ?_
  rotate_left
  · intro W hW; obtain ⟨K0, L0, L1, L2, M0, M1, M2, T0, T1, R2, R3, G1, G2, BA⟩ := HL.out W hW; go_simp <;> with_reducible rfl
  simp only [Act.put, List.setIfInBounds_toArray, List.set_cons_zero, List.set_cons_succ]
  refine takeH (i := 46) (v := ?_) rfl (by kernel_rfl) (by kernel_rfl) (by kernel_rfl) (fun _ _ _ h => h) (by rfl) ?_ HC.out ?_
  rotate_left
  · intro W hW; obtain ⟨K0, L0, L1, L2, M0, M1, M2, T0, T1, R2, R3, G1, G2, BA⟩ := HL.out W hW; go_simp <;> with_reducible rfl
  simp only [Act.put, List.setIfInBounds_toArray, List.set_cons_zero, List.set_cons_succ]
  refine takeH (i := 47) (v := ?_) rfl (by kernel_rfl) (by kernel_rfl) (by kernel_rfl) (fun _ _ _ h => h) (by rfl) ?_ HC.out ?_
  rotate_left
  · intro W hW; obtain ⟨K0, L0, L1, L2, M0, M1, M2, T0, T1, R2, R3, G1, G2, BA⟩ := HL.out W hW; go_simp <;> with_reducible rfl
  simp only [Act.put, List.setIfInBounds_toArray, List.set_cons_zero, List.set_cons_succ]
  refine takeH (i := 48) (v := ?_) rfl (by kernel_rfl) (by kernel_rfl) (by kernel_rfl) (fun _ _ _ h => h) (by rfl) ?_ HC.out ?_
  rotate_left
  · intro W hW; obtain ⟨K0, L0, L1, L2, M0, M1, M2, T0, T1, R2, R3, G1, G2, BA⟩ := HL.out W hW; go_simp <;> with_reducible rfl
  simp only [Act.put, List.setIfInBounds_toArray, List.set_cons_zero, List.set_cons_succ]
  refine takeH (i := 49) (v := ?_) rfl (by kernel_rfl) (by kernel_rfl) (by kernel_rfl) (fun _ _ _ h => h) (by rfl) ?_ HC.out ?_
  rotate_left
  · intro W hW; obtain ⟨K0, L0, L1, L2, M0, M1, M2, T0, T1, R2, R3, G1, G2, BA⟩ := HL.out W hW; go_simp <;> with_reducible rfl
  simp only [Act.put, List.setIfInBounds_toArray, List.set_cons_zero, List.set_cons_succ]
  refine oneH (i := 50) rfl (by kernel_rfl) (by rfl) (fun K hK => ?_)
  go_simp
  obtain ⟨K0, L0, L1, L2, M0, M1, M2, T0, T1, R2, R3, G1, G2, BA⟩ := HL.out _ HC.out
  refine (wakesL_any _).mono ?_
  rintro e w14 ⟨rfl, d14⟩
  have HC9 := Lib.hid (HC.out.trans (d14.mono HC.out.size))
  clear HC d14 K0 L0 L1 L2 M0 M1 M2 T0 T1 R2 R3 G1 G2 BA
  have HC := HC9
  clear HC9
  refine hK.out _ _ HC.out (fun _ => ?_)
  clear hK K
  refine takeH (i := 51) (v := ?_) rfl (by kernel_rfl) (by kernel_rfl) (by kernel_rfl) (fun _ _ _ h => h) (by rfl) ?_ HC.out ?_
  rotate_left
  · intro W hW; obtain ⟨K0, L0, L1, L2, M0, M1, M2, T0, T1, R2, R3, G1, G2, BA⟩ := HL.out W hW; go_simp <;> with_reducible rfl
  simp only [Act.put, List.setIfInBounds_toArray, List.set_cons_zero, List.set_cons_succ]
  refine takeH (i := 52) (v := ?_) rfl (by kernel_rfl) (by kernel_rfl) (by kernel_rfl) (fun _ _ _ h => h) (by rfl) ?_ HC.out ?_
  rotate_left
  · intro W hW; obtain ⟨K0, L0, L1, L2, M0, M1, M2, T0, T1, R2, R3, G1, G2, BA⟩ := HL.out W hW; go_simp <;> with_reducible rfl
  simp only [Act.put, List.setIfInBounds_toArray, List.set_cons_zero, List.set_cons_succ]
  refine wpAnyH_done (by kernel_rfl) ?_ _
  have BF := Lib.hid (HL.out _ HC.out).2.2.2.2.2.2.2.2.2.2.2.2.2
  go_wp2_with fail
  go_ret
  exact ⟨rfl, BF.out⟩

theorem logOpen_walk (A : Option Addr) (n c : Nat) (s r : Int) (bs : List Nat) (w : World) (hr : Rd w w.heap.size A n (bv bs)) (hby : ∀ x ∈ bs, x < 256) (hc : n ≤ c) :
    Calls Try.prog 5 #[diskV A n c s r] w (TruePost w) := by
  by_cases hn : n ≤ 1500
  · obtain ⟨Lo, uo, hLo⟩ := log_ex _ (cnt bs s r).bs (Nat.le_refl _)
    exact logOpen_in A n c s r bs w hr hc hby hn _ _ _ rfl Lo uo hLo _ rfl
  · exact logOpen_out A n c s r w (by omega)

end Go.Proofs.Ytbkfpghpfaemeaa
