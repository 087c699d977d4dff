/-
  The walk of the statement 'DiskSwap': it answers true, and nothing that was there turns. Conditions: none.
-/
import Derived.Test.YtekffkoggnbgeaaDiskUse
import Derived.Test.YtekffkoggnbgeaaHand
namespace Go.Proofs.Ytekffkoggnbgeaa
open Go.RowKit Go.Shelf

set_option maxRecDepth 100000 in
set_option maxHeartbeats 800000 in
theorem diskSwap_out (A : Option Addr) (n c : Nat) (s r : Int) (Ab : Option Addr) (nb cb : Nat) (Am : Option Addr) (nm cm : Nat) (keep : Int) (w : World) (h : 400 < n ∨ (n ≤ 400 ∧ 200 < nb) ∨ (n ≤ 400 ∧ nb ≤ 200 ∧ 200 < nm)) :
    Calls Try.prog 7 #[diskV A n c s r, .slice Ab nb cb, .slice Am nm cm, .int .i64 keep] w (TruePost w) := by
  have HB := Lib.hid (((Below.refl w.heap.size w).alloc (Nat.le_refl _) (diskB A n c s r)).alloc (by simp) (diskB A n c s r))
  rcases h with h | ⟨h, h2⟩ | ⟨h, h2, h3⟩
  · have HG := Lib.hid (fun W => greatD_any A n c s r W (b := true) (by simpa using h))
    clear h
    go_enter Try.func7, Try.ntmps7
    go_wp2_with fail
    refine (HG.out _).mono ?_
    rintro e w1 ⟨rfl, rfl⟩
    go_wp2_with fail
    refine (wakesD_any _).mono ?_
    rintro e w2 ⟨rfl, b2⟩
    have B2 := Lib.hid (HB.out.trans (b2.mono HB.out.size))
    clear b2
    go_wp2_with fail
    go_ret
    exact ⟨rfl, B2.out⟩
  · have HG := Lib.hid (fun W => greatD_any A n c s r W (b := false) (by simpa using h))
    have h2' : (200 : Int) < (nb : Int) := by omega
    clear h h2
    go_enter Try.func7, Try.ntmps7
    go_wp2_with fail
    refine (HG.out _).mono ?_
    rintro e w1 ⟨rfl, rfl⟩
    go_wp2_with fail
    refine (wakesD_any _).mono ?_
    rintro e w2 ⟨rfl, b2⟩
    have B2 := Lib.hid (HB.out.trans (b2.mono HB.out.size))
    clear b2
    go_wp2_with fail
    go_ret
    exact ⟨rfl, B2.out⟩
  · have HG := Lib.hid (fun W => greatD_any A n c s r W (b := false) (by simpa using h))
    have h2' : decide ((200 : Int) < (nb : Int)) = false := by simp; omega
    have h3' : (200 : Int) < (nm : Int) := by omega
    clear h h2 h3
    go_enter Try.func7, Try.ntmps7
    go_wp2_with fail
    refine (HG.out _).mono ?_
    rintro e w1 ⟨rfl, rfl⟩
    go_wp2_with fail
    refine (wakesD_any _).mono ?_
    rintro e w2 ⟨rfl, b2⟩
    have B2 := Lib.hid (HB.out.trans (b2.mono HB.out.size))
    clear b2
    go_wp2_with fail
    go_ret
    exact ⟨rfl, B2.out⟩

set_option maxRecDepth 100000 in
set_option maxHeartbeats 2000000 in
theorem diskSwap_full (A : Option Addr) (n c : Nat) (s r : Int) (bs : List Nat) (Ab : Option Addr) (nb cb : Nat) (b : List Nat) (Am : Option Addr) (nm cm : Nat) (keep : Int) (w : World) (hr : Rd w w.heap.size A n (bv bs)) (hc : n ≤ c) (hby : ∀ x ∈ bs, x < 256) (hrb : Rd w w.heap.size Ab nb (bv b)) (hcb : nb ≤ cb) (hcm : cb ≤ maxLen) (hbb : ∀ x ∈ b, x < 256)
    (hn : n ≤ 400) (hnb : nb ≤ 200) (hnm : nm ≤ 200) {D : Dk} (hD : cnt bs s r = D) (hf : ¬ b.length ≤ D.room) :
    Calls Try.prog 7 #[diskV A n c s r, .slice Ab nb cb, .slice Am nm cm, .int .i64 keep] w (TruePost w) := by
  have hbl : b.length = nb := by have := hrb.1; rwa [bv_length] at this
  have hok : D.Ok := by rw [← hD]; exact cnt_ok s r hby
  have HB := Lib.hid (((Below.refl w.heap.size w).alloc (Nat.le_refl _) (diskB A n c s r)).alloc (by simp) (diskB A n c s r))
  have HG := Lib.hid (fun W => greatD_any A n c s r W (b := false) (by simpa using hn))
  have d2 : decide ((200 : Int) < (nb : Int)) = false := by simp; omega
  have d3 : decide ((200 : Int) < (nm : Int)) = false := by simp; omega
  have HSw := Lib.hid (fun (W : World) (hW : Below w.heap.size w W) => swap_full (W := W) hD ((hr.below hW).more hW.size) hc hby ((hrb.below hW).more hW.size) hcb hcm hbb (by omega) hf)
  have HSm := Lib.hid (fun (W : World) (hW : Below w.heap.size w W) (A2 : Option Addr) (c2 : Nat) (h2 : Rd W W.heap.size A2 D.bs.length (bv D.bs)) (h3 : D.bs.length ≤ c2) => same_any A2 D.bs.length c2 D.syn D.room D.bs A n c s r bs W.heap.size W h2 (Nat.le_refl _) h3 hok.byte ((hr.below hW).more hW.size) hc hby (cnt_self hok) hD)
  have HOw := Lib.hid (fun (W : World) (hW : Below w.heap.size w W) => own_any A n c s r bs w.heap.size W (hr.below hW) hW.size hc)
  rw [hD] at HOw
  have hgt : (D.room : Int) < (nb : Int) := by omega
  have HX := Lib.hid ((Whole.new w 24 #[.slice A n c, .int .i64 s, .int .i64 r]).alloc (diskB A n c s r))
  have dd : decide (D = D) = true := by simp
  rw [dd] at HSm
  clear hr hby hrb hbb hD hf hbl hok dd
  go_enter Try.func7, Try.ntmps7
  go_wp2_with fail
  refine (HG.out _).mono ?_
  rintro e w1 ⟨rfl, rfl⟩
  go_wp2_with fail
  refine (HSw.out _ HB.out).mono ?_
  rintro e w2 ⟨A2, c2, rfl, o2, b2⟩
  have B2 := Lib.hid (HB.out.trans (b2.mono HB.out.size))
  have X2 := Lib.hid (HX.out.under b2)
  have R2 := Lib.hid (Rd.of_own o2)
  have C2 := own_cap o2
  obtain ⟨x0, x1, x2⟩ := (X2.out.alloc (diskB A2 D.bs.length c2 D.syn D.room)).cells3
  clear b2 o2 HX
  go_wp2_with fail
  refine (HSm.out _ (B2.out.alloc B2.out.size _) A2 c2 ((R2.out.alloc (Nat.le_refl _) _).more (by simp)) C2).mono ?_
  rintro e w3 ⟨rfl, b3⟩
  have b3' := ((Below.refl _ w2).alloc (Nat.le_refl _) (diskB A2 D.bs.length c2 D.syn D.room)).trans (b3.mono (by simp))
  have B3 := Lib.hid (B2.out.trans (b3'.mono B2.out.size))
  clear x0 x1 x2
  obtain ⟨x0, x1, x2⟩ := (X2.out.under b3').cells3
  clear b3 b3'
  go_wp2_with fail
  refine (HOw.out _ B3.out).mono ?_
  rintro e w4 ⟨A4, c4, rfl, o4, b4⟩
  have B4 := Lib.hid (B3.out.trans (b4.mono B3.out.size))
  clear x0 x1 x2 o4 b4
  have hfl := field2_disk
  go_wp2_with fail
  refine (wakesD_any _).mono ?_
  rintro e w5 ⟨rfl, b5⟩
  have B5 := Lib.hid (B4.out.trans (b5.mono B4.out.size))
  clear b5
  go_wp2_with fail
  go_ret
  exact ⟨rfl, B5.out⟩

set_option maxRecDepth 100000 in
set_option maxHeartbeats 4000000 in
theorem diskSwap_fits (A : Option Addr) (n c : Nat) (s r : Int) (bs : List Nat) (Ab : Option Addr) (nb cb : Nat) (b : List Nat) (Am : Option Addr) (nm cm : Nat) (m : List Nat) (keep : Int) (w : World) (hr : Rd w w.heap.size A n (bv bs)) (hc : n ≤ c) (hby : ∀ x ∈ bs, x < 256) (hrb : Rd w w.heap.size Ab nb (bv b)) (hcb : nb ≤ cb) (hcbm : cb ≤ maxLen) (hbb : ∀ x ∈ b, x < 256)
    (hrm : Rd w w.heap.size Am nm (bv m)) (hcm : nm ≤ cm) (hcmm : cm ≤ maxLen) (hbm : ∀ x ∈ m, x < 256) (hn : n ≤ 400) (hnb : nb ≤ 200) (hnm : nm ≤ 200) {D : Dk} (hD : cnt bs s r = D) (hf : b.length ≤ D.room) (hfit : nb + nm ≤ D.room) :
    Calls Try.prog 7 #[diskV A n c s r, .slice Ab nb cb, .slice Am nm cm, .int .i64 keep] w (TruePost w) := by
  have hbl : b.length = nb := by have := hrb.1; rwa [bv_length] at this
  have hml : m.length = nm := by have := hrm.1; rwa [bv_length] at this
  have hRm : D.room ≤ 65536 := by rw [← hD]; exact clampN_le _ _
  obtain ⟨R, hR⟩ : ∃ R, D.room = R := ⟨_, rfl⟩
  rw [hR] at hf hfit hRm
  have hSok : (⟨b, b.length, R⟩ : Dk).Ok := ⟨Nat.le_refl _, hf, hRm, hbb⟩
  obtain ⟨ab, hab⟩ : ∃ ab, b ++ m = ab := ⟨_, rfl⟩
  obtain ⟨na, hna⟩ : ∃ na, ab.length = na := ⟨_, rfl⟩
  have hAok : (⟨ab, b.length, R⟩ : Dk).Ok := by
    rw [← hab]
    exact ⟨by simp, by show (b ++ m).length ≤ R; rw [List.length_append]; omega, hRm, fun x hx => (List.mem_append.1 hx).elim (hbb x) (hbm x)⟩
  have hC0 : crashD 0 ⟨ab, b.length, R⟩ = ⟨b, b.length, R⟩ := by rw [← hab]; exact crash_zero b m R
  have hAok2 : (⟨ab, ab.length, R⟩ : Dk).Ok := ⟨Nat.le_refl _, hAok.len, hRm, hAok.byte⟩
  have HB := Lib.hid (((Below.refl w.heap.size w).alloc (Nat.le_refl _) (diskB A n c s r)).alloc (by simp) (diskB A n c s r))
  have HG := Lib.hid (fun W => greatD_any A n c s r W (b := false) (by simpa using hn))
  have d2 : decide ((200 : Int) < (nb : Int)) = false := by simp; omega
  have d3 : decide ((200 : Int) < (nm : Int)) = false := by simp; omega
  have HSw := Lib.hid (fun (W : World) (hW : Below w.heap.size w W) => swap_N (W := W) hD ((hr.below hW).more hW.size) hc hby ((hrb.below hW).more hW.size) hcb hcbm hbb (by omega) hR hf)
  have HCr := Lib.hid (fun (W : World) (A2 : Option Addr) (c2 : Nat) (h2 : Rd W W.heap.size A2 b.length (bv b)) (h3 : b.length ≤ c2) => crash_N (W := W) keep hSok (crash_safe keep b R) h2 h3)
  have HAp : Hid (∀ (W : World) (A2 : Option Addr) (c2 : Nat), Below w.heap.size w W → Rd W W.heap.size A2 b.length (bv b) → b.length ≤ c2 → Calls Try.prog 10 #[diskV A2 b.length c2 b.length R, .slice Am nm cm] W (DiskNE na ab b.length R 0 W)) := fun W A2 c2 hW h2 h3 => by
    have h : Calls Try.prog 10 #[diskV A2 b.length c2 b.length R, .slice Am nm cm] W (DiskNE (b.length + m.length) (b ++ m) b.length R 0 W) := append_N (W := W) (cnt_self hSok) h2 h3 hbb ((hrm.below hW).more hW.size) hcm hcmm hbm (by omega) (by show b.length + m.length ≤ R; omega)
    rw [show b.length + m.length = na by rw [← hna, ← hab, List.length_append], hab] at h
    exact h
  have HC0 := Lib.hid (fun (W : World) (A2 : Option Addr) (c2 : Nat) (h2 : Rd W W.heap.size A2 na (bv ab)) (h3 : na ≤ c2) => crash_N (W := W) 0 hAok hC0 h2 h3)
  have HSy := Lib.hid (fun (W : World) (A2 : Option Addr) (c2 : Nat) (h2 : Rd W W.heap.size A2 na (bv ab)) (h3 : na ≤ c2) => sync_N (W := W) hAok hna h2 h3)
  have HCp := Lib.hid (fun (W : World) (A2 : Option Addr) (c2 : Nat) (h2 : Rd W W.heap.size A2 na (bv ab)) (h3 : na ≤ c2) => crash_N (W := W) 0 hAok2 (crash_safe 0 ab R) h2 h3)
  have HFr := Lib.hid (fun (W : World) (A2 : Option Addr) (c2 : Nat) (h2 : Rd W W.heap.size A2 b.length (bv b)) (h3 : b.length ≤ c2) => free_N (W := W) hSok rfl h2 h3)
  have HSb := Lib.hid (fun (W : World) (hW : Below w.heap.size w W) (A2 : Option Addr) (c2 : Nat) (h2 : Rd W W.heap.size A2 nb (bv b)) => same_bytes A2 Ab nb c2 nb cb b b W.heap.size w.heap.size W h2 (hrb.below hW) hbb hbb)
  have dd : decide (b = b) = true := by simp
  rw [dd] at HSb
  rw [hna] at HCp
  rw [hbl] at HSw HCr HAp HC0 HSy HFr hf
  have hnae : (na : Int) = (nb : Int) + (nm : Int) := by rw [← hna, ← hab, List.length_append]; omega
  have d4 : decide ((nb : Int) + (nm : Int) ≤ (R : Int)) = true := by simp; omega
  have d5 : ((na : Int) == (nb : Int) + (nm : Int)) = true := by rw [hnae]; simp
  clear hnae
  have HX := Lib.hid ((Whole.new w 24 #[.slice A n c, .int .i64 s, .int .i64 r]).alloc (diskB A n c s r))
  clear hr hby hrb hbb hrm hbm hD hbl hml dd hab hna hAok hAok2 hC0 hSok hR hcbm hcmm
  go_enter Try.func7, Try.ntmps7
  go_wp2_with fail
  refine (HG.out _).mono ?_
  rintro e w1 ⟨rfl, rfl⟩
  go_wp2_with fail
  refine (HSw.out _ HB.out).mono ?_
  rintro e w2 ⟨A2, c2, rfl, o2, b2⟩
  have B2 := Lib.hid (HB.out.trans (b2.mono HB.out.size))
  have R2 := Lib.hid (Rd.of_own o2)
  have C2 := own_cap o2
  clear b2 o2 HX HG HSw HB
  go_wp2_with fail
  refine (HCr.out _ A2 c2 ((R2.out.alloc (Nat.le_refl _) _).more (by simp)) C2).mono ?_
  rintro e w3 ⟨A3, c3, rfl, o3, b3⟩
  have X3 := Lib.hid ((Whole.new w2 24 #[.slice A2 nb c2, .int .i64 nb, .int .i64 R]).under b3)
  have b3' := ((Below.refl _ w2).alloc (Nat.le_refl _) (diskB A2 nb c2 nb R)).trans (b3.mono (by simp))
  have B3 := Lib.hid (B2.out.trans (b3'.mono B2.out.size))
  have R2' := Lib.hid ((R2.out.below b3').more b3'.size)
  have R3 := Lib.hid (Rd.of_own o3)
  obtain ⟨x0, x1, x2⟩ := (X3.out.alloc (diskB A3 nb c3 nb R)).cells3
  have hb3a : Below w3.heap.size w3 (w3.alloc (diskB A3 nb c3 nb R)) := (Below.refl _ w3).alloc (Nat.le_refl _) _
  have HAp2 := Lib.hid (HAp.out _ A2 c2 (B3.out.trans (hb3a.mono B3.out.size)) ((R2'.out.below hb3a).more hb3a.size) C2)
  have L3 := X3.out.lt
  clear b3 b3' o3 R2 B2 HCr HAp hb3a
  go_wp2_with fail
  refine (HAp2.out).mono ?_
  rintro e w4 ⟨A4, c4, rfl, o4, b4⟩
  have b4' := ((Below.refl _ w3).alloc (Nat.le_refl _) (diskB A3 nb c3 nb R)).trans (b4.mono (by simp))
  have Y4 := Lib.hid ((Whole.new w3 24 #[.slice A3 nb c3, .int .i64 nb, .int .i64 R]).under b4)
  have X4 := Lib.hid (X3.out.under b4')
  have B4 := Lib.hid (B3.out.trans (b4'.mono B3.out.size))
  have R24 := Lib.hid ((R2'.out.below b4').more b4'.size)
  have R34 := Lib.hid ((R3.out.below b4').more b4'.size)
  have R4 := Lib.hid (Rd.of_own o4)
  have C4 := own_cap o4
  clear x0 x1 x2 b4 b4' o4 R2' R3 B3 X3 HAp2
  obtain ⟨W5, hW5⟩ : ∃ W, w4.alloc (diskB A4 na c4 nb R) = W := ⟨_, rfl⟩
  have b5 : Below w4.heap.size w4 W5 := by rw [← hW5]; exact (Below.refl _ w4).alloc (Nat.le_refl _) _
  have Z5 : Whole W5 w4.heap.size 24 #[.slice A4 na c4, .int .i64 nb, .int .i64 R] := by rw [← hW5]; exact Whole.new w4 _ _
  have X5 := Lib.hid (X4.out.under b5)
  have Y5 := Lib.hid (Y4.out.under b5)
  have B5 := Lib.hid (B4.out.trans (b5.mono B4.out.size))
  have R25 := Lib.hid ((R24.out.below b5).more b5.size)
  have R35 := Lib.hid ((R34.out.below b5).more b5.size)
  have R45 := Lib.hid ((R4.out.below b5).more b5.size)
  have HZ5 := Lib.hid Z5
  obtain ⟨x0, x1, x2⟩ := X5.out.cells3
  obtain ⟨y0, y1, y2⟩ := Y5.out.cells3
  obtain ⟨z0, z1, z2⟩ := Z5.cells3
  clear b5 Z5 X4 Y4 B4 R24 R34 R4
  go_wp2_with fail
  clear hW5
  refine (HSb.out _ B5.out _ _ R35.out).mono ?_
  rintro e w6 ⟨rfl, rfl⟩
  go_wp2_with fail
  refine (HC0.out _ _ _ R45.out C4).mono ?_
  rintro e w6 ⟨A6, c6, rfl, o6, b6⟩
  have X6 := Lib.hid (X5.out.under b6)
  have Z6 := Lib.hid (HZ5.out.under b6)
  have B6 := Lib.hid (B5.out.trans (b6.mono B5.out.size))
  have R26 := Lib.hid ((R25.out.below b6).more b6.size)
  have R46 := Lib.hid ((R45.out.below b6).more b6.size)
  have R6 := Lib.hid (Rd.of_own o6)
  clear x0 x1 x2 y0 y1 y2 z0 z1 z2 o6 b6 X5 Y5 HZ5 B5 R25 R35 R45 HC0
  obtain ⟨W7, hW7⟩ : ∃ W, w6.alloc (diskB A6 nb c6 nb R) = W := ⟨_, rfl⟩
  have b7 : Below w6.heap.size w6 W7 := by rw [← hW7]; exact (Below.refl _ w6).alloc (Nat.le_refl _) _
  have Y7 : Whole W7 w6.heap.size 24 #[.slice A6 nb c6, .int .i64 nb, .int .i64 R] := by rw [← hW7]; exact Whole.new w6 _ _
  have X7 := Lib.hid (X6.out.under b7)
  have B7 := Lib.hid (B6.out.trans (b7.mono B6.out.size))
  have R27 := Lib.hid ((R26.out.below b7).more b7.size)
  have R47 := Lib.hid ((R46.out.below b7).more b7.size)
  have R67 := Lib.hid ((R6.out.below b7).more b7.size)
  have HY7 := Lib.hid Y7
  obtain ⟨z0, z1, z2⟩ := (Z6.out.under b7).cells3
  clear b7 Y7 X6 Z6 B6 R26 R46 R6
  go_wp2_with fail
  clear hW7
  refine (HSy.out _ _ _ R47.out C4).mono ?_
  rintro e w8 ⟨A8, c8, rfl, o8, b8⟩
  have X8 := Lib.hid (X7.out.under b8)
  have Y8 := Lib.hid (HY7.out.under b8)
  have B8 := Lib.hid (B7.out.trans (b8.mono B7.out.size))
  have R28 := Lib.hid ((R27.out.below b8).more b8.size)
  have R68 := Lib.hid ((R67.out.below b8).more b8.size)
  have R8 := Lib.hid (Rd.of_own o8)
  have C8 := own_cap o8
  clear z0 z1 z2 o8 b8 X7 HY7 B7 R27 R47 R67 HSy
  go_wp2_with fail
  refine (HCp.out _ _ _ R8.out C8).mono ?_
  rintro e w9 ⟨A9, c9, rfl, o9, b9⟩
  have X9 := Lib.hid (X8.out.under b9)
  have Y9 := Lib.hid (Y8.out.under b9)
  have B9 := Lib.hid (B8.out.trans (b9.mono B8.out.size))
  have R29 := Lib.hid ((R28.out.below b9).more b9.size)
  have R69 := Lib.hid ((R68.out.below b9).more b9.size)
  clear o9 b9 X8 Y8 B8 R28 R68 R8 HCp
  obtain ⟨W10, hW10⟩ : ∃ W, w9.alloc (diskB A9 na c9 na R) = W := ⟨_, rfl⟩
  have b10 : Below w9.heap.size w9 W10 := by rw [← hW10]; exact (Below.refl _ w9).alloc (Nat.le_refl _) _
  have Z10 : Whole W10 w9.heap.size 24 #[.slice A9 na c9, .int .i64 na, .int .i64 R] := by rw [← hW10]; exact Whole.new w9 _ _
  have HL : Hid (∀ W, Below W10.heap.size W10 W → Below w.heap.size w W ∧ Rd W W.heap.size A2 nb (bv b) ∧ Rd W W.heap.size A6 nb (bv b) ∧
      W.cell? ⟨w2.heap.size, 0, none⟩ = some (.slice A2 nb c2) ∧ W.cell? ⟨w2.heap.size, 1, none⟩ = some (.int .i64 nb) ∧ W.cell? ⟨w2.heap.size, 2, none⟩ = some (.int .i64 R) ∧ W.cell? ⟨w6.heap.size, 0, none⟩ = some (.slice A6 nb c6) ∧ W.cell? ⟨w9.heap.size, 0, none⟩ = some (.slice A9 na c9)) := fun W hW => by
    have hW' := b10.trans (hW.mono b10.size)
    have hx := (X9.out.under hW').cells3
    have hy := (Y9.out.under hW').cells3
    have hz := (Z10.under hW).cells3
    exact ⟨B9.out.trans (hW'.mono B9.out.size), (R29.out.below hW').more hW'.size, (R69.out.below hW').more hW'.size, hx.1, hx.2.1, hx.2.2, hy.1, hz.1⟩
  go_wp2_with fail
  have HW10 := Lib.hid hW10
  have HC := Lib.hid ((Below.refl W10.heap.size W10).drew)
  clear hW10 b10 Z10 X9 Y9 B9 R29 R69
  have e1 : IntKind.i64.wrap ((nb : Int) + (nm : Int)) = (nb : Int) + (nm : Int) := IntWalk.i64_in _ ⟨by omega, by omega⟩
  have e2 : IntKind.i64.wrap ((R : Int) - (nb : Int)) = (R : Int) - (nb : Int) := IntWalk.i64_in _ ⟨by omega, by omega⟩
  obtain ⟨L0, L1, L2, L3, L4, L5, L6, L7⟩ := HL.out W10.drew HC.out
  go_region_held3 (fun W => W.cell? ⟨w2.heap.size, 0, none⟩ = some (.slice A2 nb c2) ∧ W.cell? ⟨w2.heap.size, 1, none⟩ = some (.int .i64 nb) ∧ W.cell? ⟨w2.heap.size, 2, none⟩ = some (.int .i64 R) ∧ W.cell? ⟨w6.heap.size, 0, none⟩ = some (.slice A6 nb c6) ∧ W.cell? ⟨w9.heap.size, 0, none⟩ = some (.slice A9 na c9)) (go_keep)
    (first | (go_at_call 22; ((with_reducible refine (HSb.out _ L0 _ _ L2).mono ?_); rintro e w11 ⟨rfl, rfl⟩)) | (go_at_call 23; ((with_reducible refine (HFr.out _ _ _ L1 C2).mono ?_); rintro e w11 ⟨rfl, b11⟩); have HC2 := Lib.hid (HC.out.trans (b11.mono HC.out.size)); clear HC b11; have HC := HC2; clear HC2 L0 L1 L2 L3 L4 L5 L6 L7; obtain ⟨L0, L1, L2, L3, L4, L5, L6, L7⟩ := HL.out w11 HC.out) | (go_at_call 9; ((with_reducible refine (wakesD_any _).mono ?_); rintro e w12 ⟨rfl, b12⟩); have HC2 := Lib.hid (HC.out.trans (b12.mono HC.out.size)); clear HC b12; have HC := HC2; clear HC2 L0 L1 L2 L3 L4 L5 L6 L7; obtain ⟨L0, L1, L2, L3, L4, L5, L6, L7⟩ := HL.out w12 HC.out))
  rename_i hHeld
  clear hHeld L1 L2 L3 L4 L5 L6 L7
  have BF := Lib.hid L0
  clear L0
  go_wp2_with fail
  go_ret
  exact ⟨rfl, BF.out⟩

set_option maxRecDepth 100000 in
set_option maxHeartbeats 4000000 in
theorem diskSwap_less (A : Option Addr) (n c : Nat) (s r : Int) (bs : List Nat) (Ab : Option Addr) (nb cb : Nat) (b : List Nat) (Am : Option Addr) (nm cm : Nat) (m : List Nat) (keep : Int) (w : World) (hr : Rd w w.heap.size A n (bv bs)) (hc : n ≤ c) (hby : ∀ x ∈ bs, x < 256) (hrb : Rd w w.heap.size Ab nb (bv b)) (hcb : nb ≤ cb) (hcbm : cb ≤ maxLen) (hbb : ∀ x ∈ b, x < 256)
    (hrm : Rd w w.heap.size Am nm (bv m)) (hcm : nm ≤ cm) (hcmm : cm ≤ maxLen) (hbm : ∀ x ∈ m, x < 256) (hn : n ≤ 400) (hnb : nb ≤ 200) (hnm : nm ≤ 200) {D : Dk} (hD : cnt bs s r = D) (hf : b.length ≤ D.room) (hfit : ¬ nb + nm ≤ D.room) :
    Calls Try.prog 7 #[diskV A n c s r, .slice Ab nb cb, .slice Am nm cm, .int .i64 keep] w (TruePost w) := by
  have hbl : b.length = nb := by have := hrb.1; rwa [bv_length] at this
  have hml : m.length = nm := by have := hrm.1; rwa [bv_length] at this
  have hRm : D.room ≤ 65536 := by rw [← hD]; exact clampN_le _ _
  obtain ⟨R, hR⟩ : ∃ R, D.room = R := ⟨_, rfl⟩
  rw [hR] at hf hfit hRm
  have hSok : (⟨b, b.length, R⟩ : Dk).Ok := ⟨Nat.le_refl _, hf, hRm, hbb⟩
  obtain ⟨ab, hab⟩ : ∃ ab, b = ab := ⟨_, rfl⟩
  obtain ⟨na, hna⟩ : ∃ na, ab.length = na := ⟨_, rfl⟩
  have hAok : (⟨ab, b.length, R⟩ : Dk).Ok := by
    rw [← hab]
    exact hSok
  have hC0 : crashD 0 ⟨ab, b.length, R⟩ = ⟨b, b.length, R⟩ := by rw [← hab]; exact crash_safe 0 b R
  have hAok2 : (⟨ab, ab.length, R⟩ : Dk).Ok := ⟨Nat.le_refl _, hAok.len, hRm, hAok.byte⟩
  have HB := Lib.hid (((Below.refl w.heap.size w).alloc (Nat.le_refl _) (diskB A n c s r)).alloc (by simp) (diskB A n c s r))
  have HG := Lib.hid (fun W => greatD_any A n c s r W (b := false) (by simpa using hn))
  have d2 : decide ((200 : Int) < (nb : Int)) = false := by simp; omega
  have d3 : decide ((200 : Int) < (nm : Int)) = false := by simp; omega
  have HSw := Lib.hid (fun (W : World) (hW : Below w.heap.size w W) => swap_N (W := W) hD ((hr.below hW).more hW.size) hc hby ((hrb.below hW).more hW.size) hcb hcbm hbb (by omega) hR hf)
  have HCr := Lib.hid (fun (W : World) (A2 : Option Addr) (c2 : Nat) (h2 : Rd W W.heap.size A2 b.length (bv b)) (h3 : b.length ≤ c2) => crash_N (W := W) keep hSok (crash_safe keep b R) h2 h3)
  have HAp : Hid (∀ (W : World) (A2 : Option Addr) (c2 : Nat), Below w.heap.size w W → Rd W W.heap.size A2 b.length (bv b) → b.length ≤ c2 → Calls Try.prog 10 #[diskV A2 b.length c2 b.length R, .slice Am nm cm] W (DiskNE na ab b.length R 30 W)) := fun W A2 c2 hW h2 h3 => by
    have h : Calls Try.prog 10 #[diskV A2 b.length c2 b.length R, .slice Am nm cm] W (DiskNE b.length b b.length R 30 W) := append_full (W := W) (cnt_self hSok) h2 h3 hbb ((hrm.below hW).more hW.size) hcm hcmm hbm (by omega) (by show ¬ b.length + m.length ≤ R; omega)
    rw [← hna, ← hab]
    exact h
  have HC0 := Lib.hid (fun (W : World) (A2 : Option Addr) (c2 : Nat) (h2 : Rd W W.heap.size A2 na (bv ab)) (h3 : na ≤ c2) => crash_N (W := W) 0 hAok hC0 h2 h3)
  have HSy := Lib.hid (fun (W : World) (A2 : Option Addr) (c2 : Nat) (h2 : Rd W W.heap.size A2 na (bv ab)) (h3 : na ≤ c2) => sync_N (W := W) hAok hna h2 h3)
  have HCp := Lib.hid (fun (W : World) (A2 : Option Addr) (c2 : Nat) (h2 : Rd W W.heap.size A2 na (bv ab)) (h3 : na ≤ c2) => crash_N (W := W) 0 hAok2 (crash_safe 0 ab R) h2 h3)
  have HFr := Lib.hid (fun (W : World) (A2 : Option Addr) (c2 : Nat) (h2 : Rd W W.heap.size A2 b.length (bv b)) (h3 : b.length ≤ c2) => free_N (W := W) hSok rfl h2 h3)
  have HSb := Lib.hid (fun (W : World) (hW : Below w.heap.size w W) (A2 : Option Addr) (c2 : Nat) (h2 : Rd W W.heap.size A2 nb (bv b)) => same_bytes A2 Ab nb c2 nb cb b b W.heap.size w.heap.size W h2 (hrb.below hW) hbb hbb)
  have dd : decide (b = b) = true := by simp
  rw [dd] at HSb
  rw [hna] at HCp
  rw [hbl] at HSw HCr HAp HC0 HSy HFr hf
  have d4 : decide ((nb : Int) + (nm : Int) ≤ (R : Int)) = false := by simp; omega
  have HX := Lib.hid ((Whole.new w 24 #[.slice A n c, .int .i64 s, .int .i64 r]).alloc (diskB A n c s r))
  clear hr hby hrb hbb hrm hbm hD hbl hml dd hab hna hAok hAok2 hC0 hSok hR hcbm hcmm
  go_enter Try.func7, Try.ntmps7
  go_wp2_with fail
  refine (HG.out _).mono ?_
  rintro e w1 ⟨rfl, rfl⟩
  go_wp2_with fail
  refine (HSw.out _ HB.out).mono ?_
  rintro e w2 ⟨A2, c2, rfl, o2, b2⟩
  have B2 := Lib.hid (HB.out.trans (b2.mono HB.out.size))
  have R2 := Lib.hid (Rd.of_own o2)
  have C2 := own_cap o2
  clear b2 o2 HX HG HSw HB
  go_wp2_with fail
  refine (HCr.out _ A2 c2 ((R2.out.alloc (Nat.le_refl _) _).more (by simp)) C2).mono ?_
  rintro e w3 ⟨A3, c3, rfl, o3, b3⟩
  have X3 := Lib.hid ((Whole.new w2 24 #[.slice A2 nb c2, .int .i64 nb, .int .i64 R]).under b3)
  have b3' := ((Below.refl _ w2).alloc (Nat.le_refl _) (diskB A2 nb c2 nb R)).trans (b3.mono (by simp))
  have B3 := Lib.hid (B2.out.trans (b3'.mono B2.out.size))
  have R2' := Lib.hid ((R2.out.below b3').more b3'.size)
  have R3 := Lib.hid (Rd.of_own o3)
  obtain ⟨x0, x1, x2⟩ := (X3.out.alloc (diskB A3 nb c3 nb R)).cells3
  have hb3a : Below w3.heap.size w3 (w3.alloc (diskB A3 nb c3 nb R)) := (Below.refl _ w3).alloc (Nat.le_refl _) _
  have HAp2 := Lib.hid (HAp.out _ A2 c2 (B3.out.trans (hb3a.mono B3.out.size)) ((R2'.out.below hb3a).more hb3a.size) C2)
  have L3 := X3.out.lt
  clear b3 b3' o3 R2 B2 HCr HAp hb3a
  go_wp2_with fail
  refine (HAp2.out).mono ?_
  rintro e w4 ⟨A4, c4, rfl, o4, b4⟩
  have b4' := ((Below.refl _ w3).alloc (Nat.le_refl _) (diskB A3 nb c3 nb R)).trans (b4.mono (by simp))
  have Y4 := Lib.hid ((Whole.new w3 24 #[.slice A3 nb c3, .int .i64 nb, .int .i64 R]).under b4)
  have X4 := Lib.hid (X3.out.under b4')
  have B4 := Lib.hid (B3.out.trans (b4'.mono B3.out.size))
  have R24 := Lib.hid ((R2'.out.below b4').more b4'.size)
  have R34 := Lib.hid ((R3.out.below b4').more b4'.size)
  have R4 := Lib.hid (Rd.of_own o4)
  have C4 := own_cap o4
  clear x0 x1 x2 b4 b4' o4 R2' R3 B3 X3 HAp2
  obtain ⟨W5, hW5⟩ : ∃ W, w4.alloc (diskB A4 na c4 nb R) = W := ⟨_, rfl⟩
  have b5 : Below w4.heap.size w4 W5 := by rw [← hW5]; exact (Below.refl _ w4).alloc (Nat.le_refl _) _
  have Z5 : Whole W5 w4.heap.size 24 #[.slice A4 na c4, .int .i64 nb, .int .i64 R] := by rw [← hW5]; exact Whole.new w4 _ _
  have X5 := Lib.hid (X4.out.under b5)
  have Y5 := Lib.hid (Y4.out.under b5)
  have B5 := Lib.hid (B4.out.trans (b5.mono B4.out.size))
  have R25 := Lib.hid ((R24.out.below b5).more b5.size)
  have R35 := Lib.hid ((R34.out.below b5).more b5.size)
  have R45 := Lib.hid ((R4.out.below b5).more b5.size)
  have HZ5 := Lib.hid Z5
  obtain ⟨x0, x1, x2⟩ := X5.out.cells3
  obtain ⟨y0, y1, y2⟩ := Y5.out.cells3
  obtain ⟨z0, z1, z2⟩ := Z5.cells3
  clear b5 Z5 X4 Y4 B4 R24 R34 R4
  go_wp2_with fail
  clear hW5
  refine (HSb.out _ B5.out _ _ R35.out).mono ?_
  rintro e w6 ⟨rfl, rfl⟩
  go_wp2_with fail
  refine (HC0.out _ _ _ R45.out C4).mono ?_
  rintro e w6 ⟨A6, c6, rfl, o6, b6⟩
  have X6 := Lib.hid (X5.out.under b6)
  have Z6 := Lib.hid (HZ5.out.under b6)
  have B6 := Lib.hid (B5.out.trans (b6.mono B5.out.size))
  have R26 := Lib.hid ((R25.out.below b6).more b6.size)
  have R46 := Lib.hid ((R45.out.below b6).more b6.size)
  have R6 := Lib.hid (Rd.of_own o6)
  clear x0 x1 x2 y0 y1 y2 z0 z1 z2 o6 b6 X5 Y5 HZ5 B5 R25 R35 R45 HC0
  obtain ⟨W7, hW7⟩ : ∃ W, w6.alloc (diskB A6 nb c6 nb R) = W := ⟨_, rfl⟩
  have b7 : Below w6.heap.size w6 W7 := by rw [← hW7]; exact (Below.refl _ w6).alloc (Nat.le_refl _) _
  have Y7 : Whole W7 w6.heap.size 24 #[.slice A6 nb c6, .int .i64 nb, .int .i64 R] := by rw [← hW7]; exact Whole.new w6 _ _
  have X7 := Lib.hid (X6.out.under b7)
  have B7 := Lib.hid (B6.out.trans (b7.mono B6.out.size))
  have R27 := Lib.hid ((R26.out.below b7).more b7.size)
  have R47 := Lib.hid ((R46.out.below b7).more b7.size)
  have R67 := Lib.hid ((R6.out.below b7).more b7.size)
  have HY7 := Lib.hid Y7
  obtain ⟨z0, z1, z2⟩ := (Z6.out.under b7).cells3
  clear b7 Y7 X6 Z6 B6 R26 R46 R6
  go_wp2_with fail
  clear hW7
  refine (HSy.out _ _ _ R47.out C4).mono ?_
  rintro e w8 ⟨A8, c8, rfl, o8, b8⟩
  have X8 := Lib.hid (X7.out.under b8)
  have Y8 := Lib.hid (HY7.out.under b8)
  have B8 := Lib.hid (B7.out.trans (b8.mono B7.out.size))
  have R28 := Lib.hid ((R27.out.below b8).more b8.size)
  have R68 := Lib.hid ((R67.out.below b8).more b8.size)
  have R8 := Lib.hid (Rd.of_own o8)
  have C8 := own_cap o8
  clear z0 z1 z2 o8 b8 X7 HY7 B7 R27 R47 R67 HSy
  go_wp2_with fail
  refine (HCp.out _ _ _ R8.out C8).mono ?_
  rintro e w9 ⟨A9, c9, rfl, o9, b9⟩
  have X9 := Lib.hid (X8.out.under b9)
  have Y9 := Lib.hid (Y8.out.under b9)
  have B9 := Lib.hid (B8.out.trans (b9.mono B8.out.size))
  have R29 := Lib.hid ((R28.out.below b9).more b9.size)
  have R69 := Lib.hid ((R68.out.below b9).more b9.size)
  clear o9 b9 X8 Y8 B8 R28 R68 R8 HCp
  obtain ⟨W10, hW10⟩ : ∃ W, w9.alloc (diskB A9 na c9 na R) = W := ⟨_, rfl⟩
  have b10 : Below w9.heap.size w9 W10 := by rw [← hW10]; exact (Below.refl _ w9).alloc (Nat.le_refl _) _
  have Z10 : Whole W10 w9.heap.size 24 #[.slice A9 na c9, .int .i64 na, .int .i64 R] := by rw [← hW10]; exact Whole.new w9 _ _
  have HL : Hid (∀ W, Below W10.heap.size W10 W → Below w.heap.size w W ∧ Rd W W.heap.size A2 nb (bv b) ∧ Rd W W.heap.size A6 nb (bv b) ∧
      W.cell? ⟨w2.heap.size, 0, none⟩ = some (.slice A2 nb c2) ∧ W.cell? ⟨w2.heap.size, 1, none⟩ = some (.int .i64 nb) ∧ W.cell? ⟨w2.heap.size, 2, none⟩ = some (.int .i64 R) ∧ W.cell? ⟨w6.heap.size, 0, none⟩ = some (.slice A6 nb c6) ∧ W.cell? ⟨w9.heap.size, 0, none⟩ = some (.slice A9 na c9)) := fun W hW => by
    have hW' := b10.trans (hW.mono b10.size)
    have hx := (X9.out.under hW').cells3
    have hy := (Y9.out.under hW').cells3
    have hz := (Z10.under hW).cells3
    exact ⟨B9.out.trans (hW'.mono B9.out.size), (R29.out.below hW').more hW'.size, (R69.out.below hW').more hW'.size, hx.1, hx.2.1, hx.2.2, hy.1, hz.1⟩
  go_wp2_with fail
  have HW10 := Lib.hid hW10
  have HC := Lib.hid ((Below.refl W10.heap.size W10).drew)
  clear hW10 b10 Z10 X9 Y9 B9 R29 R69
  have e1 : IntKind.i64.wrap ((nb : Int) + (nm : Int)) = (nb : Int) + (nm : Int) := IntWalk.i64_in _ ⟨by omega, by omega⟩
  have e2 : IntKind.i64.wrap ((R : Int) - (nb : Int)) = (R : Int) - (nb : Int) := IntWalk.i64_in _ ⟨by omega, by omega⟩
  refine wp_region_held_drew (S := fun W => Below W10.heap.size W10 W) (by kernel_rfl) HC.out (fun _ => ?_)
  refine takeH (i := 0) (v := ?_) rfl (by kernel_rfl) (by kernel_rfl) (by kernel_rfl) (fun _ _ _ h => h) (by rfl) ?_ HC.out ?_
  rotate_left
  · intro W hW; obtain ⟨L0, L1, L2, L3, L4, L5, L6, L7⟩ := HL.out W hW; go_simp <;> with_reducible rfl
  simp only [Act.put, List.setIfInBounds_toArray, List.set_cons_zero, List.set_cons_succ]
  refine takeH (i := 1) (v := ?_) rfl (by kernel_rfl) (by kernel_rfl) (by kernel_rfl) (fun _ _ _ h => h) (by rfl) ?_ HC.out ?_
  rotate_left
  · intro W hW; obtain ⟨L0, L1, L2, L3, L4, L5, L6, L7⟩ := HL.out W hW; go_simp <;> with_reducible rfl
  simp only [Act.put, List.setIfInBounds_toArray, List.set_cons_zero, List.set_cons_succ]
  refine takeH (i := 2) (v := ?_) rfl (by kernel_rfl) (by kernel_rfl) (by kernel_rfl) (fun _ _ _ h => h) (by rfl) ?_ HC.out ?_
  rotate_left
  · intro W hW; obtain ⟨L0, L1, L2, L3, L4, L5, L6, L7⟩ := HL.out W hW; go_simp <;> with_reducible rfl
  simp only [Act.put, List.setIfInBounds_toArray, List.set_cons_zero, List.set_cons_succ]
  refine oneH (i := 3) rfl (by kernel_rfl) (by rfl) (fun K hK => ?_)
  go_simp
  obtain ⟨L0, L1, L2, L3, L4, L5, L6, L7⟩ := HL.out _ HC.out
  refine (HSb.out _ L0 _ _ L2).mono ?_
  rintro e w11 ⟨rfl, rfl⟩
  clear L0 L1 L2 L3 L4 L5 L6 L7
  refine hK.out _ _ HC.out (fun _ => ?_)
  clear hK K
  refine takeH (i := 4) (v := ?_) rfl (by kernel_rfl) (by kernel_rfl) (by kernel_rfl) (fun _ _ _ h => h) (by rfl) ?_ HC.out ?_
  rotate_left
  · intro W hW; obtain ⟨L0, L1, L2, L3, L4, L5, L6, L7⟩ := HL.out W hW; go_simp <;> with_reducible rfl
  simp only [Act.put, List.setIfInBounds_toArray, List.set_cons_zero, List.set_cons_succ]
  refine takeH (i := 5) (v := ?_) rfl (by kernel_rfl) (by kernel_rfl) (by kernel_rfl) (fun _ _ _ h => h) (by rfl) ?_ HC.out ?_
  rotate_left
  · intro W hW; obtain ⟨L0, L1, L2, L3, L4, L5, L6, L7⟩ := HL.out W hW; go_simp <;> with_reducible rfl
  simp only [Act.put, List.setIfInBounds_toArray, List.set_cons_zero, List.set_cons_succ]
  refine takeH (i := 6) (v := ?_) rfl (by kernel_rfl) (by kernel_rfl) (by kernel_rfl) (fun _ _ _ h => h) (by rfl) ?_ HC.out ?_
  rotate_left
  · intro W hW; obtain ⟨L0, L1, L2, L3, L4, L5, L6, L7⟩ := HL.out W hW; go_simp <;> with_reducible rfl
  simp only [Act.put, List.setIfInBounds_toArray, List.set_cons_zero, List.set_cons_succ]
  refine takeH (i := 7) (v := ?_) rfl (by kernel_rfl) (by kernel_rfl) (by kernel_rfl) (fun _ _ _ h => h) (by rfl) ?_ HC.out ?_
  rotate_left
  · intro W hW; obtain ⟨L0, L1, L2, L3, L4, L5, L6, L7⟩ := HL.out W hW; go_simp <;> with_reducible rfl
  simp only [Act.put, List.setIfInBounds_toArray, List.set_cons_zero, List.set_cons_succ]
  refine skipH (i := 8) rfl (by kernel_rfl) (by kernel_rfl) (by kernel_rfl) (fun _ _ _ h => h) (by rfl) HC.out ?_
  simp only [Act.put, List.setIfInBounds_toArray, List.set_cons_zero, List.set_cons_succ]
  refine skipH (i := 9) rfl (by kernel_rfl) (by kernel_rfl) (by kernel_rfl) (fun _ _ _ h => h) (by rfl) HC.out ?_
  simp only [Act.put, List.setIfInBounds_toArray, List.set_cons_zero, List.set_cons_succ]
  refine skipH (i := 10) rfl (by kernel_rfl) (by kernel_rfl) (by kernel_rfl) (fun _ _ _ h => h) (by rfl) HC.out ?_
  simp only [Act.put, List.setIfInBounds_toArray, List.set_cons_zero, List.set_cons_succ]
  refine skipH (i := 11) rfl (by kernel_rfl) (by kernel_rfl) (by kernel_rfl) (fun _ _ _ h => h) (by rfl) HC.out ?_
  simp only [Act.put, List.setIfInBounds_toArray, List.set_cons_zero, List.set_cons_succ]
  refine skipH (i := 12) rfl (by kernel_rfl) (by kernel_rfl) (by kernel_rfl) (fun _ _ _ h => h) (by rfl) HC.out ?_
  simp only [Act.put, List.setIfInBounds_toArray, List.set_cons_zero, List.set_cons_succ]
  refine skipH (i := 13) rfl (by kernel_rfl) (by kernel_rfl) (by kernel_rfl) (fun _ _ _ h => h) (by rfl) HC.out ?_
  simp only [Act.put, List.setIfInBounds_toArray, List.set_cons_zero, List.set_cons_succ]
  refine skipH (i := 14) rfl (by kernel_rfl) (by kernel_rfl) (by kernel_rfl) (fun _ _ _ h => h) (by rfl) HC.out ?_
  simp only [Act.put, List.setIfInBounds_toArray, List.set_cons_zero, List.set_cons_succ]
  refine skipH (i := 15) rfl (by kernel_rfl) (by kernel_rfl) (by kernel_rfl) (fun _ _ _ h => h) (by rfl) HC.out ?_
  simp only [Act.put, List.setIfInBounds_toArray, List.set_cons_zero, List.set_cons_succ]
  refine skipH (i := 16) rfl (by kernel_rfl) (by kernel_rfl) (by kernel_rfl) (fun _ _ _ h => h) (by rfl) HC.out ?_
  simp only [Act.put, List.setIfInBounds_toArray, List.set_cons_zero, List.set_cons_succ]
  refine takeH (i := 17) (v := ?_) rfl (by kernel_rfl) (by kernel_rfl) (by kernel_rfl) (fun _ _ _ h => h) (by rfl) ?_ HC.out ?_
  rotate_left
  · intro W hW; obtain ⟨L0, L1, L2, L3, L4, L5, L6, L7⟩ := HL.out W hW; go_simp <;> with_reducible rfl
  simp only [Act.put, List.setIfInBounds_toArray, List.set_cons_zero, List.set_cons_succ]
  refine takeH (i := 18) (v := ?_) rfl (by kernel_rfl) (by kernel_rfl) (by kernel_rfl) (fun _ _ _ h => h) (by rfl) ?_ HC.out ?_
  rotate_left
  · intro W hW; obtain ⟨L0, L1, L2, L3, L4, L5, L6, L7⟩ := HL.out W hW; go_simp <;> with_reducible rfl
  simp only [Act.put, List.setIfInBounds_toArray, List.set_cons_zero, List.set_cons_succ]
  refine takeH (i := 19) (v := ?_) rfl (by kernel_rfl) (by kernel_rfl) (by kernel_rfl) (fun _ _ _ h => h) (by rfl) ?_ HC.out ?_
  rotate_left
  · intro W hW; obtain ⟨L0, L1, L2, L3, L4, L5, L6, L7⟩ := HL.out W hW; go_simp <;> with_reducible rfl
  simp only [Act.put, List.setIfInBounds_toArray, List.set_cons_zero, List.set_cons_succ]
  refine takeH (i := 20) (v := ?_) rfl (by kernel_rfl) (by kernel_rfl) (by kernel_rfl) (fun _ _ _ h => h) (by rfl) ?_ HC.out ?_
  rotate_left
  · intro W hW; obtain ⟨L0, L1, L2, L3, L4, L5, L6, L7⟩ := HL.out W hW; go_simp <;> with_reducible rfl
  simp only [Act.put, List.setIfInBounds_toArray, List.set_cons_zero, List.set_cons_succ]
  refine takeH (i := 22) (v := ?_) rfl (by kernel_rfl) (by kernel_rfl) (by kernel_rfl) (fun _ _ _ h => h) (by rfl) ?_ HC.out ?_
  rotate_left
  · intro W hW; obtain ⟨L0, L1, L2, L3, L4, L5, L6, L7⟩ := HL.out W hW; go_simp <;> with_reducible rfl
  simp only [Act.put, List.setIfInBounds_toArray, List.set_cons_zero, List.set_cons_succ]
  refine takeH (i := 23) (v := ?_) rfl (by kernel_rfl) (by kernel_rfl) (by kernel_rfl) (fun _ _ _ h => h) (by rfl) ?_ HC.out ?_
  rotate_left
  · intro W hW; obtain ⟨L0, L1, L2, L3, L4, L5, L6, L7⟩ := HL.out W hW; go_simp <;> with_reducible rfl
  simp only [Act.put, List.setIfInBounds_toArray, List.set_cons_zero, List.set_cons_succ]
  refine takeH (i := 24) (v := ?_) rfl (by kernel_rfl) (by kernel_rfl) (by kernel_rfl) (fun _ _ _ h => h) (by rfl) ?_ HC.out ?_
  rotate_left
  · intro W hW; obtain ⟨L0, L1, L2, L3, L4, L5, L6, L7⟩ := HL.out W hW; go_simp <;> with_reducible rfl
  simp only [Act.put, List.setIfInBounds_toArray, List.set_cons_zero, List.set_cons_succ]
  refine takeH (i := 25) (v := ?_) rfl (by kernel_rfl) (by kernel_rfl) (by kernel_rfl) (fun _ _ _ h => h) (by rfl) ?_ HC.out ?_
  rotate_left
  · intro W hW; obtain ⟨L0, L1, L2, L3, L4, L5, L6, L7⟩ := HL.out W hW; go_simp <;> with_reducible rfl
  simp only [Act.put, List.setIfInBounds_toArray, List.set_cons_zero, List.set_cons_succ]
  refine takeH (i := 26) (v := ?_) rfl (by kernel_rfl) (by kernel_rfl) (by kernel_rfl) (fun _ _ _ h => h) (by rfl) ?_ HC.out ?_
  rotate_left
  · intro W hW; obtain ⟨L0, L1, L2, L3, L4, L5, L6, L7⟩ := HL.out W hW; go_simp <;> with_reducible rfl
  simp only [Act.put, List.setIfInBounds_toArray, List.set_cons_zero, List.set_cons_succ]
  refine oneH (i := 21) rfl (by kernel_rfl) (by rfl) (fun K hK => ?_)
  go_simp
  obtain ⟨L0, L1, L2, L3, L4, L5, L6, L7⟩ := HL.out _ HC.out
  refine (HFr.out _ _ _ L1 C2).mono ?_
  rintro e w12 ⟨rfl, b11⟩
  have HC2 := Lib.hid (HC.out.trans (b11.mono HC.out.size))
  clear HC b11 L0 L1 L2 L3 L4 L5 L6 L7
  have HC := HC2
  clear HC2
  refine hK.out _ _ HC.out (fun _ => ?_)
  clear hK K
  refine takeH (i := 27) (v := ?_) rfl (by kernel_rfl) (by kernel_rfl) (by kernel_rfl) (fun _ _ _ h => h) (by rfl) ?_ HC.out ?_
  rotate_left
  · intro W hW; obtain ⟨L0, L1, L2, L3, L4, L5, L6, L7⟩ := HL.out W hW; go_simp <;> with_reducible rfl
  simp only [Act.put, List.setIfInBounds_toArray, List.set_cons_zero, List.set_cons_succ]
  refine takeH (i := 28) (v := ?_) rfl (by kernel_rfl) (by kernel_rfl) (by kernel_rfl) (fun _ _ _ h => h) (by rfl) ?_ HC.out ?_
  rotate_left
  · intro W hW; obtain ⟨L0, L1, L2, L3, L4, L5, L6, L7⟩ := HL.out W hW; go_simp <;> with_reducible rfl
  simp only [Act.put, List.setIfInBounds_toArray, List.set_cons_zero, List.set_cons_succ]
  refine takeH (i := 29) (v := ?_) rfl (by kernel_rfl) (by kernel_rfl) (by kernel_rfl) (fun _ _ _ h => h) (by rfl) ?_ HC.out ?_
  rotate_left
  · intro W hW; obtain ⟨L0, L1, L2, L3, L4, L5, L6, L7⟩ := HL.out W hW; go_simp <;> with_reducible rfl
  simp only [Act.put, List.setIfInBounds_toArray, List.set_cons_zero, List.set_cons_succ]
  refine oneH (i := 30) rfl (by kernel_rfl) (by rfl) (fun K hK => ?_)
  go_simp
  obtain ⟨L0, L1, L2, L3, L4, L5, L6, L7⟩ := HL.out _ HC.out
  refine (wakesD_any _).mono ?_
  rintro e w13 ⟨rfl, b11⟩
  have HC2 := Lib.hid (HC.out.trans (b11.mono HC.out.size))
  clear HC b11 L0 L1 L2 L3 L4 L5 L6 L7
  have HC := HC2
  clear HC2
  refine hK.out _ _ HC.out (fun _ => ?_)
  clear hK K
  refine takeH (i := 31) (v := ?_) rfl (by kernel_rfl) (by kernel_rfl) (by kernel_rfl) (fun _ _ _ h => h) (by rfl) ?_ HC.out ?_
  rotate_left
  · intro W hW; obtain ⟨L0, L1, L2, L3, L4, L5, L6, L7⟩ := HL.out W hW; go_simp <;> with_reducible rfl
  simp only [Act.put, List.setIfInBounds_toArray, List.set_cons_zero, List.set_cons_succ]
  refine takeH (i := 32) (v := ?_) rfl (by kernel_rfl) (by kernel_rfl) (by kernel_rfl) (fun _ _ _ h => h) (by rfl) ?_ HC.out ?_
  rotate_left
  · intro W hW; obtain ⟨L0, L1, L2, L3, L4, L5, L6, L7⟩ := HL.out W hW; go_simp <;> with_reducible rfl
  simp only [Act.put, List.setIfInBounds_toArray, List.set_cons_zero, List.set_cons_succ]
  refine wpAnyH_done (by kernel_rfl) ?_ _
  have BF := Lib.hid (HL.out _ HC.out).1
  go_wp2_with fail
  go_ret
  exact ⟨rfl, BF.out⟩

theorem diskSwap_walk (A : Option Addr) (n c : Nat) (s r : Int) (bs : List Nat) (Ab : Option Addr) (nb cb : Nat) (b : List Nat) (Am : Option Addr) (nm cm : Nat) (m : List Nat) (keep : Int) (w : World) (hr : Rd w w.heap.size A n (bv bs)) (hby : ∀ x ∈ bs, x < 256) (hc : n ≤ c) (hrb : Rd w w.heap.size Ab nb (bv b)) (hbb : ∀ x ∈ b, x < 256) (hcb : nb ≤ cb) (hcbm : cb ≤ maxLen)
    (hrm : Rd w w.heap.size Am nm (bv m)) (hbm : ∀ x ∈ m, x < 256) (hcm : nm ≤ cm) (hcmm : cm ≤ maxLen) :
    Calls Try.prog 7 #[diskV A n c s r, .slice Ab nb cb, .slice Am nm cm, .int .i64 keep] w (TruePost w) := by
  by_cases hn : n ≤ 400
  · by_cases hnb : nb ≤ 200
    · by_cases hnm : nm ≤ 200
      · by_cases hf : b.length ≤ (cnt bs s r).room
        · by_cases hfit : nb + nm ≤ (cnt bs s r).room
          · exact diskSwap_fits A n c s r bs Ab nb cb b Am nm cm m keep w hr hc hby hrb hcb hcbm hbb hrm hcm hcmm hbm hn hnb hnm rfl hf hfit
          · exact diskSwap_less A n c s r bs Ab nb cb b Am nm cm m keep w hr hc hby hrb hcb hcbm hbb hrm hcm hcmm hbm hn hnb hnm rfl hf hfit
        · exact diskSwap_full A n c s r bs Ab nb cb b Am nm cm keep w hr hc hby hrb hcb hcbm hbb hn hnb hnm rfl hf
      · exact diskSwap_out A n c s r Ab nb cb Am nm cm keep w (.inr (.inr ⟨hn, hnb, by omega⟩))
    · exact diskSwap_out A n c s r Ab nb cb Am nm cm keep w (.inr (.inl ⟨hn, by omega⟩))
  · exact diskSwap_out A n c s r Ab nb cb Am nm cm keep w (.inl (by omega))

end Go.Proofs.Ytekffkoggnbgeaa
