/-
  The walk of the statement 'DiskRoom': it answers true, and nothing that was there turns. Conditions: none.
-/
import Derived.Test.YtekffkoggnbgeaaDiskUse
import Derived.Laws.OwnMore
namespace Go.Proofs.Ytekffkoggnbgeaa
open Go.RowKit Go.Shelf

set_option maxRecDepth 100000 in
set_option maxHeartbeats 800000 in
theorem diskRoom_out (A : Option Addr) (n c : Nat) (s r : Int) (Ab : Option Addr) (nb cb : Nat) (by_ : Nat) (w : World) (h : 400 < n ∨ (n ≤ 400 ∧ 300 < nb)) :
    Calls Try.prog 5 #[diskV A n c s r, .slice Ab nb cb, .int .u8 (by_ : Int)] w (TruePost w) := by
  have HB := Lib.hid (((Below.refl w.heap.size w).alloc (Nat.le_refl _) (diskB A n c s r)).alloc (by simp) (diskB A n c s r))
  rcases h with h | ⟨h, h2⟩
  · have HG := Lib.hid (fun W => greatD_any A n c s r W (b := true) (by simpa using h))
    clear h
    go_enter Try.func5, Try.ntmps5
    go_wp2_with fail
    refine (HG.out _).mono ?_
    rintro e w1 ⟨rfl, rfl⟩
    go_wp2_with fail
    refine (wakesD_any _).mono ?_
    rintro e w2 ⟨rfl, b2⟩
    have B2 := Lib.hid (HB.out.trans (b2.mono HB.out.size))
    clear b2
    go_wp2_with fail
    go_ret
    exact ⟨rfl, B2.out⟩
  · have HG := Lib.hid (fun W => greatD_any A n c s r W (b := false) (by simpa using h))
    have h2' : (300 : Int) < (nb : Int) := by omega
    clear h h2
    go_enter Try.func5, Try.ntmps5
    go_wp2_with fail
    refine (HG.out _).mono ?_
    rintro e w1 ⟨rfl, rfl⟩
    go_wp2_with fail
    refine (wakesD_any _).mono ?_
    rintro e w2 ⟨rfl, b2⟩
    have B2 := Lib.hid (HB.out.trans (b2.mono HB.out.size))
    clear b2
    go_wp2_with fail
    go_ret
    exact ⟨rfl, B2.out⟩

/-- 'append([]byte{}, x...)': it runs, and what comes reads as x, in memory of its own. -/
theorem run_copy (W : World) (B : Nat) (A : Option Addr) (n c : Nat) (bs : List Nat) (hr : Rd W B A n (bv bs)) (hB : B ≤ W.heap.size) (hn : n ≤ 1000000) (g : Nat) (hg : W.heap.size = g) :
    ∃ A1 c1 W1, (Builtin.append_ #[22, 22] 22 #[.slice (some ⟨g, 0, none⟩) 0 0, .slice A n c]).run Try.prog (W.alloc (.cells #[] 5)) = .ok (.slice A1 n c1) W1 ∧ W1.ownsRow W.heap.size 5 1 (.slice A1 n c1) n (bv bs) ∧ Below W.heap.size W W1 := by
  subst hg
  have ho := World.ownsRow_made (base := W.heap.size) (e := 5) (size := 1) W #[] 0 (Nat.le_refl _) (Nat.zero_le _) rfl
  obtain ⟨v1, W1, r1, o1, g1⟩ := run_app (W.alloc (.cells #[] 5)) W.heap.size _ 0 [] ho B A n c bs (hr.alloc hB _) (by omega) (by simp)
  rw [Nat.zero_add, List.nil_append] at o1
  obtain ⟨A1, c1, rfl⟩ := own_form o1
  exact ⟨A1, c1, W1, r1, o1, ((Below.refl _ W).alloc (Nat.le_refl _) _).trans (below_row ho g1 (by simp))⟩

theorem Rd.up {w : World} {n : Nat} {A : Option Addr} {xs : List Value} (h : Rd w w.heap.size A n xs) (o : Obj) : Rd (w.alloc o) (w.alloc o).heap.size A n xs := (h.alloc (Nat.le_refl _) o).more (by simp)

/-- What holds between two rounds of the loop that writes. -/
structure RoomAt (b6 b10 : Nat) (W6 : World) (A : Option Addr) (na c : Nat) (u1 u2 : Value) (W : World) : Prop where
  below : Below b6 W6 W
  box : Whole W b10 24 #[.slice A na c, u1, u2]
  row : ∃ ys, W.ownsRow b6 5 1 (.slice A na c) na ys

set_option maxRecDepth 100000 in
set_option maxHeartbeats 4000000 in
theorem diskRoom_a (A : Option Addr) (n c : Nat) (s r : Int) (bs : List Nat) (Ab : Option Addr) (nb cb : Nat) (b : List Nat) (by_ : Nat) (w : World) (hr : Rd w w.heap.size A n (bv bs)) (hc : n ≤ c) (hby : ∀ x ∈ bs, x < 256) (hrb : Rd w w.heap.size Ab nb (bv b)) (hcb : nb ≤ cb) (hcbm : cb ≤ maxLen) (hbb : ∀ x ∈ b, x < 256)
    (hn : n ≤ 400) (hnb : nb ≤ 300) {D : Dk} (hD : cnt bs s r = D) (hfit : D.bs.length + b.length ≤ D.room) :
    Calls Try.prog 5 #[diskV A n c s r, .slice Ab nb cb, .int .u8 (by_ : Int)] w (TruePost w) := by
  have hbl : b.length = nb := by have := hrb.1; rwa [bv_length] at this
  have hok : D.Ok := by rw [← hD]; exact cnt_ok s r hby
  obtain ⟨R, hR⟩ : ∃ R, D.room = R := ⟨_, rfl⟩
  obtain ⟨L, hL⟩ : ∃ L, D.bs.length = L := ⟨_, rfl⟩
  obtain ⟨ab, hab⟩ : ∃ ab, D.bs ++ b = ab := ⟨_, rfl⟩
  obtain ⟨na, hna⟩ : ∃ na, D.bs.length + b.length = na := ⟨_, rfl⟩
  obtain ⟨sb, hsb⟩ : ∃ sb, b = sb := ⟨_, rfl⟩
  obtain ⟨ns, hns⟩ : ∃ ns, b.length = ns := ⟨_, rfl⟩
  obtain ⟨sy, hsy⟩ : ∃ sy, D.syn = sy := ⟨_, rfl⟩
  obtain ⟨ssy, hssy⟩ : ∃ ssy, b.length = ssy := ⟨_, rfl⟩
  have hl1 : L ≤ R := by rw [← hL, ← hR]; exact hok.len
  have hl2 : R ≤ 65536 := by rw [← hR]; exact hok.room
  have HB := Lib.hid (((Below.refl w.heap.size w).alloc (Nat.le_refl _) (diskB A n c s r)).alloc (by simp) (diskB A n c s r))
  have HG := Lib.hid (fun W => greatD_any A n c s r W (b := false) (by simpa using hn))
  have d2 : decide ((300 : Int) < (nb : Int)) = false := by simp; omega
  have HFr : Hid (∀ W, Below w.heap.size w W → Calls Try.prog 23 #[diskV A n c s r] W fun e w' => e = .returned (.int .i64 ((R : Int) - (L : Int))) ∧ Below W.heap.size W w') := fun W hW => by subst hR hL; exact free_any A n c s r bs w.heap.size W (hr.below hW) hW.size hc hD
  have HOw : Hid (∀ W, Below w.heap.size w W → Calls Try.prog 14 #[diskV A n c s r] W (DiskN L D.bs sy R W)) := fun W hW => by
    have h := own_any A n c s r bs w.heap.size W (hr.below hW) hW.size hc
    rw [hD] at h
    subst hR hL hsy; exact h
  have HAp : Hid (∀ W, Below w.heap.size w W → Calls Try.prog 10 #[diskV A n c s r, .slice Ab nb cb] W (DiskNE na ab sy R 0 W)) := fun W hW => by
    have h := append_N (W := W) hD ((hr.below hW).more hW.size) hc hby ((hrb.below hW).more hW.size) hcb hcbm hbb (by omega) (by omega)
    subst hR hna hab hsy; exact h
  have HSw : Hid (∀ W, Below w.heap.size w W → Calls Try.prog 12 #[diskV A n c s r, .slice Ab nb cb] W (DiskNE ns sb ssy R 0 W)) := fun W hW => by
    have h := swap_N (W := W) hD ((hr.below hW).more hW.size) hc hby ((hrb.below hW).more hW.size) hcb hcbm hbb (by omega) rfl (by omega)
    subst hR hns hsb hssy; exact h
  have HSm : Hid (∀ W, Below w.heap.size w W → ∀ (A2 : Option Addr) (c2 : Nat), Rd W W.heap.size A2 L (bv D.bs) → L ≤ c2 → Calls Try.prog 25 #[diskV A2 L c2 sy R, diskV A n c s r] W fun e w' => e = .returned (.bool true) ∧ Below W.heap.size W w') := fun W hW A2 c2 h2 h3 => by
    subst hR hL hsy
    have h := same_any A2 D.bs.length c2 D.syn D.room D.bs A n c s r bs W.heap.size W h2 (Nat.le_refl _) h3 hok.byte ((hr.below hW).more hW.size) hc hby (cnt_self hok) hD
    rwa [show decide (D = D) = true by simp] at h
  have HSb : Hid (∀ W, Below w.heap.size w W → ∀ (A2 : Option Addr) (c2 : Nat), Rd W W.heap.size A2 nb (bv b) → Calls Try.prog 22 #[.slice A2 nb c2, .slice Ab nb cb] W fun e w' => e = .returned (.bool true) ∧ w' = W) := fun W hW A2 c2 h2 => by
    have h := same_bytes A2 Ab nb c2 nb cb b b W.heap.size w.heap.size W h2 (hrb.below hW) hbb hbb
    rwa [show decide (b = b) = true by simp] at h
  have HSd : Hid (∀ W, Below w.heap.size w W → ∀ (A2 : Option Addr) (c2 : Nat), Rd W W.heap.size A2 n (bv bs) → Calls Try.prog 22 #[.slice A n c, .slice A2 n c2] W fun e w' => e = .returned (.bool true) ∧ w' = W) := fun W hW A2 c2 h2 => by
    have h := same_bytes A A2 n c n c2 bs bs w.heap.size W.heap.size W (hr.below hW) h2 hby hby
    rwa [show decide (bs = bs) = true by simp] at h
  obtain ⟨A7, c7, W3, e3, o3, b3⟩ := run_copy ((w.alloc (diskB A n c s r)).alloc (diskB A n c s r)) w.heap.size A n c bs (hr.below HB.out) HB.out.size (by omega) (w.heap.size + 1 + 1) (by simp)
  have hx2 := (Whole.new w 24 #[.slice A n c, .int .i64 s, .int .i64 r]).alloc (diskB A n c s r)
  have B3 := Lib.hid (HB.out.trans (b3.mono HB.out.size))
  have X3 := Lib.hid (hx2.under b3)
  have R3 := Lib.hid (Rd.of_own o3)
  have E3 := Lib.hid e3
  have hna2 : na ≤ 1000000 := by omega
  have d4 : decide ((nb : Int) ≤ (R : Int) - (L : Int)) = true := by simp; omega
  have d5 : decide (nb ≤ R) = true := by simp; omega
  obtain rfl : nb = ns := by omega
  obtain rfl : nb = ssy := by omega
  obtain rfl : b = sb := hsb
  have d3 : decide ((R : Int) - (L : Int) < 0) = false := by simp; omega
  have d7 : decide (R < na) = false := by simp; omega
  clear hr hby hrb hbb hD hbl hok e3 o3 b3 hx2 hR hL hcbm hab hna hns hsy hssy
  go_enter Try.func5, Try.ntmps5
  go_wp2_with fail
  refine (HG.out _).mono ?_
  rintro e w1 ⟨rfl, rfl⟩
  go_wp2_with (at_builtin; refine wpList_app (by rfl) _ _ _ rfl _ _ _ _ rfl rfl E3.out ?_; clear E3; obtain ⟨x0, x1, x2⟩ := X3.out.cells3)
  refine (HFr.out _ B3.out).mono ?_
  rintro e w4 ⟨rfl, b4⟩
  have B4 := Lib.hid (B3.out.trans (b4.mono B3.out.size))
  have X4 := Lib.hid (X3.out.under b4)
  have R4 := Lib.hid ((R3.out.below b4).more b4.size)
  clear x0 x1 x2 b4 X3 R3 B3 HFr HG HB
  obtain ⟨x0, x1, x2⟩ := X4.out.cells3
  go_wp2_with fail
  refine (HOw.out _ B4.out).mono ?_
  rintro e w5 ⟨A5, c5, rfl, o5, b5⟩
  have b5' := b5.alloc b5.size (diskB A5 L c5 sy R)
  have B5 := Lib.hid (B4.out.trans (b5'.mono B4.out.size))
  have X5 := Lib.hid ((X4.out.under b5).alloc (diskB A5 L c5 sy R))
  have R5 := Lib.hid ((R4.out.below b5').more b5'.size)
  have RO5 := Lib.hid ((Rd.of_own o5).up (diskB A5 L c5 sy R))
  have C5 := own_cap o5
  have Y5 := Lib.hid (Whole.new w5 24 #[.slice A5 L c5, .int .i64 sy, .int .i64 R])
  clear x0 x1 x2 b5 b5' o5 X4 R4 B4 HOw
  obtain ⟨x0, x1, x2⟩ := X5.out.cells3
  obtain ⟨W5, hW5⟩ : ∃ W, w5.alloc (diskB A5 L c5 sy R) = W := ⟨_, rfl⟩
  rw [hW5] at B5 X5 R5 RO5 Y5 x0 x1 x2
  go_wp2_with fail
  clear hW5
  refine (HAp.out _ B5.out).mono ?_
  rintro e w6 ⟨A6, c6, rfl, o6, b6⟩
  have b6' := b6.alloc b6.size (diskB A6 na c6 sy R)
  have B6 := Lib.hid (B5.out.trans (b6'.mono B5.out.size))
  have X6 := Lib.hid ((X5.out.under b6).alloc (diskB A6 na c6 sy R))
  have Y6 := Lib.hid ((Y5.out.under b6).alloc (diskB A6 na c6 sy R))
  have R6 := Lib.hid ((R5.out.below b6').more b6'.size)
  have RO6 := Lib.hid ((RO5.out.below b6').more b6'.size)
  have HRA : Hid (RoomAt W5.heap.size w6.heap.size W5 A6 na c6 (.int .i64 sy) (.int .i64 R) (w6.alloc (diskB A6 na c6 sy R))) := ⟨b6', Whole.new w6 _ _, _, o6.alloc _⟩
  have RA6 := Lib.hid ((Rd.of_own o6).up (diskB A6 na c6 sy R))
  have C6 := own_cap o6
  have L6 : w6.heap.size < (w6.alloc (diskB A6 na c6 sy R)).heap.size := by simp
  have S6 : W5.heap.size ≤ w6.heap.size := b6.size
  clear x0 x1 x2 b6 b6' o6 HAp
  obtain ⟨W6, hW6⟩ : ∃ W, w6.alloc (diskB A6 na c6 sy R) = W := ⟨_, rfl⟩
  rw [hW6] at B6 X6 Y6 R6 RO6 HRA RA6 L6
  obtain ⟨x0, x1, x2⟩ := X6.out.cells3
  obtain ⟨y0, y1, y2⟩ := Y6.out.cells3
  obtain ⟨z0, z1, z2⟩ := HRA.out.box.cells3
  go_wp2_with fail
  clear hW6
  go_loopw [12] (fun i wr => ∃ k : Nat, i = .int .i64 (k : Int) ∧ k ≤ na ∧ RoomAt W5.heap.size w6.heap.size W5 A6 na c6 (.int .i64 sy) (.int .i64 R) wr) (fun i _ => na - (intOf i).toNat)
  case atStart => exact ⟨0, rfl, Nat.zero_le _, HRA.out⟩
  case round =>
    obtain ⟨k, rfl, hk, hRt⟩ := hrel
    clear x0 x1 x2 y0 y1 y2 z0 z1 z2
    obtain ⟨z0, z1, z2⟩ := hRt.box.cells3
    have HRt := Lib.hid hRt
    clear hRt
    by_cases hlt : k < na
    · obtain ⟨ys, hrow⟩ := HRt.out.row
      obtain ⟨g, cap, hv, hg1, hg2⟩ := hrow.form (by omega)
      injection hv with hA _ hcap
      subst hA
      have hcell := hrow.cellAt k (by omega)
      have hfz := hrow.frozenAt k
      have hyl : ys.length = na := by have := hrow.1; omega
      obtain ⟨u, hu⟩ : ∃ u, ys[k]? = some u := ⟨_, List.getElem?_eq_getElem (by omega)⟩
      rw [hu] at hcell
      have hI : (k : Int) < (na : Int) := by omega
      have hap := own_apart_of (by decide) hrow HRt.out.box
      have HRow := Lib.hid hrow
      have HAP := Lib.hid hap
      have HG1 := Lib.hid hg1
      clear hrow hap hg1 hcap hyl hu
      go_wp2_with fail
      go_roundw
      case rel =>
        refine ⟨k + 1, by go_num, by omega, HRt.out.below.setCell (p := ⟨g, k, none⟩) HG1.out _, HRt.out.box.far (p := ⟨g, k, none⟩) (fun e => HAP.out (by rw [e]; rfl)) _, _, (HRow.out.stored k _).1⟩
      case measure => simp [intOf]; omega
    · obtain rfl : na = k := by omega
      have hb5 := HRt.out.below
      have Bw := Lib.hid (B5.out.trans (hb5.mono B5.out.size))
      have Xw := Lib.hid (X5.out.under hb5)
      have Yw := Lib.hid (Y5.out.under hb5)
      have Rw := Lib.hid ((R5.out.below hb5).more hb5.size)
      have ROw := Lib.hid ((RO5.out.below hb5).more hb5.size)
      obtain ⟨x0, x1, x2⟩ := Xw.out.cells3
      clear hb5 HRt
      go_wp2_with fail
      refine (HSw.out _ Bw.out).mono ?_
      rintro e w7 ⟨A13, c13, rfl, o7, b7⟩
      have b7' := b7.alloc b7.size (diskB A13 nb c13 nb R)
      have B7 := Lib.hid (Bw.out.trans (b7'.mono Bw.out.size))
      have X7 := Lib.hid ((Xw.out.under b7).alloc (diskB A13 nb c13 nb R))
      have Y7 := Lib.hid ((Yw.out.under b7).alloc (diskB A13 nb c13 nb R))
      have Z7 := Lib.hid (Whole.new w7 24 #[.slice A13 nb c13, .int .i64 nb, .int .i64 R])
      have R7 := Lib.hid ((Rw.out.below b7').more b7'.size)
      have RO7 := Lib.hid ((ROw.out.below b7').more b7'.size)
      have RS7 := Lib.hid ((Rd.of_own o7).up (diskB A13 nb c13 nb R))
      have C13 := own_cap o7
      clear x0 x1 x2 z0 z1 z2 b7 b7' o7 Bw Xw Yw Rw ROw HSw
      obtain ⟨W7, hW7⟩ : ∃ W, w7.alloc (diskB A13 nb c13 nb R) = W := ⟨_, rfl⟩
      rw [hW7] at B7 X7 Y7 Z7 R7 RO7 RS7
      obtain ⟨x0, x1, x2⟩ := X7.out.cells3
      obtain ⟨y0, y1, y2⟩ := Y7.out.cells3
      obtain ⟨z0, z1, z2⟩ := Z7.out.cells3
      go_wp2_with fail
      clear hW7
      refine (HSb.out _ B7.out _ _ RS7.out).mono ?_
      rintro e w8 ⟨rfl, rfl⟩
      have B8 := B7
      have R8 := R7
      have RO8 := RO7
      go_wp2_with fail
      refine (HSd.out _ B8.out _ _ R8.out).mono ?_
      rintro e w9 ⟨rfl, rfl⟩
      go_wp2_with fail
      refine (HSm.out _ B8.out _ _ RO8.out C5).mono ?_
      rintro e w9 ⟨rfl, b9⟩
      have B9 := Lib.hid (B8.out.trans (b9.mono B8.out.size))
      clear b9 x0 x1 x2 y0 y1 y2 z0 z1 z2
      go_wp2_with fail
      refine (wakesD_any _).mono ?_
      rintro e w10 ⟨rfl, b10⟩
      have B10 := Lib.hid (B9.out.trans (b10.mono B9.out.size))
      clear b10
      go_wp2_with fail
      go_ret
      exact ⟨rfl, B10.out⟩

set_option maxRecDepth 100000 in
set_option maxHeartbeats 4000000 in
theorem diskRoom_b (A : Option Addr) (n c : Nat) (s r : Int) (bs : List Nat) (Ab : Option Addr) (nb cb : Nat) (b : List Nat) (by_ : Nat) (w : World) (hr : Rd w w.heap.size A n (bv bs)) (hc : n ≤ c) (hby : ∀ x ∈ bs, x < 256) (hrb : Rd w w.heap.size Ab nb (bv b)) (hcb : nb ≤ cb) (hcbm : cb ≤ maxLen) (hbb : ∀ x ∈ b, x < 256)
    (hn : n ≤ 400) (hnb : nb ≤ 300) {D : Dk} (hD : cnt bs s r = D) (hfit : ¬ D.bs.length + b.length ≤ D.room) (hfit2 : b.length ≤ D.room) :
    Calls Try.prog 5 #[diskV A n c s r, .slice Ab nb cb, .int .u8 (by_ : Int)] w (TruePost w) := by
  have hbl : b.length = nb := by have := hrb.1; rwa [bv_length] at this
  have hok : D.Ok := by rw [← hD]; exact cnt_ok s r hby
  obtain ⟨R, hR⟩ : ∃ R, D.room = R := ⟨_, rfl⟩
  obtain ⟨L, hL⟩ : ∃ L, D.bs.length = L := ⟨_, rfl⟩
  obtain ⟨ab, hab⟩ : ∃ ab, D.bs = ab := ⟨_, rfl⟩
  obtain ⟨na, hna⟩ : ∃ na, D.bs.length = na := ⟨_, rfl⟩
  obtain ⟨sb, hsb⟩ : ∃ sb, b = sb := ⟨_, rfl⟩
  obtain ⟨ns, hns⟩ : ∃ ns, b.length = ns := ⟨_, rfl⟩
  obtain ⟨sy, hsy⟩ : ∃ sy, D.syn = sy := ⟨_, rfl⟩
  obtain ⟨ssy, hssy⟩ : ∃ ssy, b.length = ssy := ⟨_, rfl⟩
  have hl1 : L ≤ R := by rw [← hL, ← hR]; exact hok.len
  have hl2 : R ≤ 65536 := by rw [← hR]; exact hok.room
  have HB := Lib.hid (((Below.refl w.heap.size w).alloc (Nat.le_refl _) (diskB A n c s r)).alloc (by simp) (diskB A n c s r))
  have HG := Lib.hid (fun W => greatD_any A n c s r W (b := false) (by simpa using hn))
  have d2 : decide ((300 : Int) < (nb : Int)) = false := by simp; omega
  have HFr : Hid (∀ W, Below w.heap.size w W → Calls Try.prog 23 #[diskV A n c s r] W fun e w' => e = .returned (.int .i64 ((R : Int) - (L : Int))) ∧ Below W.heap.size W w') := fun W hW => by subst hR hL; exact free_any A n c s r bs w.heap.size W (hr.below hW) hW.size hc hD
  have HOw : Hid (∀ W, Below w.heap.size w W → Calls Try.prog 14 #[diskV A n c s r] W (DiskN L D.bs sy R W)) := fun W hW => by
    have h := own_any A n c s r bs w.heap.size W (hr.below hW) hW.size hc
    rw [hD] at h
    subst hR hL hsy; exact h
  have HAp : Hid (∀ W, Below w.heap.size w W → Calls Try.prog 10 #[diskV A n c s r, .slice Ab nb cb] W (DiskNE na ab sy R 30 W)) := fun W hW => by
    have h := append_full (W := W) hD ((hr.below hW).more hW.size) hc hby ((hrb.below hW).more hW.size) hcb hcbm hbb (by omega) (by omega)
    subst hR hna hab hsy; exact h
  have HSw : Hid (∀ W, Below w.heap.size w W → Calls Try.prog 12 #[diskV A n c s r, .slice Ab nb cb] W (DiskNE ns sb ssy R 0 W)) := fun W hW => by
    have h := swap_N (W := W) hD ((hr.below hW).more hW.size) hc hby ((hrb.below hW).more hW.size) hcb hcbm hbb (by omega) rfl (by omega)
    subst hR hns hsb hssy; exact h
  have HSm : Hid (∀ W, Below w.heap.size w W → ∀ (A2 : Option Addr) (c2 : Nat), Rd W W.heap.size A2 L (bv D.bs) → L ≤ c2 → Calls Try.prog 25 #[diskV A2 L c2 sy R, diskV A n c s r] W fun e w' => e = .returned (.bool true) ∧ Below W.heap.size W w') := fun W hW A2 c2 h2 h3 => by
    subst hR hL hsy
    have h := same_any A2 D.bs.length c2 D.syn D.room D.bs A n c s r bs W.heap.size W h2 (Nat.le_refl _) h3 hok.byte ((hr.below hW).more hW.size) hc hby (cnt_self hok) hD
    rwa [show decide (D = D) = true by simp] at h
  have HSb : Hid (∀ W, Below w.heap.size w W → ∀ (A2 : Option Addr) (c2 : Nat), Rd W W.heap.size A2 nb (bv b) → Calls Try.prog 22 #[.slice A2 nb c2, .slice Ab nb cb] W fun e w' => e = .returned (.bool true) ∧ w' = W) := fun W hW A2 c2 h2 => by
    have h := same_bytes A2 Ab nb c2 nb cb b b W.heap.size w.heap.size W h2 (hrb.below hW) hbb hbb
    rwa [show decide (b = b) = true by simp] at h
  have HSd : Hid (∀ W, Below w.heap.size w W → ∀ (A2 : Option Addr) (c2 : Nat), Rd W W.heap.size A2 n (bv bs) → Calls Try.prog 22 #[.slice A n c, .slice A2 n c2] W fun e w' => e = .returned (.bool true) ∧ w' = W) := fun W hW A2 c2 h2 => by
    have h := same_bytes A A2 n c n c2 bs bs w.heap.size W.heap.size W (hr.below hW) h2 hby hby
    rwa [show decide (bs = bs) = true by simp] at h
  obtain ⟨A7, c7, W3, e3, o3, b3⟩ := run_copy ((w.alloc (diskB A n c s r)).alloc (diskB A n c s r)) w.heap.size A n c bs (hr.below HB.out) HB.out.size (by omega) (w.heap.size + 1 + 1) (by simp)
  have hx2 := (Whole.new w 24 #[.slice A n c, .int .i64 s, .int .i64 r]).alloc (diskB A n c s r)
  have B3 := Lib.hid (HB.out.trans (b3.mono HB.out.size))
  have X3 := Lib.hid (hx2.under b3)
  have R3 := Lib.hid (Rd.of_own o3)
  have E3 := Lib.hid e3
  have d4 : decide ((nb : Int) ≤ (R : Int) - (L : Int)) = false := by simp; omega
  obtain rfl : L = na := by omega
  obtain rfl : D.bs = ab := hab
  have d5 : decide (nb ≤ R) = true := by simp; omega
  obtain rfl : nb = ns := by omega
  obtain rfl : nb = ssy := by omega
  obtain rfl : b = sb := hsb
  have d3 : decide ((R : Int) - (L : Int) < 0) = false := by simp; omega
  have d7 : decide (R < L) = false := by simp; omega
  clear hr hby hrb hbb hD hbl hok e3 o3 b3 hx2 hR hL hcbm hna hns hsy hssy
  go_enter Try.func5, Try.ntmps5
  go_wp2_with fail
  refine (HG.out _).mono ?_
  rintro e w1 ⟨rfl, rfl⟩
  go_wp2_with (at_builtin; refine wpList_app (by rfl) _ _ _ rfl _ _ _ _ rfl rfl E3.out ?_; clear E3; obtain ⟨x0, x1, x2⟩ := X3.out.cells3)
  refine (HFr.out _ B3.out).mono ?_
  rintro e w4 ⟨rfl, b4⟩
  have B4 := Lib.hid (B3.out.trans (b4.mono B3.out.size))
  have X4 := Lib.hid (X3.out.under b4)
  have R4 := Lib.hid ((R3.out.below b4).more b4.size)
  clear x0 x1 x2 b4 X3 R3 B3 HFr HG HB
  obtain ⟨x0, x1, x2⟩ := X4.out.cells3
  go_wp2_with fail
  refine (HOw.out _ B4.out).mono ?_
  rintro e w5 ⟨A5, c5, rfl, o5, b5⟩
  have b5' := b5.alloc b5.size (diskB A5 L c5 sy R)
  have B5 := Lib.hid (B4.out.trans (b5'.mono B4.out.size))
  have X5 := Lib.hid ((X4.out.under b5).alloc (diskB A5 L c5 sy R))
  have R5 := Lib.hid ((R4.out.below b5').more b5'.size)
  have RO5 := Lib.hid ((Rd.of_own o5).up (diskB A5 L c5 sy R))
  have C5 := own_cap o5
  have Y5 := Lib.hid (Whole.new w5 24 #[.slice A5 L c5, .int .i64 sy, .int .i64 R])
  clear x0 x1 x2 b5 b5' o5 X4 R4 B4 HOw
  obtain ⟨x0, x1, x2⟩ := X5.out.cells3
  obtain ⟨W5, hW5⟩ : ∃ W, w5.alloc (diskB A5 L c5 sy R) = W := ⟨_, rfl⟩
  rw [hW5] at B5 X5 R5 RO5 Y5 x0 x1 x2
  go_wp2_with fail
  clear hW5
  refine (HAp.out _ B5.out).mono ?_
  rintro e w6 ⟨A6, c6, rfl, o6, b6⟩
  have b6' := b6.alloc b6.size (diskB A6 L c6 sy R)
  have B6 := Lib.hid (B5.out.trans (b6'.mono B5.out.size))
  have X6 := Lib.hid ((X5.out.under b6).alloc (diskB A6 L c6 sy R))
  have Y6 := Lib.hid ((Y5.out.under b6).alloc (diskB A6 L c6 sy R))
  have R6 := Lib.hid ((R5.out.below b6').more b6'.size)
  have RO6 := Lib.hid ((RO5.out.below b6').more b6'.size)
  have HRA : Hid (RoomAt W5.heap.size w6.heap.size W5 A6 L c6 (.int .i64 sy) (.int .i64 R) (w6.alloc (diskB A6 L c6 sy R))) := ⟨b6', Whole.new w6 _ _, _, o6.alloc _⟩
  have RA6 := Lib.hid ((Rd.of_own o6).up (diskB A6 L c6 sy R))
  have C6 := own_cap o6
  have L6 : w6.heap.size < (w6.alloc (diskB A6 L c6 sy R)).heap.size := by simp
  have S6 : W5.heap.size ≤ w6.heap.size := b6.size
  clear x0 x1 x2 b6 b6' o6 HAp
  obtain ⟨W6, hW6⟩ : ∃ W, w6.alloc (diskB A6 L c6 sy R) = W := ⟨_, rfl⟩
  rw [hW6] at B6 X6 Y6 R6 RO6 HRA RA6 L6
  obtain ⟨x0, x1, x2⟩ := X6.out.cells3
  obtain ⟨y0, y1, y2⟩ := Y6.out.cells3
  obtain ⟨z0, z1, z2⟩ := HRA.out.box.cells3
  go_wp2_with fail
  clear hW6
  refine (HSm.out _ B6.out _ _ RA6.out C6).mono ?_
  rintro e w6b ⟨rfl, b6b⟩
  have HRA2 : Hid (RoomAt W5.heap.size w6.heap.size W5 A6 L c6 (.int .i64 sy) (.int .i64 R) w6b) := ⟨HRA.out.below.trans (b6b.mono HRA.out.below.size), HRA.out.box.under b6b, by obtain ⟨ys, h⟩ := HRA.out.row; exact ⟨ys, own_under h b6b⟩⟩
  clear HRA x0 x1 x2 y0 y1 y2 z0 z1 z2 b6b
  have HRA := HRA2
  clear HRA2
  obtain ⟨z0, z1, z2⟩ := HRA.out.box.cells3
  obtain ⟨x0, x1, x2⟩ : True ∧ True ∧ True := ⟨trivial, trivial, trivial⟩
  obtain ⟨y0, y1, y2⟩ : True ∧ True ∧ True := ⟨trivial, trivial, trivial⟩
  go_wp2_with fail
  go_loopw [12] (fun i wr => ∃ k : Nat, i = .int .i64 (k : Int) ∧ k ≤ L ∧ RoomAt W5.heap.size w6.heap.size W5 A6 L c6 (.int .i64 sy) (.int .i64 R) wr) (fun i _ => L - (intOf i).toNat)
  case atStart => exact ⟨0, rfl, Nat.zero_le _, HRA.out⟩
  case round =>
    obtain ⟨k, rfl, hk, hRt⟩ := hrel
    clear x0 x1 x2 y0 y1 y2 z0 z1 z2
    obtain ⟨z0, z1, z2⟩ := hRt.box.cells3
    have HRt := Lib.hid hRt
    clear hRt
    by_cases hlt : k < L
    · obtain ⟨ys, hrow⟩ := HRt.out.row
      obtain ⟨g, cap, hv, hg1, hg2⟩ := hrow.form (by omega)
      injection hv with hA _ hcap
      subst hA
      have hcell := hrow.cellAt k (by omega)
      have hfz := hrow.frozenAt k
      have hyl : ys.length = L := by have := hrow.1; omega
      obtain ⟨u, hu⟩ : ∃ u, ys[k]? = some u := ⟨_, List.getElem?_eq_getElem (by omega)⟩
      rw [hu] at hcell
      have hI : (k : Int) < (L : Int) := by omega
      have hap := own_apart_of (by decide) hrow HRt.out.box
      have HRow := Lib.hid hrow
      have HAP := Lib.hid hap
      have HG1 := Lib.hid hg1
      clear hrow hap hg1 hcap hyl hu
      go_wp2_with fail
      go_roundw
      case rel =>
        refine ⟨k + 1, by go_num, by omega, HRt.out.below.setCell (p := ⟨g, k, none⟩) HG1.out _, HRt.out.box.far (p := ⟨g, k, none⟩) (fun e => HAP.out (by rw [e]; rfl)) _, _, (HRow.out.stored k _).1⟩
      case measure => simp [intOf]; omega
    · obtain rfl : L = k := by omega
      have hb5 := HRt.out.below
      have Bw := Lib.hid (B5.out.trans (hb5.mono B5.out.size))
      have Xw := Lib.hid (X5.out.under hb5)
      have Yw := Lib.hid (Y5.out.under hb5)
      have Rw := Lib.hid ((R5.out.below hb5).more hb5.size)
      have ROw := Lib.hid ((RO5.out.below hb5).more hb5.size)
      obtain ⟨x0, x1, x2⟩ := Xw.out.cells3
      clear hb5 HRt
      go_wp2_with fail
      refine (HSw.out _ Bw.out).mono ?_
      rintro e w7 ⟨A13, c13, rfl, o7, b7⟩
      have b7' := b7.alloc b7.size (diskB A13 nb c13 nb R)
      have B7 := Lib.hid (Bw.out.trans (b7'.mono Bw.out.size))
      have X7 := Lib.hid ((Xw.out.under b7).alloc (diskB A13 nb c13 nb R))
      have Y7 := Lib.hid ((Yw.out.under b7).alloc (diskB A13 nb c13 nb R))
      have Z7 := Lib.hid (Whole.new w7 24 #[.slice A13 nb c13, .int .i64 nb, .int .i64 R])
      have R7 := Lib.hid ((Rw.out.below b7').more b7'.size)
      have RO7 := Lib.hid ((ROw.out.below b7').more b7'.size)
      have RS7 := Lib.hid ((Rd.of_own o7).up (diskB A13 nb c13 nb R))
      have C13 := own_cap o7
      clear x0 x1 x2 z0 z1 z2 b7 b7' o7 Bw Xw Yw Rw ROw HSw
      obtain ⟨W7, hW7⟩ : ∃ W, w7.alloc (diskB A13 nb c13 nb R) = W := ⟨_, rfl⟩
      rw [hW7] at B7 X7 Y7 Z7 R7 RO7 RS7
      obtain ⟨x0, x1, x2⟩ := X7.out.cells3
      obtain ⟨y0, y1, y2⟩ := Y7.out.cells3
      obtain ⟨z0, z1, z2⟩ := Z7.out.cells3
      go_wp2_with fail
      clear hW7
      refine (HSb.out _ B7.out _ _ RS7.out).mono ?_
      rintro e w8 ⟨rfl, rfl⟩
      have B8 := B7
      have R8 := R7
      have RO8 := RO7
      go_wp2_with fail
      refine (HSd.out _ B8.out _ _ R8.out).mono ?_
      rintro e w9 ⟨rfl, rfl⟩
      go_wp2_with fail
      refine (HSm.out _ B8.out _ _ RO8.out C5).mono ?_
      rintro e w9 ⟨rfl, b9⟩
      have B9 := Lib.hid (B8.out.trans (b9.mono B8.out.size))
      clear b9 x0 x1 x2 y0 y1 y2 z0 z1 z2
      go_wp2_with fail
      refine (wakesD_any _).mono ?_
      rintro e w10 ⟨rfl, b10⟩
      have B10 := Lib.hid (B9.out.trans (b10.mono B9.out.size))
      clear b10
      go_wp2_with fail
      go_ret
      exact ⟨rfl, B10.out⟩

set_option maxRecDepth 100000 in
set_option maxHeartbeats 4000000 in
theorem diskRoom_c (A : Option Addr) (n c : Nat) (s r : Int) (bs : List Nat) (Ab : Option Addr) (nb cb : Nat) (b : List Nat) (by_ : Nat) (w : World) (hr : Rd w w.heap.size A n (bv bs)) (hc : n ≤ c) (hby : ∀ x ∈ bs, x < 256) (hrb : Rd w w.heap.size Ab nb (bv b)) (hcb : nb ≤ cb) (hcbm : cb ≤ maxLen) (hbb : ∀ x ∈ b, x < 256)
    (hn : n ≤ 400) (hnb : nb ≤ 300) {D : Dk} (hD : cnt bs s r = D) (hfit : ¬ D.bs.length + b.length ≤ D.room) (hfit2 : ¬ b.length ≤ D.room) :
    Calls Try.prog 5 #[diskV A n c s r, .slice Ab nb cb, .int .u8 (by_ : Int)] w (TruePost w) := by
  have hbl : b.length = nb := by have := hrb.1; rwa [bv_length] at this
  have hok : D.Ok := by rw [← hD]; exact cnt_ok s r hby
  obtain ⟨R, hR⟩ : ∃ R, D.room = R := ⟨_, rfl⟩
  obtain ⟨L, hL⟩ : ∃ L, D.bs.length = L := ⟨_, rfl⟩
  obtain ⟨ab, hab⟩ : ∃ ab, D.bs = ab := ⟨_, rfl⟩
  obtain ⟨na, hna⟩ : ∃ na, D.bs.length = na := ⟨_, rfl⟩
  obtain ⟨sb, hsb⟩ : ∃ sb, D.bs = sb := ⟨_, rfl⟩
  obtain ⟨ns, hns⟩ : ∃ ns, D.bs.length = ns := ⟨_, rfl⟩
  obtain ⟨sy, hsy⟩ : ∃ sy, D.syn = sy := ⟨_, rfl⟩
  obtain ⟨ssy, hssy⟩ : ∃ ssy, D.syn = ssy := ⟨_, rfl⟩
  have hl1 : L ≤ R := by rw [← hL, ← hR]; exact hok.len
  have hl2 : R ≤ 65536 := by rw [← hR]; exact hok.room
  have HB := Lib.hid (((Below.refl w.heap.size w).alloc (Nat.le_refl _) (diskB A n c s r)).alloc (by simp) (diskB A n c s r))
  have HG := Lib.hid (fun W => greatD_any A n c s r W (b := false) (by simpa using hn))
  have d2 : decide ((300 : Int) < (nb : Int)) = false := by simp; omega
  have HFr : Hid (∀ W, Below w.heap.size w W → Calls Try.prog 23 #[diskV A n c s r] W fun e w' => e = .returned (.int .i64 ((R : Int) - (L : Int))) ∧ Below W.heap.size W w') := fun W hW => by subst hR hL; exact free_any A n c s r bs w.heap.size W (hr.below hW) hW.size hc hD
  have HOw : Hid (∀ W, Below w.heap.size w W → Calls Try.prog 14 #[diskV A n c s r] W (DiskN L D.bs sy R W)) := fun W hW => by
    have h := own_any A n c s r bs w.heap.size W (hr.below hW) hW.size hc
    rw [hD] at h
    subst hR hL hsy; exact h
  have HAp : Hid (∀ W, Below w.heap.size w W → Calls Try.prog 10 #[diskV A n c s r, .slice Ab nb cb] W (DiskNE na ab sy R 30 W)) := fun W hW => by
    have h := append_full (W := W) hD ((hr.below hW).more hW.size) hc hby ((hrb.below hW).more hW.size) hcb hcbm hbb (by omega) (by omega)
    subst hR hna hab hsy; exact h
  have HSw : Hid (∀ W, Below w.heap.size w W → Calls Try.prog 12 #[diskV A n c s r, .slice Ab nb cb] W (DiskNE ns sb ssy R 30 W)) := fun W hW => by
    have h := swap_full (W := W) hD ((hr.below hW).more hW.size) hc hby ((hrb.below hW).more hW.size) hcb hcbm hbb (by omega) hfit2
    subst hR hns hsb hssy; exact h
  have HSm : Hid (∀ W, Below w.heap.size w W → ∀ (A2 : Option Addr) (c2 : Nat), Rd W W.heap.size A2 L (bv D.bs) → L ≤ c2 → Calls Try.prog 25 #[diskV A2 L c2 sy R, diskV A n c s r] W fun e w' => e = .returned (.bool true) ∧ Below W.heap.size W w') := fun W hW A2 c2 h2 h3 => by
    subst hR hL hsy
    have h := same_any A2 D.bs.length c2 D.syn D.room D.bs A n c s r bs W.heap.size W h2 (Nat.le_refl _) h3 hok.byte ((hr.below hW).more hW.size) hc hby (cnt_self hok) hD
    rwa [show decide (D = D) = true by simp] at h
  have HSb : Hid (∀ W, Below w.heap.size w W → ∀ (A2 : Option Addr) (c2 : Nat), Rd W W.heap.size A2 nb (bv b) → Calls Try.prog 22 #[.slice A2 nb c2, .slice Ab nb cb] W fun e w' => e = .returned (.bool true) ∧ w' = W) := fun W hW A2 c2 h2 => by
    have h := same_bytes A2 Ab nb c2 nb cb b b W.heap.size w.heap.size W h2 (hrb.below hW) hbb hbb
    rwa [show decide (b = b) = true by simp] at h
  have HSd : Hid (∀ W, Below w.heap.size w W → ∀ (A2 : Option Addr) (c2 : Nat), Rd W W.heap.size A2 n (bv bs) → Calls Try.prog 22 #[.slice A n c, .slice A2 n c2] W fun e w' => e = .returned (.bool true) ∧ w' = W) := fun W hW A2 c2 h2 => by
    have h := same_bytes A A2 n c n c2 bs bs w.heap.size W.heap.size W (hr.below hW) h2 hby hby
    rwa [show decide (bs = bs) = true by simp] at h
  obtain ⟨A7, c7, W3, e3, o3, b3⟩ := run_copy ((w.alloc (diskB A n c s r)).alloc (diskB A n c s r)) w.heap.size A n c bs (hr.below HB.out) HB.out.size (by omega) (w.heap.size + 1 + 1) (by simp)
  have hx2 := (Whole.new w 24 #[.slice A n c, .int .i64 s, .int .i64 r]).alloc (diskB A n c s r)
  have B3 := Lib.hid (HB.out.trans (b3.mono HB.out.size))
  have X3 := Lib.hid (hx2.under b3)
  have R3 := Lib.hid (Rd.of_own o3)
  have E3 := Lib.hid e3
  have d4 : decide ((nb : Int) ≤ (R : Int) - (L : Int)) = false := by simp; omega
  obtain rfl : L = na := by omega
  obtain rfl : D.bs = ab := hab
  have d5 : decide (nb ≤ R) = false := by simp; omega
  obtain rfl : L = ns := by omega
  obtain rfl : sy = ssy := by omega
  obtain rfl : D.bs = sb := hsb
  have d3 : decide ((R : Int) - (L : Int) < 0) = false := by simp; omega
  have d7 : decide (R < L) = false := by simp; omega
  clear hr hby hrb hbb hD hbl hok e3 o3 b3 hx2 hR hL hcbm hna hns hsy hssy
  go_enter Try.func5, Try.ntmps5
  go_wp2_with fail
  refine (HG.out _).mono ?_
  rintro e w1 ⟨rfl, rfl⟩
  go_wp2_with (at_builtin; refine wpList_app (by rfl) _ _ _ rfl _ _ _ _ rfl rfl E3.out ?_; clear E3; obtain ⟨x0, x1, x2⟩ := X3.out.cells3)
  refine (HFr.out _ B3.out).mono ?_
  rintro e w4 ⟨rfl, b4⟩
  have B4 := Lib.hid (B3.out.trans (b4.mono B3.out.size))
  have X4 := Lib.hid (X3.out.under b4)
  have R4 := Lib.hid ((R3.out.below b4).more b4.size)
  clear x0 x1 x2 b4 X3 R3 B3 HFr HG HB
  obtain ⟨x0, x1, x2⟩ := X4.out.cells3
  go_wp2_with fail
  refine (HOw.out _ B4.out).mono ?_
  rintro e w5 ⟨A5, c5, rfl, o5, b5⟩
  have b5' := b5.alloc b5.size (diskB A5 L c5 sy R)
  have B5 := Lib.hid (B4.out.trans (b5'.mono B4.out.size))
  have X5 := Lib.hid ((X4.out.under b5).alloc (diskB A5 L c5 sy R))
  have R5 := Lib.hid ((R4.out.below b5').more b5'.size)
  have RO5 := Lib.hid ((Rd.of_own o5).up (diskB A5 L c5 sy R))
  have C5 := own_cap o5
  have Y5 := Lib.hid (Whole.new w5 24 #[.slice A5 L c5, .int .i64 sy, .int .i64 R])
  clear x0 x1 x2 b5 b5' o5 X4 R4 B4 HOw
  obtain ⟨x0, x1, x2⟩ := X5.out.cells3
  obtain ⟨W5, hW5⟩ : ∃ W, w5.alloc (diskB A5 L c5 sy R) = W := ⟨_, rfl⟩
  rw [hW5] at B5 X5 R5 RO5 Y5 x0 x1 x2
  go_wp2_with fail
  clear hW5
  refine (HAp.out _ B5.out).mono ?_
  rintro e w6 ⟨A6, c6, rfl, o6, b6⟩
  have b6' := b6.alloc b6.size (diskB A6 L c6 sy R)
  have B6 := Lib.hid (B5.out.trans (b6'.mono B5.out.size))
  have X6 := Lib.hid ((X5.out.under b6).alloc (diskB A6 L c6 sy R))
  have Y6 := Lib.hid ((Y5.out.under b6).alloc (diskB A6 L c6 sy R))
  have R6 := Lib.hid ((R5.out.below b6').more b6'.size)
  have RO6 := Lib.hid ((RO5.out.below b6').more b6'.size)
  have HRA : Hid (RoomAt W5.heap.size w6.heap.size W5 A6 L c6 (.int .i64 sy) (.int .i64 R) (w6.alloc (diskB A6 L c6 sy R))) := ⟨b6', Whole.new w6 _ _, _, o6.alloc _⟩
  have RA6 := Lib.hid ((Rd.of_own o6).up (diskB A6 L c6 sy R))
  have C6 := own_cap o6
  have L6 : w6.heap.size < (w6.alloc (diskB A6 L c6 sy R)).heap.size := by simp
  have S6 : W5.heap.size ≤ w6.heap.size := b6.size
  clear x0 x1 x2 b6 b6' o6 HAp
  obtain ⟨W6, hW6⟩ : ∃ W, w6.alloc (diskB A6 L c6 sy R) = W := ⟨_, rfl⟩
  rw [hW6] at B6 X6 Y6 R6 RO6 HRA RA6 L6
  obtain ⟨x0, x1, x2⟩ := X6.out.cells3
  obtain ⟨y0, y1, y2⟩ := Y6.out.cells3
  obtain ⟨z0, z1, z2⟩ := HRA.out.box.cells3
  go_wp2_with fail
  clear hW6
  refine (HSm.out _ B6.out _ _ RA6.out C6).mono ?_
  rintro e w6b ⟨rfl, b6b⟩
  have HRA2 : Hid (RoomAt W5.heap.size w6.heap.size W5 A6 L c6 (.int .i64 sy) (.int .i64 R) w6b) := ⟨HRA.out.below.trans (b6b.mono HRA.out.below.size), HRA.out.box.under b6b, by obtain ⟨ys, h⟩ := HRA.out.row; exact ⟨ys, own_under h b6b⟩⟩
  clear HRA x0 x1 x2 y0 y1 y2 z0 z1 z2 b6b
  have HRA := HRA2
  clear HRA2
  obtain ⟨z0, z1, z2⟩ := HRA.out.box.cells3
  obtain ⟨x0, x1, x2⟩ : True ∧ True ∧ True := ⟨trivial, trivial, trivial⟩
  obtain ⟨y0, y1, y2⟩ : True ∧ True ∧ True := ⟨trivial, trivial, trivial⟩
  go_wp2_with fail
  go_loopw [12] (fun i wr => ∃ k : Nat, i = .int .i64 (k : Int) ∧ k ≤ L ∧ RoomAt W5.heap.size w6.heap.size W5 A6 L c6 (.int .i64 sy) (.int .i64 R) wr) (fun i _ => L - (intOf i).toNat)
  case atStart => exact ⟨0, rfl, Nat.zero_le _, HRA.out⟩
  case round =>
    obtain ⟨k, rfl, hk, hRt⟩ := hrel
    clear x0 x1 x2 y0 y1 y2 z0 z1 z2
    obtain ⟨z0, z1, z2⟩ := hRt.box.cells3
    have HRt := Lib.hid hRt
    clear hRt
    by_cases hlt : k < L
    · obtain ⟨ys, hrow⟩ := HRt.out.row
      obtain ⟨g, cap, hv, hg1, hg2⟩ := hrow.form (by omega)
      injection hv with hA _ hcap
      subst hA
      have hcell := hrow.cellAt k (by omega)
      have hfz := hrow.frozenAt k
      have hyl : ys.length = L := by have := hrow.1; omega
      obtain ⟨u, hu⟩ : ∃ u, ys[k]? = some u := ⟨_, List.getElem?_eq_getElem (by omega)⟩
      rw [hu] at hcell
      have hI : (k : Int) < (L : Int) := by omega
      have hap := own_apart_of (by decide) hrow HRt.out.box
      have HRow := Lib.hid hrow
      have HAP := Lib.hid hap
      have HG1 := Lib.hid hg1
      clear hrow hap hg1 hcap hyl hu
      go_wp2_with fail
      go_roundw
      case rel =>
        refine ⟨k + 1, by go_num, by omega, HRt.out.below.setCell (p := ⟨g, k, none⟩) HG1.out _, HRt.out.box.far (p := ⟨g, k, none⟩) (fun e => HAP.out (by rw [e]; rfl)) _, _, (HRow.out.stored k _).1⟩
      case measure => simp [intOf]; omega
    · obtain rfl : L = k := by omega
      have hb5 := HRt.out.below
      have Bw := Lib.hid (B5.out.trans (hb5.mono B5.out.size))
      have Xw := Lib.hid (X5.out.under hb5)
      have Yw := Lib.hid (Y5.out.under hb5)
      have Rw := Lib.hid ((R5.out.below hb5).more hb5.size)
      have ROw := Lib.hid ((RO5.out.below hb5).more hb5.size)
      obtain ⟨x0, x1, x2⟩ := Xw.out.cells3
      clear hb5 HRt
      go_wp2_with fail
      refine (HSw.out _ Bw.out).mono ?_
      rintro e w7 ⟨A13, c13, rfl, o7, b7⟩
      have b7' := b7.alloc b7.size (diskB A13 L c13 sy R)
      have B7 := Lib.hid (Bw.out.trans (b7'.mono Bw.out.size))
      have X7 := Lib.hid ((Xw.out.under b7).alloc (diskB A13 L c13 sy R))
      have Y7 := Lib.hid ((Yw.out.under b7).alloc (diskB A13 L c13 sy R))
      have Z7 := Lib.hid (Whole.new w7 24 #[.slice A13 L c13, .int .i64 sy, .int .i64 R])
      have R7 := Lib.hid ((Rw.out.below b7').more b7'.size)
      have RO7 := Lib.hid ((ROw.out.below b7').more b7'.size)
      have RS7 := Lib.hid ((Rd.of_own o7).up (diskB A13 L c13 sy R))
      have C13 := own_cap o7
      clear x0 x1 x2 z0 z1 z2 b7 b7' o7 Bw Xw Yw Rw ROw HSw
      obtain ⟨W7, hW7⟩ : ∃ W, w7.alloc (diskB A13 L c13 sy R) = W := ⟨_, rfl⟩
      rw [hW7] at B7 X7 Y7 Z7 R7 RO7 RS7
      obtain ⟨x0, x1, x2⟩ := X7.out.cells3
      obtain ⟨y0, y1, y2⟩ := Y7.out.cells3
      obtain ⟨z0, z1, z2⟩ := Z7.out.cells3
      go_wp2_with fail
      clear hW7
      refine (HSm.out _ B7.out _ _ RS7.out C13).mono ?_
      rintro e w8 ⟨rfl, b8⟩
      have B8 := Lib.hid (B7.out.trans (b8.mono B7.out.size))
      have R8 := Lib.hid ((R7.out.below b8).more b8.size)
      have RO8 := Lib.hid ((RO7.out.below b8).more b8.size)
      have X8 := Lib.hid (X7.out.under b8)
      have Y8 := Lib.hid (Y7.out.under b8)
      clear x0 x1 x2 y0 y1 y2 z0 z1 z2 b8
      obtain ⟨x0, x1, x2⟩ := X8.out.cells3
      obtain ⟨y0, y1, y2⟩ := Y8.out.cells3
      obtain ⟨z0, z1, z2⟩ : True ∧ True ∧ True := ⟨trivial, trivial, trivial⟩
      go_wp2_with fail
      refine (HSd.out _ B8.out _ _ R8.out).mono ?_
      rintro e w9 ⟨rfl, rfl⟩
      go_wp2_with fail
      refine (HSm.out _ B8.out _ _ RO8.out C5).mono ?_
      rintro e w9 ⟨rfl, b9⟩
      have B9 := Lib.hid (B8.out.trans (b9.mono B8.out.size))
      clear b9 x0 x1 x2 y0 y1 y2 z0 z1 z2
      go_wp2_with fail
      refine (wakesD_any _).mono ?_
      rintro e w10 ⟨rfl, b10⟩
      have B10 := Lib.hid (B9.out.trans (b10.mono B9.out.size))
      clear b10
      go_wp2_with fail
      go_ret
      exact ⟨rfl, B10.out⟩

theorem diskRoom_walk (A : Option Addr) (n c : Nat) (s r : Int) (bs : List Nat) (Ab : Option Addr) (nb cb : Nat) (b : List Nat) (by_ : Nat) (w : World) (hr : Rd w w.heap.size A n (bv bs)) (hby : ∀ x ∈ bs, x < 256) (hc : n ≤ c) (hrb : Rd w w.heap.size Ab nb (bv b)) (hbb : ∀ x ∈ b, x < 256) (hcb : nb ≤ cb) (hcbm : cb ≤ maxLen) :
    Calls Try.prog 5 #[diskV A n c s r, .slice Ab nb cb, .int .u8 (by_ : Int)] w (TruePost w) := by
  by_cases hn : n ≤ 400
  · by_cases hnb : nb ≤ 300
    · by_cases hfit : (cnt bs s r).bs.length + b.length ≤ (cnt bs s r).room
      · exact diskRoom_a A n c s r bs Ab nb cb b by_ w hr hc hby hrb hcb hcbm hbb hn hnb rfl hfit
      · by_cases hfit2 : b.length ≤ (cnt bs s r).room
        · exact diskRoom_b A n c s r bs Ab nb cb b by_ w hr hc hby hrb hcb hcbm hbb hn hnb rfl hfit hfit2
        · exact diskRoom_c A n c s r bs Ab nb cb b by_ w hr hc hby hrb hcb hcbm hbb hn hnb rfl hfit hfit2
    · exact diskRoom_out A n c s r Ab nb cb by_ w (.inr ⟨hn, by omega⟩)
  · exact diskRoom_out A n c s r Ab nb cb by_ w (.inl (by omega))

end Go.Proofs.Ytekffkoggnbgeaa
