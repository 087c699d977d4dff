/-
  The walk of the statement 'LogTells': it answers true, and nothing that was there turns. Conditions: none.
-/
import Derived.Test.YtbkfpghpfaemeaaJ10
namespace Go.Proofs.Ytbkfpghpfaemeaa
open Go.RowKit Go.Shelf

theorem addD_ok {L : List PR} {D : Dk} (h : D.Ok) : (addD L D).1.Ok := by
  unfold addD
  split
  · split
    · rename_i hf
      have h1 := h.syn
      refine ⟨by simp; omega, by simpa using hf, h.room, fun x hx => ?_⟩
      rcases List.mem_append.1 hx with hx | hx
      · exact h.byte x hx
      · exact lbytes_byte L x hx
    · exact h
  · exact h
theorem same_disks {q : List Nat} {u R : Nat} (hok : (⟨q, u, R⟩ : Dk).Ok) {W : World} {A A' : Option Addr} {c c' : Nat} (h : Rd W W.heap.size A q.length (bv q)) (hc : q.length ≤ c) (h' : Rd W W.heap.size A' q.length (bv q)) (hc' : q.length ≤ c') :
    Calls Try.prog 17 #[diskV A q.length c u R, diskV A' q.length c' u R] W (BoolPost true W) := by
  have hl : q.length ≤ 500000 := by have h1 := hok.len; have h2 := hok.room; simp only at h1 h2; omega
  have hcn := cnt_self hok
  have h1 := refSame_any A q.length c u R q A' q.length c' u R q W h hc hl hok.byte h' hc' hl hok.byte hcn rfl hcn rfl
  rw [show decide ((⟨q, u, R⟩ : Dk) = ⟨q, u, R⟩) = true by simp] at h1
  exact h1

set_option maxRecDepth 100000 in
set_option maxHeartbeats 800000 in
theorem logTells_out (A : Option Addr) (n c : Nat) (s r : Int) (Ar : Option Addr) (nr cr : Nat) (el : List RE) (Ab : Option Addr) (nb cb : Nat) (w : World) (hl : RdR w w.heap.size Ar nr el) (h : greatL n el = true ∨ (greatL n el = false ∧ 600 < nb)) :
    Calls Try.prog 3 #[diskV A n c s r, .slice Ar nr cr, .slice Ab nb cb] w (TruePost w) := by
  have hb0 : Below w.heap.size w (w.alloc (diskB A n c s r)) := (Below.refl w.heap.size w).alloc (Nat.le_refl _) (diskB A n c s r)
  have HB := Lib.hid hb0
  have HX := Lib.hid (Whole.new w 24 #[.slice A n c, .int .i64 s, .int .i64 r])
  obtain ⟨x0, x1, x2⟩ := HX.out.cells3
  have HG := Lib.hid (greatL_any A n c s r Ar nr cr el w.heap.size (w.alloc (diskB A n c s r)) (hl.below hb0) hb0.size)
  clear hl hb0
  rcases h with h | ⟨h, h6⟩
  · rw [h] at HG
    clear h
    go_enter Try.func3, Try.ntmps3
    go_wp2_with fail
    refine (HG.out).mono ?_
    rintro e w1 ⟨rfl, b1⟩
    have HB1 := Lib.hid (HB.out.trans (b1.mono HB.out.size))
    clear b1
    go_wp2_with fail
    refine (wakesL_any _).mono ?_
    rintro e w2 ⟨rfl, b2⟩
    have B2 := Lib.hid (HB1.out.trans (b2.mono HB1.out.size))
    clear b2
    go_wp2_with fail
    go_ret
    exact ⟨rfl, B2.out⟩
  · rw [h] at HG
    have h6' : (600 : Int) < (nb : Int) := by omega
    clear h
    go_enter Try.func3, Try.ntmps3
    go_wp2_with fail
    refine (HG.out).mono ?_
    rintro e w1 ⟨rfl, b1⟩
    have HB1 := Lib.hid (HB.out.trans (b1.mono HB.out.size))
    clear b1
    go_wp2_with fail
    refine (wakesL_any _).mono ?_
    rintro e w2 ⟨rfl, b2⟩
    have B2 := Lib.hid (HB1.out.trans (b2.mono HB1.out.size))
    clear b2
    go_wp2_with fail
    go_ret
    exact ⟨rfl, B2.out⟩

set_option maxRecDepth 100000 in
set_option maxHeartbeats 8000000 in
theorem logTells_in (A : Option Addr) (n c : Nat) (s r : Int) (bs : List Nat) (Ar : Option Addr) (nr cr : Nat) (el : List RE) (L : List PR) (hL : recsOf el = L) (Ab : Option Addr) (nb cb : Nat) (bb : List Nat) (w : World) (hr : Rd w w.heap.size A n (bv bs)) (hc : n ≤ c) (hby : ∀ x ∈ bs, x < 256) (hl : RdR w w.heap.size Ar nr el)
    (hrb : Rd w w.heap.size Ab nb (bv bb)) (hbb : ∀ x ∈ bb, x < 256) (hcb : nb ≤ cb) (hg : greatL n el = false) (h6 : nb ≤ 600) (ob : List Nat) (S R : Nat) (hD : cnt bs s r = ⟨ob, S, R⟩) (b1 : List Nat) (S1 R1 : Nat) (E : Int) (hA : addD L ⟨ob, S, R⟩ = (⟨b1, S1, R1⟩, E))
    (Lb Ls Lo : List PR) (ub us uo : Nat) (hLb : LogIs bb Lb ub) (hLs : LogIs (ob.take S) Ls us) (hLo : LogIs ob Lo uo) (q : List Nat) (hq : ob.take uo = q) :
    Calls Try.prog 3 #[diskV A n c s r, .slice Ar nr cr, .slice Ab nb cb] w (TruePost w) := by
  obtain ⟨hn, hel, _⟩ := greatL_no hg
  have hnr : nr ≤ 30 := by have := hl.1; omega
  have hok : (⟨ob, S, R⟩ : Dk).Ok := by rw [← hD]; exact cnt_ok s r hby
  have hok1 : (⟨b1, S1, R1⟩ : Dk).Ok := by have h := addD_ok (L := L) hok; rwa [hA] at h
  have hlR : ob.length ≤ R := hok.len
  have hR : R ≤ 65536 := hok.room
  have hle := hLo.le
  have hqu : q.length = uo := by rw [← hq, List.length_take]; omega
  have hqb : ∀ x ∈ q, x < 256 := fun x hx => hok.byte x (by rw [← hq] at hx; exact List.mem_of_mem_take hx)
  have hokq : (⟨q, uo, R⟩ : Dk).Ok := ⟨by simp only; omega, by simp only; omega, hR, hqb⟩
  have hlenLo : Lo.length ≤ 65536 := by have h1 := lbytes_ge Lo; rw [← hLo.used] at h1; omega
  have hlenLb : Lb.length ≤ 65536 := by have h1 := lbytes_ge Lb; have h2 := hLb.le; have h3 := hrb.1; rw [bv_length] at h3; rw [← hLb.used] at h1; omega
  have hlenLs : Ls.length ≤ 65536 := by have h1 := lbytes_ge Ls; have h2 := hLs.le; rw [List.length_take] at h2; rw [← hLs.used] at h1; omega
  have HD0 := Lib.hid (DAt.start (c := c) (s := s) (r := r) hr)
  have hb0 : Below w.heap.size w (w.alloc (diskB A n c s r)) := (Below.refl w.heap.size w).alloc (Nat.le_refl _) (diskB A n c s r)
  have HG := Lib.hid (greatL_any A n c s r Ar nr cr el w.heap.size (w.alloc (diskB A n c s r)) (hl.below hb0) hb0.size)
  rw [hg] at HG
  have HSc : Hid (∀ W, Below w.heap.size w W → Calls Try.prog 10 #[.slice Ab nb cb] W (ScanIs Lb ub W)) := fun W h => scan_any Ab nb cb bb Lb ub w.heap.size W hLb (hrb.below h) h.size hbb (by omega) hcb
  have HSc2 : Hid (∀ W, Below w.heap.size w W → Calls Try.prog 11 #[.slice Ab nb cb] W (ScanIs Lb ub W)) := fun W h => refScan_any Ab nb cb bb Lb ub w.heap.size W hLb (hrb.below h) h.size hbb (by omega) hcb
  have HAd : Hid (∀ W, Rd W W.heap.size A n (bv bs) → Below w.heap.size w W → Calls Try.prog 12 #[diskV A n c s r, .slice Ar nr cr] W (DiskNE b1.length b1 S1 R1 E W)) := fun W h hb => by
    have h1 := logAdd_any A n c s r bs Ar nr cr el L hL W h hc hby ((hl.below hb).more hb.size) (by omega) hD
    rw [hA] at h1
    exact h1
  have HAd2 : Hid (∀ W, Rd W W.heap.size A n (bv bs) → Below w.heap.size w W → Calls Try.prog 13 #[diskV A n c s r, .slice Ar nr cr] W (DiskNE b1.length b1 S1 R1 E W)) := fun W h hb => by
    have h1 := refLogAdd_any A n c s r bs Ar nr cr el L hL W h hc (by omega) hby ((hl.below hb).more hb.size) (by omega) hD
    rw [hA] at h1
    exact h1
  have HOp : Hid (∀ W, Rd W W.heap.size A n (bv bs) → Calls Try.prog 14 #[diskV A n c s r] W (OpenIs ob R Lo uo W)) := fun W h => logOpen_any A n c s r bs W h hc hby hD hLo
  have HOp2 : Hid (∀ W, Rd W W.heap.size A n (bv bs) → Calls Try.prog 15 #[diskV A n c s r] W (OpenIs ob R Lo uo W)) := fun W h => refLogOpen_any A n c s r bs W h hc (by omega) hby hD hLo
  have HSf : Hid (∀ W, Rd W W.heap.size A n (bv bs) → Calls Try.prog 18 #[diskV A n c s r] W (RecsIs Ls W)) := fun W h => logSafe_any A n c s r bs W h hc hby hD hLs
  have HSf2 : Hid (∀ W, Rd W W.heap.size A n (bv bs) → Calls Try.prog 19 #[diskV A n c s r] W (RecsIs Ls W)) := fun W h => refLogSafe_any A n c s r bs W h hc (by omega) hby hD hLs
  have HSb : Hid (∀ W base base' A A' c c', RecsAt base W (.slice A Lb.length c) Lb → RecsAt base' W (.slice A' Lb.length c') Lb → Calls Try.prog 16 #[.slice A Lb.length c, .slice A' Lb.length c'] W (BoolPost true W)) := fun W base base' A A' c c' h h' => by
    have h1 := same_logs h h' hLb.ok (by omega)
    rwa [sameR_self] at h1
  have HSo : Hid (∀ W base base' A A' c c', RecsAt base W (.slice A Lo.length c) Lo → RecsAt base' W (.slice A' Lo.length c') Lo → Calls Try.prog 16 #[.slice A Lo.length c, .slice A' Lo.length c'] W (BoolPost true W)) := fun W base base' A A' c c' h h' => by
    have h1 := same_logs h h' hLo.ok (by omega)
    rwa [sameR_self] at h1
  have HSs : Hid (∀ W base base' A A' c c', RecsAt base W (.slice A Ls.length c) Ls → RecsAt base' W (.slice A' Ls.length c') Ls → Calls Try.prog 16 #[.slice A Ls.length c, .slice A' Ls.length c'] W (BoolPost true W)) := fun W base base' A A' c c' h h' => by
    have h1 := same_logs h h' hLs.ok (by omega)
    rwa [sameR_self] at h1
  have HSD1 : Hid (∀ W A A' c c', Rd W W.heap.size A b1.length (bv b1) → b1.length ≤ c → Rd W W.heap.size A' b1.length (bv b1) → b1.length ≤ c' → Calls Try.prog 17 #[diskV A b1.length c S1 R1, diskV A' b1.length c' S1 R1] W (BoolPost true W)) := fun W A A' c c' h hc h' hc' => same_disks hok1 h hc h' hc'
  have HSDo : Hid (∀ W A A' c c', Rd W W.heap.size A uo (bv q) → uo ≤ c → Rd W W.heap.size A' uo (bv q) → uo ≤ c' → Calls Try.prog 17 #[diskV A uo c uo R, diskV A' uo c' uo R] W (BoolPost true W)) := fun W A A' c c' h hc h' hc' => by
    rw [← hqu] at h hc h' hc'
    have h1 := same_disks hokq h hc h' hc'
    rwa [hqu] at h1
  have HLg : Hid (∀ W, Below w.heap.size w W → Calls Try.prog 20 #[.slice Ar nr cr] W (LenIs L W)) := fun W hb => logLong_any Ar nr cr el L hL w.heap.size W (hl.below hb) hb.size (by omega)
  have HLg2 : Hid (∀ W, Below w.heap.size w W → Calls Try.prog 21 #[.slice Ar nr cr] W (LenIs L W)) := fun W hb => refLogLong_any Ar nr cr el L hL w.heap.size W (hl.below hb) hb.size (by omega)
  obtain ⟨Z, hZ⟩ : ∃ Z, lenOf L = Z := ⟨_, rfl⟩
  unfold LenIs at HLg HLg2
  rw [hZ] at HLg HLg2
  have HQ := Lib.hid hq
  have h6' : ¬ (600 : Int) < (nb : Int) := by omega
  have hEE : (E == E) = true := by simp
  have hZZ : (Z == Z) = true := by simp
  obtain ⟨x0, x1, x2⟩ := HD0.out.box.cells3
  clear hr hc hby hl hrb hbb hcb hg h6 hD hA hLb hLs hLo hn hel hnr hok hok1 hlR hR hle hqu hqb hokq hlenLo hlenLb hlenLs hb0 hZ hq
  go_enter Try.func3, Try.ntmps3
  go_wp2_with fail
  refine (HG.out).mono ?_
  rintro e w1 ⟨rfl, d1⟩
  have HD_1 := Lib.hid (HD0.out.under d1)
  clear HD0
  clear d1 x0 x1 x2 HG
  go_wp2_with fail
  refine (HSc.out _ HD_1.out.below).mono ?_
  rintro e w2 ⟨A2, c2, rfl, r2, d2⟩
  have HD_2 := Lib.hid (HD_1.out.under d2)
  clear HD_1
  have HX_2 := Lib.hid (r2)
  clear d2 r2
  go_wp2_with fail
  refine (HSc2.out _ HD_2.out.below).mono ?_
  rintro e w3 ⟨A3, c3, rfl, r3, d3⟩
  have HD_3 := Lib.hid (HD_2.out.under d3)
  have HX_3 := Lib.hid (HX_2.out.under d3)
  clear HD_2 HX_2
  have HY_3 := Lib.hid (r3)
  clear d3 r3
  obtain ⟨x0, x1, x2⟩ := HD_3.out.box.cells3
  go_wp2_with fail
  refine (HAd.out _ HD_3.out.rd HD_3.out.below).mono ?_
  rintro e w4 ⟨A4, c4, rfl, o4, d4⟩
  have d4' := d4.alloc d4.size (.cells #[.slice A4 b1.length c4, .int .i64 S1, .int .i64 R1] 24)
  have hal := (Below.refl w4.heap.size w4).alloc (Nat.le_refl _) (.cells #[.slice A4 b1.length c4, .int .i64 S1, .int .i64 R1] 24)
  have HC4 := Lib.hid (own_cap o4)
  have HD_4 := Lib.hid (HD_3.out.under d4')
  have HX_4 := Lib.hid (HX_3.out.under d4')
  have HY_4 := Lib.hid (HY_3.out.under d4')
  clear HD_3 HX_3 HY_3
  have HO4_4 := Lib.hid (own_under o4 hal)
  have HB4_4 := Lib.hid (Whole.new w4 24 #[.slice A4 b1.length c4, .int .i64 S1, .int .i64 R1])
  clear d4 d4' o4 hal x0 x1 x2
  obtain ⟨x0, x1, x2⟩ := HD_4.out.box.cells3
  go_wp2_with fail
  refine (HAd2.out _ HD_4.out.rd HD_4.out.below).mono ?_
  rintro e w5 ⟨A5, c5, rfl, o5, d5⟩
  have d5' := d5.alloc d5.size (.cells #[.slice A5 b1.length c5, .int .i64 S1, .int .i64 R1] 24)
  have hal := (Below.refl w5.heap.size w5).alloc (Nat.le_refl _) (.cells #[.slice A5 b1.length c5, .int .i64 S1, .int .i64 R1] 24)
  have HC5 := Lib.hid (own_cap o5)
  have HD_5 := Lib.hid (HD_4.out.under d5')
  have HX_5 := Lib.hid (HX_4.out.under d5')
  have HY_5 := Lib.hid (HY_4.out.under d5')
  have HO4_5 := Lib.hid (own_under HO4_4.out d5')
  have HB4_5 := Lib.hid (HB4_4.out.under d5')
  clear HD_4 HX_4 HY_4 HO4_4 HB4_4
  have HO5_5 := Lib.hid (own_under o5 hal)
  have HB5_5 := Lib.hid (Whole.new w5 24 #[.slice A5 b1.length c5, .int .i64 S1, .int .i64 R1])
  clear d5 d5' o5 hal x0 x1 x2
  obtain ⟨x0, x1, x2⟩ := HD_5.out.box.cells3
  go_wp2_with fail
  refine (HOp.out _ HD_5.out.rd).mono ?_
  rintro e w6 ⟨A6, c6, Al6, cl6, rfl, o6, r6, d6⟩
  rw [HQ.out] at o6
  have d6' := d6.alloc d6.size (.cells #[.slice A6 uo c6, .int .i64 uo, .int .i64 R] 24)
  have hal := (Below.refl w6.heap.size w6).alloc (Nat.le_refl _) (.cells #[.slice A6 uo c6, .int .i64 uo, .int .i64 R] 24)
  have HC6 := Lib.hid (own_cap o6)
  have HD_6 := Lib.hid (HD_5.out.under d6')
  have HX_6 := Lib.hid (HX_5.out.under d6')
  have HY_6 := Lib.hid (HY_5.out.under d6')
  have HO4_6 := Lib.hid (own_under HO4_5.out d6')
  have HB4_6 := Lib.hid (HB4_5.out.under d6')
  have HO5_6 := Lib.hid (own_under HO5_5.out d6')
  have HB5_6 := Lib.hid (HB5_5.out.under d6')
  clear HD_5 HX_5 HY_5 HO4_5 HB4_5 HO5_5 HB5_5
  have HO6_6 := Lib.hid (own_under o6 hal)
  have HR6_6 := Lib.hid (r6.under hal)
  have HB6_6 := Lib.hid (Whole.new w6 24 #[.slice A6 uo c6, .int .i64 uo, .int .i64 R])
  clear d6 d6' o6 r6 hal x0 x1 x2
  obtain ⟨x0, x1, x2⟩ := HD_6.out.box.cells3
  go_wp2_with fail
  refine (HOp2.out _ HD_6.out.rd).mono ?_
  rintro e w7 ⟨A7, c7, Al7, cl7, rfl, o7, r7, d7⟩
  rw [HQ.out] at o7
  have d7' := d7.alloc d7.size (.cells #[.slice A7 uo c7, .int .i64 uo, .int .i64 R] 24)
  have hal := (Below.refl w7.heap.size w7).alloc (Nat.le_refl _) (.cells #[.slice A7 uo c7, .int .i64 uo, .int .i64 R] 24)
  have HC7 := Lib.hid (own_cap o7)
  have HD_7 := Lib.hid (HD_6.out.under d7')
  have HX_7 := Lib.hid (HX_6.out.under d7')
  have HY_7 := Lib.hid (HY_6.out.under d7')
  have HO4_7 := Lib.hid (own_under HO4_6.out d7')
  have HB4_7 := Lib.hid (HB4_6.out.under d7')
  have HO5_7 := Lib.hid (own_under HO5_6.out d7')
  have HB5_7 := Lib.hid (HB5_6.out.under d7')
  have HO6_7 := Lib.hid (own_under HO6_6.out d7')
  have HR6_7 := Lib.hid (HR6_6.out.under d7')
  have HB6_7 := Lib.hid (HB6_6.out.under d7')
  clear HD_6 HX_6 HY_6 HO4_6 HB4_6 HO5_6 HB5_6 HO6_6 HR6_6 HB6_6
  have HO7_7 := Lib.hid (own_under o7 hal)
  have HR7_7 := Lib.hid (r7.under hal)
  have HB7_7 := Lib.hid (Whole.new w7 24 #[.slice A7 uo c7, .int .i64 uo, .int .i64 R])
  clear d7 d7' o7 r7 hal x0 x1 x2
  go_wp2_with fail
  refine (HSb.out _ _ _ _ _ _ _ HX_7.out HY_7.out).mono ?_
  rintro e w8 ⟨rfl, d8⟩
  have HD_8 := Lib.hid (HD_7.out.under d8)
  have HX_8 := Lib.hid (HX_7.out.under d8)
  have HY_8 := Lib.hid (HY_7.out.under d8)
  have HO4_8 := Lib.hid (own_under HO4_7.out d8)
  have HB4_8 := Lib.hid (HB4_7.out.under d8)
  have HO5_8 := Lib.hid (own_under HO5_7.out d8)
  have HB5_8 := Lib.hid (HB5_7.out.under d8)
  have HO6_8 := Lib.hid (own_under HO6_7.out d8)
  have HR6_8 := Lib.hid (HR6_7.out.under d8)
  have HB6_8 := Lib.hid (HB6_7.out.under d8)
  have HO7_8 := Lib.hid (own_under HO7_7.out d8)
  have HR7_8 := Lib.hid (HR7_7.out.under d8)
  have HB7_8 := Lib.hid (HB7_7.out.under d8)
  clear HD_7 HX_7 HY_7 HO4_7 HB4_7 HO5_7 HB5_7 HO6_7 HR6_7 HB6_7 HO7_7 HR7_7 HB7_7
  clear d8
  clear HX_8
  clear HY_8
  obtain ⟨y0, y1, y2⟩ := HB4_8.out.cells3
  obtain ⟨z0, z1, z2⟩ := HB5_8.out.cells3
  go_wp2_with fail
  refine (HSD1.out _ _ _ _ _ (Rd.of_own HO4_8.out) HC4.out (Rd.of_own HO5_8.out) HC5.out).mono ?_
  rintro e w9 ⟨rfl, d9⟩
  have HD_9 := Lib.hid (HD_8.out.under d9)
  have HO4_9 := Lib.hid (own_under HO4_8.out d9)
  have HB4_9 := Lib.hid (HB4_8.out.under d9)
  have HO5_9 := Lib.hid (own_under HO5_8.out d9)
  have HB5_9 := Lib.hid (HB5_8.out.under d9)
  have HO6_9 := Lib.hid (own_under HO6_8.out d9)
  have HR6_9 := Lib.hid (HR6_8.out.under d9)
  have HB6_9 := Lib.hid (HB6_8.out.under d9)
  have HO7_9 := Lib.hid (own_under HO7_8.out d9)
  have HR7_9 := Lib.hid (HR7_8.out.under d9)
  have HB7_9 := Lib.hid (HB7_8.out.under d9)
  clear HD_8 HO4_8 HB4_8 HO5_8 HB5_8 HO6_8 HR6_8 HB6_8 HO7_8 HR7_8 HB7_8
  clear d9
  clear y0 y1 y2
  clear z0 z1 z2
  clear HO4_9
  clear HO5_9
  clear HB4_9
  clear HB5_9
  obtain ⟨y0, y1, y2⟩ := HB6_9.out.cells3
  obtain ⟨z0, z1, z2⟩ := HB7_9.out.cells3
  go_wp2_with fail
  refine (HSDo.out _ _ _ _ _ (Rd.of_own HO6_9.out) HC6.out (Rd.of_own HO7_9.out) HC7.out).mono ?_
  rintro e w10 ⟨rfl, d10⟩
  have HD_10 := Lib.hid (HD_9.out.under d10)
  have HO6_10 := Lib.hid (own_under HO6_9.out d10)
  have HR6_10 := Lib.hid (HR6_9.out.under d10)
  have HB6_10 := Lib.hid (HB6_9.out.under d10)
  have HO7_10 := Lib.hid (own_under HO7_9.out d10)
  have HR7_10 := Lib.hid (HR7_9.out.under d10)
  have HB7_10 := Lib.hid (HB7_9.out.under d10)
  clear HD_9 HO6_9 HR6_9 HB6_9 HO7_9 HR7_9 HB7_9
  clear d10
  clear y0 y1 y2
  clear z0 z1 z2
  clear HO6_10
  clear HO7_10
  go_wp2_with fail
  refine (HSo.out _ _ _ _ _ _ _ HR6_10.out HR7_10.out).mono ?_
  rintro e w11 ⟨rfl, d11⟩
  have HD_11 := Lib.hid (HD_10.out.under d11)
  have HR6_11 := Lib.hid (HR6_10.out.under d11)
  have HB6_11 := Lib.hid (HB6_10.out.under d11)
  have HR7_11 := Lib.hid (HR7_10.out.under d11)
  have HB7_11 := Lib.hid (HB7_10.out.under d11)
  clear HD_10 HR6_10 HB6_10 HR7_10 HB7_10
  clear d11
  clear HR6_11
  clear HR7_11
  have HL : Hid (∀ W, Below w11.heap.size w11 W → W.cell? ⟨w.heap.size, 0, none⟩ = some (.slice A n c) ∧ W.cell? ⟨w.heap.size, 1, none⟩ = some (.int .i64 s) ∧ W.cell? ⟨w.heap.size, 2, none⟩ = some (.int .i64 r) ∧
      W.cell? ⟨w6.heap.size, 0, none⟩ = some (.slice A6 uo c6) ∧ W.cell? ⟨w7.heap.size, 0, none⟩ = some (.slice A7 uo c7) ∧ Rd W W.heap.size A n (bv bs) ∧ Below w.heap.size w W) := fun W hW => by
    have g := HD_11.out.under hW
    exact ⟨g.box.cell 0, g.box.cell 1, g.box.cell 2, (HB6_11.out.under hW).cell 0, (HB7_11.out.under hW).cell 0, g.rd, g.below⟩
  have HC := Lib.hid ((Below.refl w11.heap.size w11).drew)
  clear HD_11 HB6_11 HB7_11
  go_wp2_with fail
  refine wp_region_held_drew (S := fun W => Below w11.heap.size w11 W) (by kernel_rfl) HC.out (fun _ => ?_)
  refine takeH (i := 0) (v := ?_) rfl (by kernel_rfl) (by kernel_rfl) (by kernel_rfl) (fun _ _ _ h => h) (by rfl) ?_ HC.out ?_
  rotate_left
  · intro W hW; obtain ⟨L0, L1, L2, M0, M1, RA, BA⟩ := HL.out W hW; go_simp <;> with_reducible rfl
  simp only [Act.put, List.setIfInBounds_toArray, List.set_cons_zero, List.set_cons_succ]
  refine takeH (i := 2) (v := ?_) rfl (by kernel_rfl) (by kernel_rfl) (by kernel_rfl) (fun _ _ _ h => h) (by rfl) ?_ HC.out ?_
  rotate_left
  · intro W hW; obtain ⟨L0, L1, L2, M0, M1, RA, BA⟩ := HL.out W hW; go_simp <;> with_reducible rfl
  simp only [Act.put, List.setIfInBounds_toArray, List.set_cons_zero, List.set_cons_succ]
  refine oneH (i := 1) rfl (by kernel_rfl) (by rfl) (fun K hK => ?_)
  go_simp
  obtain ⟨L0, L1, L2, M0, M1, RA, BA⟩ := HL.out _ HC.out
  refine (HSf.out _ RA).mono ?_
  rintro e w12 ⟨A12, c12, rfl, r12, d12⟩
  have R12 := Lib.hid r12
  have HC9 := Lib.hid (HC.out.trans (d12.mono HC.out.size))
  clear HC d12 L0 L1 L2 M0 M1 RA BA r12
  have HC := HC9
  clear HC9
  refine hK.out _ _ HC.out (fun _ => ?_)
  clear hK K
  refine oneH (i := 3) rfl (by kernel_rfl) (by rfl) (fun K hK => ?_)
  go_simp
  obtain ⟨L0, L1, L2, M0, M1, RA, BA⟩ := HL.out _ HC.out
  refine (HSf2.out _ RA).mono ?_
  rintro e w13 ⟨A13, c13, rfl, r13, d13⟩
  have R13 := Lib.hid r13
  have Q12 := Lib.hid (R12.out.under d13)
  have HC9 := Lib.hid (HC.out.trans (d13.mono HC.out.size))
  clear HC d13 L0 L1 L2 M0 M1 RA BA r13 R12
  have HC := HC9
  clear HC9
  refine hK.out _ _ HC.out (fun _ => ?_)
  clear hK K
  refine oneH (i := 4) rfl (by kernel_rfl) (by rfl) (fun K hK => ?_)
  go_simp
  obtain ⟨L0, L1, L2, M0, M1, RA, BA⟩ := HL.out _ HC.out
  refine (HSs.out _ _ _ _ _ _ _ Q12.out R13.out).mono ?_
  rintro e w14 ⟨rfl, d14⟩
  have HC9 := Lib.hid (HC.out.trans (d14.mono HC.out.size))
  clear HC d14 L0 L1 L2 M0 M1 RA BA Q12 R13
  have HC := HC9
  clear HC9
  refine hK.out _ _ HC.out (fun _ => ?_)
  clear hK K
  refine takeH (i := 5) (v := ?_) rfl (by kernel_rfl) (by kernel_rfl) (by kernel_rfl) (fun _ _ _ h => h) (by rfl) ?_ HC.out ?_
  rotate_left
  · intro W hW; obtain ⟨L0, L1, L2, M0, M1, RA, BA⟩ := HL.out W hW; go_simp <;> with_reducible rfl
  simp only [Act.put, List.setIfInBounds_toArray, List.set_cons_zero, List.set_cons_succ]
  refine takeH (i := 6) (v := ?_) rfl (by kernel_rfl) (by kernel_rfl) (by kernel_rfl) (fun _ _ _ h => h) (by rfl) ?_ HC.out ?_
  rotate_left
  · intro W hW; obtain ⟨L0, L1, L2, M0, M1, RA, BA⟩ := HL.out W hW; go_simp <;> with_reducible rfl
  simp only [Act.put, List.setIfInBounds_toArray, List.set_cons_zero, List.set_cons_succ]
  refine takeH (i := 8) (v := ?_) rfl (by kernel_rfl) (by kernel_rfl) (by kernel_rfl) (fun _ _ _ h => h) (by rfl) ?_ HC.out ?_
  rotate_left
  · intro W hW; obtain ⟨L0, L1, L2, M0, M1, RA, BA⟩ := HL.out W hW; go_simp <;> with_reducible rfl
  simp only [Act.put, List.setIfInBounds_toArray, List.set_cons_zero, List.set_cons_succ]
  refine oneH (i := 7) rfl (by kernel_rfl) (by rfl) (fun K hK => ?_)
  go_simp
  obtain ⟨L0, L1, L2, M0, M1, RA, BA⟩ := HL.out _ HC.out
  refine (HLg.out _ BA).mono ?_
  rintro e w15 ⟨rfl, d15⟩
  have HC9 := Lib.hid (HC.out.trans (d15.mono HC.out.size))
  clear HC d15 L0 L1 L2 M0 M1 RA BA
  have HC := HC9
  clear HC9
  refine hK.out _ _ HC.out (fun _ => ?_)
  clear hK K
  refine oneH (i := 9) rfl (by kernel_rfl) (by rfl) (fun K hK => ?_)
  go_simp
  obtain ⟨L0, L1, L2, M0, M1, RA, BA⟩ := HL.out _ HC.out
  refine (HLg2.out _ BA).mono ?_
  rintro e w16 ⟨rfl, d16⟩
  have HC9 := Lib.hid (HC.out.trans (d16.mono HC.out.size))
  clear HC d16 L0 L1 L2 M0 M1 RA BA
  have HC := HC9
  clear HC9
  refine hK.out _ _ HC.out (fun _ => ?_)
  clear hK K
  refine takeH (i := 10) (v := ?_) rfl (by kernel_rfl) (by kernel_rfl) (by kernel_rfl) (fun _ _ _ h => h) (by rfl) ?_ HC.out ?_
  rotate_left
  · intro W hW; obtain ⟨L0, L1, L2, M0, M1, RA, BA⟩ := HL.out W hW; go_simp <;> with_reducible rfl
  simp only [Act.put, List.setIfInBounds_toArray, List.set_cons_zero, List.set_cons_succ]
  refine takeH (i := 11) (v := ?_) rfl (by kernel_rfl) (by kernel_rfl) (by kernel_rfl) (fun _ _ _ h => h) (by rfl) ?_ HC.out ?_
  rotate_left
  · intro W hW; obtain ⟨L0, L1, L2, M0, M1, RA, BA⟩ := HL.out W hW; go_simp <;> with_reducible rfl
  simp only [Act.put, List.setIfInBounds_toArray, List.set_cons_zero, List.set_cons_succ]
  refine takeH (i := 12) (v := ?_) rfl (by kernel_rfl) (by kernel_rfl) (by kernel_rfl) (fun _ _ _ h => h) (by rfl) ?_ HC.out ?_
  rotate_left
  · intro W hW; obtain ⟨L0, L1, L2, M0, M1, RA, BA⟩ := HL.out W hW; go_simp <;> with_reducible rfl
  simp only [Act.put, List.setIfInBounds_toArray, List.set_cons_zero, List.set_cons_succ]
  refine takeH (i := 13) (v := ?_) rfl (by kernel_rfl) (by kernel_rfl) (by kernel_rfl) (fun _ _ _ h => h) (by rfl) ?_ HC.out ?_
  rotate_left
  · intro W hW; obtain ⟨L0, L1, L2, M0, M1, RA, BA⟩ := HL.out W hW; go_simp <;> with_reducible rfl
  simp only [Act.put, List.setIfInBounds_toArray, List.set_cons_zero, List.set_cons_succ]
  refine takeH (i := 14) (v := ?_) rfl (by kernel_rfl) (by kernel_rfl) (by kernel_rfl) (fun _ _ _ h => h) (by rfl) ?_ HC.out ?_
  rotate_left
  · intro W hW; obtain ⟨L0, L1, L2, M0, M1, RA, BA⟩ := HL.out W hW; go_simp <;> with_reducible rfl
  simp only [Act.put, List.setIfInBounds_toArray, List.set_cons_zero, List.set_cons_succ]
  refine takeH (i := 15) (v := ?_) rfl (by kernel_rfl) (by kernel_rfl) (by kernel_rfl) (fun _ _ _ h => h) (by rfl) ?_ HC.out ?_
  rotate_left
  · intro W hW; obtain ⟨L0, L1, L2, M0, M1, RA, BA⟩ := HL.out W hW; go_simp <;> with_reducible rfl
  simp only [Act.put, List.setIfInBounds_toArray, List.set_cons_zero, List.set_cons_succ]
  refine takeH (i := 16) (v := ?_) rfl (by kernel_rfl) (by kernel_rfl) (by kernel_rfl) (fun _ _ _ h => h) (by rfl) ?_ HC.out ?_
  rotate_left
  · intro W hW; obtain ⟨L0, L1, L2, M0, M1, RA, BA⟩ := HL.out W hW; go_simp <;> with_reducible rfl
  simp only [Act.put, List.setIfInBounds_toArray, List.set_cons_zero, List.set_cons_succ]
  refine takeH (i := 17) (v := ?_) rfl (by kernel_rfl) (by kernel_rfl) (by kernel_rfl) (fun _ _ _ h => h) (by rfl) ?_ HC.out ?_
  rotate_left
  · intro W hW; obtain ⟨L0, L1, L2, M0, M1, RA, BA⟩ := HL.out W hW; go_simp <;> with_reducible rfl
  simp only [Act.put, List.setIfInBounds_toArray, List.set_cons_zero, List.set_cons_succ]
  refine takeH (i := 18) (v := ?_) rfl (by kernel_rfl) (by kernel_rfl) (by kernel_rfl) (fun _ _ _ h => h) (by rfl) ?_ HC.out ?_
  rotate_left
  · intro W hW; obtain ⟨L0, L1, L2, M0, M1, RA, BA⟩ := HL.out W hW; go_simp <;> with_reducible rfl
  simp only [Act.put, List.setIfInBounds_toArray, List.set_cons_zero, List.set_cons_succ]
  refine takeH (i := 19) (v := ?_) rfl (by kernel_rfl) (by kernel_rfl) (by kernel_rfl) (fun _ _ _ h => h) (by rfl) ?_ HC.out ?_
  rotate_left
  · intro W hW; obtain ⟨L0, L1, L2, M0, M1, RA, BA⟩ := HL.out W hW; go_simp <;> with_reducible rfl
  simp only [Act.put, List.setIfInBounds_toArray, List.set_cons_zero, List.set_cons_succ]
  refine takeH (i := 20) (v := ?_) rfl (by kernel_rfl) (by kernel_rfl) (by kernel_rfl) (fun _ _ _ h => h) (by rfl) ?_ HC.out ?_
  rotate_left
  · intro W hW; obtain ⟨L0, L1, L2, M0, M1, RA, BA⟩ := HL.out W hW; go_simp <;> with_reducible rfl
  simp only [Act.put, List.setIfInBounds_toArray, List.set_cons_zero, List.set_cons_succ]
  refine takeH (i := 21) (v := ?_) rfl (by kernel_rfl) (by kernel_rfl) (by kernel_rfl) (fun _ _ _ h => h) (by rfl) ?_ HC.out ?_
  rotate_left
  · intro W hW; obtain ⟨L0, L1, L2, M0, M1, RA, BA⟩ := HL.out W hW; go_simp <;> with_reducible rfl
  simp only [Act.put, List.setIfInBounds_toArray, List.set_cons_zero, List.set_cons_succ]
  refine oneH (i := 22) rfl (by kernel_rfl) (by rfl) (fun K hK => ?_)
  go_simp
  obtain ⟨L0, L1, L2, M0, M1, RA, BA⟩ := HL.out _ HC.out
  refine (wakesL_any _).mono ?_
  rintro e w17 ⟨rfl, d17⟩
  have HC9 := Lib.hid (HC.out.trans (d17.mono HC.out.size))
  clear HC d17 L0 L1 L2 M0 M1 RA BA
  have HC := HC9
  clear HC9
  refine hK.out _ _ HC.out (fun _ => ?_)
  clear hK K
  refine takeH (i := 23) (v := ?_) rfl (by kernel_rfl) (by kernel_rfl) (by kernel_rfl) (fun _ _ _ h => h) (by rfl) ?_ HC.out ?_
  rotate_left
  · intro W hW; obtain ⟨L0, L1, L2, M0, M1, RA, BA⟩ := HL.out W hW; go_simp <;> with_reducible rfl
  simp only [Act.put, List.setIfInBounds_toArray, List.set_cons_zero, List.set_cons_succ]
  refine takeH (i := 24) (v := ?_) rfl (by kernel_rfl) (by kernel_rfl) (by kernel_rfl) (fun _ _ _ h => h) (by rfl) ?_ HC.out ?_
  rotate_left
  · intro W hW; obtain ⟨L0, L1, L2, M0, M1, RA, BA⟩ := HL.out W hW; go_simp <;> with_reducible rfl
  simp only [Act.put, List.setIfInBounds_toArray, List.set_cons_zero, List.set_cons_succ]
  refine wpAnyH_done (by kernel_rfl) ?_ _
  have BF := Lib.hid (HL.out _ HC.out).2.2.2.2.2.2
  go_wp2_with fail
  go_ret
  exact ⟨rfl, BF.out⟩

theorem logTells_walk (A : Option Addr) (n c : Nat) (s r : Int) (bs : List Nat) (Ar : Option Addr) (nr cr : Nat) (el : List RE) (Ab : Option Addr) (nb cb : Nat) (bb : List Nat) (w : World) (hr : Rd w w.heap.size A n (bv bs)) (hby : ∀ x ∈ bs, x < 256) (hc : n ≤ c) (hl : RdR w w.heap.size Ar nr el) (hrb : Rd w w.heap.size Ab nb (bv bb)) (hbb : ∀ x ∈ bb, x < 256) (hcb : nb ≤ cb) :
    Calls Try.prog 3 #[diskV A n c s r, .slice Ar nr cr, .slice Ab nb cb] w (TruePost w) := by
  cases hg : greatL n el
  · by_cases h6 : nb ≤ 600
    · obtain ⟨Lb, ub, hLb⟩ := log_ex _ bb (Nat.le_refl _)
      obtain ⟨Ls, us, hLs⟩ := log_ex _ ((cnt bs s r).bs.take (cnt bs s r).syn) (Nat.le_refl _)
      obtain ⟨Lo, uo, hLo⟩ := log_ex _ (cnt bs s r).bs (Nat.le_refl _)
      exact logTells_in A n c s r bs Ar nr cr el _ rfl Ab nb cb bb w hr hc hby hl hrb hbb hcb hg h6 _ _ _ rfl _ _ _ _ rfl Lb Ls Lo ub us uo hLb hLs hLo _ rfl
    · exact logTells_out A n c s r Ar nr cr el Ab nb cb w hl (.inr ⟨hg, by omega⟩)
  · exact logTells_out A n c s r Ar nr cr el Ab nb cb w hl (.inl hg)

end Go.Proofs.Ytbkfpghpfaemeaa
