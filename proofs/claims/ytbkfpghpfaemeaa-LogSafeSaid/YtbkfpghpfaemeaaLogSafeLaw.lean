/-
  The walk of the statement 'LogSafe': it answers true, and nothing that was there turns. Conditions: none.
-/
import Derived.Test.YtbkfpghpfaemeaaJ10
namespace Go.Proofs.Ytbkfpghpfaemeaa
open Go.RowKit Go.Shelf

set_option maxRecDepth 100000 in
set_option maxHeartbeats 800000 in
theorem logSafe_out (A : Option Addr) (n c : Nat) (s r : Int) (w : World) (h : 1500 < n) :
    Calls Try.prog 7 #[diskV A n c s r] w (TruePost w) := by
  have HB := Lib.hid ((Below.refl w.heap.size w).alloc (Nat.le_refl _) (diskB A n c s r))
  have HX := Lib.hid (Whole.new w 24 #[.slice A n c, .int .i64 s, .int .i64 r])
  obtain ⟨x0, x1, x2⟩ := HX.out.cells3
  have HG := Lib.hid (fun W => great_none A n c s r W)
  rw [show decide (1500 < n) = true by simpa using h] at HG
  clear h
  go_enter Try.func7, Try.ntmps7
  go_wp2_with fail
  refine (HG.out _).mono ?_
  rintro e w1 ⟨rfl, b1⟩
  have HB1 := Lib.hid (HB.out.trans (b1.mono HB.out.size))
  clear b1
  go_wp2_with fail
  refine (wakesL_any _).mono ?_
  rintro e w2 ⟨rfl, b2⟩
  have B2 := Lib.hid (HB1.out.trans (b2.mono HB1.out.size))
  clear b2
  go_wp2_with fail
  go_ret
  exact ⟨rfl, B2.out⟩

set_option maxRecDepth 100000 in
set_option maxHeartbeats 8000000 in
theorem logSafe_in (A : Option Addr) (n c : Nat) (s r : Int) (bs : List Nat) (w : World) (hr : Rd w w.heap.size A n (bv bs)) (hc : n ≤ c) (hby : ∀ x ∈ bs, x < 256) (hn : n ≤ 1500) (ob : List Nat) (S R : Nat) (hD : cnt bs s r = ⟨ob, S, R⟩) (Ls Lo : List PR) (us uo : Nat) (hLs : LogIs (ob.take S) Ls us) (hLo : LogIs ob Lo uo) :
    Calls Try.prog 7 #[diskV A n c s r] w (TruePost w) := by
  have hok : (⟨ob, S, R⟩ : Dk).Ok := by rw [← hD]; exact cnt_ok s r hby
  have hSl : S ≤ ob.length := hok.syn
  have hlR : ob.length ≤ R := hok.len
  have hR : R ≤ 65536 := hok.room
  have hpre : Ls <+: Lo := log_prefix Ls hLo hLs (List.take_prefix _ _)
  have hlenLo : Lo.length ≤ 65536 := by have h1 := lbytes_ge Lo; have h2 := hLo.le; rw [hLo.used] at h2; omega
  have hlenLs : Ls.length ≤ Lo.length := hpre.length_le
  have HD0 := Lib.hid (DAt.start (c := c) (s := s) (r := r) hr)
  have HG := Lib.hid (great_none A n c s r (w.alloc (diskB A n c s r)))
  rw [show decide (1500 < n) = false by simpa using hn] at HG
  have hob : (ob.take S).length = S := by rw [List.length_take]; omega
  have htb : ∀ x ∈ ob.take S, x < 256 := fun x hx => hok.byte x (List.mem_of_mem_take hx)
  have hcS : cnt (ob.take S) S R = ⟨ob.take S, S, R⟩ := cnt_at (by omega) (by omega) hR htb
  have hcK : cnt ob ob.length R = ⟨ob, ob.length, R⟩ := cnt_at (Nat.le_refl _) hlR hR hok.byte
  have HSafe : Hid (∀ W, Rd W W.heap.size A n (bv bs) → Calls Try.prog 18 #[diskV A n c s r] W (RecsIs Ls W)) := fun W h => logSafe_any A n c s r bs W h hc hby hD hLs
  have HCr : Hid (∀ W, Rd W W.heap.size A n (bv bs) → Calls Try.prog 25 #[diskV A n c s r, .int .i64 0] W (DiskN S (ob.take S) S R W)) := fun W h => refCrash_any A n c s r bs W h hc (by omega) hD rfl 0 (by unfold clampN; omega)
  have HOpS : Hid (∀ W A c, Rd W W.heap.size A S (bv (ob.take S)) → S ≤ c → Calls Try.prog 14 #[diskV A S c S R] W (OpenIs (ob.take S) R Ls us W)) := fun W A c h hc => logOpen_any A S c S R (ob.take S) W h hc htb hcS hLs
  have HOp : Hid (∀ W, Rd W W.heap.size A n (bv bs) → Calls Try.prog 14 #[diskV A n c s r] W (OpenIs ob R Lo uo W)) := fun W h => logOpen_any A n c s r bs W h hc hby hD hLo
  have HSy : Hid (∀ W, Rd W W.heap.size A n (bv bs) → Calls Try.prog 24 #[diskV A n c s r] W (DiskN ob.length ob ob.length R W)) := fun W h => refSync_any A n c s r bs W h hc (by omega) hD rfl
  have HSf2 : Hid (∀ W A c, Rd W W.heap.size A ob.length (bv ob) → ob.length ≤ c → Calls Try.prog 18 #[diskV A ob.length c ob.length R] W (RecsIs Lo W)) := fun W A c h hc => logSafe_any A ob.length c ob.length R ob W h hc hok.byte hcK (by rw [List.take_length]; exact hLo)
  have HS1 : Hid (∀ W base base' A A' c c', RecsAt base W (.slice A Ls.length c) Ls → RecsAt base' W (.slice A' Ls.length c') Ls → Calls Try.prog 16 #[.slice A Ls.length c, .slice A' Ls.length c'] W (BoolPost true W)) := fun W base base' A A' c c' h h' => by
    have h1 := same_logs h h' hLs.ok (by omega)
    rwa [sameR_self] at h1
  have HS2 : Hid (∀ W base base' A A' c c', RecsAt base W (.slice A Ls.length c) Ls → RecsAt base' W (.slice A' Lo.length c') Lo → Calls Try.prog 16 #[.slice A Ls.length c, .slice A' Ls.length c'] W (BoolPost true W)) := fun W base base' A A' c c' h h' => same_cut h h' hLs.ok (by omega) hpre
  have HS3 : Hid (∀ W base base' A A' c c', RecsAt base W (.slice A Lo.length c) Lo → RecsAt base' W (.slice A' Lo.length c') Lo → Calls Try.prog 16 #[.slice A Lo.length c, .slice A' Lo.length c'] W (BoolPost true W)) := fun W base base' A A' c c' h h' => by
    have h1 := same_logs h h' hLo.ok (by omega)
    rwa [sameR_self] at h1
  have d1 : decide (Ls.length ≤ Lo.length) = true := by simpa using hlenLs
  obtain ⟨x0, x1, x2⟩ := HD0.out.box.cells3
  clear hr hby hD hok hSl hlR hR hpre hlenLo hob htb hcS hcK hLs hLo hn
  go_enter Try.func7, Try.ntmps7
  go_wp2_with fail
  refine (HG.out).mono ?_
  rintro e w1 ⟨rfl, b1⟩
  have HD1 := Lib.hid (HD0.out.under b1)
  clear b1 x0 x1 x2 HG
  obtain ⟨x0, x1, x2⟩ := HD1.out.box.cells3
  go_wp2_with fail
  refine (HSafe.out _ HD1.out.rd).mono ?_
  rintro e w2 ⟨A2, c2, rfl, r2, b2⟩
  have HD2 := Lib.hid (HD1.out.under b2)
  have HR2 := Lib.hid r2
  clear b2 r2 x0 x1 x2
  obtain ⟨x0, x1, x2⟩ := HD2.out.box.cells3
  go_wp2_with fail
  refine (HCr.out _ HD2.out.rd).mono ?_
  rintro e w3 ⟨A3, c3, rfl, o3, b3⟩
  have HD3 := Lib.hid (HD2.out.under b3)
  have HR3 := Lib.hid (HR2.out.under b3)
  have hrd3 := Rd.of_own o3
  have hcap3 := own_cap o3
  clear b3 o3 x0 x1 x2
  go_wp2_with fail
  refine (HOpS.out _ _ _ hrd3 hcap3).mono ?_
  rintro e w4 ⟨A4, c4, Al4, cl4, rfl, _, r4, b4⟩
  have b4' := b4.alloc b4.size (.cells #[.slice A4 us c4, .int .i64 us, .int .i64 R] 24)
  have HD4 := Lib.hid (HD3.out.under b4')
  have HR4 := Lib.hid (HR3.out.under b4')
  have HL4 := Lib.hid (r4.under ((Below.refl w4.heap.size w4).alloc (Nat.le_refl _) (.cells #[.slice A4 us c4, .int .i64 us, .int .i64 R] 24)))
  obtain ⟨x0, x1, x2⟩ := HD4.out.box.cells3
  clear b4 b4' r4 hrd3 hcap3
  go_wp2_with fail
  refine (HOp.out _ HD4.out.rd).mono ?_
  rintro e w5 ⟨A5, c5, Al5, cl5, rfl, _, r5, b5⟩
  have b5' := b5.alloc b5.size (.cells #[.slice A5 uo c5, .int .i64 uo, .int .i64 R] 24)
  have HD5 := Lib.hid (HD4.out.under b5')
  have HR5 := Lib.hid (HR4.out.under b5')
  have HL5 := Lib.hid (HL4.out.under b5')
  have HM5 := Lib.hid (r5.under ((Below.refl w5.heap.size w5).alloc (Nat.le_refl _) (.cells #[.slice A5 uo c5, .int .i64 uo, .int .i64 R] 24)))
  clear b5 b5' r5 x0 x1 x2
  go_wp2_with fail
  obtain ⟨W0, hW0⟩ : ∃ W, w5.alloc (.cells #[.slice A5 uo c5, .int .i64 uo, .int .i64 R] 24) = W := ⟨_, rfl⟩
  rw [hW0] at HD5 HR5 HL5 HM5 ⊢
  clear hW0
  have HL : Hid (∀ W, Below W0.heap.size W0 W → W.cell? ⟨w.heap.size, 0, none⟩ = some (.slice A n c) ∧ W.cell? ⟨w.heap.size, 1, none⟩ = some (.int .i64 s) ∧ W.cell? ⟨w.heap.size, 2, none⟩ = some (.int .i64 r) ∧ Rd W W.heap.size A n (bv bs) ∧
      RecsAt w1.heap.size W (.slice A2 Ls.length c2) Ls ∧ RecsAt w3.heap.size W (.slice Al4 Ls.length cl4) Ls ∧ RecsAt (w4.alloc (.cells #[.slice A4 us c4, .int .i64 us, .int .i64 R] 24)).heap.size W (.slice Al5 Lo.length cl5) Lo ∧ Below w.heap.size w W) := fun W hW => by
    have g := HD5.out.under hW
    exact ⟨g.box.cell 0, g.box.cell 1, g.box.cell 2, g.rd, HR5.out.under hW, HL5.out.under hW, HM5.out.under hW, g.below⟩
  have hcapM := HM5.out.cap
  have hH : ∀ W : World, (Instr.slice 25 (.slice Al5 Lo.length cl5) none (some (.int .i64 (Ls.length : Int))) none).run Try.prog W = .ok (.slice Al5 Ls.length cl5) W := fun W => run_headRec Al5 Lo.length cl5 Ls.length (by omega) W
  have HC := Lib.hid (Below.refl W0.heap.size W0)
  clear HD5 HR5 HL5 HM5 HD4 HR4 HL4 HD3 HR3 HD2 HR2 HD1 HD0 hcapM hlenLs
  obtain ⟨L0, L1, L2, RA, G1, G2, G3, BA⟩ := HL.out _ HC.out
  refine (HS1.out _ _ _ _ _ _ _ G1 G2).mono ?_
  rintro e w11 ⟨rfl, d11⟩
  have HC2 := Lib.hid (HC.out.trans (d11.mono HC.out.size))
  clear HC d11 L0 L1 L2 RA G1 G2 G3 BA
  have HC := HC2
  clear HC2
  go_wp2_with fail
  obtain ⟨L0, L1, L2, RA, G1, G2, G3, BA⟩ := HL.out _ HC.out
  refine (HS2.out _ _ _ _ _ _ _ G1 G3).mono ?_
  rintro e w12 ⟨rfl, d12⟩
  have HC2 := Lib.hid (HC.out.trans (d12.mono HC.out.size))
  clear HC d12 L0 L1 L2 RA G1 G2 G3 BA
  have HC := HC2
  clear HC2
  obtain ⟨L0, L1, L2, RA, G1, G2, G3, BA⟩ := HL.out _ HC.out
  clear RA G1 G2 G3 BA
  go_wp2_with fail
  clear L0 L1 L2
  obtain ⟨L0, L1, L2, RA, G1, G2, G3, BA⟩ := HL.out _ HC.out
  refine (HSy.out _ RA).mono ?_
  rintro e w13 ⟨A13, c13, rfl, o13, d13⟩
  have R13 := Lib.hid (Rd.of_own o13)
  have C13 := own_cap o13
  have HC2 := Lib.hid (HC.out.trans (d13.mono HC.out.size))
  clear HC o13 d13 L0 L1 L2 RA G1 G2 G3 BA
  have HC := HC2
  clear HC2
  go_wp2_with fail
  refine (HSf2.out _ _ _ R13.out C13).mono ?_
  rintro e w14 ⟨A14, c14, rfl, r14, d14⟩
  have R14 := Lib.hid r14
  have HC2 := Lib.hid (HC.out.trans (d14.mono HC.out.size))
  clear HC r14 d14 R13 C13
  have HC := HC2
  clear HC2
  go_wp2_with fail
  obtain ⟨L0, L1, L2, RA, G1, G2, G3, BA⟩ := HL.out _ HC.out
  refine (HS3.out _ _ _ _ _ _ _ R14.out G3).mono ?_
  rintro e w15 ⟨rfl, d15⟩
  have HC2 := Lib.hid (HC.out.trans (d15.mono HC.out.size))
  clear HC d15 L0 L1 L2 RA G1 G2 G3 BA R14
  have HC := HC2
  clear HC2
  go_wp2_with fail
  obtain ⟨L0, L1, L2, RA, G1, G2, G3, BA⟩ := HL.out _ HC.out
  refine (wakesL_any _).mono ?_
  rintro e w16 ⟨rfl, d16⟩
  have HC2 := Lib.hid (HC.out.trans (d16.mono HC.out.size))
  clear HC d16 L0 L1 L2 RA G1 G2 G3 BA
  have HC := HC2
  clear HC2
  go_wp2_with fail
  go_ret
  exact ⟨rfl, (HL.out _ HC.out).2.2.2.2.2.2.2⟩

theorem logSafe_walk (A : Option Addr) (n c : Nat) (s r : Int) (bs : List Nat) (w : World) (hr : Rd w w.heap.size A n (bv bs)) (hby : ∀ x ∈ bs, x < 256) (hc : n ≤ c) :
    Calls Try.prog 7 #[diskV A n c s r] w (TruePost w) := by
  by_cases hn : n ≤ 1500
  · obtain ⟨Ls, us, hLs⟩ := log_ex _ ((cnt bs s r).bs.take (cnt bs s r).syn) (Nat.le_refl _)
    obtain ⟨Lo, uo, hLo⟩ := log_ex _ (cnt bs s r).bs (Nat.le_refl _)
    exact logSafe_in A n c s r bs w hr hc hby hn _ _ _ rfl Ls Lo us uo hLs hLo
  · exact logSafe_out A n c s r w (by omega)

end Go.Proofs.Ytbkfpghpfaemeaa
