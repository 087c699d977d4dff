/-
  The walk of the statement CallTells: which calls may be, what is opened, found, closed, late, the same. Conditions: those that each theorem names.
-/
import Derived.Test.YtgajnmjifhemgaaClWakes
import Derived.Test.YtgajnmjifhemgaaClRefC
namespace Go.Proofs.Ytgajnmjifhemgaa
open Go.RowKit Go.Shelf

theorem openC_len (c : Cs) (kind key now : Int) : (openC c kind key now).l.length ≤ c.l.length + 1 := by
  unfold openC
  split
  · split
    · omega
    · simp [moreC]
  · omega
theorem closeR_len (c : Cs) (id : Int) : (closeR c id).l.length ≤ c.l.length := by
  unfold closeR
  split
  · exact List.length_filter_le _ _
  · exact Nat.le_refl _
theorem lateR_len (c : Cs) (now timeout : Int) : (lateR c now timeout).l.length ≤ c.l.length := by
  unfold lateR
  split
  · exact List.length_filter_le _ _
  · exact Nat.le_refl _
theorem beginC_len (key : Int) : (beginC key).l.length ≤ 1000 := by
  unfold beginC
  split <;> simp

set_option maxRecDepth 100000 in
set_option maxHeartbeats 4000000 in
theorem callTells_any (c d : Cs) (A : Option Addr) (n k : Nat) (A' : Option Addr) (n' k' : Nat) (kk : Nat) (key now id timeout : Int) (w : World) (hr : RdC w w.heap.size A n c.l) (hid : ∀ x ∈ c.l, (Lit.int .i64 x.id).wf = true) (hr' : RdC w w.heap.size A' n' d.l) : Calls Try.prog 3 #[.agg #[.int .i64 c.ep, .int .i64 c.nx, .slice A n k], .agg #[.int .i64 d.ep, .int .i64 d.nx, .slice A' n' k'], .int .u8 (kk : Int), .int .i64 key, .int .i64 now, .int .i64 id, .int .i64 timeout] w (TruePost w) := by
  have hl := hr.len
  have HR := Lib.hid hr
  have HR' := Lib.hid hr'
  have B0 := Lib.hid (Below.refl w.heap.size w)
  clear hr hr'
  by_cases h60 : 60 < n
  · have hd : decide ((60 : Int) < (n : Int)) = true := decide_eq_true (by omega)
    clear h60 hl hid
    go_enter Try.func3, Try.ntmps3
    go_upto_region 1 with fail
    refine wp_at (fun V1 hV1 => ?_)
    have tw := two_new w 24 24 #[.int .i64 c.ep, .int .i64 c.nx, .slice A n k] #[.int .i64 d.ep, .int .i64 d.nx, .slice A' n' k']
    rw [hV1] at tw
    have X0 := Lib.hid tw.2.1
    have X1 := Lib.hid tw.2.2
    have B1 := Lib.hid (B0.out.trans tw.1)
    clear tw hV1 B0
    have B0 := B1
    clear B1
    obtain ⟨c0, c1, c2⟩ := cells3 X0.out
    obtain ⟨d0, d1, d2⟩ := cells3 X1.out
    go_wp2_with fail
    refine (great_any c A n k V1).mono ?_
    rintro e w2 ⟨rfl, b1⟩
    clear c0 c1 c2 d0 d1 d2
    have B0_ := Lib.hid (B0.out.trans (b1.mono B0.out.size))
    have X0_ := Lib.hid (X0.out.under b1)
    have X1_ := Lib.hid (X1.out.under b1)
    clear B0 X0 X1
    have B0 := B0_
    have X0 := X0_
    have X1 := X1_
    clear B0_ X0_ X1_
    clear b1
    obtain ⟨c0, c1, c2⟩ := cells3 X0.out
    obtain ⟨d0, d1, d2⟩ := cells3 X1.out
    go_wp2_with fail
    refine (wakes_any w2).mono ?_
    rintro e w3 ⟨rfl, b9⟩
    clear c0 c1 c2 d0 d1 d2
    have B0_ := Lib.hid (B0.out.trans (b9.mono B0.out.size))
    have X0_ := Lib.hid (X0.out.under b9)
    have X1_ := Lib.hid (X1.out.under b9)
    clear B0 X0 X1
    have B0 := B0_
    have X0 := X0_
    have X1 := X1_
    clear B0_ X0_ X1_
    clear b9
    go_wp2_with fail
    go_ret
    exact ⟨rfl, B0.out⟩
  have hd : decide ((60 : Int) < (n : Int)) = false := decide_eq_false (by omega)
  have hn : n ≤ 60 := by omega
  clear h60
  by_cases h60 : 60 < n'
  · have hd' : decide ((60 : Int) < (n' : Int)) = true := decide_eq_true (by omega)
    clear h60 hl hid
    go_enter Try.func3, Try.ntmps3
    go_upto_region 1 with fail
    refine wp_at (fun V1 hV1 => ?_)
    have tw := two_new w 24 24 #[.int .i64 c.ep, .int .i64 c.nx, .slice A n k] #[.int .i64 d.ep, .int .i64 d.nx, .slice A' n' k']
    rw [hV1] at tw
    have X0 := Lib.hid tw.2.1
    have X1 := Lib.hid tw.2.2
    have B1 := Lib.hid (B0.out.trans tw.1)
    clear tw hV1 B0
    have B0 := B1
    clear B1
    obtain ⟨c0, c1, c2⟩ := cells3 X0.out
    obtain ⟨d0, d1, d2⟩ := cells3 X1.out
    go_wp2_with fail
    refine (great_any c A n k V1).mono ?_
    rintro e w2 ⟨rfl, b1⟩
    clear c0 c1 c2 d0 d1 d2
    have B0_ := Lib.hid (B0.out.trans (b1.mono B0.out.size))
    have X0_ := Lib.hid (X0.out.under b1)
    have X1_ := Lib.hid (X1.out.under b1)
    clear B0 X0 X1
    have B0 := B0_
    have X0 := X0_
    have X1 := X1_
    clear B0_ X0_ X1_
    clear b1
    obtain ⟨c0, c1, c2⟩ := cells3 X0.out
    obtain ⟨d0, d1, d2⟩ := cells3 X1.out
    go_wp2_with fail
    refine (great_any d A' n' k' w2).mono ?_
    rintro e w3 ⟨rfl, b2⟩
    clear c0 c1 c2 d0 d1 d2
    have B0_ := Lib.hid (B0.out.trans (b2.mono B0.out.size))
    have X0_ := Lib.hid (X0.out.under b2)
    have X1_ := Lib.hid (X1.out.under b2)
    clear B0 X0 X1
    have B0 := B0_
    have X0 := X0_
    have X1 := X1_
    clear B0_ X0_ X1_
    clear b2
    go_wp2_with fail
    refine (wakes_any w3).mono ?_
    rintro e w4 ⟨rfl, b9⟩
    have B0_ := Lib.hid (B0.out.trans (b9.mono B0.out.size))
    have X0_ := Lib.hid (X0.out.under b9)
    have X1_ := Lib.hid (X1.out.under b9)
    clear B0 X0 X1
    have B0 := B0_
    have X0 := X0_
    have X1 := X1_
    clear B0_ X0_ X1_
    clear b9
    go_wp2_with fail
    go_ret
    exact ⟨rfl, B0.out⟩
  have hd' : decide ((60 : Int) < (n' : Int)) = false := decide_eq_false (by omega)
  have hn' : n' ≤ 60 := by omega
  clear h60
  obtain ⟨o, ho⟩ : ∃ o, openC c (kk : Int) key now = o := ⟨_, rfl⟩
  obtain ⟨oi, hoi⟩ : ∃ i, openI c (kk : Int) key now = i := ⟨_, rfl⟩
  obtain ⟨oe, hoe⟩ : ∃ i, openE c (kk : Int) key now = i := ⟨_, rfl⟩
  obtain ⟨bg, hbg⟩ : ∃ o, beginC key = o := ⟨_, rfl⟩
  obtain ⟨be, hbe⟩ : ∃ i, beginE key = i := ⟨_, rfl⟩
  obtain ⟨fo, hfo⟩ : ∃ i, findC c id = i := ⟨_, rfl⟩
  obtain ⟨rb, hrb⟩ : ∃ i, rightC c = i := ⟨_, rfl⟩
  obtain ⟨hb, hhb⟩ : ∃ i, hasC c (kk : Int) key = i := ⟨_, rfl⟩
  obtain ⟨cc, hcc⟩ : ∃ o, closeR c id = o := ⟨_, rfl⟩
  obtain ⟨lc, hlc⟩ : ∃ o, lateR c now timeout = o := ⟨_, rfl⟩
  obtain ⟨sb, hsb⟩ : ∃ i, decide (c = d) = i := ⟨_, rfl⟩
  have hon : o.l.length ≤ 1000 := by have := openC_len c kk key now; rw [ho] at this; omega
  have hbn : bg.l.length ≤ 1000 := by have := beginC_len key; rw [hbg] at this; omega
  have hcn : cc.l.length ≤ 1000 := by have := closeR_len c id; rw [hcc] at this; omega
  have hln : lc.l.length ≤ 1000 := by have := lateR_len c now timeout; rw [hlc] at this; omega
  have HOp := Lib.hid (fun W (hb : Below w.heap.size w W) => open_any c A n k kk key now w.heap.size W (HR.out.below hb) hb.size (by omega))
  rw [ho, hoi, hoe] at HOp
  have HOr := Lib.hid (fun W (hb : Below w.heap.size w W) => ropen_any c A n k kk key now w.heap.size W (HR.out.below hb) hb.size (by omega) hid)
  rw [ho, hoi, hoe] at HOr
  have HFp := Lib.hid (fun W (hb : Below w.heap.size w W) => find_any c A n k id w.heap.size W (HR.out.below hb) hb.size (by omega))
  rw [hfo] at HFp
  have HFr := Lib.hid (fun W (hb : Below w.heap.size w W) => rfind_any c A n k id w.heap.size W (HR.out.below hb) hb.size (by omega))
  rw [hfo] at HFr
  have HBp := Lib.hid (fun W => begin_any key W)
  rw [hbg, hbe] at HBp
  have HBr := Lib.hid (fun W => rbegin_any key W)
  rw [hbg, hbe] at HBr
  have HRp := Lib.hid (fun W (hb : Below w.heap.size w W) => rightc_any c A n k w.heap.size W (HR.out.below hb) hb.size (by omega))
  rw [hrb] at HRp
  have HRr := Lib.hid (fun W (hb : Below w.heap.size w W) => rright_any c A n k w.heap.size W (HR.out.below hb) hb.size (by omega) hid)
  rw [hrb] at HRr
  have HHp := Lib.hid (fun W (hb : Below w.heap.size w W) => has_any c A n k kk key w.heap.size W (HR.out.below hb) hb.size (by omega))
  rw [hhb] at HHp
  have HHr := Lib.hid (fun W (hb : Below w.heap.size w W) => rhas_any c A n k kk key w.heap.size W (HR.out.below hb) hb.size (by omega))
  rw [hhb] at HHr
  have HCp := Lib.hid (fun W (hb : Below w.heap.size w W) => close_any c A n k id w.heap.size W (HR.out.below hb) hb.size (by omega))
  rw [hcc] at HCp
  have HCr := Lib.hid (fun W (hb : Below w.heap.size w W) => rclose_any c A n k id w.heap.size W (HR.out.below hb) hb.size (by omega) hid)
  rw [hcc] at HCr
  have HLp := Lib.hid (fun W (hb : Below w.heap.size w W) => late_any c A n k now timeout w.heap.size W (HR.out.below hb) hb.size (by omega))
  rw [hlc] at HLp
  have HLr := Lib.hid (fun W (hb : Below w.heap.size w W) => rlate_any c A n k now timeout w.heap.size W (HR.out.below hb) hb.size (by omega) hid)
  rw [hlc] at HLr
  have HSp := Lib.hid (fun W (hb : Below w.heap.size w W) => same_any c d A n k A' n' k' w.heap.size w.heap.size W (HR.out.below hb) (HR'.out.below hb) hb.size hb.size (by omega))
  rw [hsb] at HSp
  have HSr := Lib.hid (fun W (hb : Below w.heap.size w W) => refSame_any c d A n k A' n' k' w.heap.size w.heap.size W (HR.out.below hb) (HR'.out.below hb) hb.size hb.size (by omega))
  rw [hsb] at HSr
  have HSo := Lib.hid (fun A k1 A' k1' W (h : RdC W W.heap.size A o.l.length o.l) (h' : RdC W W.heap.size A' o.l.length o.l) => refSame_any o o A o.l.length k1 A' o.l.length k1' W.heap.size W.heap.size W h h' (Nat.le_refl _) (Nat.le_refl _) hon)
  have HSb := Lib.hid (fun A k1 A' k1' W (h : RdC W W.heap.size A bg.l.length bg.l) (h' : RdC W W.heap.size A' bg.l.length bg.l) => refSame_any bg bg A bg.l.length k1 A' bg.l.length k1' W.heap.size W.heap.size W h h' (Nat.le_refl _) (Nat.le_refl _) hbn)
  have HSc := Lib.hid (fun A k1 A' k1' W (h : RdC W W.heap.size A cc.l.length cc.l) (h' : RdC W W.heap.size A' cc.l.length cc.l) => refSame_any cc cc A cc.l.length k1 A' cc.l.length k1' W.heap.size W.heap.size W h h' (Nat.le_refl _) (Nat.le_refl _) hcn)
  have HSl := Lib.hid (fun A k1 A' k1' W (h : RdC W W.heap.size A lc.l.length lc.l) (h' : RdC W W.heap.size A' lc.l.length lc.l) => refSame_any lc lc A lc.l.length k1 A' lc.l.length k1' W.heap.size W.heap.size W h h' (Nat.le_refl _) (Nat.le_refl _) hln)
  clear ho hoi hoe hbg hbe hfo hrb hhb hcc hlc hsb hon hbn hcn hln hid hl
  obtain ⟨y, hy⟩ : ∃ y, fo.getD ⟨0, 0, 0, 0⟩ = y := ⟨_, rfl⟩
  go_enter Try.func3, Try.ntmps3
  go_upto_region 1 with fail
  refine wp_at (fun V1 hV1 => ?_)
  have tw := two_new w 24 24 #[.int .i64 c.ep, .int .i64 c.nx, .slice A n k] #[.int .i64 d.ep, .int .i64 d.nx, .slice A' n' k']
  rw [hV1] at tw
  have X0 := Lib.hid tw.2.1
  have X1 := Lib.hid tw.2.2
  have B1 := Lib.hid (B0.out.trans tw.1)
  clear tw hV1 B0
  have B0 := B1
  clear B1
  obtain ⟨c0, c1, c2⟩ := cells3 X0.out
  obtain ⟨d0, d1, d2⟩ := cells3 X1.out
  go_wp2_with fail
  refine (great_any c A n k V1).mono ?_
  rintro e w2 ⟨rfl, b1⟩
  clear c0 c1 c2 d0 d1 d2
  have B0_ := Lib.hid (B0.out.trans (b1.mono B0.out.size))
  have X0_ := Lib.hid (X0.out.under b1)
  have X1_ := Lib.hid (X1.out.under b1)
  clear B0 X0 X1
  have B0 := B0_
  have X0 := X0_
  have X1 := X1_
  clear B0_ X0_ X1_
  clear b1
  obtain ⟨c0, c1, c2⟩ := cells3 X0.out
  obtain ⟨d0, d1, d2⟩ := cells3 X1.out
  go_wp2_with fail
  refine (great_any d A' n' k' w2).mono ?_
  rintro e w3 ⟨rfl, b2⟩
  clear c0 c1 c2 d0 d1 d2
  have B0_ := Lib.hid (B0.out.trans (b2.mono B0.out.size))
  have X0_ := Lib.hid (X0.out.under b2)
  have X1_ := Lib.hid (X1.out.under b2)
  clear B0 X0 X1
  have B0 := B0_
  have X0 := X0_
  have X1 := X1_
  clear B0_ X0_ X1_
  clear b2
  obtain ⟨c0, c1, c2⟩ := cells3 X0.out
  obtain ⟨d0, d1, d2⟩ := cells3 X1.out
  go_wp2_with fail
  refine (HOp.out w3 B0.out).mono ?_
  rintro e w4 ⟨A2, k2, rfl, o2, b2⟩
  clear c0 c1 c2 d0 d1 d2
  have B0_ := Lib.hid (B0.out.trans (b2.mono B0.out.size))
  have X0_ := Lib.hid (X0.out.under b2)
  have X1_ := Lib.hid (X1.out.under b2)
  clear B0 X0 X1
  have B0 := B0_
  have X0 := X0_
  have X1 := X1_
  clear B0_ X0_ X1_
  have O2 := Lib.hid (o2)
  clear b2
  clear o2
  go_upto_region 4 with fail
  refine wp_at (fun V5 hV5 => ?_)
  have aV5 : Below w4.heap.size w4 V5 := by rw [← hV5]; exact (Below.refl _ _).alloc (Nat.le_refl _) _
  have xV5 : Whole V5 w4.heap.size 24 #[.int .i64 o.ep, .int .i64 o.nx, .slice A2 o.l.length k2] := by rw [← hV5]; exact Whole.new _ _ _
  clear hV5
  have B0_ := Lib.hid (B0.out.trans (aV5.mono B0.out.size))
  have X0_ := Lib.hid (X0.out.under aV5)
  have X1_ := Lib.hid (X1.out.under aV5)
  have O2_ := Lib.hid (O2.out.under aV5)
  clear B0 X0 X1 O2
  have B0 := B0_
  have X0 := X0_
  have X1 := X1_
  have O2 := O2_
  clear B0_ X0_ X1_ O2_
  have X2 := Lib.hid xV5
  clear xV5
  clear aV5
  obtain ⟨c0, c1, c2⟩ := cells3 X0.out
  go_wp2_with fail
  refine (HOr.out V5 B0.out).mono ?_
  rintro e w6 ⟨A3, k3, rfl, o3, b3⟩
  clear c0 c1 c2
  have B0_ := Lib.hid (B0.out.trans (b3.mono B0.out.size))
  have X0_ := Lib.hid (X0.out.under b3)
  have X1_ := Lib.hid (X1.out.under b3)
  have O2_ := Lib.hid (O2.out.under b3)
  have X2_ := Lib.hid (X2.out.under b3)
  clear B0 X0 X1 O2 X2
  have B0 := B0_
  have X0 := X0_
  have X1 := X1_
  have O2 := O2_
  have X2 := X2_
  clear B0_ X0_ X1_ O2_ X2_
  have O3 := Lib.hid (o3)
  clear b3
  clear o3
  go_upto_region 5 with fail
  refine wp_at (fun V7 hV7 => ?_)
  have aV7 : Below w6.heap.size w6 V7 := by rw [← hV7]; exact (Below.refl _ _).alloc (Nat.le_refl _) _
  have xV7 : Whole V7 w6.heap.size 24 #[.int .i64 o.ep, .int .i64 o.nx, .slice A3 o.l.length k3] := by rw [← hV7]; exact Whole.new _ _ _
  clear hV7
  have B0_ := Lib.hid (B0.out.trans (aV7.mono B0.out.size))
  have X0_ := Lib.hid (X0.out.under aV7)
  have X1_ := Lib.hid (X1.out.under aV7)
  have O2_ := Lib.hid (O2.out.under aV7)
  have X2_ := Lib.hid (X2.out.under aV7)
  have O3_ := Lib.hid (O3.out.under aV7)
  clear B0 X0 X1 O2 X2 O3
  have B0 := B0_
  have X0 := X0_
  have X1 := X1_
  have O2 := O2_
  have X2 := X2_
  have O3 := O3_
  clear B0_ X0_ X1_ O2_ X2_ O3_
  have X3 := Lib.hid xV7
  clear xV7
  clear aV7
  obtain ⟨c0, c1, c2⟩ := cells3 X0.out
  go_wp2_with fail
  refine (HFp.out V7 B0.out).mono ?_
  rintro e w8 ⟨rfl, b4⟩
  clear c0 c1 c2
  have B0_ := Lib.hid (B0.out.trans (b4.mono B0.out.size))
  have X0_ := Lib.hid (X0.out.under b4)
  have X1_ := Lib.hid (X1.out.under b4)
  have O2_ := Lib.hid (O2.out.under b4)
  have X2_ := Lib.hid (X2.out.under b4)
  have O3_ := Lib.hid (O3.out.under b4)
  have X3_ := Lib.hid (X3.out.under b4)
  clear B0 X0 X1 O2 X2 O3 X3
  have B0 := B0_
  have X0 := X0_
  have X1 := X1_
  have O2 := O2_
  have X2 := X2_
  have O3 := O3_
  have X3 := X3_
  clear B0_ X0_ X1_ O2_ X2_ O3_ X3_
  clear b4
  rw [hy]
  go_upto_region 6 with fail
  refine wp_at (fun V9 hV9 => ?_)
  have aV9 : Below w8.heap.size w8 V9 := by rw [← hV9]; exact (Below.refl _ _).alloc (Nat.le_refl _) _
  have xV9 : Whole V9 w8.heap.size 31 #[.int .i64 y.id, .int .u8 y.kind, .int .i64 y.key, .int .i64 y.sent] := by rw [← hV9]; exact Whole.new _ _ _
  clear hV9
  have B0_ := Lib.hid (B0.out.trans (aV9.mono B0.out.size))
  have X0_ := Lib.hid (X0.out.under aV9)
  have X1_ := Lib.hid (X1.out.under aV9)
  have O2_ := Lib.hid (O2.out.under aV9)
  have X2_ := Lib.hid (X2.out.under aV9)
  have O3_ := Lib.hid (O3.out.under aV9)
  have X3_ := Lib.hid (X3.out.under aV9)
  clear B0 X0 X1 O2 X2 O3 X3
  have B0 := B0_
  have X0 := X0_
  have X1 := X1_
  have O2 := O2_
  have X2 := X2_
  have O3 := O3_
  have X3 := X3_
  clear B0_ X0_ X1_ O2_ X2_ O3_ X3_
  have X4 := Lib.hid xV9
  clear xV9
  clear aV9
  obtain ⟨c0, c1, c2⟩ := cells3 X0.out
  go_wp2_with fail
  refine (HFr.out V9 B0.out).mono ?_
  rintro e w10 ⟨rfl, b5⟩
  clear c0 c1 c2
  have B0_ := Lib.hid (B0.out.trans (b5.mono B0.out.size))
  have X0_ := Lib.hid (X0.out.under b5)
  have X1_ := Lib.hid (X1.out.under b5)
  have O2_ := Lib.hid (O2.out.under b5)
  have X2_ := Lib.hid (X2.out.under b5)
  have O3_ := Lib.hid (O3.out.under b5)
  have X3_ := Lib.hid (X3.out.under b5)
  have X4_ := Lib.hid (X4.out.under b5)
  clear B0 X0 X1 O2 X2 O3 X3 X4
  have B0 := B0_
  have X0 := X0_
  have X1 := X1_
  have O2 := O2_
  have X2 := X2_
  have O3 := O3_
  have X3 := X3_
  have X4 := X4_
  clear B0_ X0_ X1_ O2_ X2_ O3_ X3_ X4_
  clear b5
  rw [hy]
  go_upto_region 7 with fail
  refine wp_at (fun V11 hV11 => ?_)
  have aV11 : Below w10.heap.size w10 V11 := by rw [← hV11]; exact (Below.refl _ _).alloc (Nat.le_refl _) _
  have xV11 : Whole V11 w10.heap.size 31 #[.int .i64 y.id, .int .u8 y.kind, .int .i64 y.key, .int .i64 y.sent] := by rw [← hV11]; exact Whole.new _ _ _
  clear hV11
  have B0_ := Lib.hid (B0.out.trans (aV11.mono B0.out.size))
  have X0_ := Lib.hid (X0.out.under aV11)
  have X1_ := Lib.hid (X1.out.under aV11)
  have O2_ := Lib.hid (O2.out.under aV11)
  have X2_ := Lib.hid (X2.out.under aV11)
  have O3_ := Lib.hid (O3.out.under aV11)
  have X3_ := Lib.hid (X3.out.under aV11)
  have X4_ := Lib.hid (X4.out.under aV11)
  clear B0 X0 X1 O2 X2 O3 X3 X4
  have B0 := B0_
  have X0 := X0_
  have X1 := X1_
  have O2 := O2_
  have X2 := X2_
  have O3 := O3_
  have X3 := X3_
  have X4 := X4_
  clear B0_ X0_ X1_ O2_ X2_ O3_ X3_ X4_
  have X5 := Lib.hid xV11
  clear xV11
  clear aV11
  go_wp2_with fail
  refine (HBp.out V11).mono ?_
  rintro e w12 ⟨A6, k6, rfl, o6, b6⟩
  have B0_ := Lib.hid (B0.out.trans (b6.mono B0.out.size))
  have X0_ := Lib.hid (X0.out.under b6)
  have X1_ := Lib.hid (X1.out.under b6)
  have O2_ := Lib.hid (O2.out.under b6)
  have X2_ := Lib.hid (X2.out.under b6)
  have O3_ := Lib.hid (O3.out.under b6)
  have X3_ := Lib.hid (X3.out.under b6)
  have X4_ := Lib.hid (X4.out.under b6)
  have X5_ := Lib.hid (X5.out.under b6)
  clear B0 X0 X1 O2 X2 O3 X3 X4 X5
  have B0 := B0_
  have X0 := X0_
  have X1 := X1_
  have O2 := O2_
  have X2 := X2_
  have O3 := O3_
  have X3 := X3_
  have X4 := X4_
  have X5 := X5_
  clear B0_ X0_ X1_ O2_ X2_ O3_ X3_ X4_ X5_
  have O6 := Lib.hid (o6)
  clear b6
  clear o6
  go_upto_region 8 with fail
  refine wp_at (fun V13 hV13 => ?_)
  have aV13 : Below w12.heap.size w12 V13 := by rw [← hV13]; exact (Below.refl _ _).alloc (Nat.le_refl _) _
  have xV13 : Whole V13 w12.heap.size 24 #[.int .i64 bg.ep, .int .i64 bg.nx, .slice A6 bg.l.length k6] := by rw [← hV13]; exact Whole.new _ _ _
  clear hV13
  have B0_ := Lib.hid (B0.out.trans (aV13.mono B0.out.size))
  have X0_ := Lib.hid (X0.out.under aV13)
  have X1_ := Lib.hid (X1.out.under aV13)
  have O2_ := Lib.hid (O2.out.under aV13)
  have X2_ := Lib.hid (X2.out.under aV13)
  have O3_ := Lib.hid (O3.out.under aV13)
  have X3_ := Lib.hid (X3.out.under aV13)
  have X4_ := Lib.hid (X4.out.under aV13)
  have X5_ := Lib.hid (X5.out.under aV13)
  have O6_ := Lib.hid (O6.out.under aV13)
  clear B0 X0 X1 O2 X2 O3 X3 X4 X5 O6
  have B0 := B0_
  have X0 := X0_
  have X1 := X1_
  have O2 := O2_
  have X2 := X2_
  have O3 := O3_
  have X3 := X3_
  have X4 := X4_
  have X5 := X5_
  have O6 := O6_
  clear B0_ X0_ X1_ O2_ X2_ O3_ X3_ X4_ X5_ O6_
  have X6 := Lib.hid xV13
  clear xV13
  clear aV13
  go_wp2_with fail
  refine (HBr.out V13).mono ?_
  rintro e w14 ⟨A7, k7, rfl, o7, b7⟩
  have B0_ := Lib.hid (B0.out.trans (b7.mono B0.out.size))
  have X0_ := Lib.hid (X0.out.under b7)
  have X1_ := Lib.hid (X1.out.under b7)
  have O2_ := Lib.hid (O2.out.under b7)
  have X2_ := Lib.hid (X2.out.under b7)
  have O3_ := Lib.hid (O3.out.under b7)
  have X3_ := Lib.hid (X3.out.under b7)
  have X4_ := Lib.hid (X4.out.under b7)
  have X5_ := Lib.hid (X5.out.under b7)
  have O6_ := Lib.hid (O6.out.under b7)
  have X6_ := Lib.hid (X6.out.under b7)
  clear B0 X0 X1 O2 X2 O3 X3 X4 X5 O6 X6
  have B0 := B0_
  have X0 := X0_
  have X1 := X1_
  have O2 := O2_
  have X2 := X2_
  have O3 := O3_
  have X3 := X3_
  have X4 := X4_
  have X5 := X5_
  have O6 := O6_
  have X6 := X6_
  clear B0_ X0_ X1_ O2_ X2_ O3_ X3_ X4_ X5_ O6_ X6_
  have O7 := Lib.hid (o7)
  clear b7
  clear o7
  go_upto_region 9 with fail
  refine wp_at (fun V15 hV15 => ?_)
  have aV15 : Below w14.heap.size w14 V15 := by rw [← hV15]; exact (Below.refl _ _).alloc (Nat.le_refl _) _
  have xV15 : Whole V15 w14.heap.size 24 #[.int .i64 bg.ep, .int .i64 bg.nx, .slice A7 bg.l.length k7] := by rw [← hV15]; exact Whole.new _ _ _
  clear hV15
  have B0_ := Lib.hid (B0.out.trans (aV15.mono B0.out.size))
  have X0_ := Lib.hid (X0.out.under aV15)
  have X1_ := Lib.hid (X1.out.under aV15)
  have O2_ := Lib.hid (O2.out.under aV15)
  have X2_ := Lib.hid (X2.out.under aV15)
  have O3_ := Lib.hid (O3.out.under aV15)
  have X3_ := Lib.hid (X3.out.under aV15)
  have X4_ := Lib.hid (X4.out.under aV15)
  have X5_ := Lib.hid (X5.out.under aV15)
  have O6_ := Lib.hid (O6.out.under aV15)
  have X6_ := Lib.hid (X6.out.under aV15)
  have O7_ := Lib.hid (O7.out.under aV15)
  clear B0 X0 X1 O2 X2 O3 X3 X4 X5 O6 X6 O7
  have B0 := B0_
  have X0 := X0_
  have X1 := X1_
  have O2 := O2_
  have X2 := X2_
  have O3 := O3_
  have X3 := X3_
  have X4 := X4_
  have X5 := X5_
  have O6 := O6_
  have X6 := X6_
  have O7 := O7_
  clear B0_ X0_ X1_ O2_ X2_ O3_ X3_ X4_ X5_ O6_ X6_ O7_
  have X7 := Lib.hid xV15
  clear xV15
  clear aV15
  have O2_ := Lib.hid (show CallsAt _ (V15.drewN 1) _ _ from O2.out)
  clear O2
  have O2 := O2_
  clear O2_
  have O3_ := Lib.hid (show CallsAt _ (V15.drewN 1) _ _ from O3.out)
  clear O3
  have O3 := O3_
  clear O3_
  have O6_ := Lib.hid (show CallsAt _ (V15.drewN 1) _ _ from O6.out)
  clear O6
  have O6 := O6_
  clear O6_
  have O7_ := Lib.hid (show CallsAt _ (V15.drewN 1) _ _ from O7.out)
  clear O7
  have O7 := O7_
  clear O7_
  have HB0 := Lib.hid (drewN_below B0.out 1)
  have HT0 : Hid ((fun V' => Whole V' w.heap.size 24 #[.int .i64 c.ep, .int .i64 c.nx, .slice A n k] ∧ Whole V' (w.heap.size + 1) 24 #[.int .i64 d.ep, .int .i64 d.nx, .slice A' n' k'] ∧ Whole V' w4.heap.size 24 #[.int .i64 o.ep, .int .i64 o.nx, .slice A2 o.l.length k2] ∧ Whole V' w6.heap.size 24 #[.int .i64 o.ep, .int .i64 o.nx, .slice A3 o.l.length k3] ∧ Whole V' w8.heap.size 31 #[.int .i64 y.id, .int .u8 y.kind, .int .i64 y.key, .int .i64 y.sent] ∧ Whole V' w10.heap.size 31 #[.int .i64 y.id, .int .u8 y.kind, .int .i64 y.key, .int .i64 y.sent] ∧ Whole V' w12.heap.size 24 #[.int .i64 bg.ep, .int .i64 bg.nx, .slice A6 bg.l.length k6] ∧ Whole V' w14.heap.size 24 #[.int .i64 bg.ep, .int .i64 bg.nx, .slice A7 bg.l.length k7]) (V15.drewN 1)) := Lib.hid ⟨X0.out, X1.out, X2.out, X3.out, X4.out, X5.out, X6.out, X7.out⟩
  have HLL : Hid (∀ V', (fun V' => Whole V' w.heap.size 24 #[.int .i64 c.ep, .int .i64 c.nx, .slice A n k] ∧ Whole V' (w.heap.size + 1) 24 #[.int .i64 d.ep, .int .i64 d.nx, .slice A' n' k'] ∧ Whole V' w4.heap.size 24 #[.int .i64 o.ep, .int .i64 o.nx, .slice A2 o.l.length k2] ∧ Whole V' w6.heap.size 24 #[.int .i64 o.ep, .int .i64 o.nx, .slice A3 o.l.length k3] ∧ Whole V' w8.heap.size 31 #[.int .i64 y.id, .int .u8 y.kind, .int .i64 y.key, .int .i64 y.sent] ∧ Whole V' w10.heap.size 31 #[.int .i64 y.id, .int .u8 y.kind, .int .i64 y.key, .int .i64 y.sent] ∧ Whole V' w12.heap.size 24 #[.int .i64 bg.ep, .int .i64 bg.nx, .slice A6 bg.l.length k6] ∧ Whole V' w14.heap.size 24 #[.int .i64 bg.ep, .int .i64 bg.nx, .slice A7 bg.l.length k7]) V' → (V'.cell? ⟨w.heap.size, 0, none⟩ = some (.int .i64 c.ep) ∧ V'.cell? ⟨w.heap.size, 1, none⟩ = some (.int .i64 c.nx) ∧ V'.cell? ⟨w.heap.size, 2, none⟩ = some (.slice A n k)) ∧ (V'.cell? ⟨(w.heap.size + 1), 0, none⟩ = some (.int .i64 d.ep) ∧ V'.cell? ⟨(w.heap.size + 1), 1, none⟩ = some (.int .i64 d.nx) ∧ V'.cell? ⟨(w.heap.size + 1), 2, none⟩ = some (.slice A' n' k')) ∧ (V'.cell? ⟨w4.heap.size, 0, none⟩ = some (.int .i64 o.ep) ∧ V'.cell? ⟨w4.heap.size, 1, none⟩ = some (.int .i64 o.nx) ∧ V'.cell? ⟨w4.heap.size, 2, none⟩ = some (.slice A2 o.l.length k2)) ∧ (V'.cell? ⟨w6.heap.size, 0, none⟩ = some (.int .i64 o.ep) ∧ V'.cell? ⟨w6.heap.size, 1, none⟩ = some (.int .i64 o.nx) ∧ V'.cell? ⟨w6.heap.size, 2, none⟩ = some (.slice A3 o.l.length k3)) ∧ (V'.cell? ⟨w8.heap.size, 0, none⟩ = some (.int .i64 y.id) ∧ V'.cell? ⟨w8.heap.size, 1, none⟩ = some (.int .u8 y.kind) ∧ V'.cell? ⟨w8.heap.size, 2, none⟩ = some (.int .i64 y.key) ∧ V'.cell? ⟨w8.heap.size, 3, none⟩ = some (.int .i64 y.sent)) ∧ (V'.cell? ⟨w10.heap.size, 0, none⟩ = some (.int .i64 y.id) ∧ V'.cell? ⟨w10.heap.size, 1, none⟩ = some (.int .u8 y.kind) ∧ V'.cell? ⟨w10.heap.size, 2, none⟩ = some (.int .i64 y.key) ∧ V'.cell? ⟨w10.heap.size, 3, none⟩ = some (.int .i64 y.sent)) ∧ (V'.cell? ⟨w12.heap.size, 0, none⟩ = some (.int .i64 bg.ep) ∧ V'.cell? ⟨w12.heap.size, 1, none⟩ = some (.int .i64 bg.nx) ∧ V'.cell? ⟨w12.heap.size, 2, none⟩ = some (.slice A6 bg.l.length k6)) ∧ (V'.cell? ⟨w14.heap.size, 0, none⟩ = some (.int .i64 bg.ep) ∧ V'.cell? ⟨w14.heap.size, 1, none⟩ = some (.int .i64 bg.nx) ∧ V'.cell? ⟨w14.heap.size, 2, none⟩ = some (.slice A7 bg.l.length k7))) := Lib.hid (fun V' h => ⟨cells3 h.1, cells3 h.2.1, cells3 h.2.2.1, cells3 h.2.2.2.1, cells4 h.2.2.2.2.1, cells4 h.2.2.2.2.2.1, cells3 h.2.2.2.2.2.2.1, cells3 h.2.2.2.2.2.2.2⟩)
  refine wp_region_T (ls := []) (T := (fun V' => Whole V' w.heap.size 24 #[.int .i64 c.ep, .int .i64 c.nx, .slice A n k] ∧ Whole V' (w.heap.size + 1) 24 #[.int .i64 d.ep, .int .i64 d.nx, .slice A' n' k'] ∧ Whole V' w4.heap.size 24 #[.int .i64 o.ep, .int .i64 o.nx, .slice A2 o.l.length k2] ∧ Whole V' w6.heap.size 24 #[.int .i64 o.ep, .int .i64 o.nx, .slice A3 o.l.length k3] ∧ Whole V' w8.heap.size 31 #[.int .i64 y.id, .int .u8 y.kind, .int .i64 y.key, .int .i64 y.sent] ∧ Whole V' w10.heap.size 31 #[.int .i64 y.id, .int .u8 y.kind, .int .i64 y.key, .int .i64 y.sent] ∧ Whole V' w12.heap.size 24 #[.int .i64 bg.ep, .int .i64 bg.nx, .slice A6 bg.l.length k6] ∧ Whole V' w14.heap.size 24 #[.int .i64 bg.ep, .int .i64 bg.nx, .slice A7 bg.l.length k7])) (by kernel_rfl) ?_
  refine takeT (i := 0) (v := ?_) rfl (by kernel_rfl) (by kernel_rfl) (by kernel_rfl) (by kernel_rfl) (fun _ _ _ h => h) (by rfl) ?_ HT0.out ?_
  rotate_left
  · intro V' hV; obtain ⟨⟨c0, c1, c2⟩, ⟨d0, d1, d2⟩, ⟨e0, e1, e2⟩, ⟨f0, f1, f2⟩, ⟨g0, g1, g2, g3⟩, ⟨h0, h1, h2, h3⟩, ⟨i0, i1, i2⟩, j0, j1, j2⟩ := HLL.out V' hV; go_simp <;> with_reducible rfl
  simp only [Act.put, List.setIfInBounds_toArray, List.set_cons_zero, List.set_cons_succ]
  refine takeT (i := 1) (v := ?_) rfl (by kernel_rfl) (by kernel_rfl) (by kernel_rfl) (by kernel_rfl) (fun _ _ _ h => h) (by rfl) ?_ HT0.out ?_
  rotate_left
  · intro V' hV; obtain ⟨⟨c0, c1, c2⟩, ⟨d0, d1, d2⟩, ⟨e0, e1, e2⟩, ⟨f0, f1, f2⟩, ⟨g0, g1, g2, g3⟩, ⟨h0, h1, h2, h3⟩, ⟨i0, i1, i2⟩, j0, j1, j2⟩ := HLL.out V' hV; go_simp <;> with_reducible rfl
  simp only [Act.put, List.setIfInBounds_toArray, List.set_cons_zero, List.set_cons_succ]
  refine oneT (i := 2) rfl (by kernel_rfl) (by rfl) (fun K hK => ?_)
  go_simp
  go_at_call 16
  refine (HSo.out A2 k2 A3 k3 _ O2.out.read O3.out.read).mono ?_
  rintro e z2 ⟨rfl, b⟩
  simp only [decide_true]
  have HT2 : Hid ((fun V' => Whole V' w.heap.size 24 #[.int .i64 c.ep, .int .i64 c.nx, .slice A n k] ∧ Whole V' (w.heap.size + 1) 24 #[.int .i64 d.ep, .int .i64 d.nx, .slice A' n' k'] ∧ Whole V' w4.heap.size 24 #[.int .i64 o.ep, .int .i64 o.nx, .slice A2 o.l.length k2] ∧ Whole V' w6.heap.size 24 #[.int .i64 o.ep, .int .i64 o.nx, .slice A3 o.l.length k3] ∧ Whole V' w8.heap.size 31 #[.int .i64 y.id, .int .u8 y.kind, .int .i64 y.key, .int .i64 y.sent] ∧ Whole V' w10.heap.size 31 #[.int .i64 y.id, .int .u8 y.kind, .int .i64 y.key, .int .i64 y.sent] ∧ Whole V' w12.heap.size 24 #[.int .i64 bg.ep, .int .i64 bg.nx, .slice A6 bg.l.length k6] ∧ Whole V' w14.heap.size 24 #[.int .i64 bg.ep, .int .i64 bg.nx, .slice A7 bg.l.length k7]) z2) := Lib.hid ⟨HT0.out.1.under b, HT0.out.2.1.under b, HT0.out.2.2.1.under b, HT0.out.2.2.2.1.under b, HT0.out.2.2.2.2.1.under b, HT0.out.2.2.2.2.2.1.under b, HT0.out.2.2.2.2.2.2.1.under b, HT0.out.2.2.2.2.2.2.2.under b⟩
  have HB2 := Lib.hid (HB0.out.trans (b.mono HB0.out.size))
  have O2_ := Lib.hid (O2.out.under b)
  clear O2
  have O2 := O2_
  clear O2_
  have O3_ := Lib.hid (O3.out.under b)
  clear O3
  have O3 := O3_
  clear O3_
  have O6_ := Lib.hid (O6.out.under b)
  clear O6
  have O6 := O6_
  clear O6_
  have O7_ := Lib.hid (O7.out.under b)
  clear O7
  have O7 := O7_
  clear O7_
  clear b
  refine hK.out _ _ (fun _ => HT2.out) ?_
  clear hK K
  refine takeP (i := 3) (v := ?_) rfl (by kernel_rfl) (by kernel_rfl) (by kernel_rfl) (by kernel_rfl) (fun _ _ _ h => h) (by rfl) ?_ (fun _ => HT2.out) ?_
  rotate_left
  · intro V'; go_simp <;> with_reducible rfl
  simp only [Act.put, List.setIfInBounds_toArray, List.set_cons_zero, List.set_cons_succ]
  refine takeP (i := 4) (v := ?_) rfl (by kernel_rfl) (by kernel_rfl) (by kernel_rfl) (by kernel_rfl) (fun _ _ _ h => h) (by rfl) ?_ (fun _ => HT2.out) ?_
  rotate_left
  · intro V'; go_simp <;> with_reducible rfl
  simp only [Act.put, List.setIfInBounds_toArray, List.set_cons_zero, List.set_cons_succ]
  refine takeP (i := 5) (v := ?_) rfl (by kernel_rfl) (by kernel_rfl) (by kernel_rfl) (by kernel_rfl) (fun _ _ _ h => h) (by rfl) ?_ (fun _ => HT2.out) ?_
  rotate_left
  · intro V'; go_simp <;> with_reducible rfl
  simp only [Act.put, List.setIfInBounds_toArray, List.set_cons_zero, List.set_cons_succ]
  refine takeP (i := 6) (v := ?_) rfl (by kernel_rfl) (by kernel_rfl) (by kernel_rfl) (by kernel_rfl) (fun _ _ _ h => h) (by rfl) ?_ (fun _ => HT2.out) ?_
  rotate_left
  · intro V'; go_simp <;> with_reducible rfl
  simp only [Act.put, List.setIfInBounds_toArray, List.set_cons_zero, List.set_cons_succ]
  refine takeP (i := 7) (v := ?_) rfl (by kernel_rfl) (by kernel_rfl) (by kernel_rfl) (by kernel_rfl) (fun _ _ _ h => h) (by rfl) ?_ (fun _ => HT2.out) ?_
  rotate_left
  · intro V'; go_simp <;> with_reducible rfl
  simp only [Act.put, List.setIfInBounds_toArray, List.set_cons_zero, List.set_cons_succ]
  refine takeP (i := 8) (v := ?_) rfl (by kernel_rfl) (by kernel_rfl) (by kernel_rfl) (by kernel_rfl) (fun _ _ _ h => h) (by rfl) ?_ (fun _ => HT2.out) ?_
  rotate_left
  · intro V'; go_simp <;> with_reducible rfl
  simp only [Act.put, List.setIfInBounds_toArray, List.set_cons_zero, List.set_cons_succ]
  refine takeP (i := 9) (v := ?_) rfl (by kernel_rfl) (by kernel_rfl) (by kernel_rfl) (by kernel_rfl) (fun _ _ _ h => h) (by rfl) ?_ (fun _ => HT2.out) ?_
  rotate_left
  · intro V'; go_simp <;> with_reducible rfl
  simp only [Act.put, List.setIfInBounds_toArray, List.set_cons_zero, List.set_cons_succ]
  refine takeP (i := 10) (v := ?_) rfl (by kernel_rfl) (by kernel_rfl) (by kernel_rfl) (by kernel_rfl) (fun _ _ _ h => h) (by rfl) ?_ (fun _ => HT2.out) ?_
  rotate_left
  · intro V'; go_simp <;> with_reducible rfl
  simp only [Act.put, List.setIfInBounds_toArray, List.set_cons_zero, List.set_cons_succ]
  refine takeP (i := 11) (v := ?_) rfl (by kernel_rfl) (by kernel_rfl) (by kernel_rfl) (by kernel_rfl) (fun _ _ _ h => h) (by rfl) ?_ (fun _ => HT2.out) ?_
  rotate_left
  · intro V'; go_simp <;> with_reducible rfl
  simp only [Act.put, List.setIfInBounds_toArray, List.set_cons_zero, List.set_cons_succ]
  refine takeP (i := 12) (v := ?_) rfl (by kernel_rfl) (by kernel_rfl) (by kernel_rfl) (by kernel_rfl) (fun _ _ _ h => h) (by rfl) ?_ (fun _ => HT2.out) ?_
  rotate_left
  · intro V'; go_simp <;> with_reducible rfl
  simp only [Act.put, List.setIfInBounds_toArray, List.set_cons_zero, List.set_cons_succ]
  refine takeP (i := 13) (v := ?_) rfl (by kernel_rfl) (by kernel_rfl) (by kernel_rfl) (by kernel_rfl) (fun _ _ _ h => h) (by rfl) ?_ (fun _ => HT2.out) ?_
  rotate_left
  · intro V'; go_simp <;> with_reducible rfl
  simp only [Act.put, List.setIfInBounds_toArray, List.set_cons_zero, List.set_cons_succ]
  refine takeP (i := 14) (v := ?_) rfl (by kernel_rfl) (by kernel_rfl) (by kernel_rfl) (by kernel_rfl) (fun _ _ _ h => h) (by rfl) ?_ (fun _ => HT2.out) ?_
  rotate_left
  · intro V'; go_simp <;> with_reducible rfl
  simp only [Act.put, List.setIfInBounds_toArray, List.set_cons_zero, List.set_cons_succ]
  refine takeT (i := 15) (v := ?_) rfl (by kernel_rfl) (by kernel_rfl) (by kernel_rfl) (by kernel_rfl) (fun _ _ _ h => h) (by rfl) ?_ HT2.out ?_
  rotate_left
  · intro V' hV; obtain ⟨⟨c0, c1, c2⟩, ⟨d0, d1, d2⟩, ⟨e0, e1, e2⟩, ⟨f0, f1, f2⟩, ⟨g0, g1, g2, g3⟩, ⟨h0, h1, h2, h3⟩, ⟨i0, i1, i2⟩, j0, j1, j2⟩ := HLL.out V' hV; go_simp <;> with_reducible rfl
  simp only [Act.put, List.setIfInBounds_toArray, List.set_cons_zero, List.set_cons_succ]
  refine takeT (i := 16) (v := ?_) rfl (by kernel_rfl) (by kernel_rfl) (by kernel_rfl) (by kernel_rfl) (fun _ _ _ h => h) (by rfl) ?_ HT2.out ?_
  rotate_left
  · intro V' hV; obtain ⟨⟨c0, c1, c2⟩, ⟨d0, d1, d2⟩, ⟨e0, e1, e2⟩, ⟨f0, f1, f2⟩, ⟨g0, g1, g2, g3⟩, ⟨h0, h1, h2, h3⟩, ⟨i0, i1, i2⟩, j0, j1, j2⟩ := HLL.out V' hV; go_simp <;> with_reducible rfl
  simp only [Act.put, List.setIfInBounds_toArray, List.set_cons_zero, List.set_cons_succ]
  refine takeP (i := 17) (v := ?_) rfl (by kernel_rfl) (by kernel_rfl) (by kernel_rfl) (by kernel_rfl) (fun _ _ _ h => h) (by rfl) ?_ (fun _ => HT2.out) ?_
  rotate_left
  · intro V'; go_simp <;> with_reducible rfl
  simp only [Act.put, List.setIfInBounds_toArray, List.set_cons_zero, List.set_cons_succ]
  refine takeP (i := 18) (v := ?_) rfl (by kernel_rfl) (by kernel_rfl) (by kernel_rfl) (by kernel_rfl) (fun _ _ _ h => h) (by rfl) ?_ (fun _ => HT2.out) ?_
  rotate_left
  · intro V'; go_simp <;> with_reducible rfl
  simp only [Act.put, List.setIfInBounds_toArray, List.set_cons_zero, List.set_cons_succ]
  refine takeP (i := 19) (v := ?_) rfl (by kernel_rfl) (by kernel_rfl) (by kernel_rfl) (by kernel_rfl) (fun _ _ _ h => h) (by rfl) ?_ (fun _ => HT2.out) ?_
  rotate_left
  · intro V'; go_simp <;> with_reducible rfl
  simp only [Act.put, List.setIfInBounds_toArray, List.set_cons_zero, List.set_cons_succ]
  refine takeP (i := 20) (v := ?_) rfl (by kernel_rfl) (by kernel_rfl) (by kernel_rfl) (by kernel_rfl) (fun _ _ _ h => h) (by rfl) ?_ (fun _ => HT2.out) ?_
  rotate_left
  · intro V'; go_simp <;> with_reducible rfl
  simp only [Act.put, List.setIfInBounds_toArray, List.set_cons_zero, List.set_cons_succ]
  refine takeP (i := 21) (v := ?_) rfl (by kernel_rfl) (by kernel_rfl) (by kernel_rfl) (by kernel_rfl) (fun _ _ _ h => h) (by rfl) ?_ (fun _ => HT2.out) ?_
  rotate_left
  · intro V'; go_simp <;> with_reducible rfl
  simp only [Act.put, List.setIfInBounds_toArray, List.set_cons_zero, List.set_cons_succ]
  refine takeP (i := 22) (v := ?_) rfl (by kernel_rfl) (by kernel_rfl) (by kernel_rfl) (by kernel_rfl) (fun _ _ _ h => h) (by rfl) ?_ (fun _ => HT2.out) ?_
  rotate_left
  · intro V'; go_simp <;> with_reducible rfl
  simp only [Act.put, List.setIfInBounds_toArray, List.set_cons_zero, List.set_cons_succ]
  refine takeP (i := 23) (v := ?_) rfl (by kernel_rfl) (by kernel_rfl) (by kernel_rfl) (by kernel_rfl) (fun _ _ _ h => h) (by rfl) ?_ (fun _ => HT2.out) ?_
  rotate_left
  · intro V'; go_simp <;> with_reducible rfl
  simp only [Act.put, List.setIfInBounds_toArray, List.set_cons_zero, List.set_cons_succ]
  refine takeP (i := 24) (v := ?_) rfl (by kernel_rfl) (by kernel_rfl) (by kernel_rfl) (by kernel_rfl) (fun _ _ _ h => h) (by rfl) ?_ (fun _ => HT2.out) ?_
  rotate_left
  · intro V'; go_simp <;> with_reducible rfl
  simp only [Act.put, List.setIfInBounds_toArray, List.set_cons_zero, List.set_cons_succ]
  refine takeT (i := 25) (v := ?_) rfl (by kernel_rfl) (by kernel_rfl) (by kernel_rfl) (by kernel_rfl) (fun _ _ _ h => h) (by rfl) ?_ HT2.out ?_
  rotate_left
  · intro V' hV; obtain ⟨⟨c0, c1, c2⟩, ⟨d0, d1, d2⟩, ⟨e0, e1, e2⟩, ⟨f0, f1, f2⟩, ⟨g0, g1, g2, g3⟩, ⟨h0, h1, h2, h3⟩, ⟨i0, i1, i2⟩, j0, j1, j2⟩ := HLL.out V' hV; go_simp <;> with_reducible rfl
  simp only [Act.put, List.setIfInBounds_toArray, List.set_cons_zero, List.set_cons_succ]
  refine takeT (i := 26) (v := ?_) rfl (by kernel_rfl) (by kernel_rfl) (by kernel_rfl) (by kernel_rfl) (fun _ _ _ h => h) (by rfl) ?_ HT2.out ?_
  rotate_left
  · intro V' hV; obtain ⟨⟨c0, c1, c2⟩, ⟨d0, d1, d2⟩, ⟨e0, e1, e2⟩, ⟨f0, f1, f2⟩, ⟨g0, g1, g2, g3⟩, ⟨h0, h1, h2, h3⟩, ⟨i0, i1, i2⟩, j0, j1, j2⟩ := HLL.out V' hV; go_simp <;> with_reducible rfl
  simp only [Act.put, List.setIfInBounds_toArray, List.set_cons_zero, List.set_cons_succ]
  refine oneT (i := 27) rfl (by kernel_rfl) (by rfl) (fun K hK => ?_)
  go_simp
  go_at_call 16
  refine (HSb.out A7 k7 A6 k6 _ O7.out.read O6.out.read).mono ?_
  rintro e z27 ⟨rfl, b⟩
  simp only [decide_true]
  have HT27 : Hid ((fun V' => Whole V' w.heap.size 24 #[.int .i64 c.ep, .int .i64 c.nx, .slice A n k] ∧ Whole V' (w.heap.size + 1) 24 #[.int .i64 d.ep, .int .i64 d.nx, .slice A' n' k'] ∧ Whole V' w4.heap.size 24 #[.int .i64 o.ep, .int .i64 o.nx, .slice A2 o.l.length k2] ∧ Whole V' w6.heap.size 24 #[.int .i64 o.ep, .int .i64 o.nx, .slice A3 o.l.length k3] ∧ Whole V' w8.heap.size 31 #[.int .i64 y.id, .int .u8 y.kind, .int .i64 y.key, .int .i64 y.sent] ∧ Whole V' w10.heap.size 31 #[.int .i64 y.id, .int .u8 y.kind, .int .i64 y.key, .int .i64 y.sent] ∧ Whole V' w12.heap.size 24 #[.int .i64 bg.ep, .int .i64 bg.nx, .slice A6 bg.l.length k6] ∧ Whole V' w14.heap.size 24 #[.int .i64 bg.ep, .int .i64 bg.nx, .slice A7 bg.l.length k7]) z27) := Lib.hid ⟨HT2.out.1.under b, HT2.out.2.1.under b, HT2.out.2.2.1.under b, HT2.out.2.2.2.1.under b, HT2.out.2.2.2.2.1.under b, HT2.out.2.2.2.2.2.1.under b, HT2.out.2.2.2.2.2.2.1.under b, HT2.out.2.2.2.2.2.2.2.under b⟩
  have HB27 := Lib.hid (HB2.out.trans (b.mono HB2.out.size))
  have O2_ := Lib.hid (O2.out.under b)
  clear O2
  have O2 := O2_
  clear O2_
  have O3_ := Lib.hid (O3.out.under b)
  clear O3
  have O3 := O3_
  clear O3_
  have O6_ := Lib.hid (O6.out.under b)
  clear O6
  have O6 := O6_
  clear O6_
  have O7_ := Lib.hid (O7.out.under b)
  clear O7
  have O7 := O7_
  clear O7_
  clear b
  refine hK.out _ _ (fun _ => HT27.out) ?_
  clear hK K
  refine takeP (i := 28) (v := ?_) rfl (by kernel_rfl) (by kernel_rfl) (by kernel_rfl) (by kernel_rfl) (fun _ _ _ h => h) (by rfl) ?_ (fun _ => HT27.out) ?_
  rotate_left
  · intro V'; go_simp <;> with_reducible rfl
  simp only [Act.put, List.setIfInBounds_toArray, List.set_cons_zero, List.set_cons_succ]
  refine takeP (i := 29) (v := ?_) rfl (by kernel_rfl) (by kernel_rfl) (by kernel_rfl) (by kernel_rfl) (fun _ _ _ h => h) (by rfl) ?_ (fun _ => HT27.out) ?_
  rotate_left
  · intro V'; go_simp <;> with_reducible rfl
  simp only [Act.put, List.setIfInBounds_toArray, List.set_cons_zero, List.set_cons_succ]
  refine takeP (i := 30) (v := ?_) rfl (by kernel_rfl) (by kernel_rfl) (by kernel_rfl) (by kernel_rfl) (fun _ _ _ h => h) (by rfl) ?_ (fun _ => HT27.out) ?_
  rotate_left
  · intro V'; go_simp <;> with_reducible rfl
  simp only [Act.put, List.setIfInBounds_toArray, List.set_cons_zero, List.set_cons_succ]
  refine takeP (i := 31) (v := ?_) rfl (by kernel_rfl) (by kernel_rfl) (by kernel_rfl) (by kernel_rfl) (fun _ _ _ h => h) (by rfl) ?_ (fun _ => HT27.out) ?_
  rotate_left
  · intro V'; go_simp <;> with_reducible rfl
  simp only [Act.put, List.setIfInBounds_toArray, List.set_cons_zero, List.set_cons_succ]
  refine takeP (i := 32) (v := ?_) rfl (by kernel_rfl) (by kernel_rfl) (by kernel_rfl) (by kernel_rfl) (fun _ _ _ h => h) (by rfl) ?_ (fun _ => HT27.out) ?_
  rotate_left
  · intro V'; go_simp <;> with_reducible rfl
  simp only [Act.put, List.setIfInBounds_toArray, List.set_cons_zero, List.set_cons_succ]
  refine takeP (i := 33) (v := ?_) rfl (by kernel_rfl) (by kernel_rfl) (by kernel_rfl) (by kernel_rfl) (fun _ _ _ h => h) (by rfl) ?_ (fun _ => HT27.out) ?_
  rotate_left
  · intro V'; go_simp <;> with_reducible rfl
  simp only [Act.put, List.setIfInBounds_toArray, List.set_cons_zero, List.set_cons_succ]
  refine takeP (i := 34) (v := ?_) rfl (by kernel_rfl) (by kernel_rfl) (by kernel_rfl) (by kernel_rfl) (fun _ _ _ h => h) (by rfl) ?_ (fun _ => HT27.out) ?_
  rotate_left
  · intro V'; go_simp <;> with_reducible rfl
  simp only [Act.put, List.setIfInBounds_toArray, List.set_cons_zero, List.set_cons_succ]
  refine takeP (i := 35) (v := ?_) rfl (by kernel_rfl) (by kernel_rfl) (by kernel_rfl) (by kernel_rfl) (fun _ _ _ h => h) (by rfl) ?_ (fun _ => HT27.out) ?_
  rotate_left
  · intro V'; go_simp <;> with_reducible rfl
  simp only [Act.put, List.setIfInBounds_toArray, List.set_cons_zero, List.set_cons_succ]
  refine takeT (i := 36) (v := ?_) rfl (by kernel_rfl) (by kernel_rfl) (by kernel_rfl) (by kernel_rfl) (fun _ _ _ h => h) (by rfl) ?_ HT27.out ?_
  rotate_left
  · intro V' hV; obtain ⟨⟨c0, c1, c2⟩, ⟨d0, d1, d2⟩, ⟨e0, e1, e2⟩, ⟨f0, f1, f2⟩, ⟨g0, g1, g2, g3⟩, ⟨h0, h1, h2, h3⟩, ⟨i0, i1, i2⟩, j0, j1, j2⟩ := HLL.out V' hV; go_simp <;> with_reducible rfl
  simp only [Act.put, List.setIfInBounds_toArray, List.set_cons_zero, List.set_cons_succ]
  refine takeT (i := 38) (v := ?_) rfl (by kernel_rfl) (by kernel_rfl) (by kernel_rfl) (by kernel_rfl) (fun _ _ _ h => h) (by rfl) ?_ HT27.out ?_
  rotate_left
  · intro V' hV; obtain ⟨⟨c0, c1, c2⟩, ⟨d0, d1, d2⟩, ⟨e0, e1, e2⟩, ⟨f0, f1, f2⟩, ⟨g0, g1, g2, g3⟩, ⟨h0, h1, h2, h3⟩, ⟨i0, i1, i2⟩, j0, j1, j2⟩ := HLL.out V' hV; go_simp <;> with_reducible rfl
  simp only [Act.put, List.setIfInBounds_toArray, List.set_cons_zero, List.set_cons_succ]
  refine oneT (i := 37) rfl (by kernel_rfl) (by rfl) (fun K hK => ?_)
  go_simp
  go_at_call 17
  refine (HRp.out _ HB27.out).mono ?_
  rintro e z37 ⟨rfl, b⟩
  have HT37 : Hid ((fun V' => Whole V' w.heap.size 24 #[.int .i64 c.ep, .int .i64 c.nx, .slice A n k] ∧ Whole V' (w.heap.size + 1) 24 #[.int .i64 d.ep, .int .i64 d.nx, .slice A' n' k'] ∧ Whole V' w4.heap.size 24 #[.int .i64 o.ep, .int .i64 o.nx, .slice A2 o.l.length k2] ∧ Whole V' w6.heap.size 24 #[.int .i64 o.ep, .int .i64 o.nx, .slice A3 o.l.length k3] ∧ Whole V' w8.heap.size 31 #[.int .i64 y.id, .int .u8 y.kind, .int .i64 y.key, .int .i64 y.sent] ∧ Whole V' w10.heap.size 31 #[.int .i64 y.id, .int .u8 y.kind, .int .i64 y.key, .int .i64 y.sent] ∧ Whole V' w12.heap.size 24 #[.int .i64 bg.ep, .int .i64 bg.nx, .slice A6 bg.l.length k6] ∧ Whole V' w14.heap.size 24 #[.int .i64 bg.ep, .int .i64 bg.nx, .slice A7 bg.l.length k7]) z37) := Lib.hid ⟨HT27.out.1.under b, HT27.out.2.1.under b, HT27.out.2.2.1.under b, HT27.out.2.2.2.1.under b, HT27.out.2.2.2.2.1.under b, HT27.out.2.2.2.2.2.1.under b, HT27.out.2.2.2.2.2.2.1.under b, HT27.out.2.2.2.2.2.2.2.under b⟩
  have HB37 := Lib.hid (HB27.out.trans (b.mono HB27.out.size))
  have O2_ := Lib.hid (O2.out.under b)
  clear O2
  have O2 := O2_
  clear O2_
  have O3_ := Lib.hid (O3.out.under b)
  clear O3
  have O3 := O3_
  clear O3_
  have O6_ := Lib.hid (O6.out.under b)
  clear O6
  have O6 := O6_
  clear O6_
  have O7_ := Lib.hid (O7.out.under b)
  clear O7
  have O7 := O7_
  clear O7_
  clear b
  refine hK.out _ _ (fun _ => HT37.out) ?_
  clear hK K
  refine oneT (i := 39) rfl (by kernel_rfl) (by rfl) (fun K hK => ?_)
  go_simp
  go_at_call 18
  refine (HRr.out _ HB37.out).mono ?_
  rintro e z39 ⟨rfl, b⟩
  have HT39 : Hid ((fun V' => Whole V' w.heap.size 24 #[.int .i64 c.ep, .int .i64 c.nx, .slice A n k] ∧ Whole V' (w.heap.size + 1) 24 #[.int .i64 d.ep, .int .i64 d.nx, .slice A' n' k'] ∧ Whole V' w4.heap.size 24 #[.int .i64 o.ep, .int .i64 o.nx, .slice A2 o.l.length k2] ∧ Whole V' w6.heap.size 24 #[.int .i64 o.ep, .int .i64 o.nx, .slice A3 o.l.length k3] ∧ Whole V' w8.heap.size 31 #[.int .i64 y.id, .int .u8 y.kind, .int .i64 y.key, .int .i64 y.sent] ∧ Whole V' w10.heap.size 31 #[.int .i64 y.id, .int .u8 y.kind, .int .i64 y.key, .int .i64 y.sent] ∧ Whole V' w12.heap.size 24 #[.int .i64 bg.ep, .int .i64 bg.nx, .slice A6 bg.l.length k6] ∧ Whole V' w14.heap.size 24 #[.int .i64 bg.ep, .int .i64 bg.nx, .slice A7 bg.l.length k7]) z39) := Lib.hid ⟨HT37.out.1.under b, HT37.out.2.1.under b, HT37.out.2.2.1.under b, HT37.out.2.2.2.1.under b, HT37.out.2.2.2.2.1.under b, HT37.out.2.2.2.2.2.1.under b, HT37.out.2.2.2.2.2.2.1.under b, HT37.out.2.2.2.2.2.2.2.under b⟩
  have HB39 := Lib.hid (HB37.out.trans (b.mono HB37.out.size))
  have O2_ := Lib.hid (O2.out.under b)
  clear O2
  have O2 := O2_
  clear O2_
  have O3_ := Lib.hid (O3.out.under b)
  clear O3
  have O3 := O3_
  clear O3_
  have O6_ := Lib.hid (O6.out.under b)
  clear O6
  have O6 := O6_
  clear O6_
  have O7_ := Lib.hid (O7.out.under b)
  clear O7
  have O7 := O7_
  clear O7_
  clear b
  refine hK.out _ _ (fun _ => HT39.out) ?_
  clear hK K
  refine takeP (i := 40) (v := ?_) rfl (by kernel_rfl) (by kernel_rfl) (by kernel_rfl) (by kernel_rfl) (fun _ _ _ h => h) (by rfl) ?_ (fun _ => HT39.out) ?_
  rotate_left
  · intro V'; go_simp <;> with_reducible rfl
  simp only [Act.put, List.setIfInBounds_toArray, List.set_cons_zero, List.set_cons_succ]
  refine takeP (i := 41) (v := ?_) rfl (by kernel_rfl) (by kernel_rfl) (by kernel_rfl) (by kernel_rfl) (fun _ _ _ h => h) (by rfl) ?_ (fun _ => HT39.out) ?_
  rotate_left
  · intro V'; go_simp <;> with_reducible rfl
  simp only [Act.put, List.setIfInBounds_toArray, List.set_cons_zero, List.set_cons_succ]
  refine takeP (i := 42) (v := ?_) rfl (by kernel_rfl) (by kernel_rfl) (by kernel_rfl) (by kernel_rfl) (fun _ _ _ h => h) (by rfl) ?_ (fun _ => HT39.out) ?_
  rotate_left
  · intro V'; go_simp <;> with_reducible rfl
  simp only [Act.put, List.setIfInBounds_toArray, List.set_cons_zero, List.set_cons_succ]
  refine takeT (i := 43) (v := ?_) rfl (by kernel_rfl) (by kernel_rfl) (by kernel_rfl) (by kernel_rfl) (fun _ _ _ h => h) (by rfl) ?_ HT39.out ?_
  rotate_left
  · intro V' hV; obtain ⟨⟨c0, c1, c2⟩, ⟨d0, d1, d2⟩, ⟨e0, e1, e2⟩, ⟨f0, f1, f2⟩, ⟨g0, g1, g2, g3⟩, ⟨h0, h1, h2, h3⟩, ⟨i0, i1, i2⟩, j0, j1, j2⟩ := HLL.out V' hV; go_simp <;> with_reducible rfl
  simp only [Act.put, List.setIfInBounds_toArray, List.set_cons_zero, List.set_cons_succ]
  refine takeP (i := 44) (v := ?_) rfl (by kernel_rfl) (by kernel_rfl) (by kernel_rfl) (by kernel_rfl) (fun _ _ _ h => h) (by rfl) ?_ (fun _ => HT39.out) ?_
  rotate_left
  · intro V'; go_simp <;> with_reducible rfl
  simp only [Act.put, List.setIfInBounds_toArray, List.set_cons_zero, List.set_cons_succ]
  refine takeP (i := 45) (v := ?_) rfl (by kernel_rfl) (by kernel_rfl) (by kernel_rfl) (by kernel_rfl) (fun _ _ _ h => h) (by rfl) ?_ (fun _ => HT39.out) ?_
  rotate_left
  · intro V'; go_simp <;> with_reducible rfl
  simp only [Act.put, List.setIfInBounds_toArray, List.set_cons_zero, List.set_cons_succ]
  refine takeT (i := 47) (v := ?_) rfl (by kernel_rfl) (by kernel_rfl) (by kernel_rfl) (by kernel_rfl) (fun _ _ _ h => h) (by rfl) ?_ HT39.out ?_
  rotate_left
  · intro V' hV; obtain ⟨⟨c0, c1, c2⟩, ⟨d0, d1, d2⟩, ⟨e0, e1, e2⟩, ⟨f0, f1, f2⟩, ⟨g0, g1, g2, g3⟩, ⟨h0, h1, h2, h3⟩, ⟨i0, i1, i2⟩, j0, j1, j2⟩ := HLL.out V' hV; go_simp <;> with_reducible rfl
  simp only [Act.put, List.setIfInBounds_toArray, List.set_cons_zero, List.set_cons_succ]
  refine takeP (i := 48) (v := ?_) rfl (by kernel_rfl) (by kernel_rfl) (by kernel_rfl) (by kernel_rfl) (fun _ _ _ h => h) (by rfl) ?_ (fun _ => HT39.out) ?_
  rotate_left
  · intro V'; go_simp <;> with_reducible rfl
  simp only [Act.put, List.setIfInBounds_toArray, List.set_cons_zero, List.set_cons_succ]
  refine takeP (i := 49) (v := ?_) rfl (by kernel_rfl) (by kernel_rfl) (by kernel_rfl) (by kernel_rfl) (fun _ _ _ h => h) (by rfl) ?_ (fun _ => HT39.out) ?_
  rotate_left
  · intro V'; go_simp <;> with_reducible rfl
  simp only [Act.put, List.setIfInBounds_toArray, List.set_cons_zero, List.set_cons_succ]
  refine oneT (i := 46) rfl (by kernel_rfl) (by rfl) (fun K hK => ?_)
  go_simp
  go_at_call 19
  refine (HHp.out _ HB39.out).mono ?_
  rintro e z46 ⟨rfl, b⟩
  have HT46 : Hid ((fun V' => Whole V' w.heap.size 24 #[.int .i64 c.ep, .int .i64 c.nx, .slice A n k] ∧ Whole V' (w.heap.size + 1) 24 #[.int .i64 d.ep, .int .i64 d.nx, .slice A' n' k'] ∧ Whole V' w4.heap.size 24 #[.int .i64 o.ep, .int .i64 o.nx, .slice A2 o.l.length k2] ∧ Whole V' w6.heap.size 24 #[.int .i64 o.ep, .int .i64 o.nx, .slice A3 o.l.length k3] ∧ Whole V' w8.heap.size 31 #[.int .i64 y.id, .int .u8 y.kind, .int .i64 y.key, .int .i64 y.sent] ∧ Whole V' w10.heap.size 31 #[.int .i64 y.id, .int .u8 y.kind, .int .i64 y.key, .int .i64 y.sent] ∧ Whole V' w12.heap.size 24 #[.int .i64 bg.ep, .int .i64 bg.nx, .slice A6 bg.l.length k6] ∧ Whole V' w14.heap.size 24 #[.int .i64 bg.ep, .int .i64 bg.nx, .slice A7 bg.l.length k7]) z46) := Lib.hid ⟨HT39.out.1.under b, HT39.out.2.1.under b, HT39.out.2.2.1.under b, HT39.out.2.2.2.1.under b, HT39.out.2.2.2.2.1.under b, HT39.out.2.2.2.2.2.1.under b, HT39.out.2.2.2.2.2.2.1.under b, HT39.out.2.2.2.2.2.2.2.under b⟩
  have HB46 := Lib.hid (HB39.out.trans (b.mono HB39.out.size))
  have O2_ := Lib.hid (O2.out.under b)
  clear O2
  have O2 := O2_
  clear O2_
  have O3_ := Lib.hid (O3.out.under b)
  clear O3
  have O3 := O3_
  clear O3_
  have O6_ := Lib.hid (O6.out.under b)
  clear O6
  have O6 := O6_
  clear O6_
  have O7_ := Lib.hid (O7.out.under b)
  clear O7
  have O7 := O7_
  clear O7_
  clear b
  refine hK.out _ _ (fun _ => HT46.out) ?_
  clear hK K
  refine oneT (i := 50) rfl (by kernel_rfl) (by rfl) (fun K hK => ?_)
  go_simp
  go_at_call 20
  refine (HHr.out _ HB46.out).mono ?_
  rintro e z50 ⟨rfl, b⟩
  have HT50 : Hid ((fun V' => Whole V' w.heap.size 24 #[.int .i64 c.ep, .int .i64 c.nx, .slice A n k] ∧ Whole V' (w.heap.size + 1) 24 #[.int .i64 d.ep, .int .i64 d.nx, .slice A' n' k'] ∧ Whole V' w4.heap.size 24 #[.int .i64 o.ep, .int .i64 o.nx, .slice A2 o.l.length k2] ∧ Whole V' w6.heap.size 24 #[.int .i64 o.ep, .int .i64 o.nx, .slice A3 o.l.length k3] ∧ Whole V' w8.heap.size 31 #[.int .i64 y.id, .int .u8 y.kind, .int .i64 y.key, .int .i64 y.sent] ∧ Whole V' w10.heap.size 31 #[.int .i64 y.id, .int .u8 y.kind, .int .i64 y.key, .int .i64 y.sent] ∧ Whole V' w12.heap.size 24 #[.int .i64 bg.ep, .int .i64 bg.nx, .slice A6 bg.l.length k6] ∧ Whole V' w14.heap.size 24 #[.int .i64 bg.ep, .int .i64 bg.nx, .slice A7 bg.l.length k7]) z50) := Lib.hid ⟨HT46.out.1.under b, HT46.out.2.1.under b, HT46.out.2.2.1.under b, HT46.out.2.2.2.1.under b, HT46.out.2.2.2.2.1.under b, HT46.out.2.2.2.2.2.1.under b, HT46.out.2.2.2.2.2.2.1.under b, HT46.out.2.2.2.2.2.2.2.under b⟩
  have HB50 := Lib.hid (HB46.out.trans (b.mono HB46.out.size))
  have O2_ := Lib.hid (O2.out.under b)
  clear O2
  have O2 := O2_
  clear O2_
  have O3_ := Lib.hid (O3.out.under b)
  clear O3
  have O3 := O3_
  clear O3_
  have O6_ := Lib.hid (O6.out.under b)
  clear O6
  have O6 := O6_
  clear O6_
  have O7_ := Lib.hid (O7.out.under b)
  clear O7
  have O7 := O7_
  clear O7_
  clear b
  refine hK.out _ _ (fun _ => HT50.out) ?_
  clear hK K
  refine takeP (i := 51) (v := ?_) rfl (by kernel_rfl) (by kernel_rfl) (by kernel_rfl) (by kernel_rfl) (fun _ _ _ h => h) (by rfl) ?_ (fun _ => HT50.out) ?_
  rotate_left
  · intro V'; go_simp <;> with_reducible rfl
  simp only [Act.put, List.setIfInBounds_toArray, List.set_cons_zero, List.set_cons_succ]
  refine takeP (i := 52) (v := ?_) rfl (by kernel_rfl) (by kernel_rfl) (by kernel_rfl) (by kernel_rfl) (fun _ _ _ h => h) (by rfl) ?_ (fun _ => HT50.out) ?_
  rotate_left
  · intro V'; go_simp <;> with_reducible rfl
  simp only [Act.put, List.setIfInBounds_toArray, List.set_cons_zero, List.set_cons_succ]
  refine doneT (by kernel_rfl) ?_ _
  go_upto_region 11 with fail
  have X0 := Lib.hid HT50.out.1
  have X1 := Lib.hid HT50.out.2.1
  have B0' := HB50
  clear HT0 HT2 HT27 HT37 HT39 HT46 HT50 HLL HB0 HB2 HB27 HB37 HB39 HB46 HB50 B0 O2 O3 O6 O7
  have B0 := B0'
  clear B0'
  have HB0 := Lib.hid (drewN_below B0.out 1)
  have HT0 : Hid ((fun V' => Whole V' w.heap.size 24 #[.int .i64 c.ep, .int .i64 c.nx, .slice A n k] ∧ Whole V' (w.heap.size + 1) 24 #[.int .i64 d.ep, .int .i64 d.nx, .slice A' n' k']) (z50.drewN 1)) := Lib.hid ⟨X0.out, X1.out⟩
  have HLL : Hid (∀ V', (fun V' => Whole V' w.heap.size 24 #[.int .i64 c.ep, .int .i64 c.nx, .slice A n k] ∧ Whole V' (w.heap.size + 1) 24 #[.int .i64 d.ep, .int .i64 d.nx, .slice A' n' k']) V' → (V'.cell? ⟨w.heap.size, 0, none⟩ = some (.int .i64 c.ep) ∧ V'.cell? ⟨w.heap.size, 1, none⟩ = some (.int .i64 c.nx) ∧ V'.cell? ⟨w.heap.size, 2, none⟩ = some (.slice A n k)) ∧ (V'.cell? ⟨(w.heap.size + 1), 0, none⟩ = some (.int .i64 d.ep) ∧ V'.cell? ⟨(w.heap.size + 1), 1, none⟩ = some (.int .i64 d.nx) ∧ V'.cell? ⟨(w.heap.size + 1), 2, none⟩ = some (.slice A' n' k'))) := Lib.hid (fun V' h => ⟨cells3 h.1, cells3 h.2⟩)
  refine wp_region_T (ls := []) (T := (fun V' => Whole V' w.heap.size 24 #[.int .i64 c.ep, .int .i64 c.nx, .slice A n k] ∧ Whole V' (w.heap.size + 1) 24 #[.int .i64 d.ep, .int .i64 d.nx, .slice A' n' k'])) (by kernel_rfl) ?_
  refine takeT (i := 0) (v := ?_) rfl (by kernel_rfl) (by kernel_rfl) (by kernel_rfl) (by kernel_rfl) (fun _ _ _ h => h) (by rfl) ?_ HT0.out ?_
  rotate_left
  · intro V' hV; obtain ⟨⟨c0, c1, c2⟩, d0, d1, d2⟩ := HLL.out V' hV; go_simp <;> with_reducible rfl
  simp only [Act.put, List.setIfInBounds_toArray, List.set_cons_zero, List.set_cons_succ]
  refine takeP (i := 1) (v := ?_) rfl (by kernel_rfl) (by kernel_rfl) (by kernel_rfl) (by kernel_rfl) (fun _ _ _ h => h) (by rfl) ?_ (fun _ => HT0.out) ?_
  rotate_left
  · intro V'; go_simp <;> with_reducible rfl
  simp only [Act.put, List.setIfInBounds_toArray, List.set_cons_zero, List.set_cons_succ]
  refine takeT (i := 3) (v := ?_) rfl (by kernel_rfl) (by kernel_rfl) (by kernel_rfl) (by kernel_rfl) (fun _ _ _ h => h) (by rfl) ?_ HT0.out ?_
  rotate_left
  · intro V' hV; obtain ⟨⟨c0, c1, c2⟩, d0, d1, d2⟩ := HLL.out V' hV; go_simp <;> with_reducible rfl
  simp only [Act.put, List.setIfInBounds_toArray, List.set_cons_zero, List.set_cons_succ]
  refine takeP (i := 4) (v := ?_) rfl (by kernel_rfl) (by kernel_rfl) (by kernel_rfl) (by kernel_rfl) (fun _ _ _ h => h) (by rfl) ?_ (fun _ => HT0.out) ?_
  rotate_left
  · intro V'; go_simp <;> with_reducible rfl
  simp only [Act.put, List.setIfInBounds_toArray, List.set_cons_zero, List.set_cons_succ]
  refine oneT (i := 2) rfl (by kernel_rfl) (by rfl) (fun K hK => ?_)
  go_simp
  go_at_call 21
  refine (HCp.out _ HB0.out).mono ?_
  rintro e z2 ⟨A2, k2, rfl, o2, b⟩
  have HT2 : Hid ((fun V' => Whole V' w.heap.size 24 #[.int .i64 c.ep, .int .i64 c.nx, .slice A n k] ∧ Whole V' (w.heap.size + 1) 24 #[.int .i64 d.ep, .int .i64 d.nx, .slice A' n' k']) z2) := Lib.hid ⟨HT0.out.1.under b, HT0.out.2.under b⟩
  have HB2 := Lib.hid (HB0.out.trans (b.mono HB0.out.size))
  have O2 := Lib.hid (o2)
  clear o2
  clear b
  refine hK.out _ _ (fun _ => HT2.out) ?_
  clear hK K
  refine oneT (i := 5) rfl (by kernel_rfl) (by rfl) (fun K hK => ?_)
  go_simp
  go_at_call 22
  refine (HCr.out _ HB2.out).mono ?_
  rintro e z5 ⟨A3, k3, rfl, o3, b⟩
  have HT5 : Hid ((fun V' => Whole V' w.heap.size 24 #[.int .i64 c.ep, .int .i64 c.nx, .slice A n k] ∧ Whole V' (w.heap.size + 1) 24 #[.int .i64 d.ep, .int .i64 d.nx, .slice A' n' k']) z5) := Lib.hid ⟨HT2.out.1.under b, HT2.out.2.under b⟩
  have HB5 := Lib.hid (HB2.out.trans (b.mono HB2.out.size))
  have O2_ := Lib.hid (O2.out.under b)
  clear O2
  have O2 := O2_
  clear O2_
  have O3 := Lib.hid (o3)
  clear o3
  clear b
  refine hK.out _ _ (fun _ => HT5.out) ?_
  clear hK K
  refine oneT (i := 6) rfl (by kernel_rfl) (by rfl) (fun K hK => ?_)
  go_simp
  go_at_call 16
  refine (HSc.out A2 k2 A3 k3 _ O2.out.read O3.out.read).mono ?_
  rintro e z6 ⟨rfl, b⟩
  simp only [decide_true]
  have HT6 : Hid ((fun V' => Whole V' w.heap.size 24 #[.int .i64 c.ep, .int .i64 c.nx, .slice A n k] ∧ Whole V' (w.heap.size + 1) 24 #[.int .i64 d.ep, .int .i64 d.nx, .slice A' n' k']) z6) := Lib.hid ⟨HT5.out.1.under b, HT5.out.2.under b⟩
  have HB6 := Lib.hid (HB5.out.trans (b.mono HB5.out.size))
  have O2_ := Lib.hid (O2.out.under b)
  clear O2
  have O2 := O2_
  clear O2_
  have O3_ := Lib.hid (O3.out.under b)
  clear O3
  have O3 := O3_
  clear O3_
  clear b
  refine hK.out _ _ (fun _ => HT6.out) ?_
  clear hK K
  refine takeP (i := 7) (v := ?_) rfl (by kernel_rfl) (by kernel_rfl) (by kernel_rfl) (by kernel_rfl) (fun _ _ _ h => h) (by rfl) ?_ (fun _ => HT6.out) ?_
  rotate_left
  · intro V'; go_simp <;> with_reducible rfl
  simp only [Act.put, List.setIfInBounds_toArray, List.set_cons_zero, List.set_cons_succ]
  refine takeT (i := 8) (v := ?_) rfl (by kernel_rfl) (by kernel_rfl) (by kernel_rfl) (by kernel_rfl) (fun _ _ _ h => h) (by rfl) ?_ HT6.out ?_
  rotate_left
  · intro V' hV; obtain ⟨⟨c0, c1, c2⟩, d0, d1, d2⟩ := HLL.out V' hV; go_simp <;> with_reducible rfl
  simp only [Act.put, List.setIfInBounds_toArray, List.set_cons_zero, List.set_cons_succ]
  refine takeP (i := 9) (v := ?_) rfl (by kernel_rfl) (by kernel_rfl) (by kernel_rfl) (by kernel_rfl) (fun _ _ _ h => h) (by rfl) ?_ (fun _ => HT6.out) ?_
  rotate_left
  · intro V'; go_simp <;> with_reducible rfl
  simp only [Act.put, List.setIfInBounds_toArray, List.set_cons_zero, List.set_cons_succ]
  refine takeP (i := 10) (v := ?_) rfl (by kernel_rfl) (by kernel_rfl) (by kernel_rfl) (by kernel_rfl) (fun _ _ _ h => h) (by rfl) ?_ (fun _ => HT6.out) ?_
  rotate_left
  · intro V'; go_simp <;> with_reducible rfl
  simp only [Act.put, List.setIfInBounds_toArray, List.set_cons_zero, List.set_cons_succ]
  refine takeT (i := 12) (v := ?_) rfl (by kernel_rfl) (by kernel_rfl) (by kernel_rfl) (by kernel_rfl) (fun _ _ _ h => h) (by rfl) ?_ HT6.out ?_
  rotate_left
  · intro V' hV; obtain ⟨⟨c0, c1, c2⟩, d0, d1, d2⟩ := HLL.out V' hV; go_simp <;> with_reducible rfl
  simp only [Act.put, List.setIfInBounds_toArray, List.set_cons_zero, List.set_cons_succ]
  refine takeP (i := 13) (v := ?_) rfl (by kernel_rfl) (by kernel_rfl) (by kernel_rfl) (by kernel_rfl) (fun _ _ _ h => h) (by rfl) ?_ (fun _ => HT6.out) ?_
  rotate_left
  · intro V'; go_simp <;> with_reducible rfl
  simp only [Act.put, List.setIfInBounds_toArray, List.set_cons_zero, List.set_cons_succ]
  refine takeP (i := 14) (v := ?_) rfl (by kernel_rfl) (by kernel_rfl) (by kernel_rfl) (by kernel_rfl) (fun _ _ _ h => h) (by rfl) ?_ (fun _ => HT6.out) ?_
  rotate_left
  · intro V'; go_simp <;> with_reducible rfl
  simp only [Act.put, List.setIfInBounds_toArray, List.set_cons_zero, List.set_cons_succ]
  refine oneT (i := 11) rfl (by kernel_rfl) (by rfl) (fun K hK => ?_)
  go_simp
  go_at_call 23
  refine (HLp.out _ HB6.out).mono ?_
  rintro e z11 ⟨A4, k4, rfl, o4, b⟩
  have HT11 : Hid ((fun V' => Whole V' w.heap.size 24 #[.int .i64 c.ep, .int .i64 c.nx, .slice A n k] ∧ Whole V' (w.heap.size + 1) 24 #[.int .i64 d.ep, .int .i64 d.nx, .slice A' n' k']) z11) := Lib.hid ⟨HT6.out.1.under b, HT6.out.2.under b⟩
  have HB11 := Lib.hid (HB6.out.trans (b.mono HB6.out.size))
  have O2_ := Lib.hid (O2.out.under b)
  clear O2
  have O2 := O2_
  clear O2_
  have O3_ := Lib.hid (O3.out.under b)
  clear O3
  have O3 := O3_
  clear O3_
  have O4 := Lib.hid (o4)
  clear o4
  clear b
  refine hK.out _ _ (fun _ => HT11.out) ?_
  clear hK K
  refine oneT (i := 15) rfl (by kernel_rfl) (by rfl) (fun K hK => ?_)
  go_simp
  go_at_call 24
  refine (HLr.out _ HB11.out).mono ?_
  rintro e z15 ⟨A5, k5, rfl, o5, b⟩
  have HT15 : Hid ((fun V' => Whole V' w.heap.size 24 #[.int .i64 c.ep, .int .i64 c.nx, .slice A n k] ∧ Whole V' (w.heap.size + 1) 24 #[.int .i64 d.ep, .int .i64 d.nx, .slice A' n' k']) z15) := Lib.hid ⟨HT11.out.1.under b, HT11.out.2.under b⟩
  have HB15 := Lib.hid (HB11.out.trans (b.mono HB11.out.size))
  have O2_ := Lib.hid (O2.out.under b)
  clear O2
  have O2 := O2_
  clear O2_
  have O3_ := Lib.hid (O3.out.under b)
  clear O3
  have O3 := O3_
  clear O3_
  have O4_ := Lib.hid (O4.out.under b)
  clear O4
  have O4 := O4_
  clear O4_
  have O5 := Lib.hid (o5)
  clear o5
  clear b
  refine hK.out _ _ (fun _ => HT15.out) ?_
  clear hK K
  refine oneT (i := 16) rfl (by kernel_rfl) (by rfl) (fun K hK => ?_)
  go_simp
  go_at_call 16
  refine (HSl.out A4 k4 A5 k5 _ O4.out.read O5.out.read).mono ?_
  rintro e z16 ⟨rfl, b⟩
  simp only [decide_true]
  have HT16 : Hid ((fun V' => Whole V' w.heap.size 24 #[.int .i64 c.ep, .int .i64 c.nx, .slice A n k] ∧ Whole V' (w.heap.size + 1) 24 #[.int .i64 d.ep, .int .i64 d.nx, .slice A' n' k']) z16) := Lib.hid ⟨HT15.out.1.under b, HT15.out.2.under b⟩
  have HB16 := Lib.hid (HB15.out.trans (b.mono HB15.out.size))
  have O2_ := Lib.hid (O2.out.under b)
  clear O2
  have O2 := O2_
  clear O2_
  have O3_ := Lib.hid (O3.out.under b)
  clear O3
  have O3 := O3_
  clear O3_
  have O4_ := Lib.hid (O4.out.under b)
  clear O4
  have O4 := O4_
  clear O4_
  have O5_ := Lib.hid (O5.out.under b)
  clear O5
  have O5 := O5_
  clear O5_
  clear b
  refine hK.out _ _ (fun _ => HT16.out) ?_
  clear hK K
  refine takeP (i := 17) (v := ?_) rfl (by kernel_rfl) (by kernel_rfl) (by kernel_rfl) (by kernel_rfl) (fun _ _ _ h => h) (by rfl) ?_ (fun _ => HT16.out) ?_
  rotate_left
  · intro V'; go_simp <;> with_reducible rfl
  simp only [Act.put, List.setIfInBounds_toArray, List.set_cons_zero, List.set_cons_succ]
  refine takeP (i := 18) (v := ?_) rfl (by kernel_rfl) (by kernel_rfl) (by kernel_rfl) (by kernel_rfl) (fun _ _ _ h => h) (by rfl) ?_ (fun _ => HT16.out) ?_
  rotate_left
  · intro V'; go_simp <;> with_reducible rfl
  simp only [Act.put, List.setIfInBounds_toArray, List.set_cons_zero, List.set_cons_succ]
  refine takeT (i := 19) (v := ?_) rfl (by kernel_rfl) (by kernel_rfl) (by kernel_rfl) (by kernel_rfl) (fun _ _ _ h => h) (by rfl) ?_ HT16.out ?_
  rotate_left
  · intro V' hV; obtain ⟨⟨c0, c1, c2⟩, d0, d1, d2⟩ := HLL.out V' hV; go_simp <;> with_reducible rfl
  simp only [Act.put, List.setIfInBounds_toArray, List.set_cons_zero, List.set_cons_succ]
  refine takeT (i := 20) (v := ?_) rfl (by kernel_rfl) (by kernel_rfl) (by kernel_rfl) (by kernel_rfl) (fun _ _ _ h => h) (by rfl) ?_ HT16.out ?_
  rotate_left
  · intro V' hV; obtain ⟨⟨c0, c1, c2⟩, d0, d1, d2⟩ := HLL.out V' hV; go_simp <;> with_reducible rfl
  simp only [Act.put, List.setIfInBounds_toArray, List.set_cons_zero, List.set_cons_succ]
  refine takeT (i := 22) (v := ?_) rfl (by kernel_rfl) (by kernel_rfl) (by kernel_rfl) (by kernel_rfl) (fun _ _ _ h => h) (by rfl) ?_ HT16.out ?_
  rotate_left
  · intro V' hV; obtain ⟨⟨c0, c1, c2⟩, d0, d1, d2⟩ := HLL.out V' hV; go_simp <;> with_reducible rfl
  simp only [Act.put, List.setIfInBounds_toArray, List.set_cons_zero, List.set_cons_succ]
  refine takeT (i := 23) (v := ?_) rfl (by kernel_rfl) (by kernel_rfl) (by kernel_rfl) (by kernel_rfl) (fun _ _ _ h => h) (by rfl) ?_ HT16.out ?_
  rotate_left
  · intro V' hV; obtain ⟨⟨c0, c1, c2⟩, d0, d1, d2⟩ := HLL.out V' hV; go_simp <;> with_reducible rfl
  simp only [Act.put, List.setIfInBounds_toArray, List.set_cons_zero, List.set_cons_succ]
  refine oneT (i := 21) rfl (by kernel_rfl) (by rfl) (fun K hK => ?_)
  go_simp
  go_at_call 25
  refine (HSp.out _ HB16.out).mono ?_
  rintro e z21 ⟨rfl, b⟩
  have HT21 : Hid ((fun V' => Whole V' w.heap.size 24 #[.int .i64 c.ep, .int .i64 c.nx, .slice A n k] ∧ Whole V' (w.heap.size + 1) 24 #[.int .i64 d.ep, .int .i64 d.nx, .slice A' n' k']) z21) := Lib.hid ⟨HT16.out.1.under b, HT16.out.2.under b⟩
  have HB21 := Lib.hid (HB16.out.trans (b.mono HB16.out.size))
  have O2_ := Lib.hid (O2.out.under b)
  clear O2
  have O2 := O2_
  clear O2_
  have O3_ := Lib.hid (O3.out.under b)
  clear O3
  have O3 := O3_
  clear O3_
  have O4_ := Lib.hid (O4.out.under b)
  clear O4
  have O4 := O4_
  clear O4_
  have O5_ := Lib.hid (O5.out.under b)
  clear O5
  have O5 := O5_
  clear O5_
  clear b
  refine hK.out _ _ (fun _ => HT21.out) ?_
  clear hK K
  refine oneT (i := 24) rfl (by kernel_rfl) (by rfl) (fun K hK => ?_)
  go_simp
  go_at_call 16
  refine (HSr.out _ HB21.out).mono ?_
  rintro e z24 ⟨rfl, b⟩
  have HT24 : Hid ((fun V' => Whole V' w.heap.size 24 #[.int .i64 c.ep, .int .i64 c.nx, .slice A n k] ∧ Whole V' (w.heap.size + 1) 24 #[.int .i64 d.ep, .int .i64 d.nx, .slice A' n' k']) z24) := Lib.hid ⟨HT21.out.1.under b, HT21.out.2.under b⟩
  have HB24 := Lib.hid (HB21.out.trans (b.mono HB21.out.size))
  have O2_ := Lib.hid (O2.out.under b)
  clear O2
  have O2 := O2_
  clear O2_
  have O3_ := Lib.hid (O3.out.under b)
  clear O3
  have O3 := O3_
  clear O3_
  have O4_ := Lib.hid (O4.out.under b)
  clear O4
  have O4 := O4_
  clear O4_
  have O5_ := Lib.hid (O5.out.under b)
  clear O5
  have O5 := O5_
  clear O5_
  clear b
  refine hK.out _ _ (fun _ => HT24.out) ?_
  clear hK K
  refine takeP (i := 25) (v := ?_) rfl (by kernel_rfl) (by kernel_rfl) (by kernel_rfl) (by kernel_rfl) (fun _ _ _ h => h) (by rfl) ?_ (fun _ => HT24.out) ?_
  rotate_left
  · intro V'; go_simp <;> with_reducible rfl
  simp only [Act.put, List.setIfInBounds_toArray, List.set_cons_zero, List.set_cons_succ]
  refine takeP (i := 26) (v := ?_) rfl (by kernel_rfl) (by kernel_rfl) (by kernel_rfl) (by kernel_rfl) (fun _ _ _ h => h) (by rfl) ?_ (fun _ => HT24.out) ?_
  rotate_left
  · intro V'; go_simp <;> with_reducible rfl
  simp only [Act.put, List.setIfInBounds_toArray, List.set_cons_zero, List.set_cons_succ]
  refine takeP (i := 27) (v := ?_) rfl (by kernel_rfl) (by kernel_rfl) (by kernel_rfl) (by kernel_rfl) (fun _ _ _ h => h) (by rfl) ?_ (fun _ => HT24.out) ?_
  rotate_left
  · intro V'; go_simp <;> with_reducible rfl
  simp only [Act.put, List.setIfInBounds_toArray, List.set_cons_zero, List.set_cons_succ]
  refine oneT (i := 28) rfl (by kernel_rfl) (by rfl) (fun K hK => ?_)
  go_simp
  go_at_call 9
  refine (wakes_any _).mono ?_
  rintro e z28 ⟨rfl, b⟩
  have HT28 : Hid ((fun V' => Whole V' w.heap.size 24 #[.int .i64 c.ep, .int .i64 c.nx, .slice A n k] ∧ Whole V' (w.heap.size + 1) 24 #[.int .i64 d.ep, .int .i64 d.nx, .slice A' n' k']) z28) := Lib.hid ⟨HT24.out.1.under b, HT24.out.2.under b⟩
  have HB28 := Lib.hid (HB24.out.trans (b.mono HB24.out.size))
  have O2_ := Lib.hid (O2.out.under b)
  clear O2
  have O2 := O2_
  clear O2_
  have O3_ := Lib.hid (O3.out.under b)
  clear O3
  have O3 := O3_
  clear O3_
  have O4_ := Lib.hid (O4.out.under b)
  clear O4
  have O4 := O4_
  clear O4_
  have O5_ := Lib.hid (O5.out.under b)
  clear O5
  have O5 := O5_
  clear O5_
  clear b
  refine hK.out _ _ (fun _ => HT28.out) ?_
  clear hK K
  refine takeP (i := 29) (v := ?_) rfl (by kernel_rfl) (by kernel_rfl) (by kernel_rfl) (by kernel_rfl) (fun _ _ _ h => h) (by rfl) ?_ (fun _ => HT28.out) ?_
  rotate_left
  · intro V'; go_simp <;> with_reducible rfl
  simp only [Act.put, List.setIfInBounds_toArray, List.set_cons_zero, List.set_cons_succ]
  refine takeP (i := 30) (v := ?_) rfl (by kernel_rfl) (by kernel_rfl) (by kernel_rfl) (by kernel_rfl) (fun _ _ _ h => h) (by rfl) ?_ (fun _ => HT28.out) ?_
  rotate_left
  · intro V'; go_simp <;> with_reducible rfl
  simp only [Act.put, List.setIfInBounds_toArray, List.set_cons_zero, List.set_cons_succ]
  refine doneT (by kernel_rfl) ?_ _
  go_wp2_with fail
  go_ret
  exact ⟨rfl, HB28.out⟩

end Go.Proofs.Ytgajnmjifhemgaa
