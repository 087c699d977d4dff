/-
  The walk of the statement NetRoom, a part: there is room for so many and no more. Conditions: those that each theorem names.
-/
import Derived.Test.YtcbbjloojngoiaaNtLawKit
import Derived.Deep.DeepCutAuto
import Derived.BigQuiet
namespace Go.Proofs.Ytcbbjloojngoiaa
open Go.RowKit Go.Shelf

set_option maxRecDepth 100000 in
set_option maxHeartbeats 8000000 in
theorem room_more_t_empty (A : Option Addr) (n c : Nat) (A' : Option Addr) (n' c' : Nat) (s : Nt) (q : Ak) (z : Int) (w : World) (hr : NtIn w A n A' n' s) (hg : greatN s = false) (h3 : n < 60) (h4 : n' = 0) :
    Calls Try.prog 5 #[.agg #[.slice A n c, .slice A' n' c'], .agg #[.int .u8 q.kind, .int .i64 q.call, .int .i64 q.a, .int .i64 q.b, .int .i64 q.c, .int .i64 q.d], .int .i64 z, .bool true] w (TruePost w) := by
  have HG := Lib.hid hg
  have hlk := hr.lk
  have hlt := hr.lt
  have hrd := hr.rd hg
  have hfew := hrd.few
  have hn70 : n ≤ 70 := by have := (greatN_no hg).1; omega
  have hn71 : n' ≤ 70 := by have := (greatN_no hg).2.1; omega
  have u1 : twiceN s z true = s := by simp [twiceN, tellT, List.eq_nil_of_length_eq_zero (show s.ts.length = 0 by omega)]
  have u2 : twiceE s true = 0 := by simp only [twiceE]; exact fullE_no (by omega)
  have u3 : (twiceN s z true).ks.length = n := by rw [u1]; exact hlk
  have u4 : (twiceN s z true).ts.length = n' := by rw [u1]; exact hlt
  have U2 := Lib.hid u2
  have U3 := Lib.hid u3
  have U4 := Lib.hid u4
  have LK := Lib.hid hlk
  have LT := Lib.hid hlt
  have FS := Lib.hid hfew
  have v0 : fullE s.ks.length = 0 := fullE_no (by omega)
  have v1 := sendN_more (s := s) (q := q) (by omega)
  obtain ⟨so, hso⟩ : ∃ so : Nt, (⟨s.ks ++ [q], s.ts⟩ : Nt) = so := ⟨_, rfl⟩
  have F1 := Lib.hid (show so.few by rw [← hso]; exact few_ask hfew (by omega) q)
  obtain ⟨v2, v3⟩ := ask_last s.ks q s.ts
  obtain ⟨m1, hm1⟩ : ∃ m1, m1 = n + 1 := ⟨_, rfl⟩
  have v4 : so.ks.length = m1 := by rw [← hso]; simp; omega
  have v5 : so.ts.length = n' := by rw [← hso]; exact hlt
  have v6 : so.ks[n]? = some q := by rw [← hso, ← hlk]; simp
  rw [hso] at v1 v2 v3
  have V0 := Lib.hid v0
  have V1 := Lib.hid v1
  have V2 := Lib.hid v2
  have V3 := Lib.hid v3
  have V4 := Lib.hid v4
  have V5 := Lib.hid v5
  have V6 := Lib.hid v6
  have e7 : ((m1 : Int) != (n : Int) + 1) = false := by simp; omega
  have i7 : (n : Int) < (m1 : Int) := by omega
  have p7 : 0 < m1 := by omega
  have d3 : decide ((60 : Int) ≤ (n : Int)) = false := by simp; omega
  clear v0 v1 v2 v3 v4 v5 v6 hso hm1
  have d6 : decide ((60 : Int) ≤ (n' : Int)) = false := by simp; omega
  have e6 : ((n' : Int) == 0) = true := by simp; omega
  clear hg u1 u2 u3 u4 hlk hlt hfew hrd
  clear h4
  obtain ⟨hb, hw, hw2⟩ := two_new w 25 27 #[.slice A n c, .slice A' n' c'] #[.int .u8 q.kind, .int .i64 q.call, .int .i64 q.a, .int .i64 q.b, .int .i64 q.c, .int .i64 q.d]
  obtain ⟨V, hV⟩ : ∃ V, (w.alloc (.cells #[.slice A n c, .slice A' n' c'] 25)).alloc (.cells #[.int .u8 q.kind, .int .i64 q.call, .int .i64 q.a, .int .i64 q.b, .int .i64 q.c, .int .i64 q.d] 27) = V := ⟨_, rfl⟩
  rw [hV] at hb hw hw2
  have HV := Lib.hid hV
  have N0 := Lib.hid hw
  have M0 := Lib.hid hw2
  have I0 := Lib.hid (hr.up hb)
  have B := Lib.hid hb
  clear hV hb hw hw2 hr
  go_enter Try.func5, Try.ntmps5
  go_upto_region 1 with fail
  rw [HV.out]
  clear HV
  obtain ⟨x0, x1⟩ := cells2 N0.out
  go_wp2_with fail
  refine Calls.mono (I0.out.great c c') ?_
  rintro e y ⟨rfl, b⟩
  rw [HG.out]
  have N0_ := Lib.hid (N0.out.under b)
  have M0_ := Lib.hid (M0.out.under b)
  have I0_ := Lib.hid (I0.out.up b)
  have B_ := Lib.hid (B.out.trans (b.mono B.out.size))
  clear N0 M0 I0 B
  have N0 := N0_
  have M0 := M0_
  have I0 := I0_
  have B := B_
  clear N0_ M0_ I0_ B_
  clear b x0 x1
  have R0 := Lib.hid (I0.out.rd HG.out)
  clear I0
  clear HG
  obtain ⟨x0, x1⟩ := cells2 N0.out
  obtain ⟨a0, a1, a2, a3, a4, a5⟩ := cellsW6 M0.out
  go_wp2_with fail
  refine Calls.mono (send_any A n c A' n' c' s q _ R0.out) ?_
  rintro e y ⟨A1, c1, B1, d1, rfl, o_, b⟩
  rw [V1.out] at o_ ⊢
  rw [V0.out]
  have r_ := o_.rd F1.out
  rw [V4.out, V5.out] at r_ ⊢
  have N0_ := Lib.hid (N0.out.under b)
  have M0_ := Lib.hid (M0.out.under b)
  have B_ := Lib.hid (B.out.trans (b.mono B.out.size))
  have R0_ := Lib.hid (R0.out.up b)
  clear N0 M0 B R0
  have N0 := N0_
  have M0 := M0_
  have B := B_
  have R0 := R0_
  clear N0_ M0_ B_ R0_
  have R1 := Lib.hid (r_)
  clear o_ r_ b x0 x1 a0 a1 a2 a3 a4 a5
  go_upto_region 4 with fail
  refine wp_at (fun V_ hV_ => ?_)
  obtain ⟨b, n_⟩ : Below y.heap.size y V_ ∧ Whole V_ y.heap.size 25 #[.slice A1 m1 c1, .slice B1 n' d1] := by rw [← hV_]; exact ⟨(Below.refl _ _).alloc (Nat.le_refl _) _, Whole.new _ _ _⟩
  have N0_ := Lib.hid (N0.out.under b)
  have M0_ := Lib.hid (M0.out.under b)
  have B_ := Lib.hid (B.out.trans (b.mono B.out.size))
  have R0_ := Lib.hid (R0.out.up b)
  have R1_ := Lib.hid (R1.out.up b)
  clear N0 M0 B R0 R1
  have N0 := N0_
  have M0 := M0_
  have B := B_
  have R0 := R0_
  have R1 := R1_
  clear N0_ M0_ B_ R0_ R1_
  have N1 := Lib.hid (n_)
  clear hV_ b n_
  obtain ⟨b1, off1, hA1, hbl, hc⟩ := R1.out.ks.2 p7
  subst hA1
  obtain ⟨t0, t1, t2, t3, t4, t5⟩ := hc n q V6.out
  obtain ⟨x0, x1⟩ := cells2 N0.out
  obtain ⟨y0, y1⟩ := cells2 N1.out
  obtain ⟨a0, a1, a2, a3, a4, a5⟩ := cellsW6 M0.out
  clear hc hbl
  go_upto_region 7 with fail
  go_quiet (fail)
  clear t0 t1 t2 t3 t4 t5 x0 x1 y0 y1 a0 a1 a2 a3 a4 a5
  go_upto_region 9 with fail
  refine wp_at (fun V2_ hV2_ => ?_)
  have b : Below V_.heap.size V_ V2_ := by rw [← hV2_]; exact drewN_below (Below.refl _ _) _
  have N0_ := Lib.hid (N0.out.under b)
  have M0_ := Lib.hid (M0.out.under b)
  have B_ := Lib.hid (B.out.trans (b.mono B.out.size))
  have R0_ := Lib.hid (R0.out.up b)
  have R1_ := Lib.hid (R1.out.up b)
  have N1_ := Lib.hid (N1.out.under b)
  clear N0 M0 B R0 R1 N1
  have N0 := N0_
  have M0 := M0_
  have B := B_
  have R0 := R0_
  have R1 := R1_
  have N1 := N1_
  clear N0_ M0_ B_ R0_ R1_ N1_
  clear b hV2_
  obtain ⟨y0, y1⟩ := cells2 N1.out
  go_wp2_with fail
  refine Calls.mono (ask_any _ m1 c1 B1 n' d1 so (-1) _ R1.out) ?_
  rintro e y3 ⟨A3, c3, B3, d3_, q2, rfl, hq, o_, b⟩
  rw [V2.out, Option.getD_some] at hq
  subst hq
  rw [V3.out] at o_ ⊢
  have r_ := o_.rd FS.out
  rw [LK.out, LT.out] at r_ ⊢
  rw [V4.out, decide_eq_true p7]
  have N0_ := Lib.hid (N0.out.under b)
  have M0_ := Lib.hid (M0.out.under b)
  have B_ := Lib.hid (B.out.trans (b.mono B.out.size))
  have R0_ := Lib.hid (R0.out.up b)
  have R1_ := Lib.hid (R1.out.up b)
  have N1_ := Lib.hid (N1.out.under b)
  clear N0 M0 B R0 R1 N1
  have N0 := N0_
  have M0 := M0_
  have B := B_
  have R0 := R0_
  have R1 := R1_
  have N1 := N1_
  clear N0_ M0_ B_ R0_ R1_ N1_
  have R3 := Lib.hid (r_)
  clear o_ r_ b y0 y1
  clear N1 R1
  go_upto_region 10 with fail
  refine wp_at (fun V3_ hV3_ => ?_)
  obtain ⟨b, n_, m_⟩ := two_new y3 25 27 #[.slice A3 n c3, .slice B3 n' d3_] #[.int .u8 q2.kind, .int .i64 q2.call, .int .i64 q2.a, .int .i64 q2.b, .int .i64 q2.c, .int .i64 q2.d]
  rw [hV3_] at b n_ m_
  have N0_ := Lib.hid (N0.out.under b)
  have M0_ := Lib.hid (M0.out.under b)
  have B_ := Lib.hid (B.out.trans (b.mono B.out.size))
  have R0_ := Lib.hid (R0.out.up b)
  have R3_ := Lib.hid (R3.out.up b)
  clear N0 M0 B R0 R3
  have N0 := N0_
  have M0 := M0_
  have B := B_
  have R0 := R0_
  have R3 := R3_
  clear N0_ M0_ B_ R0_ R3_
  have N3 := Lib.hid (n_)
  have M3 := Lib.hid (m_)
  clear hV3_ b n_ m_
  obtain ⟨x0, x1⟩ := cells2 N0.out
  obtain ⟨y0, y1⟩ := cells2 N3.out
  obtain ⟨a0, a1, a2, a3, a4, a5⟩ := cellsW6 M0.out
  obtain ⟨t0, t1, t2, t3, t4, t5⟩ := cellsW6 M3.out
  go_wp2_with fail
  refine Calls.mono (refSame_any A3 n c3 B3 n' d3_ s A n c A' n' c' s _ R3.out R0.out) ?_
  rintro e y4 ⟨rfl, b⟩
  rw [decide_eq_true rfl]
  clear x0 x1 y0 y1 a0 a1 a2 a3 a4 a5 t0 t1 t2 t3 t4 t5
  clear N3 M3 R3
  have N0_ := Lib.hid (N0.out.under b)
  have M0_ := Lib.hid (M0.out.under b)
  have B_ := Lib.hid (B.out.trans (b.mono B.out.size))
  have R0_ := Lib.hid (R0.out.up b)
  clear N0 M0 B R0
  have N0 := N0_
  have M0 := M0_
  have B := B_
  have R0 := R0_
  clear N0_ M0_ B_ R0_
  clear b
  go_upto_region 12 with fail
  clear M0
  obtain ⟨x0, x1⟩ := cells2 N0.out
  go_wp2_with fail
  refine Calls.mono (twice_any A n c A' n' c' s z true _ R0.out) ?_
  rintro e y5 ⟨A5, c5, B5, d5, rfl, o_, b⟩
  rw [U2.out, U3.out, U4.out]
  clear R0
  have N0_ := Lib.hid (N0.out.under b)
  have B_ := Lib.hid (B.out.trans (b.mono B.out.size))
  clear N0 B
  have N0 := N0_
  have B := B_
  clear N0_ B_
  clear o_ b x0 x1
  go_upto_region 13 with fail
  refine wp_at (fun V5_ hV5_ => ?_)
  obtain ⟨b, n_⟩ : Below y5.heap.size y5 V5_ ∧ Whole V5_ y5.heap.size 25 #[.slice A5 n c5, .slice B5 n' d5] := by rw [← hV5_]; exact ⟨(Below.refl _ _).alloc (Nat.le_refl _) _, Whole.new _ _ _⟩
  have N0_ := Lib.hid (N0.out.under b)
  have B_ := Lib.hid (B.out.trans (b.mono B.out.size))
  clear N0 B
  have N0 := N0_
  have B := B_
  clear N0_ B_
  have N5 := Lib.hid (n_)
  clear hV5_ b n_
  obtain ⟨x0, x1⟩ := cells2 N0.out
  obtain ⟨y0, y1⟩ := cells2 N5.out
  go_upto_region 14 with fail
  rw [show ((n : Int) + (n' : Int) - (n : Int) - (n' : Int)) = 0 by omega]
  go_wp2_with fail
  refine Calls.mono (wakesN_any _) ?_
  rintro e y2 ⟨rfl, b⟩
  have N0_ := Lib.hid (N0.out.under b)
  have B_ := Lib.hid (B.out.trans (b.mono B.out.size))
  have N5_ := Lib.hid (N5.out.under b)
  clear N0 B N5
  have N0 := N0_
  have B := B_
  have N5 := N5_
  clear N0_ B_ N5_
  clear b
  go_wp2_with fail
  go_ret
  exact ⟨rfl, B.out⟩

set_option maxRecDepth 100000 in
set_option maxHeartbeats 8000000 in
theorem room_more_t_mid (A : Option Addr) (n c : Nat) (A' : Option Addr) (n' c' : Nat) (s : Nt) (q : Ak) (z : Int) (w : World) (hr : NtIn w A n A' n' s) (hg : greatN s = false) (h3 : n < 60) (h4 : 0 < n') (h5 : n' < 60) :
    Calls Try.prog 5 #[.agg #[.slice A n c, .slice A' n' c'], .agg #[.int .u8 q.kind, .int .i64 q.call, .int .i64 q.a, .int .i64 q.b, .int .i64 q.c, .int .i64 q.d], .int .i64 z, .bool true] w (TruePost w) := by
  have HG := Lib.hid hg
  have hlk := hr.lk
  have hlt := hr.lt
  have hrd := hr.rd hg
  have hfew := hrd.few
  have hn70 : n ≤ 70 := by have := (greatN_no hg).1; omega
  have hn71 : n' ≤ 70 := by have := (greatN_no hg).2.1; omega
  obtain ⟨t, ht⟩ := tellT_some (s := s) (by omega) z
  obtain ⟨u1, u2⟩ := twice_tell ht (by omega)
  obtain ⟨m, hm⟩ : ∃ m, m = n' + 1 := ⟨_, rfl⟩
  have u3 : (twiceN s z true).ts.length = m := by rw [u1]; simp; omega
  have u4 : (twiceN s z true).ks.length = n := by rw [u1]; exact hlk
  have U2 := Lib.hid u2
  have U3 := Lib.hid u3
  have U4 := Lib.hid u4
  have LK := Lib.hid hlk
  have LT := Lib.hid hlt
  have FS := Lib.hid hfew
  have v0 : fullE s.ks.length = 0 := fullE_no (by omega)
  have v1 := sendN_more (s := s) (q := q) (by omega)
  obtain ⟨so, hso⟩ : ∃ so : Nt, (⟨s.ks ++ [q], s.ts⟩ : Nt) = so := ⟨_, rfl⟩
  have F1 := Lib.hid (show so.few by rw [← hso]; exact few_ask hfew (by omega) q)
  obtain ⟨v2, v3⟩ := ask_last s.ks q s.ts
  obtain ⟨m1, hm1⟩ : ∃ m1, m1 = n + 1 := ⟨_, rfl⟩
  have v4 : so.ks.length = m1 := by rw [← hso]; simp; omega
  have v5 : so.ts.length = n' := by rw [← hso]; exact hlt
  have v6 : so.ks[n]? = some q := by rw [← hso, ← hlk]; simp
  rw [hso] at v1 v2 v3
  have V0 := Lib.hid v0
  have V1 := Lib.hid v1
  have V2 := Lib.hid v2
  have V3 := Lib.hid v3
  have V4 := Lib.hid v4
  have V5 := Lib.hid v5
  have V6 := Lib.hid v6
  have e7 : ((m1 : Int) != (n : Int) + 1) = false := by simp; omega
  have i7 : (n : Int) < (m1 : Int) := by omega
  have p7 : 0 < m1 := by omega
  have d3 : decide ((60 : Int) ≤ (n : Int)) = false := by simp; omega
  clear v0 v1 v2 v3 v4 v5 v6 hso hm1
  have d6 : decide ((60 : Int) ≤ (n' : Int)) = false := by simp; omega
  have e6 : ((n' : Int) == 0) = false := by simp; omega
  have hmm : m ≤ 100 := by omega
  have HMM := Lib.hid hm
  clear hm
  clear hg u1 u2 u3 u4 hlk hlt hfew hrd
  clear h4
  obtain ⟨hb, hw, hw2⟩ := two_new w 25 27 #[.slice A n c, .slice A' n' c'] #[.int .u8 q.kind, .int .i64 q.call, .int .i64 q.a, .int .i64 q.b, .int .i64 q.c, .int .i64 q.d]
  obtain ⟨V, hV⟩ : ∃ V, (w.alloc (.cells #[.slice A n c, .slice A' n' c'] 25)).alloc (.cells #[.int .u8 q.kind, .int .i64 q.call, .int .i64 q.a, .int .i64 q.b, .int .i64 q.c, .int .i64 q.d] 27) = V := ⟨_, rfl⟩
  rw [hV] at hb hw hw2
  have HV := Lib.hid hV
  have N0 := Lib.hid hw
  have M0 := Lib.hid hw2
  have I0 := Lib.hid (hr.up hb)
  have B := Lib.hid hb
  clear hV hb hw hw2 hr
  go_enter Try.func5, Try.ntmps5
  go_upto_region 1 with fail
  rw [HV.out]
  clear HV
  obtain ⟨x0, x1⟩ := cells2 N0.out
  go_wp2_with fail
  refine Calls.mono (I0.out.great c c') ?_
  rintro e y ⟨rfl, b⟩
  rw [HG.out]
  have N0_ := Lib.hid (N0.out.under b)
  have M0_ := Lib.hid (M0.out.under b)
  have I0_ := Lib.hid (I0.out.up b)
  have B_ := Lib.hid (B.out.trans (b.mono B.out.size))
  clear N0 M0 I0 B
  have N0 := N0_
  have M0 := M0_
  have I0 := I0_
  have B := B_
  clear N0_ M0_ I0_ B_
  clear b x0 x1
  have R0 := Lib.hid (I0.out.rd HG.out)
  clear I0
  clear HG
  obtain ⟨x0, x1⟩ := cells2 N0.out
  obtain ⟨a0, a1, a2, a3, a4, a5⟩ := cellsW6 M0.out
  go_wp2_with fail
  refine Calls.mono (send_any A n c A' n' c' s q _ R0.out) ?_
  rintro e y ⟨A1, c1, B1, d1, rfl, o_, b⟩
  rw [V1.out] at o_ ⊢
  rw [V0.out]
  have r_ := o_.rd F1.out
  rw [V4.out, V5.out] at r_ ⊢
  have N0_ := Lib.hid (N0.out.under b)
  have M0_ := Lib.hid (M0.out.under b)
  have B_ := Lib.hid (B.out.trans (b.mono B.out.size))
  have R0_ := Lib.hid (R0.out.up b)
  clear N0 M0 B R0
  have N0 := N0_
  have M0 := M0_
  have B := B_
  have R0 := R0_
  clear N0_ M0_ B_ R0_
  have R1 := Lib.hid (r_)
  clear o_ r_ b x0 x1 a0 a1 a2 a3 a4 a5
  go_upto_region 4 with fail
  refine wp_at (fun V_ hV_ => ?_)
  obtain ⟨b, n_⟩ : Below y.heap.size y V_ ∧ Whole V_ y.heap.size 25 #[.slice A1 m1 c1, .slice B1 n' d1] := by rw [← hV_]; exact ⟨(Below.refl _ _).alloc (Nat.le_refl _) _, Whole.new _ _ _⟩
  have N0_ := Lib.hid (N0.out.under b)
  have M0_ := Lib.hid (M0.out.under b)
  have B_ := Lib.hid (B.out.trans (b.mono B.out.size))
  have R0_ := Lib.hid (R0.out.up b)
  have R1_ := Lib.hid (R1.out.up b)
  clear N0 M0 B R0 R1
  have N0 := N0_
  have M0 := M0_
  have B := B_
  have R0 := R0_
  have R1 := R1_
  clear N0_ M0_ B_ R0_ R1_
  have N1 := Lib.hid (n_)
  clear hV_ b n_
  obtain ⟨b1, off1, hA1, hbl, hc⟩ := R1.out.ks.2 p7
  subst hA1
  obtain ⟨t0, t1, t2, t3, t4, t5⟩ := hc n q V6.out
  obtain ⟨x0, x1⟩ := cells2 N0.out
  obtain ⟨y0, y1⟩ := cells2 N1.out
  obtain ⟨a0, a1, a2, a3, a4, a5⟩ := cellsW6 M0.out
  clear hc hbl
  go_upto_region 7 with fail
  go_quiet (fail)
  clear t0 t1 t2 t3 t4 t5 x0 x1 y0 y1 a0 a1 a2 a3 a4 a5
  go_upto_region 9 with fail
  refine wp_at (fun V2_ hV2_ => ?_)
  have b : Below V_.heap.size V_ V2_ := by rw [← hV2_]; exact drewN_below (Below.refl _ _) _
  have N0_ := Lib.hid (N0.out.under b)
  have M0_ := Lib.hid (M0.out.under b)
  have B_ := Lib.hid (B.out.trans (b.mono B.out.size))
  have R0_ := Lib.hid (R0.out.up b)
  have R1_ := Lib.hid (R1.out.up b)
  have N1_ := Lib.hid (N1.out.under b)
  clear N0 M0 B R0 R1 N1
  have N0 := N0_
  have M0 := M0_
  have B := B_
  have R0 := R0_
  have R1 := R1_
  have N1 := N1_
  clear N0_ M0_ B_ R0_ R1_ N1_
  clear b hV2_
  obtain ⟨y0, y1⟩ := cells2 N1.out
  go_wp2_with fail
  refine Calls.mono (ask_any _ m1 c1 B1 n' d1 so (-1) _ R1.out) ?_
  rintro e y3 ⟨A3, c3, B3, d3_, q2, rfl, hq, o_, b⟩
  rw [V2.out, Option.getD_some] at hq
  subst hq
  rw [V3.out] at o_ ⊢
  have r_ := o_.rd FS.out
  rw [LK.out, LT.out] at r_ ⊢
  rw [V4.out, decide_eq_true p7]
  have N0_ := Lib.hid (N0.out.under b)
  have M0_ := Lib.hid (M0.out.under b)
  have B_ := Lib.hid (B.out.trans (b.mono B.out.size))
  have R0_ := Lib.hid (R0.out.up b)
  have R1_ := Lib.hid (R1.out.up b)
  have N1_ := Lib.hid (N1.out.under b)
  clear N0 M0 B R0 R1 N1
  have N0 := N0_
  have M0 := M0_
  have B := B_
  have R0 := R0_
  have R1 := R1_
  have N1 := N1_
  clear N0_ M0_ B_ R0_ R1_ N1_
  have R3 := Lib.hid (r_)
  clear o_ r_ b y0 y1
  clear N1 R1
  go_upto_region 10 with fail
  refine wp_at (fun V3_ hV3_ => ?_)
  obtain ⟨b, n_, m_⟩ := two_new y3 25 27 #[.slice A3 n c3, .slice B3 n' d3_] #[.int .u8 q2.kind, .int .i64 q2.call, .int .i64 q2.a, .int .i64 q2.b, .int .i64 q2.c, .int .i64 q2.d]
  rw [hV3_] at b n_ m_
  have N0_ := Lib.hid (N0.out.under b)
  have M0_ := Lib.hid (M0.out.under b)
  have B_ := Lib.hid (B.out.trans (b.mono B.out.size))
  have R0_ := Lib.hid (R0.out.up b)
  have R3_ := Lib.hid (R3.out.up b)
  clear N0 M0 B R0 R3
  have N0 := N0_
  have M0 := M0_
  have B := B_
  have R0 := R0_
  have R3 := R3_
  clear N0_ M0_ B_ R0_ R3_
  have N3 := Lib.hid (n_)
  have M3 := Lib.hid (m_)
  clear hV3_ b n_ m_
  obtain ⟨x0, x1⟩ := cells2 N0.out
  obtain ⟨y0, y1⟩ := cells2 N3.out
  obtain ⟨a0, a1, a2, a3, a4, a5⟩ := cellsW6 M0.out
  obtain ⟨t0, t1, t2, t3, t4, t5⟩ := cellsW6 M3.out
  go_wp2_with fail
  refine Calls.mono (refSame_any A3 n c3 B3 n' d3_ s A n c A' n' c' s _ R3.out R0.out) ?_
  rintro e y4 ⟨rfl, b⟩
  rw [decide_eq_true rfl]
  clear x0 x1 y0 y1 a0 a1 a2 a3 a4 a5 t0 t1 t2 t3 t4 t5
  clear N3 M3 R3
  have N0_ := Lib.hid (N0.out.under b)
  have M0_ := Lib.hid (M0.out.under b)
  have B_ := Lib.hid (B.out.trans (b.mono B.out.size))
  have R0_ := Lib.hid (R0.out.up b)
  clear N0 M0 B R0
  have N0 := N0_
  have M0 := M0_
  have B := B_
  have R0 := R0_
  clear N0_ M0_ B_ R0_
  clear b
  go_upto_region 12 with fail
  clear M0
  obtain ⟨x0, x1⟩ := cells2 N0.out
  go_wp2_with fail
  refine Calls.mono (twice_any A n c A' n' c' s z true _ R0.out) ?_
  rintro e y5 ⟨A5, c5, B5, d5, rfl, o_, b⟩
  rw [U2.out, U4.out, U3.out]
  clear R0
  have N0_ := Lib.hid (N0.out.under b)
  have B_ := Lib.hid (B.out.trans (b.mono B.out.size))
  clear N0 B
  have N0 := N0_
  have B := B_
  clear N0_ B_
  clear o_ b x0 x1
  go_upto_region 13 with fail
  refine wp_at (fun V5_ hV5_ => ?_)
  obtain ⟨b, n_⟩ : Below y5.heap.size y5 V5_ ∧ Whole V5_ y5.heap.size 25 #[.slice A5 n c5, .slice B5 m d5] := by rw [← hV5_]; exact ⟨(Below.refl _ _).alloc (Nat.le_refl _) _, Whole.new _ _ _⟩
  have N0_ := Lib.hid (N0.out.under b)
  have B_ := Lib.hid (B.out.trans (b.mono B.out.size))
  clear N0 B
  have N0 := N0_
  have B := B_
  clear N0_ B_
  have N5 := Lib.hid (n_)
  clear hV5_ b n_
  obtain ⟨x0, x1⟩ := cells2 N0.out
  obtain ⟨y0, y1⟩ := cells2 N5.out
  go_upto_region 14 with fail
  rw [show ((n : Int) + (m : Int) - (n : Int) - (n' : Int)) = 1 by have := HMM.out; omega]
  go_wp2_with fail
  refine Calls.mono (wakesN_any _) ?_
  rintro e y2 ⟨rfl, b⟩
  have N0_ := Lib.hid (N0.out.under b)
  have B_ := Lib.hid (B.out.trans (b.mono B.out.size))
  have N5_ := Lib.hid (N5.out.under b)
  clear N0 B N5
  have N0 := N0_
  have B := B_
  have N5 := N5_
  clear N0_ B_ N5_
  clear b
  go_wp2_with fail
  go_ret
  exact ⟨rfl, B.out⟩

end Go.Proofs.Ytcbbjloojngoiaa
