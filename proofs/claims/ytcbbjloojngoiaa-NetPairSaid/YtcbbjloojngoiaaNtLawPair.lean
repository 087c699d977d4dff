/-
  The walk of the statement NetPair: what is sent twice is taken twice, and all else is as it was. Conditions: those that each theorem names.
-/
import Derived.Test.YtcbbjloojngoiaaNtLawKit
import Derived.Deep.DeepCutAuto
namespace Go.Proofs.Ytcbbjloojngoiaa
open Go.RowKit Go.Shelf

set_option maxRecDepth 100000 in
set_option maxHeartbeats 8000000 in
theorem pair_great (A : Option Addr) (n c : Nat) (A' : Option Addr) (n' c' : Nat) (s : Nt) (z : Int) (w : World) (hr : NtIn w A n A' n' s) (hg : greatN s = true) :
    Calls Try.prog 7 #[.agg #[.slice A n c, .slice A' n' c'], .int .i64 z] w (TruePost w) := by
  have HG := Lib.hid hg
  clear hg
  have hb := (Below.refl w.heap.size w).alloc (Nat.le_refl _) (.cells #[.slice A n c, .slice A' n' c'] 25)
  have hw := Whole.new w 25 #[.slice A n c, .slice A' n' c']
  obtain ⟨V, hV⟩ : ∃ V, w.alloc (.cells #[.slice A n c, .slice A' n' c'] 25) = V := ⟨_, rfl⟩
  rw [hV] at hb hw
  have HV := Lib.hid hV
  have N0 := Lib.hid hw
  have I0 := Lib.hid (hr.up hb)
  have B := Lib.hid hb
  clear hV hb hw hr
  go_enter Try.func7, Try.ntmps7
  go_upto_region 1 with fail
  rw [HV.out]
  clear HV
  obtain ⟨x0, x1⟩ := cells2 N0.out
  go_wp2_with fail
  refine Calls.mono (I0.out.great c c') ?_
  rintro e y ⟨rfl, b⟩
  rw [HG.out]
  have N0_ := Lib.hid (N0.out.under b)
  have I0_ := Lib.hid (I0.out.up b)
  have B_ := Lib.hid (B.out.trans (b.mono B.out.size))
  clear N0 I0 B
  have N0 := N0_
  have I0 := I0_
  have B := B_
  clear N0_ I0_ B_
  obtain ⟨x0, x1⟩ := cells2 N0.out
  clear b
  go_wp2_with fail
  refine Calls.mono (wakesN_any _) ?_
  rintro e y2 ⟨rfl, b⟩
  have N0_ := Lib.hid (N0.out.under b)
  have I0_ := Lib.hid (I0.out.up b)
  have B_ := Lib.hid (B.out.trans (b.mono B.out.size))
  clear N0 I0 B
  have N0 := N0_
  have I0 := I0_
  have B := B_
  clear N0_ I0_ B_
  clear b
  go_wp2_with fail
  go_ret
  exact ⟨rfl, B.out⟩

set_option maxRecDepth 100000 in
set_option maxHeartbeats 8000000 in
theorem pair_noask (A : Option Addr) (n c : Nat) (A' : Option Addr) (n' c' : Nat) (s : Nt) (z : Int) (w : World) (hr : NtIn w A n A' n' s) (hg : greatN s = false) (h0 : n = 0) :
    Calls Try.prog 7 #[.agg #[.slice A n c, .slice A' n' c'], .int .i64 z] w (TruePost w) := by
  have HG := Lib.hid hg
  have e0 : ((n : Int) == 0) = true := by simp; omega
  clear hg h0
  have hb := (Below.refl w.heap.size w).alloc (Nat.le_refl _) (.cells #[.slice A n c, .slice A' n' c'] 25)
  have hw := Whole.new w 25 #[.slice A n c, .slice A' n' c']
  obtain ⟨V, hV⟩ : ∃ V, w.alloc (.cells #[.slice A n c, .slice A' n' c'] 25) = V := ⟨_, rfl⟩
  rw [hV] at hb hw
  have HV := Lib.hid hV
  have N0 := Lib.hid hw
  have I0 := Lib.hid (hr.up hb)
  have B := Lib.hid hb
  clear hV hb hw hr
  go_enter Try.func7, Try.ntmps7
  go_upto_region 1 with fail
  rw [HV.out]
  clear HV
  obtain ⟨x0, x1⟩ := cells2 N0.out
  go_wp2_with fail
  refine Calls.mono (I0.out.great c c') ?_
  rintro e y ⟨rfl, b⟩
  rw [HG.out]
  have N0_ := Lib.hid (N0.out.under b)
  have I0_ := Lib.hid (I0.out.up b)
  have B_ := Lib.hid (B.out.trans (b.mono B.out.size))
  clear N0 I0 B
  have N0 := N0_
  have I0 := I0_
  have B := B_
  clear N0_ I0_ B_
  obtain ⟨x0, x1⟩ := cells2 N0.out
  clear b
  go_wp2_with fail
  refine Calls.mono (wakesN_any _) ?_
  rintro e y2 ⟨rfl, b⟩
  have N0_ := Lib.hid (N0.out.under b)
  have I0_ := Lib.hid (I0.out.up b)
  have B_ := Lib.hid (B.out.trans (b.mono B.out.size))
  clear N0 I0 B
  have N0 := N0_
  have I0 := I0_
  have B := B_
  clear N0_ I0_ B_
  clear b
  go_wp2_with fail
  go_ret
  exact ⟨rfl, B.out⟩

set_option maxRecDepth 100000 in
set_option maxHeartbeats 8000000 in
theorem pair_notell (A : Option Addr) (n c : Nat) (A' : Option Addr) (n' c' : Nat) (s : Nt) (z : Int) (w : World) (hr : NtIn w A n A' n' s) (hg : greatN s = false) (h1 : n ≠ 0) (h0 : n' = 0) :
    Calls Try.prog 7 #[.agg #[.slice A n c, .slice A' n' c'], .int .i64 z] w (TruePost w) := by
  have HG := Lib.hid hg
  have e0 : ((n : Int) == 0) = false := by simp; omega
  have e1 : ((n' : Int) == 0) = true := by simp; omega
  clear hg h0
  have hb := (Below.refl w.heap.size w).alloc (Nat.le_refl _) (.cells #[.slice A n c, .slice A' n' c'] 25)
  have hw := Whole.new w 25 #[.slice A n c, .slice A' n' c']
  obtain ⟨V, hV⟩ : ∃ V, w.alloc (.cells #[.slice A n c, .slice A' n' c'] 25) = V := ⟨_, rfl⟩
  rw [hV] at hb hw
  have HV := Lib.hid hV
  have N0 := Lib.hid hw
  have I0 := Lib.hid (hr.up hb)
  have B := Lib.hid hb
  clear hV hb hw hr
  go_enter Try.func7, Try.ntmps7
  go_upto_region 1 with fail
  rw [HV.out]
  clear HV
  obtain ⟨x0, x1⟩ := cells2 N0.out
  go_wp2_with fail
  refine Calls.mono (I0.out.great c c') ?_
  rintro e y ⟨rfl, b⟩
  rw [HG.out]
  have N0_ := Lib.hid (N0.out.under b)
  have I0_ := Lib.hid (I0.out.up b)
  have B_ := Lib.hid (B.out.trans (b.mono B.out.size))
  clear N0 I0 B
  have N0 := N0_
  have I0 := I0_
  have B := B_
  clear N0_ I0_ B_
  obtain ⟨x0, x1⟩ := cells2 N0.out
  clear b
  go_wp2_with fail
  refine Calls.mono (wakesN_any _) ?_
  rintro e y2 ⟨rfl, b⟩
  have N0_ := Lib.hid (N0.out.under b)
  have I0_ := Lib.hid (I0.out.up b)
  have B_ := Lib.hid (B.out.trans (b.mono B.out.size))
  clear N0 I0 B
  have N0 := N0_
  have I0 := I0_
  have B := B_
  clear N0_ I0_ B_
  clear b
  go_wp2_with fail
  go_ret
  exact ⟨rfl, B.out⟩

set_option maxRecDepth 100000 in
set_option maxHeartbeats 8000000 in
theorem pair_asks (A : Option Addr) (n c : Nat) (A' : Option Addr) (n' c' : Nat) (s : Nt) (z : Int) (w : World) (hr : NtIn w A n A' n' s) (hg : greatN s = false) (h1 : n ≠ 0) (h2 : n' ≠ 0) (h3 : 60 ≤ n) :
    Calls Try.prog 7 #[.agg #[.slice A n c, .slice A' n' c'], .int .i64 z] w (TruePost w) := by
  have HG := Lib.hid hg
  have e0 : ((n : Int) == 0) = false := by simp; omega
  have e1 : ((n' : Int) == 0) = false := by simp; omega
  have d3 : decide ((60 : Int) ≤ (n : Int)) = true := by simp; omega
  clear hg
  have hb := (Below.refl w.heap.size w).alloc (Nat.le_refl _) (.cells #[.slice A n c, .slice A' n' c'] 25)
  have hw := Whole.new w 25 #[.slice A n c, .slice A' n' c']
  obtain ⟨V, hV⟩ : ∃ V, w.alloc (.cells #[.slice A n c, .slice A' n' c'] 25) = V := ⟨_, rfl⟩
  rw [hV] at hb hw
  have HV := Lib.hid hV
  have N0 := Lib.hid hw
  have I0 := Lib.hid (hr.up hb)
  have B := Lib.hid hb
  clear hV hb hw hr
  go_enter Try.func7, Try.ntmps7
  go_upto_region 1 with fail
  rw [HV.out]
  clear HV
  obtain ⟨x0, x1⟩ := cells2 N0.out
  go_wp2_with fail
  refine Calls.mono (I0.out.great c c') ?_
  rintro e y ⟨rfl, b⟩
  rw [HG.out]
  have N0_ := Lib.hid (N0.out.under b)
  have I0_ := Lib.hid (I0.out.up b)
  have B_ := Lib.hid (B.out.trans (b.mono B.out.size))
  clear N0 I0 B
  have N0 := N0_
  have I0 := I0_
  have B := B_
  clear N0_ I0_ B_
  obtain ⟨x0, x1⟩ := cells2 N0.out
  clear b
  go_wp2_with fail
  refine Calls.mono (wakesN_any _) ?_
  rintro e y2 ⟨rfl, b⟩
  have N0_ := Lib.hid (N0.out.under b)
  have I0_ := Lib.hid (I0.out.up b)
  have B_ := Lib.hid (B.out.trans (b.mono B.out.size))
  clear N0 I0 B
  have N0 := N0_
  have I0 := I0_
  have B := B_
  clear N0_ I0_ B_
  clear b
  go_wp2_with fail
  go_ret
  exact ⟨rfl, B.out⟩

set_option maxRecDepth 100000 in
set_option maxHeartbeats 8000000 in
theorem pair_tells (A : Option Addr) (n c : Nat) (A' : Option Addr) (n' c' : Nat) (s : Nt) (z : Int) (w : World) (hr : NtIn w A n A' n' s) (hg : greatN s = false) (h1 : n ≠ 0) (h2 : n' ≠ 0) (h3 : n < 60) (h4 : 60 ≤ n') :
    Calls Try.prog 7 #[.agg #[.slice A n c, .slice A' n' c'], .int .i64 z] w (TruePost w) := by
  have HG := Lib.hid hg
  have e0 : ((n : Int) == 0) = false := by simp; omega
  have e1 : ((n' : Int) == 0) = false := by simp; omega
  have d3 : decide ((60 : Int) ≤ (n : Int)) = false := by simp; omega
  have d4 : decide ((60 : Int) ≤ (n' : Int)) = true := by simp; omega
  clear hg
  have hb := (Below.refl w.heap.size w).alloc (Nat.le_refl _) (.cells #[.slice A n c, .slice A' n' c'] 25)
  have hw := Whole.new w 25 #[.slice A n c, .slice A' n' c']
  obtain ⟨V, hV⟩ : ∃ V, w.alloc (.cells #[.slice A n c, .slice A' n' c'] 25) = V := ⟨_, rfl⟩
  rw [hV] at hb hw
  have HV := Lib.hid hV
  have N0 := Lib.hid hw
  have I0 := Lib.hid (hr.up hb)
  have B := Lib.hid hb
  clear hV hb hw hr
  go_enter Try.func7, Try.ntmps7
  go_upto_region 1 with fail
  rw [HV.out]
  clear HV
  obtain ⟨x0, x1⟩ := cells2 N0.out
  go_wp2_with fail
  refine Calls.mono (I0.out.great c c') ?_
  rintro e y ⟨rfl, b⟩
  rw [HG.out]
  have N0_ := Lib.hid (N0.out.under b)
  have I0_ := Lib.hid (I0.out.up b)
  have B_ := Lib.hid (B.out.trans (b.mono B.out.size))
  clear N0 I0 B
  have N0 := N0_
  have I0 := I0_
  have B := B_
  clear N0_ I0_ B_
  obtain ⟨x0, x1⟩ := cells2 N0.out
  clear b
  go_wp2_with fail
  refine Calls.mono (wakesN_any _) ?_
  rintro e y2 ⟨rfl, b⟩
  have N0_ := Lib.hid (N0.out.under b)
  have I0_ := Lib.hid (I0.out.up b)
  have B_ := Lib.hid (B.out.trans (b.mono B.out.size))
  clear N0 I0 B
  have N0 := N0_
  have I0 := I0_
  have B := B_
  clear N0_ I0_ B_
  clear b
  go_wp2_with fail
  go_ret
  exact ⟨rfl, B.out⟩

set_option maxRecDepth 100000 in
set_option maxHeartbeats 8000000 in
theorem pair_on (A : Option Addr) (n c : Nat) (A' : Option Addr) (n' c' : Nat) (s : Nt) (z : Int) (w : World) (hr : NtIn w A n A' n' s) (hg : greatN s = false) (h1 : n ≠ 0) (h2 : n' ≠ 0) (h3 : n < 60) (h4 : n' < 60) :
    Calls Try.prog 7 #[.agg #[.slice A n c, .slice A' n' c'], .int .i64 z] w (TruePost w) := by
  have HG := Lib.hid hg
  have e0 : ((n : Int) == 0) = false := by simp; omega
  have e1 : ((n' : Int) == 0) = false := by simp; omega
  have d3 : decide ((60 : Int) ≤ (n : Int)) = false := by simp; omega
  have d4 : decide ((60 : Int) ≤ (n' : Int)) = false := by simp; omega
  have hlk := hr.lk
  have hlt := hr.lt
  obtain ⟨a, ha⟩ := askA_some (s := s) (by omega) z
  obtain ⟨t, ht⟩ := tellT_some (s := s) (by omega) z
  obtain ⟨u1, u2⟩ := twice_ask ha (by omega)
  obtain ⟨u3, u4⟩ := twice_tell ht (by omega)
  obtain ⟨v1, v2⟩ := ask_last s.ks a s.ts
  obtain ⟨v3, v4⟩ := tell_last s.ts t s.ks
  have hrd := hr.rd hg
  have hfew := hrd.few
  have htm : t ∈ s.ts := List.mem_of_getElem? ht
  obtain ⟨so, hso⟩ : ∃ so : Nt, (⟨s.ks ++ [a], s.ts⟩ : Nt) = so := ⟨_, rfl⟩
  obtain ⟨sp, hsp⟩ : ∃ sp : Nt, (⟨s.ks, s.ts ++ [t]⟩ : Nt) = sp := ⟨_, rfl⟩
  have F1 := Lib.hid (show so.few by rw [← hso]; exact few_ask hfew (by omega) a)
  have F2 := Lib.hid (show sp.few by rw [← hsp]; exact few_tell hfew (by omega) (by have := hfew.sn t htm; omega))
  have l1 : decide (0 < so.ks.length) = true := by rw [← hso]; simp
  have l2 : decide (0 < sp.ts.length) = true := by rw [← hsp]; simp
  have l3 : decide (0 < s.ks.length) = true := by simp; omega
  have l4 : decide (0 < s.ts.length) = true := by simp; omega
  rw [hso] at u1 v1 v2
  rw [hsp] at u3 v3 v4
  have U1 := Lib.hid u1
  have U2 := Lib.hid u2
  have U3 := Lib.hid u3
  have U4 := Lib.hid u4
  have V1 := Lib.hid v1
  have V2 := Lib.hid v2
  have V3 := Lib.hid v3
  have V4 := Lib.hid v4
  have HA := Lib.hid ha
  have HT := Lib.hid ht
  have FS := Lib.hid hfew
  have L1 := Lib.hid l1
  have L2 := Lib.hid l2
  have L3 := Lib.hid l3
  have L4 := Lib.hid l4
  have LK := Lib.hid hlk
  have LT := Lib.hid hlt
  clear u1 u2 u3 u4 v1 v2 v3 v4 ha ht hfew htm hso hsp l1 l2 l3 l4 hlk hlt hrd
  have hb := (Below.refl w.heap.size w).alloc (Nat.le_refl _) (.cells #[.slice A n c, .slice A' n' c'] 25)
  have hw := Whole.new w 25 #[.slice A n c, .slice A' n' c']
  obtain ⟨V, hV⟩ : ∃ V, w.alloc (.cells #[.slice A n c, .slice A' n' c'] 25) = V := ⟨_, rfl⟩
  rw [hV] at hb hw
  have HV := Lib.hid hV
  have N0 := Lib.hid hw
  have I0 := Lib.hid (hr.up hb)
  have B := Lib.hid hb
  clear hV hb hw hr
  go_enter Try.func7, Try.ntmps7
  go_upto_region 1 with fail
  rw [HV.out]
  clear HV
  obtain ⟨x0, x1⟩ := cells2 N0.out
  go_wp2_with fail
  refine Calls.mono (I0.out.great c c') ?_
  rintro e y ⟨rfl, b⟩
  rw [HG.out]
  have N0_ := Lib.hid (N0.out.under b)
  have I0_ := Lib.hid (I0.out.up b)
  have B_ := Lib.hid (B.out.trans (b.mono B.out.size))
  clear N0 I0 B
  have N0 := N0_
  have I0 := I0_
  have B := B_
  clear N0_ I0_ B_
  obtain ⟨x0, x1⟩ := cells2 N0.out
  clear b
  have R0 := Lib.hid (I0.out.rd HG.out)
  clear HG hg
  clear I0
  go_wp2_with fail
  refine Calls.mono (twice_any A n c A' n' c' s z false _ R0.out) ?_
  rintro e y ⟨A1, c1, B1, d1, rfl, o_, b⟩
  rw [U1.out] at o_ ⊢
  rw [U2.out]
  have r_ := o_.rd F1.out
  have N0_ := Lib.hid (N0.out.under b)
  have B_ := Lib.hid (B.out.trans (b.mono B.out.size))
  have R0_ := Lib.hid (R0.out.up b)
  clear N0 B R0
  have N0 := N0_
  have B := B_
  have R0 := R0_
  clear N0_ B_ R0_
  have R1 := Lib.hid (r_)
  clear o_ r_ b x0 x1
  go_upto_region 4 with fail
  refine wp_at (fun V_ hV_ => ?_)
  obtain ⟨b, n_⟩ : Below y.heap.size y V_ ∧ Whole V_ y.heap.size 25 #[.slice A1 so.ks.length c1, .slice B1 so.ts.length d1] := by rw [← hV_]; exact ⟨(Below.refl _ _).alloc (Nat.le_refl _) _, Whole.new _ _ _⟩
  have N0_ := Lib.hid (N0.out.under b)
  have B_ := Lib.hid (B.out.trans (b.mono B.out.size))
  have R0_ := Lib.hid (R0.out.up b)
  have R1_ := Lib.hid (R1.out.up b)
  clear N0 B R0 R1
  have N0 := N0_
  have B := B_
  have R0 := R0_
  have R1 := R1_
  clear N0_ B_ R0_ R1_
  have N1 := Lib.hid (n_)
  clear hV_ b n_
  obtain ⟨x0, x1⟩ := cells2 N0.out
  go_wp2_with fail
  refine Calls.mono (twice_any A n c A' n' c' s z true _ R0.out) ?_
  rintro e y ⟨A2, c2, B2, d2, rfl, o_, b⟩
  rw [U3.out] at o_ ⊢
  rw [U4.out]
  have r_ := o_.rd F2.out
  have N0_ := Lib.hid (N0.out.under b)
  have B_ := Lib.hid (B.out.trans (b.mono B.out.size))
  have R0_ := Lib.hid (R0.out.up b)
  have R1_ := Lib.hid (R1.out.up b)
  have N1_ := Lib.hid (N1.out.under b)
  clear N0 B R0 R1 N1
  have N0 := N0_
  have B := B_
  have R0 := R0_
  have R1 := R1_
  have N1 := N1_
  clear N0_ B_ R0_ R1_ N1_
  have R2 := Lib.hid (r_)
  clear o_ r_ b x0 x1
  go_upto_region 5 with fail
  refine wp_at (fun V_ hV_ => ?_)
  obtain ⟨b, n_⟩ : Below y.heap.size y V_ ∧ Whole V_ y.heap.size 25 #[.slice A2 sp.ks.length c2, .slice B2 sp.ts.length d2] := by rw [← hV_]; exact ⟨(Below.refl _ _).alloc (Nat.le_refl _) _, Whole.new _ _ _⟩
  have N0_ := Lib.hid (N0.out.under b)
  have B_ := Lib.hid (B.out.trans (b.mono B.out.size))
  have R0_ := Lib.hid (R0.out.up b)
  have R1_ := Lib.hid (R1.out.up b)
  have N1_ := Lib.hid (N1.out.under b)
  have R2_ := Lib.hid (R2.out.up b)
  clear N0 B R0 R1 N1 R2
  have N0 := N0_
  have B := B_
  have R0 := R0_
  have R1 := R1_
  have N1 := N1_
  have R2 := R2_
  clear N0_ B_ R0_ R1_ N1_ R2_
  have N2 := Lib.hid (n_)
  clear hV_ b n_
  obtain ⟨x0, x1⟩ := cells2 N1.out
  go_wp2_with fail
  refine Calls.mono (ask_any A1 so.ks.length c1 B1 so.ts.length d1 so (-1) _ R1.out) ?_
  rintro e y ⟨A3, c3, B3, d3_, q, rfl, hq, o_, b⟩
  rw [V1.out, Option.getD_some] at hq
  subst hq
  rw [V2.out] at o_ ⊢
  rw [L1.out]
  have r_ := o_.rd FS.out
  have N0_ := Lib.hid (N0.out.under b)
  have B_ := Lib.hid (B.out.trans (b.mono B.out.size))
  have R0_ := Lib.hid (R0.out.up b)
  have R1_ := Lib.hid (R1.out.up b)
  have N1_ := Lib.hid (N1.out.under b)
  have R2_ := Lib.hid (R2.out.up b)
  have N2_ := Lib.hid (N2.out.under b)
  clear N0 B R0 R1 N1 R2 N2
  have N0 := N0_
  have B := B_
  have R0 := R0_
  have R1 := R1_
  have N1 := N1_
  have R2 := R2_
  have N2 := N2_
  clear N0_ B_ R0_ R1_ N1_ R2_ N2_
  have R3 := Lib.hid (r_)
  clear o_ r_ b x0 x1
  clear N1 R1
  go_upto_region 6 with fail
  refine wp_at (fun V_ hV_ => ?_)
  obtain ⟨b, n_, m_⟩ := two_new y 25 27 #[.slice A3 s.ks.length c3, .slice B3 s.ts.length d3_] #[.int .u8 q.kind, .int .i64 q.call, .int .i64 q.a, .int .i64 q.b, .int .i64 q.c, .int .i64 q.d]
  rw [hV_] at b n_ m_
  have N0_ := Lib.hid (N0.out.under b)
  have B_ := Lib.hid (B.out.trans (b.mono B.out.size))
  have R0_ := Lib.hid (R0.out.up b)
  have R2_ := Lib.hid (R2.out.up b)
  have N2_ := Lib.hid (N2.out.under b)
  have R3_ := Lib.hid (R3.out.up b)
  clear N0 B R0 R2 N2 R3
  have N0 := N0_
  have B := B_
  have R0 := R0_
  have R2 := R2_
  have N2 := N2_
  have R3 := R3_
  clear N0_ B_ R0_ R2_ N2_ R3_
  have N3 := Lib.hid (n_)
  have M3 := Lib.hid (m_)
  clear hV_ b n_ m_
  obtain ⟨x0, x1⟩ := cells2 N2.out
  go_wp2_with fail
  refine Calls.mono (tell_any A2 sp.ks.length c2 B2 sp.ts.length d2 sp (-1) _ R2.out) ?_
  rintro e y ⟨A4, c4, B4, d4_, x, rfl, hx, ox, o_, b⟩
  rw [V3.out, Option.getD_some] at hx
  rw [V4.out] at o_ ⊢
  rw [L2.out]
  have r_ := o_.rd FS.out
  have t_ : TeR _ x := ⟨RdSn.of_own ox, by have h1 := congrArg (fun t => t.seen.length) hx; have h2 := (RdSn.of_own ox).len; have h3 := FS.out.sn t (List.mem_of_getElem? HT.out); simp only [TE.t] at h1; omega⟩
  have N0_ := Lib.hid (N0.out.under b)
  have B_ := Lib.hid (B.out.trans (b.mono B.out.size))
  have R0_ := Lib.hid (R0.out.up b)
  have R2_ := Lib.hid (R2.out.up b)
  have N2_ := Lib.hid (N2.out.under b)
  have R3_ := Lib.hid (R3.out.up b)
  have N3_ := Lib.hid (N3.out.under b)
  have M3_ := Lib.hid (M3.out.under b)
  clear N0 B R0 R2 N2 R3 N3 M3
  have N0 := N0_
  have B := B_
  have R0 := R0_
  have R2 := R2_
  have N2 := N2_
  have R3 := R3_
  have N3 := N3_
  have M3 := M3_
  clear N0_ B_ R0_ R2_ N2_ R3_ N3_ M3_
  have R4 := Lib.hid (r_)
  have T4 := Lib.hid (t_)
  have HX := Lib.hid hx
  clear o_ ox r_ t_ hx b x0 x1
  clear N2 R2
  go_upto_region 7 with fail
  refine wp_at (fun V_ hV_ => ?_)
  obtain ⟨b, n_, m_⟩ := two_new y 25 30 #[.slice A4 s.ks.length c4, .slice B4 s.ts.length d4_] #[.int .i64 x.call, .int .u8 x.kind, .int .u8 x.code, .int .i64 x.id, .slice x.A x.n x.c, .bool x.more]
  rw [hV_] at b n_ m_
  have N0_ := Lib.hid (N0.out.under b)
  have B_ := Lib.hid (B.out.trans (b.mono B.out.size))
  have R0_ := Lib.hid (R0.out.up b)
  have R3_ := Lib.hid (R3.out.up b)
  have N3_ := Lib.hid (N3.out.under b)
  have M3_ := Lib.hid (M3.out.under b)
  have R4_ := Lib.hid (R4.out.up b)
  have T4_ := Lib.hid (T4.out.up b)
  clear N0 B R0 R3 N3 M3 R4 T4
  have N0 := N0_
  have B := B_
  have R0 := R0_
  have R3 := R3_
  have N3 := N3_
  have M3 := M3_
  have R4 := R4_
  have T4 := T4_
  clear N0_ B_ R0_ R3_ N3_ M3_ R4_ T4_
  have N4 := Lib.hid (n_)
  have M4 := Lib.hid (m_)
  clear hV_ b n_ m_
  obtain ⟨x0, x1⟩ := cells2 N0.out
  go_wp2_with fail
  refine Calls.mono (ask_any A n c A' n' c' s z _ R0.out) ?_
  rintro e y ⟨A5, c5, B5, d5_, q2, rfl, hq, o_, b⟩
  rw [HA.out, Option.getD_some] at hq
  subst hq
  rw [L3.out]
  have N0_ := Lib.hid (N0.out.under b)
  have B_ := Lib.hid (B.out.trans (b.mono B.out.size))
  have R0_ := Lib.hid (R0.out.up b)
  have R3_ := Lib.hid (R3.out.up b)
  have N3_ := Lib.hid (N3.out.under b)
  have M3_ := Lib.hid (M3.out.under b)
  have R4_ := Lib.hid (R4.out.up b)
  have T4_ := Lib.hid (T4.out.up b)
  have N4_ := Lib.hid (N4.out.under b)
  have M4_ := Lib.hid (M4.out.under b)
  clear N0 B R0 R3 N3 M3 R4 T4 N4 M4
  have N0 := N0_
  have B := B_
  have R0 := R0_
  have R3 := R3_
  have N3 := N3_
  have M3 := M3_
  have R4 := R4_
  have T4 := T4_
  have N4 := N4_
  have M4 := M4_
  clear N0_ B_ R0_ R3_ N3_ M3_ R4_ T4_ N4_ M4_
  clear o_ b x0 x1
  go_upto_region 8 with fail
  refine wp_at (fun V_ hV_ => ?_)
  obtain ⟨b, n_, m_⟩ := two_new y 25 27 #[.slice A5 (askN s z).ks.length c5, .slice B5 (askN s z).ts.length d5_] #[.int .u8 q2.kind, .int .i64 q2.call, .int .i64 q2.a, .int .i64 q2.b, .int .i64 q2.c, .int .i64 q2.d]
  rw [hV_] at b n_ m_
  have N0_ := Lib.hid (N0.out.under b)
  have B_ := Lib.hid (B.out.trans (b.mono B.out.size))
  have R0_ := Lib.hid (R0.out.up b)
  have R3_ := Lib.hid (R3.out.up b)
  have N3_ := Lib.hid (N3.out.under b)
  have M3_ := Lib.hid (M3.out.under b)
  have R4_ := Lib.hid (R4.out.up b)
  have T4_ := Lib.hid (T4.out.up b)
  have N4_ := Lib.hid (N4.out.under b)
  have M4_ := Lib.hid (M4.out.under b)
  clear N0 B R0 R3 N3 M3 R4 T4 N4 M4
  have N0 := N0_
  have B := B_
  have R0 := R0_
  have R3 := R3_
  have N3 := N3_
  have M3 := M3_
  have R4 := R4_
  have T4 := T4_
  have N4 := N4_
  have M4 := M4_
  clear N0_ B_ R0_ R3_ N3_ M3_ R4_ T4_ N4_ M4_
  have M5 := Lib.hid (m_)
  clear hV_ b n_ m_
  obtain ⟨x0, x1⟩ := cells2 N0.out
  go_wp2_with fail
  refine Calls.mono (tell_any A n c A' n' c' s z _ R0.out) ?_
  rintro e y ⟨A6, c6, B6, d6_, x6, rfl, hx, ox, o_, b⟩
  rw [HT.out, Option.getD_some] at hx
  rw [L4.out]
  have t_ : TeR _ x6 := ⟨RdSn.of_own ox, by have h1 := congrArg (fun t => t.seen.length) hx; have h2 := (RdSn.of_own ox).len; have h3 := FS.out.sn t (List.mem_of_getElem? HT.out); simp only [TE.t] at h1; omega⟩
  have N0_ := Lib.hid (N0.out.under b)
  have B_ := Lib.hid (B.out.trans (b.mono B.out.size))
  have R0_ := Lib.hid (R0.out.up b)
  have R3_ := Lib.hid (R3.out.up b)
  have N3_ := Lib.hid (N3.out.under b)
  have M3_ := Lib.hid (M3.out.under b)
  have R4_ := Lib.hid (R4.out.up b)
  have T4_ := Lib.hid (T4.out.up b)
  have N4_ := Lib.hid (N4.out.under b)
  have M4_ := Lib.hid (M4.out.under b)
  have M5_ := Lib.hid (M5.out.under b)
  clear N0 B R0 R3 N3 M3 R4 T4 N4 M4 M5
  have N0 := N0_
  have B := B_
  have R0 := R0_
  have R3 := R3_
  have N3 := N3_
  have M3 := M3_
  have R4 := R4_
  have T4 := T4_
  have N4 := N4_
  have M4 := M4_
  have M5 := M5_
  clear N0_ B_ R0_ R3_ N3_ M3_ R4_ T4_ N4_ M4_ M5_
  have T6 := Lib.hid (t_)
  have HX6 := Lib.hid (HX.out.trans hx.symm)
  clear o_ ox t_ hx b x0 x1
  go_upto_region 9 with fail
  refine wp_at (fun V_ hV_ => ?_)
  obtain ⟨b, n_, m_⟩ := two_new y 25 30 #[.slice A6 (tellN s z).ks.length c6, .slice B6 (tellN s z).ts.length d6_] #[.int .i64 x6.call, .int .u8 x6.kind, .int .u8 x6.code, .int .i64 x6.id, .slice x6.A x6.n x6.c, .bool x6.more]
  rw [hV_] at b n_ m_
  have N0_ := Lib.hid (N0.out.under b)
  have B_ := Lib.hid (B.out.trans (b.mono B.out.size))
  have R0_ := Lib.hid (R0.out.up b)
  have R3_ := Lib.hid (R3.out.up b)
  have N3_ := Lib.hid (N3.out.under b)
  have M3_ := Lib.hid (M3.out.under b)
  have R4_ := Lib.hid (R4.out.up b)
  have T4_ := Lib.hid (T4.out.up b)
  have N4_ := Lib.hid (N4.out.under b)
  have M4_ := Lib.hid (M4.out.under b)
  have M5_ := Lib.hid (M5.out.under b)
  have T6_ := Lib.hid (T6.out.up b)
  clear N0 B R0 R3 N3 M3 R4 T4 N4 M4 M5 T6
  have N0 := N0_
  have B := B_
  have R0 := R0_
  have R3 := R3_
  have N3 := N3_
  have M3 := M3_
  have R4 := R4_
  have T4 := T4_
  have N4 := N4_
  have M4 := M4_
  have M5 := M5_
  have T6 := T6_
  clear N0_ B_ R0_ R3_ N3_ M3_ R4_ T4_ N4_ M4_ M5_ T6_
  have M6 := Lib.hid (m_)
  clear hV_ b n_ m_
  obtain ⟨x0, x1, x2, x3, x4, x5⟩ := cellsW6 M3.out
  obtain ⟨y0, y1, y2, y3, y4, y5⟩ := cellsW6 M4.out
  obtain ⟨z0, z1, z2, z3, z4, z5⟩ := cellsW6 M5.out
  obtain ⟨v0, v1, v2, v3, v4, v5⟩ := cellsW6 M6.out
  go_wp2_with fail
  refine Calls.mono (told_any x x6 _ T4.out T6.out) ?_
  rintro e y ⟨rfl, b⟩
  rw [decide_eq_true HX6.out]
  clear x0 x1 x2 x3 x4 x5 y0 y1 y2 y3 y4 y5 z0 z1 z2 z3 z4 z5 v0 v1 v2 v3 v4 v5
  clear M3 M4 M5 M6 T4 T6
  have N0_ := Lib.hid (N0.out.under b)
  have B_ := Lib.hid (B.out.trans (b.mono B.out.size))
  have R0_ := Lib.hid (R0.out.up b)
  have R3_ := Lib.hid (R3.out.up b)
  have N3_ := Lib.hid (N3.out.under b)
  have R4_ := Lib.hid (R4.out.up b)
  have N4_ := Lib.hid (N4.out.under b)
  clear N0 B R0 R3 N3 R4 N4
  have N0 := N0_
  have B := B_
  have R0 := R0_
  have R3 := R3_
  have N3 := N3_
  have R4 := R4_
  have N4 := N4_
  clear N0_ B_ R0_ R3_ N3_ R4_ N4_
  clear b
  obtain ⟨x0, x1⟩ := cells2 N3.out
  obtain ⟨y0, y1⟩ := cells2 N0.out
  go_wp2_with fail
  refine Calls.mono (refSame_any A3 _ c3 B3 _ d3_ s A n c A' n' c' s _ R3.out R0.out) ?_
  rintro e y ⟨rfl, b⟩
  rw [decide_eq_true rfl]
  have N0_ := Lib.hid (N0.out.under b)
  have B_ := Lib.hid (B.out.trans (b.mono B.out.size))
  have R0_ := Lib.hid (R0.out.up b)
  have R3_ := Lib.hid (R3.out.up b)
  have N3_ := Lib.hid (N3.out.under b)
  have R4_ := Lib.hid (R4.out.up b)
  have N4_ := Lib.hid (N4.out.under b)
  clear N0 B R0 R3 N3 R4 N4
  have N0 := N0_
  have B := B_
  have R0 := R0_
  have R3 := R3_
  have N3 := N3_
  have R4 := R4_
  have N4 := N4_
  clear N0_ B_ R0_ R3_ N3_ R4_ N4_
  clear b x0 x1 y0 y1
  obtain ⟨x0, x1⟩ := cells2 N4.out
  obtain ⟨y0, y1⟩ := cells2 N0.out
  go_wp2_with fail
  refine Calls.mono (refSame_any A4 _ c4 B4 _ d4_ s A n c A' n' c' s _ R4.out R0.out) ?_
  rintro e y ⟨rfl, b⟩
  rw [decide_eq_true rfl]
  have N0_ := Lib.hid (N0.out.under b)
  have B_ := Lib.hid (B.out.trans (b.mono B.out.size))
  have R0_ := Lib.hid (R0.out.up b)
  have R3_ := Lib.hid (R3.out.up b)
  have N3_ := Lib.hid (N3.out.under b)
  have R4_ := Lib.hid (R4.out.up b)
  have N4_ := Lib.hid (N4.out.under b)
  clear N0 B R0 R3 N3 R4 N4
  have N0 := N0_
  have B := B_
  have R0 := R0_
  have R3 := R3_
  have N3 := N3_
  have R4 := R4_
  have N4 := N4_
  clear N0_ B_ R0_ R3_ N3_ R4_ N4_
  clear b x0 x1 y0 y1
  go_wp2_with fail
  refine Calls.mono (wakesN_any _) ?_
  rintro e y2 ⟨rfl, b⟩
  have N0_ := Lib.hid (N0.out.under b)
  have B_ := Lib.hid (B.out.trans (b.mono B.out.size))
  have R0_ := Lib.hid (R0.out.up b)
  have R3_ := Lib.hid (R3.out.up b)
  have N3_ := Lib.hid (N3.out.under b)
  have R4_ := Lib.hid (R4.out.up b)
  have N4_ := Lib.hid (N4.out.under b)
  clear N0 B R0 R3 N3 R4 N4
  have N0 := N0_
  have B := B_
  have R0 := R0_
  have R3 := R3_
  have N3 := N3_
  have R4 := R4_
  have N4 := N4_
  clear N0_ B_ R0_ R3_ N3_ R4_ N4_
  clear b
  go_wp2_with fail
  go_ret
  exact ⟨rfl, B.out⟩

theorem netPair_any (A : Option Addr) (n c : Nat) (A' : Option Addr) (n' c' : Nat) (s : Nt) (z : Int) (w : World) (hr : NtIn w A n A' n' s) :
    Calls Try.prog 7 #[.agg #[.slice A n c, .slice A' n' c'], .int .i64 z] w (TruePost w) := by
  cases hg : greatN s with
  | true => exact pair_great A n c A' n' c' s z w hr hg
  | false =>
    by_cases h1 : n = 0
    · exact pair_noask A n c A' n' c' s z w hr hg h1
    · by_cases h2 : n' = 0
      · exact pair_notell A n c A' n' c' s z w hr hg h1 h2
      · by_cases h3 : 60 ≤ n
        · exact pair_asks A n c A' n' c' s z w hr hg h1 h2 h3
        · by_cases h4 : 60 ≤ n'
          · exact pair_tells A n c A' n' c' s z w hr hg h1 h2 (by omega) h4
          · exact pair_on A n c A' n' c' s z w hr hg h1 h2 (by omega) (by omega)

end Go.Proofs.Ytcbbjloojngoiaa
