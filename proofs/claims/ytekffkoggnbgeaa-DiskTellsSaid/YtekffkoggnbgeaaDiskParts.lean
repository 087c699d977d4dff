/-
  The walks of 'parts' of package disk and of the iterator that it hands back: bytes part by part. Conditions: those that each theorem names.
-/
import Derived.Test.YtekffkoggnbgeaaDiskBase
namespace Go.Proofs.Ytekffkoggnbgeaa
open Go.RowKit Go.Shelf
attribute [local go_sem] Oper.semAt_some

/-- A part of a row of bytes: a slice, and what it reads as. -/
structure Prt where
  A : Option Addr
  n : Nat
  c : Nat
  bs : List Nat
/-- It reads so in world w0. -/
structure PrtOk (w0 : World) (n₀ : Nat) (x : Prt) : Prop where
  rd : Rd w0 n₀ x.A x.n (bv x.bs)
  cap : x.n ≤ x.c
  some : 0 < x.n
  many : x.n ≤ 512
  byte : ∀ y ∈ x.bs, y < 256
abbrev PrtAt (w0 : World) (n₀ : Nat) := { x : Prt // PrtOk w0 n₀ x }
def joined {w0 : World} {n₀ : Nat} (l : List (PrtAt w0 n₀)) : List Nat := l.flatMap fun x => x.1.bs
theorem joined_snoc {w0 : World} {n₀ : Nat} (l : List (PrtAt w0 n₀)) (x : PrtAt w0 n₀) : joined (l ++ [x]) = joined l ++ x.1.bs := by simp [joined]

set_option maxHeartbeats 400000 in
theorem parts_any (A : Option Addr) (n c : Nat) (w : World) :
    Calls Try.prog 35 #[.slice A n c] w fun e w' => e = .returned (.func (.func 38) #[] #[.pointer (some ⟨w.heap.size, 0, none⟩)]) ∧ w' = w.alloc (.cells #[.slice A n c] 22) := by
  go_enter Try.func35, Try.ntmps35
  go_wp2
  go_ret
  exact ⟨rfl, rfl⟩

/-- Where the iterator stands: what has been handed over, from where on it goes on. -/
def PartsAt (l Bn n₀ : Nat) (w0 : World) (A : Option Addr) (n c : Nat) (bs : List Nat) (J : List (PrtAt w0 n₀) → World → Prop) (a' : Act) (w' : World) : Prop :=
  ∃ (pre : List (PrtAt w0 n₀)) (k : Nat) (u4 u5 u6 u7 u8 u9 u10 u11 u12 u13 u14 u15 u16 u17 u18 u19 u20 u21 u22 u23 : Value), a' = { tmps := #[.func (.yield l) #[] #[], .pointer (some ⟨Bn, 0, none⟩), undef, .int .i64 (k : Int), u4, u5, u6, u7, u8, u9, u10, u11, u12, u13, u14, u15, u16, u17, u18, u19, u20, u21, u22, u23], defers := [] } ∧ k ≤ n ∧ pre.length ≤ k ∧ joined pre = bs.take k ∧ w'.cell? ⟨Bn, 0, none⟩ = some (.slice A n c) ∧ J pre w'

set_option maxRecDepth 100000 in
set_option maxHeartbeats 1000000 in
theorem parts1_in (m l Bn n₀ : Nat) (w0 : World) (A : Option Addr) (n c : Nat) (bs : List Nat) (hn : n ≤ 1000000) (hc : n ≤ c) (hcm : c ≤ maxLen) (hb : ∀ y ∈ bs, y < 256) (hr : Rd w0 n₀ A n (bv bs)) (J Jx : List (PrtAt w0 n₀) → World → Prop)
    (hY : ∀ pre x W, J pre W → pre.length < n → YieldAt Fence.wide (m - 1) Try.prog l #[.slice x.1.A x.1.n x.1.c] W fun e W' =>
      (e = .returned (.bool true) ∧ J (pre ++ [x]) W' ∧ KpB n₀ Bn W W') ∨ (e = .returned (.bool false) ∧ Jx (pre ++ [x]) W'))
    (W : World) (hBn : W.cell? ⟨Bn, 0, none⟩ = some (.slice A n c)) (h0 : J [] W) :
    CallsIn Fence.wide m Try.prog 38 #[.func (.yield l) #[] #[], .pointer (some ⟨Bn, 0, none⟩)] W fun e W' => (∃ v, e = .returned v) ∧
      ((∃ ys, joined ys = bs ∧ J ys W') ∨ (∃ pre, joined pre <+: bs ∧ Jx pre W')) := by
  unfold maxLen at hcm
  have HY := Lib.hid hY
  have HR := Lib.hid hr
  have HBy := Lib.hid hb
  have hl : bs.length = n := by have := hr.1; rwa [bv_length] at this
  have HL := Lib.hid hl
  clear hY hr hl hb
  refine callsIn_of_wp Try.func38 rfl trivial ?_ rfl
  simp only [Try.ntmps38, List.size_toArray, List.length_cons, List.length_nil, Nat.reduceAdd, Nat.reduceSub, Array.replicate_succ, Array.replicate_zero, List.push_toArray, List.append_toArray, List.nil_append, List.cons_append]
  gi_wp2_with fail
  refine wpIn_wide.2 (wp_scope_back_behind 0 (PartsAt l Bn n₀ w0 A n c bs J)
    (fun a' _ => n - (intOf (a'.tmps.getD 3 undef)).toNat) rfl (wpIn_wide (n := m).1 ?ahead) (fun a' w' hJ' => wpIn_wide (n := m).1 ?pass))
  case ahead =>
    gi_wp2_with fail
    exact ⟨[], 0, _, _, _, _, _, _, _, _, _, _, _, _, _, _, _, _, _, _, _, _, rfl, Nat.zero_le _, Nat.le_refl _, by simp [joined], hBn, h0⟩
  case pass =>
    obtain ⟨pre, k, u4, u5, u6, u7, u8, u9, u10, u11, u12, u13, u14, u15, u16, u17, u18, u19, u20, u21, u22, u23, rfl, hk, hpk, hj, hBn', hJp⟩ := hJ'
    clear hBn h0
    have HJ := Lib.hid hJp
    have HJo := Lib.hid hj
    clear hJp hj
    rcases Nat.eq_or_lt_of_le hk with rfl | hlt
    · have heq : ((k : Int) == (k : Int)) = true := by simp
      gi_wp2_with fail
      simp only [Exit.jump]
      refine bodyPost_ret (results_none rfl _ _ _) rfl ?_
      exact ⟨⟨_, rfl⟩, .inl ⟨pre, by rw [HJo.out, List.take_of_length_le (by rw [HL.out]; omega)], HJ.out⟩⟩
    · have hne : ((k : Int) == (n : Int)) = false := by rw [beq_eq_false_iff_ne]; omega
      obtain ⟨h, hh⟩ : ∃ h, min (k + 512) n = h := ⟨_, rfl⟩
      obtain ⟨A', hA1, hA2⟩ := run_mid A n c k h (by omega) (by omega) hc
      obtain ⟨q, hq⟩ : ∃ q, h - k = q := ⟨_, rfl⟩
      rw [hq] at hA1
      have hx : PrtOk w0 n₀ ⟨A', q, c - k, (bs.drop k).take q⟩ := by
        refine ⟨?_, by simp only; omega, by simp only; omega, by simp only; omega, fun y hy => HBy.out y (List.mem_of_mem_drop (List.mem_of_mem_take hy))⟩
        have h1 := (HR.out.cut hk A' (fun hkn => hA2 (by omega))).take (k := q) (by omega)
        simp only [bv, ← List.map_drop, ← List.map_take] at h1
        exact h1
      have hj2 : joined (pre ++ [(⟨⟨A', q, c - k, (bs.drop k).take q⟩, hx⟩ : PrtAt w0 n₀)]) = bs.take h := by
        rw [joined_snoc, HJo.out]
        have : h = k + q := by omega
        conv => rhs; rw [this, List.take_add]
      obtain ⟨fn, tmps, assign, body, hy, hRR⟩ := HY.out pre ⟨_, hx⟩ w' HJ.out (by omega)
      have HRR := Lib.hid hRR
      have HJ2 := Lib.hid hj2
      clear hRR hj2
      clear hA2
      rcases Nat.lt_or_ge n (k + 512) with h5 | h5
      · obtain rfl : n = h := by omega
        have h5' : (n : Int) < (k : Int) + 512 := by omega
        have ek : (k : Int) + (q : Int) = (n : Int) := by omega
        clear hh h5
        gi_wp2_with fail
        refine ⟨fun h => (by cases h), HRR.out.mono ?_⟩
        rintro e W3 (⟨rfl, hJ3, hk3⟩ | ⟨rfl, hJx3⟩)
        · have hb3 : W3.cell? ⟨Bn, 0, none⟩ = some (.slice A n c) := (World.cell?_of_block (a := ⟨Bn, 0, none⟩) hk3.2).trans hBn'
          have HJ3 := Lib.hid hJ3
          clear hJ3 hk3
          gi_wp2_with fail
          refine wpIn_goto ?_
          refine ⟨rfl, ⟨pre ++ [⟨_, hx⟩], n, _, _, _, _, _, _, _, _, _, _, _, _, _, _, _, _, _, _, _, _, rfl, by omega, by simp; omega, HJ2.out, hb3, HJ3.out⟩, ?_⟩
          simp [intOf]; omega
        · have HJx := Lib.hid hJx3
          clear hJx3
          gi_wp2_with fail
          simp only [Exit.jump]
          go_end0
          exact ⟨⟨_, rfl⟩, .inr ⟨pre ++ [⟨_, hx⟩], by rw [HJ2.out]; exact List.take_prefix _ _, HJx.out⟩⟩
      · obtain rfl : q = 512 := by omega
        obtain rfl : h = k + 512 := by omega
        have h5' : (k : Int) + 512 ≤ (n : Int) := by omega
        clear hh h5 hq
        rw [show (((k + 512 : Nat)) : Int) = (k : Int) + 512 by omega] at hA1
        gi_wp2_with fail
        refine ⟨fun h => (by cases h), HRR.out.mono ?_⟩
        rintro e W3 (⟨rfl, hJ3, hk3⟩ | ⟨rfl, hJx3⟩)
        · have hb3 : W3.cell? ⟨Bn, 0, none⟩ = some (.slice A n c) := (World.cell?_of_block (a := ⟨Bn, 0, none⟩) hk3.2).trans hBn'
          have HJ3 := Lib.hid hJ3
          clear hJ3 hk3
          gi_wp2_with fail
          refine wpIn_goto ?_
          rw [show (k : Int) + 512 = (((k + 512 : Nat)) : Int) by omega]
          refine ⟨rfl, ⟨pre ++ [⟨_, hx⟩], k + 512, _, _, _, _, _, _, _, _, _, _, _, _, _, _, _, _, _, _, _, _, rfl, by omega, by simp; omega, HJ2.out, hb3, HJ3.out⟩, ?_⟩
          simp [intOf]; omega
        · have HJx := Lib.hid hJx3
          clear hJx3
          gi_wp2_with fail
          simp only [Exit.jump]
          go_end0
          exact ⟨⟨_, rfl⟩, .inr ⟨pre ++ [⟨_, hx⟩], by rw [HJ2.out]; exact List.take_prefix _ _, HJx.out⟩⟩

/-- The iterator hands over the bytes, part by part. -/
theorem parts_stops (m Bn n₀ : Nat) (w0 : World) (A : Option Addr) (n c : Nat) (bs : List Nat) (hn : n ≤ 1000000) (hc : n ≤ c) (hcm : c ≤ maxLen) (hb : ∀ y ∈ bs, y < 256) (hr : Rd w0 n₀ A n (bv bs)) (w : World) (hBl : Bn < w.heap.size) (hBn : w.cell? ⟨Bn, 0, none⟩ = some (.slice A n c)) :
    SeqStopsK Fence.wide m Try.prog 38 #[.pointer (some ⟨Bn, 0, none⟩)] (fun x : PrtAt w0 n₀ => #[Value.slice x.1.A x.1.n x.1.c]) (KpB n₀ Bn) (fun ys => joined ys = bs) (fun pre => joined pre <+: bs) n w := fun l J Jx W hW _ _ hY h0 =>
  parts1_in m l Bn n₀ w0 A n c bs hn hc hcm hb hr J Jx hY W ((hW.cell (p := ⟨Bn, 0, none⟩) hBl).trans hBn) h0

end Go.Proofs.Ytekffkoggnbgeaa
