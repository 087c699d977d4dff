/-
  Texts that the walks of the statements over logs lean on, joined (DiskParts, DiskChanged, DiskChgs, DiskLess, RegionInv, RegionIn, DiskRegIn, DiskApp, DiskWrite, DiskPut, DiskSync). Conditions: those that each theorem names.
-/
import Derived.Test.YtbkfpghpfaemeaaJ0
import Derived.Test.YtbkfpghpfaemeaaJ3
import Derived.IntWalk
import Derived.RegionTactic
import Derived.OrdersIn

/-
  The walks of 'parts' of package disk and of the iterator that it hands back: bytes part by part. Conditions: those that each theorem names.
-/
namespace Go.Proofs.Ytbkfpghpfaemeaa
open Go.RowKit Go.Shelf
attribute [local go_sem] Oper.semAt_some

/-- A part of a row of bytes: a slice, and what it reads as. -/
structure Prt where
  A : Option Addr
  n : Nat
  c : Nat
  bs : List Nat
/-- It reads so in world w0. -/
structure PrtOk (w0 : World) (n₀ : Nat) (x : Prt) : Prop where
  rd : Rd w0 n₀ x.A x.n (bv x.bs)
  cap : x.n ≤ x.c
  some : 0 < x.n
  many : x.n ≤ 512
  byte : ∀ y ∈ x.bs, y < 256
abbrev PrtAt (w0 : World) (n₀ : Nat) := { x : Prt // PrtOk w0 n₀ x }
def joined {w0 : World} {n₀ : Nat} (l : List (PrtAt w0 n₀)) : List Nat := l.flatMap fun x => x.1.bs
set_option maxRecDepth 100000 in
theorem joined_snoc {w0 : World} {n₀ : Nat} (l : List (PrtAt w0 n₀)) (x : PrtAt w0 n₀) : joined (l ++ [x]) = joined l ++ x.1.bs := by simp [joined]

set_option maxRecDepth 100000 in
set_option maxHeartbeats 400000 in
theorem parts_any (A : Option Addr) (n c : Nat) (w : World) :
    Calls Try.prog 68 #[.slice A n c] w fun e w' => e = .returned (.func (.func 81) #[] #[.pointer (some ⟨w.heap.size, 0, none⟩)]) ∧ w' = w.alloc (.cells #[.slice A n c] 22) := by
  go_enter Try.func68, Try.ntmps68
  go_wp2
  go_ret
  exact ⟨rfl, rfl⟩

/-- Where the iterator stands: what has been handed over, from where on it goes on. -/
def PartsAt (l Bn n₀ : Nat) (w0 : World) (A : Option Addr) (n c : Nat) (bs : List Nat) (J : List (PrtAt w0 n₀) → World → Prop) (a' : Act) (w' : World) : Prop :=
  ∃ (pre : List (PrtAt w0 n₀)) (k : Nat) (u4 u5 u6 u7 u8 u9 u10 u11 u12 u13 u14 u15 u16 u17 u18 u19 u20 u21 u22 u23 : Value), a' = { tmps := #[.func (.yield l) #[] #[], .pointer (some ⟨Bn, 0, none⟩), undef, .int .i64 (k : Int), u4, u5, u6, u7, u8, u9, u10, u11, u12, u13, u14, u15, u16, u17, u18, u19, u20, u21, u22, u23], defers := [] } ∧ k ≤ n ∧ pre.length ≤ k ∧ joined pre = bs.take k ∧ w'.cell? ⟨Bn, 0, none⟩ = some (.slice A n c) ∧ J pre w'

set_option maxRecDepth 100000 in
set_option maxHeartbeats 1000000 in
theorem parts1_in (m l Bn n₀ : Nat) (w0 : World) (A : Option Addr) (n c : Nat) (bs : List Nat) (hn : n ≤ 1000000) (hc : n ≤ c) (hcm : c ≤ maxLen) (hb : ∀ y ∈ bs, y < 256) (hr : Rd w0 n₀ A n (bv bs)) (J Jx : List (PrtAt w0 n₀) → World → Prop)
    (hY : ∀ pre x W, J pre W → pre.length < n → YieldAt Fence.wide (m - 1) Try.prog l #[.slice x.1.A x.1.n x.1.c] W fun e W' =>
      (e = .returned (.bool true) ∧ J (pre ++ [x]) W' ∧ KpB n₀ Bn W W') ∨ (e = .returned (.bool false) ∧ Jx (pre ++ [x]) W'))
    (W : World) (hBn : W.cell? ⟨Bn, 0, none⟩ = some (.slice A n c)) (h0 : J [] W) :
    CallsIn Fence.wide m Try.prog 81 #[.func (.yield l) #[] #[], .pointer (some ⟨Bn, 0, none⟩)] W fun e W' => (∃ v, e = .returned v) ∧
      ((∃ ys, joined ys = bs ∧ J ys W') ∨ (∃ pre, joined pre <+: bs ∧ Jx pre W')) := by
  unfold maxLen at hcm
  have HY := Lib.hid hY
  have HR := Lib.hid hr
  have HBy := Lib.hid hb
  have hl : bs.length = n := by have := hr.1; rwa [bv_length] at this
  have HL := Lib.hid hl
  clear hY hr hl hb
  refine callsIn_of_wp Try.func81 rfl trivial ?_ rfl
  simp only [Try.ntmps81, List.size_toArray, List.length_cons, List.length_nil, Nat.reduceAdd, Nat.reduceSub, Array.replicate_succ, Array.replicate_zero, List.push_toArray, List.append_toArray, List.nil_append, List.cons_append]
  gi_wp2_with fail
  refine wpIn_wide.2 (wp_scope_back_behind 0 (PartsAt l Bn n₀ w0 A n c bs J)
    (fun a' _ => n - (intOf (a'.tmps.getD 3 undef)).toNat) rfl (wpIn_wide (n := m).1 ?ahead) (fun a' w' hJ' => wpIn_wide (n := m).1 ?pass))
  case ahead =>
    gi_wp2_with fail
    exact ⟨[], 0, _, _, _, _, _, _, _, _, _, _, _, _, _, _, _, _, _, _, _, _, rfl, Nat.zero_le _, Nat.le_refl _, by simp [joined], hBn, h0⟩
  case pass =>
    obtain ⟨pre, k, u4, u5, u6, u7, u8, u9, u10, u11, u12, u13, u14, u15, u16, u17, u18, u19, u20, u21, u22, u23, rfl, hk, hpk, hj, hBn', hJp⟩ := hJ'
    clear hBn h0
    have HJ := Lib.hid hJp
    have HJo := Lib.hid hj
    clear hJp hj
    rcases Nat.eq_or_lt_of_le hk with rfl | hlt
    · have heq : ((k : Int) == (k : Int)) = true := by simp
      gi_wp2_with fail
      simp only [Exit.jump]
      refine bodyPost_ret (results_none rfl _ _ _) rfl ?_
      exact ⟨⟨_, rfl⟩, .inl ⟨pre, by rw [HJo.out, List.take_of_length_le (by rw [HL.out]; omega)], HJ.out⟩⟩
    · have hne : ((k : Int) == (n : Int)) = false := by rw [beq_eq_false_iff_ne]; omega
      obtain ⟨h, hh⟩ : ∃ h, min (k + 512) n = h := ⟨_, rfl⟩
      obtain ⟨A', hA1, hA2⟩ := run_mid A n c k h (by omega) (by omega) hc
      obtain ⟨q, hq⟩ : ∃ q, h - k = q := ⟨_, rfl⟩
      rw [hq] at hA1
      have hx : PrtOk w0 n₀ ⟨A', q, c - k, (bs.drop k).take q⟩ := by
        refine ⟨?_, by simp only; omega, by simp only; omega, by simp only; omega, fun y hy => HBy.out y (List.mem_of_mem_drop (List.mem_of_mem_take hy))⟩
        have h1 := (HR.out.cut hk A' (fun hkn => hA2 (by omega))).take (k := q) (by omega)
        simp only [bv, ← List.map_drop, ← List.map_take] at h1
        exact h1
      have hj2 : joined (pre ++ [(⟨⟨A', q, c - k, (bs.drop k).take q⟩, hx⟩ : PrtAt w0 n₀)]) = bs.take h := by
        rw [joined_snoc, HJo.out]
        have : h = k + q := by omega
        conv => rhs; rw [this, List.take_add]
      obtain ⟨fn, tmps, assign, body, hy, hRR⟩ := HY.out pre ⟨_, hx⟩ w' HJ.out (by omega)
      have HRR := Lib.hid hRR
      have HJ2 := Lib.hid hj2
      clear hRR hj2
      clear hA2
      rcases Nat.lt_or_ge n (k + 512) with h5 | h5
      · obtain rfl : n = h := by omega
        have h5' : (n : Int) < (k : Int) + 512 := by omega
        have ek : (k : Int) + (q : Int) = (n : Int) := by omega
        clear hh h5
        gi_wp2_with fail
        refine ⟨fun h => (by cases h), HRR.out.mono ?_⟩
        rintro e W3 (⟨rfl, hJ3, hk3⟩ | ⟨rfl, hJx3⟩)
        · have hb3 : W3.cell? ⟨Bn, 0, none⟩ = some (.slice A n c) := (World.cell?_of_block (a := ⟨Bn, 0, none⟩) hk3.2).trans hBn'
          have HJ3 := Lib.hid hJ3
          clear hJ3 hk3
          gi_wp2_with fail
          refine wpIn_goto ?_
          refine ⟨rfl, ⟨pre ++ [⟨_, hx⟩], n, _, _, _, _, _, _, _, _, _, _, _, _, _, _, _, _, _, _, _, _, rfl, by omega, by simp; omega, HJ2.out, hb3, HJ3.out⟩, ?_⟩
          simp [intOf]; omega
        · have HJx := Lib.hid hJx3
          clear hJx3
          gi_wp2_with fail
          simp only [Exit.jump]
          go_end0
          exact ⟨⟨_, rfl⟩, .inr ⟨pre ++ [⟨_, hx⟩], by rw [HJ2.out]; exact List.take_prefix _ _, HJx.out⟩⟩
      · obtain rfl : q = 512 := by omega
        obtain rfl : h = k + 512 := by omega
        have h5' : (k : Int) + 512 ≤ (n : Int) := by omega
        clear hh h5 hq
        rw [show (((k + 512 : Nat)) : Int) = (k : Int) + 512 by omega] at hA1
        gi_wp2_with fail
        refine ⟨fun h => (by cases h), HRR.out.mono ?_⟩
        rintro e W3 (⟨rfl, hJ3, hk3⟩ | ⟨rfl, hJx3⟩)
        · have hb3 : W3.cell? ⟨Bn, 0, none⟩ = some (.slice A n c) := (World.cell?_of_block (a := ⟨Bn, 0, none⟩) hk3.2).trans hBn'
          have HJ3 := Lib.hid hJ3
          clear hJ3 hk3
          gi_wp2_with fail
          refine wpIn_goto ?_
          rw [show (k : Int) + 512 = (((k + 512 : Nat)) : Int) by omega]
          refine ⟨rfl, ⟨pre ++ [⟨_, hx⟩], k + 512, _, _, _, _, _, _, _, _, _, _, _, _, _, _, _, _, _, _, _, _, rfl, by omega, by simp; omega, HJ2.out, hb3, HJ3.out⟩, ?_⟩
          simp [intOf]; omega
        · have HJx := Lib.hid hJx3
          clear hJx3
          gi_wp2_with fail
          simp only [Exit.jump]
          go_end0
          exact ⟨⟨_, rfl⟩, .inr ⟨pre ++ [⟨_, hx⟩], by rw [HJ2.out]; exact List.take_prefix _ _, HJx.out⟩⟩

set_option maxRecDepth 100000 in
/-- The iterator hands over the bytes, part by part. -/
theorem parts_stops (m Bn n₀ : Nat) (w0 : World) (A : Option Addr) (n c : Nat) (bs : List Nat) (hn : n ≤ 1000000) (hc : n ≤ c) (hcm : c ≤ maxLen) (hb : ∀ y ∈ bs, y < 256) (hr : Rd w0 n₀ A n (bv bs)) (w : World) (hBl : Bn < w.heap.size) (hBn : w.cell? ⟨Bn, 0, none⟩ = some (.slice A n c)) :
    SeqStopsK Fence.wide m Try.prog 81 #[.pointer (some ⟨Bn, 0, none⟩)] (fun x : PrtAt w0 n₀ => #[Value.slice x.1.A x.1.n x.1.c]) (KpB n₀ Bn) (fun ys => joined ys = bs) (fun pre => joined pre <+: bs) n w := fun l J Jx W hW _ _ hY h0 =>
  parts1_in m l Bn n₀ w0 A n c bs hn hc hcm hb hr J Jx hY W ((hW.cell (p := ⟨Bn, 0, none⟩) hBl).trans hBn) h0

end Go.Proofs.Ytbkfpghpfaemeaa

/-
  The walk of 'changed' of package disk: changes of a disk, one behind the other, whichever they are. Conditions: those that each theorem names.
-/
namespace Go.Proofs.Ytbkfpghpfaemeaa
open Go.RowKit Go.Shelf

/-- Block Bo is disk D, whose bytes lie in memory from base on. -/
def DiskBox (base : Nat) (w : World) (Bo : Nat) (D : Dk) : Prop :=
  ∃ A c, Whole w Bo 24 #[.slice A D.bs.length c, .int .i64 D.syn, .int .i64 D.room] ∧ w.ownsRow base 5 1 (.slice A D.bs.length c) D.bs.length (bv D.bs) ∧ D.Ok

/-- What a change answers, and leaves. -/
def ChgPost (base Bo : Nat) (r : Option Dk) (W : World) (e : Ending) (W' : World) : Prop :=
  Below base W W' ∧ match r with
    | none => e = .returned (.bool false)
    | some D => e = .returned (.bool true) ∧ DiskBox base W' Bo D

/-- A change: the value of a function, what it does. -/
structure Chg where
  fn : Nat
  caps : Array Value
  f : Dk → Option Dk
def Chg.val (c : Chg) : Value := .func (.func c.fn) #[] c.caps
structure ChgOk (base : Nat) (w0 : World) (c : Chg) : Prop where
  enters : ∀ args w, (callFunc c.fn args).run Try.prog w = .ok (.enter c.fn args) w
  does : ∀ (W : World) (Bo : Nat) (D : Dk), Below base w0 W → base ≤ Bo → DiskBox base W Bo D → Calls Try.prog c.fn (#[.pointer (some ⟨Bo, 0, none⟩)] ++ c.caps) W (ChgPost base Bo (c.f D) W)

def runs (fs : List Chg) (D : Dk) : Option Dk := fs.foldlM (fun D c => c.f D) D
set_option maxRecDepth 100000 in
theorem runs_take {fs : List Chg} {k : Nat} {c : Chg} {D D1 : Dk} (h : fs[k]? = some c) (h1 : runs (fs.take k) D = some D1) : runs (fs.take (k + 1)) D = c.f D1 := by
  have hk : k < fs.length := (List.getElem?_eq_some_iff.1 h).1
  rw [List.getElem?_eq_getElem hk] at h
  unfold runs at *
  rw [List.take_succ_eq_append_getElem hk, List.foldlM_append, h1, Option.some.inj h]
  simp
set_option maxRecDepth 100000 in
theorem runs_none {fs : List Chg} {k : Nat} {D : Dk} (h1 : runs (fs.take k) D = none) : runs fs D = none := by
  unfold runs at *
  rw [← List.take_append_drop k fs, List.foldlM_append, h1]
  rfl

/-- A disk and an error's number. -/
def DiskRes (D : Dk) (E : Int) (w : World) (e : Ending) (w' : World) : Prop :=
  ∃ A c, e = .returned (.tuple #[diskV A D.bs.length c D.syn D.room, .int .i64 E]) ∧ w'.ownsRow w.heap.size 5 1 (.slice A D.bs.length c) D.bs.length (bv D.bs) ∧ Below w.heap.size w w'
def ChangedIs (r : Option Dk) (D : Dk) (w : World) (e : Ending) (w' : World) : Prop :=
  match r with
  | some D' => DiskRes D' 0 w e w'
  | none => DiskRes D 30 w e w'

/-- A disk stored into a block of its own. -/
abbrev setDisk (w : World) (b : Nat) (v0 v1 v2 : Value) : World := ((w.setCell ⟨b, 0, none⟩ v0).setCell ⟨b, 1, none⟩ v1).setCell ⟨b, 2, none⟩ v2
set_option maxRecDepth 100000 in
theorem Whole.disk {w : World} {b : Nat} {t : TypeId} {x0 x1 x2 : Value} (h : Whole w b t #[x0, x1, x2]) (v0 v1 v2 : Value) : Whole (setDisk w b v0 v1 v2) b t #[v0, v1, v2] := by
  have h1 := ((h.set 0 v0).set 1 v1).set 2 v2
  simpa using h1
set_option maxRecDepth 100000 in
theorem Whole.farDisk {w : World} {b b' : Nat} {t : TypeId} {cs : Array Value} (h : Whole w b t cs) (hne : b ≠ b') (v0 v1 v2 : Value) : Whole (setDisk w b' v0 v1 v2) b t cs :=
  ((h.far (p := ⟨b', 0, none⟩) hne v0).far (p := ⟨b', 1, none⟩) hne v1).far (p := ⟨b', 2, none⟩) hne v2
set_option maxRecDepth 100000 in
theorem own_setDisk {w : World} {base : Nat} {e : TypeId} {size n : Nat} {v : Value} {xs : List Value} (h : w.ownsRow base e size v n xs) {b : Nat} (hb : b < base) (v0 v1 v2 : Value) : (setDisk w b v0 v1 v2).ownsRow base e size v n xs :=
  own_set (own_set (own_set h hb _) hb _) hb _
set_option maxRecDepth 100000 in
theorem below_setDisk {B : Nat} {w w' : World} (h : Below B w w') {b : Nat} (hb : B ≤ b) (v0 v1 v2 : Value) : Below B w (setDisk w' b v0 v1 v2) :=
  ((h.setCell (p := ⟨b, 0, none⟩) hb v0).setCell (p := ⟨b, 1, none⟩) hb v1).setCell (p := ⟨b, 2, none⟩) hb v2

/-- Where the run stands at the label: the disk was full. -/
def FullAt (fs : List Chg) (D0 : Dk) (A : Option Addr) (n c : Nat) (s r : Int) (bl cl : Nat) (w : World) (a' : Act) (w' : World) : Prop :=
  ∃ u3 u5 u6 u7 u8 u9 u10 u11 u12 u13 u14 u15 u16 u17 u18 u19 u20 u21 u22 u23 : Value, a' = { tmps := #[diskV A n c s r, .slice (some ⟨bl, 0, none⟩) fs.length cl, .pointer (some ⟨w.heap.size, 0, none⟩), u3, .pointer (some ⟨w.heap.size + 1, 0, none⟩), u5, u6, u7, u8, u9, u10, u11, u12, u13, u14, u15, u16, u17, u18, u19, u20, u21, u22, u23], defers := [] } ∧
    runs fs D0 = none ∧ Whole w' w.heap.size 24 #[.slice A n c, .int .i64 s, .int .i64 r] ∧ Whole w' (w.heap.size + 1) 24 #[.slice none 0 0, .int .i64 0, .int .i64 0] ∧ Below w.heap.size w w' ∧ w.heap.size + 1 + 1 ≤ w'.heap.size

/-- What has been changed so far. -/
structure RunsAt (fs : List Chg) (D0 : Dk) (base Bo : Nat) (W0 : World) (k : Nat) (W : World) : Prop where
  box : ∃ D, runs (fs.take k) D0 = some D ∧ DiskBox base W Bo D
  below : Below base W0 W

set_option maxRecDepth 100000 in
set_option maxHeartbeats 1000000 in
theorem changed_any (A : Option Addr) (n c : Nat) (s r : Int) (bs : List Nat) (B : Nat) (w : World) (hr : Rd w B A n (bv bs)) (hB : B ≤ w.heap.size) (hc : n ≤ c) (hby : ∀ x ∈ bs, x < 256)
    (fs : List Chg) (bl cl : Nat) (hbl : bl < w.heap.size) (hfs : ∀ k ch, fs[k]? = some ch → w.cell? ⟨bl, k, none⟩ = some ch.val) (hlen : fs.length ≤ 1000)
    (hok : ∀ ch ∈ fs, ChgOk (w.heap.size + 1 + 1) ((w.alloc (diskB A n c s r)).alloc zeroB) ch) :
    Calls Try.prog 49 #[diskV A n c s r, .slice (some ⟨bl, 0, none⟩) fs.length cl] w (ChangedIs (runs fs (cnt bs s r)) (cnt bs s r) w) := by
  obtain ⟨D0, hD0⟩ : ∃ D, cnt bs s r = D := ⟨_, rfl⟩
  have hD0ok : D0.Ok := by rw [← hD0]; exact cnt_ok s r hby
  have HO := Lib.hid (fun (W : World) (hW : Below w.heap.size w W) => own_any A n c s r bs B W (hr.below (hW.mono hB)) (Nat.le_trans hB hW.size) hc)
  rw [hD0] at HO ⊢
  obtain ⟨W0, hW0⟩ : ∃ W, (w.alloc (diskB A n c s r)).alloc zeroB = W := ⟨_, rfl⟩
  rw [hW0] at hok
  have hs0 : W0.heap.size = w.heap.size + 1 + 1 := by rw [← hW0]; simp
  have hb0 : Below w.heap.size w W0 := by rw [← hW0]; exact ((Below.refl _ w).alloc (Nat.le_refl _) _).alloc (by simp) _
  rw [← hs0] at hok
  have HOK := Lib.hid hok
  have HFS := Lib.hid hfs
  have HB0 := Lib.hid hb0
  have HS0 := Lib.hid hs0
  have HD0 := Lib.hid hD0ok
  have hwx : Whole W0 w.heap.size 24 #[.slice A n c, .int .i64 s, .int .i64 r] := by rw [← hW0]; exact (Whole.new w _ _).alloc _
  have hwy : Whole W0 (w.heap.size + 1) 24 #[.slice none 0 0, .int .i64 0, .int .i64 0] := by
    rw [← hW0]; have := Whole.new (w.alloc (diskB A n c s r)) 24 #[.slice none 0 0, .int .i64 0, .int .i64 0]; simpa using this
  have HWX := Lib.hid hwx
  have HWY := Lib.hid hwy
  have HW0 := Lib.hid hW0
  clear hok hfs hb0 hs0 hD0ok hwx hwy hW0 hD0 hr hby
  go_enter Try.func49, Try.ntmps49
  go_wp2_with fail
  refine wp_scope_fwd 0 (FullAt fs D0 A n c s r bl cl w) rfl ?first ?tail
  case tail =>
    rintro a' w' ⟨u3, u5, u6, u7, u8, u9, u10, u11, u12, u13, u14, u15, u16, u17, u18, u19, u20, u21, u22, u23, rfl, hf, hx, hy, hb, hs⟩
    have x0 := hx.cell 0
    have x1 := hx.cell 1
    have x2 := hx.cell 2
    simp only [List.getElem?_toArray, List.getElem?_cons_zero, List.getElem?_cons_succ] at x0 x1 x2
    have HY := Lib.hid hy
    have HB := Lib.hid hb
    have HF := Lib.hid hf
    clear hx hy hb hf
    go_wp2_with fail
    refine (HO.out _ HB.out).mono ?_
    rintro e w2 ⟨A2, c2, rfl, o2, b2⟩
    have hy2 := HY.out.under b2
    have y0 := hy2.frozen 0
    have y1 := hy2.frozen 1
    have y2 := hy2.frozen 2
    have z0 := hy2.cell 0
    have z1 := hy2.cell 1
    have z2 := hy2.cell 2
    simp only [List.getElem?_toArray, List.getElem?_cons_zero, List.getElem?_cons_succ] at z0 z1 z2
    have HY2 := Lib.hid hy2
    have HB2 := Lib.hid (HB.out.trans (b2.mono HB.out.size))
    have O2 := Lib.hid o2
    clear hy2 o2 b2 x0 x1 x2
    go_wp2_with fail
    simp only [Exit.jump]
    have hz := HY2.out.disk (.slice A2 D0.bs.length c2) (.int .i64 D0.syn) (.int .i64 D0.room)
    have p0 := hz.cell 0
    have p1 := hz.cell 1
    have p2 := hz.cell 2
    simp at p0 p1 p2
    rw [HF.out]
    refine bodyPost_ret (v := .tuple #[diskV A2 D0.bs.length c2 D0.syn D0.room, .int .i64 30]) (by simp [results, Try.results49, go_sem, p0, p1, p2]) rfl ⟨A2, c2, rfl, ?_, ?_⟩
    · exact own_weaker (own_setDisk O2.out (b := w.heap.size + 1) (by omega) _ _ _) HB.out.size
    · exact below_setDisk HB2.out (b := w.heap.size + 1) (Nat.le_succ _) _ _ _
  case first =>
    have x0 := HWX.out.cell 0
    have x1 := HWX.out.cell 1
    have x2 := HWX.out.cell 2
    simp only [List.getElem?_toArray, List.getElem?_cons_zero, List.getElem?_cons_succ] at x0 x1 x2
    rw [HW0.out]
    go_wp2_with fail
    refine (HO.out _ HB0.out).mono ?_
    rintro e w2 ⟨A2, c2, rfl, o2, b2⟩
    obtain ⟨W3, hW3⟩ : ∃ W, w2.alloc (diskB A2 D0.bs.length c2 D0.syn D0.room) = W := ⟨_, rfl⟩
    have b3 : Below W0.heap.size W0 W3 := by rw [← hW3]; exact b2.alloc b2.size _
    have hbox : DiskBox W0.heap.size W3 w2.heap.size D0 := by
      rw [← hW3]; exact ⟨A2, c2, Whole.new w2 _ _, o2.alloc _, HD0.out⟩
    have hrun : RunsAt fs D0 W0.heap.size w2.heap.size W0 0 W3 := ⟨⟨D0, rfl, hbox⟩, b3⟩
    have hbo : W0.heap.size ≤ w2.heap.size := b2.size
    have HR := Lib.hid hrun
    clear b3 hbox hrun x0 x1 x2 o2 b2
    go_wp2_with fail
    clear hW3
    go_loopw [13] (fun i wr => ∃ k : Nat, i = .int .i64 (k : Int) ∧ k ≤ fs.length ∧ RunsAt fs D0 W0.heap.size w2.heap.size W0 k wr) (fun i _ => fs.length - (intOf i).toNat)
    case atStart => exact ⟨0, rfl, Nat.zero_le _, HR.out⟩
    case round =>
      obtain ⟨k, rfl, hk, hR⟩ := hrel
      rcases Nat.eq_or_lt_of_le hk with rfl | hlt
      · obtain ⟨⟨D, hD, A3, c3, hwh, hown, hDok⟩, hbel⟩ := hR
        have hs0 := HS0.out
        rw [List.take_length] at hD
        have x0 := hwh.cell 0
        have x1 := hwh.cell 1
        have x2 := hwh.cell 2
        simp only [List.getElem?_toArray, List.getElem?_cons_zero, List.getElem?_cons_succ] at x0 x1 x2
        have hy := HWY.out.below hbel (by omega)
        have y0 := hy.frozen 0
        have y1 := hy.frozen 1
        have y2 := hy.frozen 2
        have z0 := hy.cell 0
        have z1 := hy.cell 1
        have z2 := hy.cell 2
        simp only [List.getElem?_toArray, List.getElem?_cons_zero, List.getElem?_cons_succ] at z0 z1 z2
        have HY := Lib.hid hy
        have HD := Lib.hid hD
        have HOW := Lib.hid hown
        have HBL := Lib.hid (HB0.out.trans (hbel.mono HB0.out.size))
        clear hwh hy hD hown hbel HR
        go_wp2_with fail
        simp only [Exit.jump]
        have hz := HY.out.disk (.slice A3 D.bs.length c3) (.int .i64 D.syn) (.int .i64 D.room)
        have p0 := hz.cell 0
        have p1 := hz.cell 1
        have p2 := hz.cell 2
        simp at p0 p1 p2
        rw [HD.out]
        refine bodyPost_ret (v := .tuple #[diskV A3 D.bs.length c3 D.syn D.room, .int .i64 0]) (by simp [results, Try.results49, go_sem, p0, p1, p2]) rfl ⟨A3, c3, rfl, ?_, ?_⟩
        · exact own_weaker (own_setDisk HOW.out (b := w.heap.size + 1) (by omega) _ _ _) (by omega)
        · exact below_setDisk HBL.out (b := w.heap.size + 1) (Nat.le_succ _) _ _ _
      · obtain ⟨ch, hch⟩ : ∃ ch, fs[k]? = some ch := ⟨_, List.getElem?_eq_getElem hlt⟩
        obtain ⟨⟨D, hD, hbox⟩, hbel⟩ := hR
        have hcell := (hbel.cell (p := ⟨bl, k, none⟩) (by have := HS0.out; simp; omega)).trans ((HB0.out.cell (p := ⟨bl, k, none⟩) hbl).trans (HFS.out k ch hch))
        have hCO := HOK.out ch (List.mem_of_getElem? hch)
        have hdo := hCO.does wr w2.heap.size D hbel hbo hbox
        have hent := hCO.enters
        have hlt' : (k : Int) < (fs.length : Int) := by omega
        have HDO := Lib.hid hdo
        have HD := Lib.hid hD
        have HCH := Lib.hid hch
        have HBL := Lib.hid hbel
        clear hdo hD hch hbel hbox hCO HR
        obtain ⟨fn, caps, f⟩ := ch
        simp only [Chg.val] at hcell hent HDO HCH
        go_wp2_with fail
        refine (HDO.out).mono ?_
        rintro e w4 ⟨b4, hp⟩
        have hb4 := HBL.out.trans b4
        cases hf : f D with
        | none =>
          rw [hf] at hp
          obtain rfl := hp
          have hs0 := HS0.out
          have hx4 := HWX.out.below hb4 (by omega)
          have hy4 := HWY.out.below hb4 (by omega)
          have hb5 := HB0.out.trans (hb4.mono HB0.out.size)
          have hn : runs fs D0 = none := runs_none (k := k + 1) (by rw [runs_take HCH.out HD.out]; exact hf)
          have hs4 : w.heap.size + 1 + 1 ≤ w4.heap.size := by have := hb4.size; omega
          have HN := Lib.hid hn
          have HX4 := Lib.hid hx4
          have HY4 := Lib.hid hy4
          have HB5 := Lib.hid hb5
          clear hn hx4 hy4 hb5 hb4 b4 hf hs0 hcell hent
          go_wp2_with fail
          refine wp_goto ?_
          exact ⟨rfl, _, _, _, _, _, _, _, _, _, _, _, _, _, _, _, _, _, _, _, _, rfl, HN.out, HX4.out, HY4.out, HB5.out, hs4⟩
        | some D1 =>
          rw [hf] at hp
          obtain ⟨rfl, hbox4⟩ := hp
          have hrn : RunsAt fs D0 W0.heap.size w2.heap.size W0 (k + 1) w4 := ⟨⟨D1, by rw [runs_take HCH.out HD.out]; exact hf, hbox4⟩, hb4⟩
          have HRN := Lib.hid hrn
          clear hrn hbox4 hb4 b4 hf hcell hent
          go_wp2_with fail
          go_roundw
          case rel => exact ⟨k + 1, by go_num, by omega, HRN.out⟩
          case measure => simp [intOf]; omega

end Go.Proofs.Ytbkfpghpfaemeaa

/-
  The changes of package disk: 'secure', 'wipe', 'lose', as what 'changed' may be handed. Conditions: those that each theorem names.
-/
namespace Go.Proofs.Ytbkfpghpfaemeaa
open Go.RowKit Go.Shelf

/-- What is safe; what is empty; what is lost. -/
def secureD (D : Dk) : Dk := ⟨D.bs, D.bs.length, D.room⟩
def wipeD (D : Dk) : Dk := ⟨[], 0, D.room⟩
def loseN (keep : Int) (D : Dk) : Nat := D.syn + clampN keep (D.bs.length - D.syn)
def loseD (keep : Int) (D : Dk) : Dk := ⟨D.bs.take (loseN keep D), D.syn, D.room⟩
set_option maxRecDepth 100000 in
theorem secure_ok {D : Dk} (h : D.Ok) : (secureD D).Ok := ⟨Nat.le_refl _, h.len, h.room, h.byte⟩
set_option maxRecDepth 100000 in
theorem wipe_ok {D : Dk} (h : D.Ok) : (wipeD D).Ok := ⟨Nat.le_refl _, Nat.zero_le _, h.room, by simp [wipeD]⟩
set_option maxRecDepth 100000 in
theorem loseN_le {D : Dk} (h : D.Ok) (keep : Int) : loseN keep D ≤ D.bs.length := by have h1 := clampN_le keep (D.bs.length - D.syn); have h2 := h.syn; unfold loseN; omega
set_option maxRecDepth 100000 in
theorem loseD_len {D : Dk} (h : D.Ok) (keep : Int) : (loseD keep D).bs.length = loseN keep D := by have := loseN_le h keep; simp only [loseD, List.length_take]; omega
set_option maxRecDepth 100000 in
theorem lose_ok {D : Dk} (h : D.Ok) (keep : Int) : (loseD keep D).Ok := by
  have h1 := loseD_len h keep
  have h2 := loseN_le h keep
  exact ⟨by rw [h1]; exact Nat.le_add_right _ _, by rw [h1]; have := h.len; simp only [loseD]; omega, h.room, fun x hx => h.byte x (List.mem_of_mem_take hx)⟩

set_option maxRecDepth 100000 in
theorem own_head {w : World} {base : Nat} {A : Option Addr} {n c k : Nat} {bs : List Nat} (h : w.ownsRow base 5 1 (.slice A n c) n (bv bs)) (hk : k ≤ n) : w.ownsRow base 5 1 (.slice A k c) k (bv (bs.take k)) := by
  obtain ⟨h1, h2⟩ := h
  rw [bv_length, Nat.mul_one] at h1
  refine ⟨by rw [bv_length, List.length_take]; omega, ?_⟩
  rcases h2 with ⟨e, h0⟩ | ⟨g, cap, cur, e, hg, hh, hn, hm, hs, hx⟩
  · obtain rfl : k = 0 := by omega
    subst h0
    exact .inl ⟨e, rfl⟩
  · injection e with eA _ ec
    subst eA; subst ec
    refine .inr ⟨g, c, cur, rfl, hg, hh, by omega, hm, hs, ?_⟩
    rw [Nat.mul_one] at hx ⊢
    have h3 : (cur.toList.take n).take k = cur.toList.take k := by rw [List.take_take]; congr 1; omega
    rw [← h3, hx, bv, bv, List.map_take]

set_option maxRecDepth 100000 in
set_option maxHeartbeats 400000 in
theorem secure_chg (base : Nat) (w0 : World) : ChgOk base w0 ⟨54, #[], fun D => some (secureD D)⟩ := by
  refine ⟨enters_of Try.func54 (by kernel_rfl) rfl, ?_⟩
  rintro W Bo D hb hbo ⟨A, c, hw, ho, hok⟩
  have x0 := hw.cell 0
  have x1 := hw.cell 1
  have f1 := hw.frozen 1
  simp only [List.getElem?_toArray, List.getElem?_cons_zero, List.getElem?_cons_succ] at x0 x1
  have HW := Lib.hid hw
  have HO := Lib.hid ho
  have HK := Lib.hid hok
  clear hw ho hok hb
  show Calls Try.prog 54 #[.pointer (some ⟨Bo, 0, none⟩)] W _
  go_enter Try.func54, Try.ntmps54
  go_wp2_with fail
  go_ret
  refine ⟨(Below.refl _ _).setCell (p := ⟨Bo, 1, none⟩) hbo _, rfl, A, c, ?_, ?_, secure_ok HK.out⟩
  · have := HW.out.set 1 (.int .i64 D.bs.length)
    simpa [secureD] using this
  · exact ownsRow_setCell_other (a := ⟨Bo, 1, none⟩) HO.out (own_apart_of (by decide) HO.out HW.out) _

set_option maxRecDepth 100000 in
set_option maxHeartbeats 400000 in
theorem wipe_chg (base : Nat) (w0 : World) : ChgOk base w0 ⟨53, #[], fun D => some (wipeD D)⟩ := by
  refine ⟨enters_of Try.func53 (by kernel_rfl) rfl, ?_⟩
  rintro W Bo D hb hbo ⟨A, c, hw, ho, hok⟩
  have x0 := hw.cell 0
  have x1 := hw.cell 1
  have f0 := hw.frozen 0
  have f1 := hw.frozen 1
  simp only [List.getElem?_toArray, List.getElem?_cons_zero, List.getElem?_cons_succ] at x0 x1
  have HW := Lib.hid hw
  have HO := Lib.hid ho
  have HK := Lib.hid hok
  clear hw ho hok hb
  show Calls Try.prog 53 #[.pointer (some ⟨Bo, 0, none⟩)] W _
  go_enter Try.func53, Try.ntmps53
  go_wp2_with fail
  go_ret
  refine ⟨((Below.refl _ _).setCell (p := ⟨Bo, 0, none⟩) hbo _).setCell (p := ⟨Bo, 1, none⟩) hbo _, rfl, none, 0, ?_, World.ownsRow_nil _ _ _ _, wipe_ok HK.out⟩
  have := (HW.out.set 0 (.slice none 0 0)).set 1 (.int .i64 0)
  simpa [wipeD] using this

set_option maxRecDepth 100000 in
theorem write_any (A : Option Addr) (n c : Nat) (w : World) :
    Calls Try.prog 50 #[.slice A n c] w fun e w' => e = .returned (.func (.func 67) #[] #[.pointer (some ⟨w.heap.size, 0, none⟩)]) ∧ w' = w.alloc (.cells #[.slice A n c] 22) := by
  go_enter Try.func50, Try.ntmps50
  go_wp2
  go_ret
  exact ⟨rfl, rfl⟩

end Go.Proofs.Ytbkfpghpfaemeaa

/-
  The walks of 'Free' of package disk, of 'bytes.Equal', and of the statements' 'same' and 'great'. Conditions: those that each theorem names.
-/
namespace Go.Proofs.Ytbkfpghpfaemeaa
open Go.RowKit Go.Shelf

def freeD (D : Dk) : Int := (D.room : Int) - (D.bs.length : Int)

set_option maxRecDepth 100000 in
set_option maxHeartbeats 400000 in
theorem free_any (A : Option Addr) (n c : Nat) (s r : Int) (bs : List Nat) (B : Nat) (w : World) (hr : Rd w B A n (bv bs)) (hB : B ≤ w.heap.size) (hc : n ≤ c) {D : Dk} (hD : cnt bs s r = D) :
    Calls Try.prog 69 #[diskV A n c s r] w fun e w' => e = .returned (.int .i64 (freeD D)) ∧ Below w.heap.size w w' := by
  have hl : D.room ≤ 65536 ∧ D.bs.length ≤ D.room := by
    rw [← hD]
    refine ⟨clampN_le _ _, ?_⟩
    simp only [cnt, List.length_take]; omega
  have hb0 : Below w.heap.size w (w.alloc (diskB A n c s r)) := (Below.refl _ w).alloc (Nat.le_refl _) _
  have hC := counted_any A n c s r bs B (w.alloc (diskB A n c s r)) (hr.below (hb0.mono hB)) hc
  rw [hD] at hC
  have HC := Lib.hid hC
  have hl1 := hl.1
  have hl2 := hl.2
  have hb4 : Below w.heap.size w (((w.alloc (diskB A D.bs.length c D.syn D.room)).alloc (diskB A D.bs.length c D.syn D.room)).alloc (diskB A D.bs.length c D.syn D.room)) := (((Below.refl _ w).alloc (Nat.le_refl _) _).alloc (by simp) _).alloc (by simp; omega) _
  have HB4 := Lib.hid hb4
  clear hr hD hC hb0 hl hb4
  go_enter Try.func69, Try.ntmps69
  go_wp2_with fail
  refine (HC.out).mono ?_
  rintro e w1 ⟨rfl, rfl⟩
  go_wp2_with fail
  go_ret
  exact ⟨rfl, HB4.out⟩

set_option maxRecDepth 100000 in
set_option maxHeartbeats 400000 in
theorem equal_bytes (A A' : Option Addr) (n c n' c' : Nat) (a b : List Nat) (B B' : Nat) (w : World) (hr : Rd w B A n (bv a)) (hr' : Rd w B' A' n' (bv b)) (ha : ∀ x ∈ a, x < 256) (hb : ∀ x ∈ b, x < 256) :
    Calls Try.prog 88 #[.slice A n c, .slice A' n' c'] w fun e w' => e = .returned (.bool (decide (a = b))) ∧ w' = w := by
  have h1 := run_string w A n c a B hr
  have h2 := run_string w A' n' c' b B' hr'
  have HE := Lib.hid (strB_inj ha hb)
  obtain ⟨s1, hs1⟩ : ∃ s, strB a = s := ⟨_, rfl⟩
  obtain ⟨s2, hs2⟩ : ∃ s, strB b = s := ⟨_, rfl⟩
  rw [hs1] at h1 HE
  rw [hs2] at h2 HE
  clear hr hr' hs1 hs2 ha hb
  go_enter Try.func88, Try.ntmps88
  go_wp2_with fail
  go_ret
  exact ⟨by rw [← HE.out]; rfl, rfl⟩

end Go.Proofs.Ytbkfpghpfaemeaa

/-
  A region that draws its order, by an invariant: what holds behind any operations that have come up. One step a operation, whatever the order. Conditions: those that each theorem names.
-/
namespace Go.Proofs.Ytbkfpghpfaemeaa
open Go.RowKit Go.Shelf

section
variable {P : Program} {ops : Array Oper} {Q : Exit → Act → World → Prop}

/-- Every operation waits only for operations that stand ahead of it. -/
def lowOnly (ops : Array Oper) : Bool := (List.range ops.size).all fun i => ((ops[i]?).map (·.after.all fun e => !Region.binds .any e || decide (e.on < i))).getD true

set_option maxRecDepth 100000 in
theorem lowOnly_at (h : lowOnly ops = true) {i : Nat} {o : Oper} (ho : ops[i]? = some o) : ∀ e ∈ o.after, Region.binds .any e = true → e.on < i := by
  intro e he hb
  have hlt : i < ops.size := (Array.getElem?_eq_some_iff.1 ho).1
  have h1 := List.all_eq_true.1 h i (List.mem_range.2 hlt)
  simp only [ho, Option.map_some, Option.getD_some, Array.all_eq_true_iff_forall_mem] at h1
  have h2 := h1 e he
  simpa [hb] using h2

set_option maxRecDepth 100000 in
theorem ready_none {listed : Array Bool} (hl : lowOnly ops = true) (hs : listed.size = ops.size) (h : Region.ready .any ops listed = []) : ∀ n i, i < n → i < ops.size → listed.getD i false = true := by
  intro n
  induction n with
  | zero => intro i h; omega
  | succ n ih =>
    intro i hi hlt
    cases hv : listed.getD i false with
    | true => rfl
    | false =>
      exfalso
      have hm : i ∈ Region.ready .any ops listed := by
        refine mem_ready.2 ⟨?_, ops[i], Array.getElem?_eq_getElem hlt, fun e he hb => ?_⟩
        · have : i < listed.size := by omega
          simp [this] at hv ⊢
          exact hv
        · have := lowOnly_at hl (Array.getElem?_eq_getElem hlt) e he hb
          exact ih e.on (by omega) (by omega)
      rw [h] at hm
      cases hm

set_option maxRecDepth 100000 in
theorem count_zero_all {l : List Bool} (h : l.count false = 0) : ∀ i, i < l.length → l[i]? = some true := by
  intro i hi
  rw [List.getElem?_eq_getElem hi]
  cases hv : l[i] with
  | true => rfl
  | false => exact absurd (List.getElem_mem hi) (by rw [hv]; exact List.count_eq_zero.1 h)

set_option maxRecDepth 100000 in
theorem set_L {listed : Array Bool} {i : Nat} (hi : i < listed.size) : (fun j => (listed.setIfInBounds i true).getD j false) = fun j => if j = i then true else listed.getD j false := by
  funext j
  by_cases h : j = i
  · subst h; simp [hi]
  · rw [if_neg h, getD_set_ne false (Ne.symm h)]

set_option maxRecDepth 100000 in
theorem count_set {listed : Array Bool} {i : Nat} (h : listed.getD i true = false) : (listed.setIfInBounds i true).toList.count false < listed.toList.count false := by
  have hi : i < listed.size := by
    rcases Nat.lt_or_ge i listed.size with h' | h'
    · exact h'
    · simp [Array.getElem?_eq_none h'] at h
  have hv : listed.toList[i]'(by simpa using hi) = false := by simpa [hi] using h
  have hpos : 0 < listed.toList.count false := List.count_pos_iff.2 (hv ▸ List.getElem_mem _)
  rw [Array.toList_setIfInBounds, List.count_set (by simpa using hi)]
  simp only [hv]
  simp only [beq_self_eq_true, if_true, show ((true == false) = true) = False by simp, if_false]
  omega

set_option maxRecDepth 100000 in
theorem wpAny_inv (hl : lowOnly ops = true) (Φ : (Nat → Bool) → Act → World → Prop)
    (step : ∀ i o L a w, ops[i]? = some o → L i = false → (∀ e ∈ o.after, Region.binds .any e = true → L e.on = true) → Φ L a w → wpOp P ops Q i (Φ (fun j => if j = i then true else L j)) a w)
    (fin : ∀ L a w, (∀ i, i < ops.size → L i = true) → Φ L a w → Q .normal a w) :
    ∀ (fuel : Nat) (listed : Array Bool) (a : Act) (w : World), listed.size = ops.size → listed.toList.count false ≤ fuel → Φ (fun j => listed.getD j false) a w → wpAny P .any ops Q fuel listed a w := by
  intro fuel
  induction fuel with
  | zero =>
    intro listed a w hs hc hΦ
    have hall := count_zero_all (Nat.le_zero.1 hc)
    have hall' : ∀ i, i < ops.size → listed.getD i false = true := fun i hi => by
      have := hall i (by simp; omega)
      simp at this
      simp [this]
    refine ⟨?_, fin _ _ _ hall' hΦ⟩
    refine List.eq_nil_iff_forall_not_mem.2 fun i hm => ?_
    obtain ⟨h1, o, ho, _⟩ := mem_ready.1 hm
    have hlt : i < ops.size := (Array.getElem?_eq_some_iff.1 ho).1
    have h2 := hall' i hlt
    have : i < listed.size := by omega
    simp [this] at h1 h2
    rw [h1] at h2; cases h2
  | succ fuel ih =>
    intro listed a w hs hc hΦ
    refine ⟨fun h0 => fin _ _ _ (fun i hi => ready_none hl hs h0 (i + 1) i (by omega) hi) hΦ, fun i hi => ?_⟩
    obtain ⟨h1, o, ho, hall⟩ := mem_ready.1 hi
    have hlt : i < listed.size := by have := (Array.getElem?_eq_some_iff.1 ho).1; omega
    refine wpOp_mono (fun a' w' h => ih (listed.setIfInBounds i true) a' w' (by simpa using hs) ?_ (by rw [set_L hlt]; exact h)) (step i o _ a w ho (by simp [hlt] at h1 ⊢; exact h1) hall hΦ)
    have := count_set h1
    omega

set_option maxRecDepth 100000 in
theorem region_inv {id : Nat} {a : Act} {w : World} (hm : P.follows .mixedOrders = true) (hl : lowOnly ops = true) (Φ : (Nat → Bool) → Act → World → Prop) (h0 : Φ (fun _ => false) a w.drew)
    (step : ∀ i o L a w, ops[i]? = some o → L i = false → (∀ e ∈ o.after, Region.binds .any e = true → L e.on = true) → Φ L a w → wpOp P ops Q i (Φ (fun j => if j = i then true else L j)) a w)
    (fin : ∀ L a w, (∀ i, i < ops.size → L i = true) → Φ L a w → Q .normal a w) : (Code.region id ops true).wp P Q a w := by
  refine wp_region_any hm (wpAny_inv hl Φ step fin _ _ _ _ (by simp) ?_ ?_)
  · simp
  · have e : (fun j => (Array.replicate ops.size false).getD j false) = fun _ => false := by
      funext j
      by_cases h : j < ops.size <;> simp [h]
    rw [e]
    exact h0

/-- What has come up has come up behind what it waits for. -/
def Clo (ops : Array Oper) (L : Nat → Bool) : Prop := ∀ i o, ops[i]? = some o → L i = true → ∀ e ∈ o.after, Region.binds .any e = true → L e.on = true

set_option maxRecDepth 100000 in
/-- The same, and the steps know that what has come up has come up behind what it waits for. -/
theorem region_clo {id : Nat} {a : Act} {w : World} (hm : P.follows .mixedOrders = true) (hl : lowOnly ops = true) (Φ : (Nat → Bool) → Act → World → Prop) (h0 : Φ (fun _ => false) a w.drew)
    (step : ∀ i o L a w, ops[i]? = some o → L i = false → Clo ops L → (∀ e ∈ o.after, Region.binds .any e = true → L e.on = true) → Φ L a w → wpOp P ops Q i (Φ (fun j => if j = i then true else L j)) a w)
    (fin : ∀ L a w, (∀ i, i < ops.size → L i = true) → Φ L a w → Q .normal a w) : (Code.region id ops true).wp P Q a w := by
  refine region_inv hm hl (fun L a w => Clo ops L ∧ Φ L a w) ⟨fun _ _ _ h => (by cases h), h0⟩ ?_ (fun L a w hall h => fin L a w hall h.2)
  intro i o L a w ho hi hall h
  refine wpOp_mono (fun a' w' h' => ⟨?_, h'⟩) (step i o L a w ho hi h.1 hall h.2)
  intro j o' ho' hj e he hb
  by_cases hji : j = i
  · subst hji
    rw [ho] at ho'
    injection ho' with e'
    subst e'
    simp [hall e he hb]
  · have := h.1 j o' ho' (by simpa [hji] using hj) e he hb
    simp [this]

/-- Operation i of these is that one, without a guard, and waits for those. -/
def At (ops : Array Oper) (i : Nat) (dst : Option Tmp) (op : Op) (t : TypeId) (js : List Nat) : Prop :=
  ∃ o, ops[i]? = some o ∧ o.dst = dst ∧ o.op = op ∧ o.type = t ∧ o.guard = none ∧ (js.all fun j => o.after.any fun e => Region.binds .any e && e.on == j) = true

set_option maxRecDepth 100000 in
theorem At.needs {i : Nat} {dst : Option Tmp} {op : Op} {t : TypeId} {js : List Nat} (h : At ops i dst op t js) {o : Oper} (ho : ops[i]? = some o) {L : Nat → Bool} (hall : ∀ e ∈ o.after, Region.binds .any e = true → L e.on = true) : ∀ j ∈ js, L j = true := by
  obtain ⟨o', ho', _, _, _, _, hj⟩ := h
  rw [ho] at ho'
  injection ho' with e
  subst e
  intro j hjs
  have h1 := List.all_eq_true.1 hj j hjs
  rw [Array.any_eq_true'] at h1
  obtain ⟨e, he, h2⟩ := h1
  simp only [Bool.and_eq_true, beq_iff_eq] at h2
  rw [← h2.2]
  exact hall e he h2.1

set_option maxRecDepth 100000 in
theorem At.clo {i : Nat} {dst : Option Tmp} {op : Op} {t : TypeId} {js : List Nat} (h : At ops i dst op t js) {L : Nat → Bool} (hc : Clo ops L) (hi : L i = true) : ∀ j ∈ js, L j = true := by
  obtain ⟨o, ho, _⟩ := id h
  exact h.needs ho (hc i o ho hi)
set_option maxRecDepth 100000 in
theorem At.not {i : Nat} {dst : Option Tmp} {op : Op} {t : TypeId} {js : List Nat} (h : At ops i dst op t js) {L : Nat → Bool} (hc : Clo ops L) {j : Nat} (hj : j ∈ js) (hn : L j = false) : L i = false := by
  cases hv : L i with
  | false => rfl
  | true => have := h.clo hc hv j hj; rw [hn] at this; cases this

set_option maxRecDepth 100000 in
theorem At.run {i : Nat} {dst : Option Tmp} {op : Op} {t : TypeId} {js : List Nat} (h : At ops i dst op t js) {K : Act → World → Prop} {a : Act} {w : World}
    (hr : ∀ pos after, ({ dst := dst, op := op, type := t, pos := pos, after := after, guard := none } : Oper).wp P a w K Q) : wpOp P ops Q i K a w := by
  obtain ⟨o, ho, h1, h2, h3, h4, _⟩ := h
  unfold wpOp
  rw [ho]
  dsimp only
  rw [if_pos (by unfold Region.wanted; rw [h4])]
  left
  subst h1; subst h2; subst h3
  have := hr o.pos o.after
  rw [← h4] at this
  exact this

/-- What one frame has in common with another: all but these slots. -/
structure Agree (ds : List Nat) (a0 a : Act) : Prop where
  defers : a.defers = a0.defers
  size : a.tmps.size = a0.tmps.size
  out : ∀ t, t ∉ ds → a.tmps[t]? = a0.tmps[t]?

set_option maxRecDepth 100000 in
theorem Agree.refl (ds : List Nat) (a : Act) : Agree ds a a := ⟨rfl, rfl, fun _ _ => rfl⟩
set_option maxRecDepth 100000 in
theorem Agree.put {ds : List Nat} {a0 a : Act} (h : Agree ds a0 a) {d : Nat} (hd : d ∈ ds) (v : Value) : Agree ds a0 (a.put (some d) v) :=
  ⟨h.defers, by simpa [Act.put] using h.size, fun t ht => by
    have hne : d ≠ t := fun e => ht (e ▸ hd)
    simp only [Act.put]
    rw [Array.getElem?_setIfInBounds_ne hne]
    exact h.out t ht⟩
set_option maxRecDepth 100000 in
theorem Agree.eval {ds : List Nat} {a0 a : Act} (h : Agree ds a0 a) {t : Nat} (ht : t ∉ ds) : a.eval (.tmp t) = a0.eval (.tmp t) := by
  simp only [Act.eval, Array.getD_eq_getD_getElem?, h.out t ht]
set_option maxRecDepth 100000 in
theorem eval_new {a : Act} {d : Nat} (hd : d < a.tmps.size) (v : Value) : (a.put (some d) v).eval (.tmp d) = v := by
  simp [Act.eval, Act.put, hd]
set_option maxRecDepth 100000 in
theorem eval_old {a : Act} {d t : Nat} (hne : d ≠ t) (v : Value) : (a.put (some d) v).eval (.tmp t) = a.eval (.tmp t) :=
  Act.eval_put (dst := some d) fun d' e h => hne (by injection e with e; injection h with h; rw [e, h])

/-- The frame laid anew. -/
def lay (σ : Nat → Value) (ds : List Nat) (a : Act) : Act := ds.foldl (fun a d => a.put (some d) (σ d)) a
set_option maxRecDepth 100000 in
theorem lay_defers (σ : Nat → Value) (ds : List Nat) (a : Act) : (lay σ ds a).defers = a.defers := by
  induction ds generalizing a with
  | nil => rfl
  | cons d ds ih => exact (ih _).trans rfl
set_option maxRecDepth 100000 in
theorem lay_size (σ : Nat → Value) (ds : List Nat) (a : Act) : (lay σ ds a).tmps.size = a.tmps.size := by
  induction ds generalizing a with
  | nil => rfl
  | cons d ds ih => exact (ih _).trans (by simp [Act.put])
set_option maxRecDepth 100000 in
theorem lay_out (σ : Nat → Value) (ds : List Nat) (a : Act) (t : Nat) (ht : t ∉ ds) : (lay σ ds a).tmps[t]? = a.tmps[t]? := by
  induction ds generalizing a with
  | nil => rfl
  | cons d ds ih =>
    refine (ih _ fun h => ht (List.mem_cons_of_mem _ h)).trans ?_
    have hne : d ≠ t := fun e => ht (e ▸ List.mem_cons_self ..)
    simp only [Act.put]
    rw [Array.getElem?_setIfInBounds_ne hne]
set_option maxRecDepth 100000 in
theorem lay_in (σ : Nat → Value) (ds : List Nat) (a : Act) (t : Nat) (ht : t ∈ ds) (hs : t < a.tmps.size) : (lay σ ds a).tmps[t]? = some (σ t) := by
  induction ds generalizing a with
  | nil => cases ht
  | cons d ds ih =>
    by_cases h : t ∈ ds
    · exact ih _ h (by simpa [Act.put] using hs)
    · have e : t = d := by simpa [h] using ht
      subst e
      refine (lay_out σ ds _ t h).trans ?_
      simp [Act.put, hs]
set_option maxRecDepth 100000 in
theorem Agree.lay {ds : List Nat} {a0 a : Act} (h : Agree ds a0 a) (hds : ∀ d ∈ ds, d < a0.tmps.size) : a = lay (fun d => a.eval (.tmp d)) ds a0 := by
  have ht : a.tmps = (Proofs.Ytbkfpghpfaemeaa.lay (fun d => a.eval (.tmp d)) ds a0).tmps := by
    refine Array.ext_getElem? fun t => ?_
    by_cases hm : t ∈ ds
    · have hlt : t < a.tmps.size := by rw [h.size]; exact hds t hm
      rw [lay_in _ _ _ _ hm (hds t hm)]
      simp [Act.eval, hlt]
    · rw [lay_out _ _ _ _ hm, h.out t hm]
  have hd := (lay_defers (fun d => a.eval (.tmp d)) ds a0)
  cases a with
  | mk tm df =>
    cases hl : Proofs.Ytbkfpghpfaemeaa.lay (fun d => ({ tmps := tm, defers := df } : Act).eval (.tmp d)) ds a0 with
    | mk tm' df' =>
      rw [hl] at ht hd
      have := h.defers
      simp only at ht hd this
      rw [ht, hd, this]

end

end Go.Proofs.Ytbkfpghpfaemeaa

/-
  A region that draws its order, inside a round of a range over a function, by an invariant: one step an operation, whatever the order. Conditions: those that each theorem names.
-/
namespace Go.Proofs.Ytbkfpghpfaemeaa
open Go.RowKit Go.Shelf

section
variable {F : Fence} {m : Nat} {P : Program} {ops : Array Oper} {Q : Exit → Act → World → Prop}

set_option maxRecDepth 100000 in
theorem wpAnyIn_inv (hl : lowOnly ops = true) (Φ : (Nat → Bool) → Act → World → Prop)
    (step : ∀ i o L a w, ops[i]? = some o → L i = false → (∀ e ∈ o.after, Region.binds .any e = true → L e.on = true) → Φ L a w → wpOpIn F m P ops Q i (Φ (fun j => if j = i then true else L j)) a w)
    (fin : ∀ L a w, (∀ i, i < ops.size → L i = true) → Φ L a w → Q .normal a w) :
    ∀ (fuel : Nat) (listed : Array Bool) (a : Act) (w : World), listed.size = ops.size → listed.toList.count false ≤ fuel → Φ (fun j => listed.getD j false) a w → wpAnyIn F m P .any ops Q fuel listed a w := by
  intro fuel
  induction fuel with
  | zero =>
    intro listed a w hs hc hΦ
    have hall := count_zero_all (Nat.le_zero.1 hc)
    have hall' : ∀ i, i < ops.size → listed.getD i false = true := fun i hi => by
      have := hall i (by simp; omega)
      simp at this
      simp [this]
    refine ⟨?_, fin _ _ _ hall' hΦ⟩
    refine List.eq_nil_iff_forall_not_mem.2 fun i hm => ?_
    obtain ⟨h1, o, ho, _⟩ := mem_ready.1 hm
    have hlt : i < ops.size := (Array.getElem?_eq_some_iff.1 ho).1
    have h2 := hall' i hlt
    have : i < listed.size := by omega
    simp [this] at h1 h2
    rw [h1] at h2; cases h2
  | succ fuel ih =>
    intro listed a w hs hc hΦ
    refine ⟨fun h0 => fin _ _ _ (fun i hi => ready_none hl hs h0 (i + 1) i (by omega) hi) hΦ, fun i hi => ?_⟩
    obtain ⟨h1, o, ho, hall⟩ := mem_ready.1 hi
    have hlt : i < listed.size := by have := (Array.getElem?_eq_some_iff.1 ho).1; omega
    refine wpOpIn_mono (fun a' w' h => ih (listed.setIfInBounds i true) a' w' (by simpa using hs) ?_ (by rw [set_L hlt]; exact h)) (step i o _ a w ho (by simp [hlt] at h1 ⊢; exact h1) hall hΦ)
    have := count_set h1
    omega

set_option maxRecDepth 100000 in
/-- The same, and the steps know that what has come up has come up behind what it waits for. -/
theorem region_cloIn {id : Nat} {a : Act} {w : World} (hm : P.follows .mixedOrders = true) (hl : lowOnly ops = true) (Φ : (Nat → Bool) → Act → World → Prop) (h0 : Φ (fun _ => false) a w.drew)
    (step : ∀ i o L a w, ops[i]? = some o → L i = false → Clo ops L → (∀ e ∈ o.after, Region.binds .any e = true → L e.on = true) → Φ L a w → wpOpIn F m P ops Q i (Φ (fun j => if j = i then true else L j)) a w)
    (fin : ∀ L a w, (∀ i, i < ops.size → L i = true) → Φ L a w → Q .normal a w) : (Code.region id ops true).wpIn F m P Q a w := by
  refine wpIn_region_any hm (wpAnyIn_inv hl (fun L a w => Clo ops L ∧ Φ L a w) ?_ (fun L a w hall h => fin L a w hall h.2) _ _ _ _ (by simp) (by simp) ?_)
  · intro i o L a w ho hi hall h
    refine wpOpIn_mono (fun a' w' h' => ⟨?_, h'⟩) (step i o L a w ho hi h.1 hall h.2)
    intro j o' ho' hj e he hb
    by_cases hji : j = i
    · subst hji
      rw [ho] at ho'
      injection ho' with e'
      subst e'
      simp [hall e he hb]
    · have := h.1 j o' ho' (by simpa [hji] using hj) e he hb
      simp [this]
  · have e : (fun j => (Array.replicate ops.size false).getD j false) = fun _ => false := by
      funext j
      by_cases h : j < ops.size <;> simp [h]
    rw [e]
    exact ⟨fun _ _ _ h => (by cases h), h0⟩

set_option maxRecDepth 100000 in
theorem At.runIn {i : Nat} {dst : Option Tmp} {op : Op} {t : TypeId} {js : List Nat} (h : At ops i dst op t js) {K : Act → World → Prop} {a : Act} {w : World}
    (hr : ∀ pos after, ({ dst := dst, op := op, type := t, pos := pos, after := after, guard := none } : Oper).wpIn F m P a w K Q) : wpOpIn F m P ops Q i K a w := by
  obtain ⟨o, ho, h1, h2, h3, h4, _⟩ := h
  unfold wpOpIn
  rw [ho]
  dsimp only
  rw [if_pos (by unfold Region.wanted; rw [h4])]
  subst h1; subst h2; subst h3
  have := hr o.pos o.after
  rw [← h4] at this
  exact this
end

section
variable {m l : Nat} {K : Act → World → Prop} {Q : Exit → Act → World → Prop} {a : Act} {w : World} {dst : Option Tmp} {t : TypeId} {pos : String} {after : Array Edge} {x y : Operand}

set_option maxRecDepth 100000 in
/-- An operation inside a round, from what it does as it stands. -/
theorem opIn_of (o : Oper) (hd : ∀ c, o.op ≠ .defer c) {v : Value} {w' : World} (hr : (execOp a.eval o).run Try.prog w = .ok (.value v) w') (h : K (a.put o.dst v) w') : o.wpIn (Fence.wide.inRound l) m Try.prog a w K Q := by
  refine ⟨fun _ _ => trivial, ?_⟩
  rw [Fence.inRound_round, Oper.semAt_some l _ _ hd, hr]
  exact h

set_option maxRecDepth 100000 in
theorem opI_load_sl {p : Addr} {A : Option Addr} {n c : Nat} (hx : a.eval x = .pointer (some p)) (hc : w.cell? p = some (.slice A n c)) (h : K (a.put dst (.slice A n c)) w) :
    ({ dst := dst, op := .load 22 x, type := t, pos := pos, after := after, guard := none } : Oper).wpIn (Fence.wide.inRound l) m Try.prog a w K Q := by
  refine opIn_of _ (by intro c; simp) ?_ h
  unfold execOp
  simp only [hx]
  go_simp
set_option maxRecDepth 100000 in
theorem opI_nil {p : Addr} (hx : a.eval x = .pointer (some p)) (h : K (a.put dst (.pointer (some p))) w) :
    ({ dst := dst, op := .nilCheck x, type := t, pos := pos, after := after, guard := none } : Oper).wpIn (Fence.wide.inRound l) m Try.prog a w K Q := by
  refine opIn_of _ (by intro c; simp) ?_ h
  unfold execOp
  simp only [hx]
  go_simp
set_option maxRecDepth 100000 in
theorem opI_move {v : Value} (hx : a.eval x = v) (h : K (a.put dst v) w) :
    ({ dst := dst, op := .move x, type := t, pos := pos, after := after, guard := none } : Oper).wpIn (Fence.wide.inRound l) m Try.prog a w K Q := by
  refine opIn_of _ (by intro c; simp) ?_ h
  unfold execOp
  simp only [hx]
  go_simp
set_option maxRecDepth 100000 in
theorem opI_append {vs vx v' : Value} {w' : World} (hx : a.eval x = vs) (hy : a.eval y = vx) (hr : (Builtin.append_ #[22, 22] t #[vs, vx]).run Try.prog w = .ok v' w') (h : K (a.put dst v') w') :
    ({ dst := dst, op := .call { callee := .builtin .append, args := #[x, y], argTypes := #[22, 22] }, type := t, pos := pos, after := after, guard := none } : Oper).wpIn (Fence.wide.inRound l) m Try.prog a w K Q := by
  refine opIn_of _ (by intro c; simp) (v := v') (w' := w') ?_ h
  unfold execOp
  simp only [resolve, invoke, builtin, Sem.run_bind, Sem.run_pure, Result.andThen_ok, List.map_toArray, List.map_cons, List.map_nil, hx, hy, hr]
set_option maxRecDepth 100000 in
theorem opI_store {p : Addr} {A : Option Addr} {n c : Nat} {u : Value} (hx : a.eval x = .pointer (some p)) (hy : a.eval y = .slice A n c) (hc : w.cell? p = some u) (hf : w.frozen? p = false) (h : K a (w.setCell p (.slice A n c))) :
    ({ dst := none, op := .store 22 x y, type := t, pos := pos, after := after, guard := none } : Oper).wpIn (Fence.wide.inRound l) m Try.prog a w K Q := by
  refine ⟨fun _ _ => trivial, ?_⟩
  rw [Fence.inRound_round, Oper.semAt_some l _ _ (by intro c; simp)]
  unfold execOp
  simp only [hx, hy]
  go_simp
  exact h
end

end Go.Proofs.Ytbkfpghpfaemeaa

/-
  Operations on disks of a region inside a round of a range over a function. Conditions: those that each theorem names.
-/
namespace Go.Proofs.Ytbkfpghpfaemeaa
open Go.RowKit Go.Shelf

section
variable {m l : Nat} {K : Act → World → Prop} {Q : Exit → Act → World → Prop} {a : Act} {w : World} {dst : Option Tmp} {t : TypeId} {pos : String} {after : Array Edge} {x y : Operand}

set_option maxRecDepth 100000 in
theorem opI_load_ptr {p : Addr} {q : Option Addr} (hx : a.eval x = .pointer (some p)) (hc : w.cell? p = some (.pointer q)) (h : K (a.put dst (.pointer q)) w) :
    ({ dst := dst, op := .load 100 x, type := t, pos := pos, after := after, guard := none } : Oper).wpIn (Fence.wide.inRound l) m Try.prog a w K Q := by
  refine opIn_of _ (by intro c; simp) ?_ h
  unfold execOp
  simp only [hx]
  go_simp
set_option maxRecDepth 100000 in
theorem opI_field0 {b : Nat} (hx : a.eval x = .pointer (some ⟨b, 0, none⟩)) (h : K (a.put dst (.pointer (some ⟨b, 0, none⟩))) w) :
    ({ dst := dst, op := .fieldAddr 24 x 0, type := t, pos := pos, after := after, guard := none } : Oper).wpIn (Fence.wide.inRound l) m Try.prog a w K Q := by
  refine opIn_of _ (by intro c; simp) ?_ h
  unfold execOp
  simp only [hx]
  go_simp
end

end Go.Proofs.Ytbkfpghpfaemeaa

/-
  The walk of the closure of 'write' of package disk: bytes put behind a disk's bytes, part by part. Conditions: those that each theorem names.
-/
namespace Go.Proofs.Ytbkfpghpfaemeaa
open Go.RowKit Go.Shelf

abbrev appDs : List Nat := [15, 16, 17, 18, 19, 20, 21, 22, 23]

/-- Blocks that the append leaves alone. -/
structure Far (base b2 b3 Bn Bo : Nat) (W0 w : World) : Prop where
  below : Below base W0 w
  keeps : KeepsOthers W0 w
  two : Whole w b2 100 #[.pointer (some ⟨Bo, 0, none⟩)]
  three : Whole w b3 4 #[.bool false]
  bn : w.heap[Bn]? = W0.heap[Bn]?

/-- What holds behind any operations of the region that have come up. -/
structure AppI (a0 : Act) (base b2 b3 Bn Bo : Nat) (W0 : World) (A0 : Option Addr) (n0 c0 : Nat) (xs0 : List Value) (Ax : Option Addr) (nx cx : Nat) (xs1 : List Value) (u1 u2 : Value) (L : Nat → Bool) (a : Act) (w : World) : Prop where
  agree : Agree appDs a0 a
  x0 : L 0 = true → a.eval (.tmp 15) = .pointer (some ⟨Bo, 0, none⟩)
  x1 : L 1 = true → a.eval (.tmp 16) = .pointer (some ⟨Bo, 0, none⟩)
  x2 : L 2 = true → a.eval (.tmp 17) = .pointer (some ⟨Bo, 0, none⟩)
  x3 : L 3 = true → a.eval (.tmp 18) = .pointer (some ⟨Bo, 0, none⟩)
  x4 : L 4 = true → a.eval (.tmp 19) = .slice A0 n0 c0
  x5 : L 5 = true → a.eval (.tmp 20) = .slice Ax nx cx
  x7 : L 7 = true → a.eval (.tmp 22) = .pointer (some ⟨Bo, 0, none⟩)
  x8 : L 8 = true → a.eval (.tmp 23) = .pointer (some ⟨Bo, 0, none⟩)
  pre : L 6 = false → Far base b2 b3 Bn Bo W0 w ∧ w.ownsRow base 5 1 (.slice A0 n0 c0) n0 xs0 ∧ Whole w Bo 24 #[.slice A0 n0 c0, u1, u2]
  post : L 6 = true → ∃ A1 c1, a.eval (.tmp 21) = .slice A1 (n0 + nx) c1 ∧ Far base b2 b3 Bn Bo W0 w ∧ w.ownsRow base 5 1 (.slice A1 (n0 + nx) c1) (n0 + nx) xs1 ∧ Whole w Bo 24 #[if L 9 = true then .slice A1 (n0 + nx) c1 else .slice A0 n0 c0, u1, u2]

set_option maxRecDepth 100000 in
theorem app_region {ops : Array Oper} {Q : Exit → Act → World → Prop} {id m l : Nat} (hsize : ops.size = 10) (hlow : lowOnly ops = true)
    (o0 : At ops 0 (some 15) (.load 100 (.tmp 2)) 100 [])
    (o1 : At ops 1 (some 16) (.load 100 (.tmp 2)) 100 [])
    (o2 : At ops 2 (some 17) (.nilCheck (.tmp 16)) 0 [1])
    (o3 : At ops 3 (some 18) (.fieldAddr 24 (.tmp 17) 0) 0 [2])
    (o4 : At ops 4 (some 19) (.load 22 (.tmp 18)) 22 [3])
    (o5 : At ops 5 (some 20) (.move (.tmp 4)) 22 [])
    (o6 : At ops 6 (some 21) (.call { callee := .builtin .append, args := #[.tmp 19, .tmp 20], argTypes := #[22, 22] }) 22 [4, 5])
    (o7 : At ops 7 (some 22) (.nilCheck (.tmp 15)) 0 [0, 6])
    (o8 : At ops 8 (some 23) (.fieldAddr 24 (.tmp 22) 0) 0 [7])
    (o9 : At ops 9 none (.store 22 (.tmp 23) (.tmp 21)) 0 [8, 6])
    (a0 : Act) (hds : ∀ d ∈ appDs, d < a0.tmps.size) (base b2 b3 Bn Bo : Nat) (W0 : World) (A0 : Option Addr) (n0 c0 : Nat) (ys : List Nat) (Ax : Option Addr) (nx cx : Nat) (zs : List Nat) (u1 u2 : Value)
    (h2 : a0.eval (.tmp 2) = .pointer (some ⟨b2, 0, none⟩)) (h4 : a0.eval (.tmp 4) = .slice Ax nx cx)
    (hb2 : Whole W0 b2 100 #[.pointer (some ⟨Bo, 0, none⟩)]) (hb3 : Whole W0 b3 4 #[.bool false]) (hBn : ∃ v, Whole W0 Bn 22 #[v]) (hbs : base ≤ W0.heap.size) (hbo : base ≤ Bo) (hne2 : b2 ≠ Bo) (hne3 : b3 ≠ Bo) (hneB : Bn ≠ Bo)
    (hown : W0.ownsRow base 5 1 (.slice A0 n0 c0) n0 (bv ys)) (hbox : Whole W0 Bo 24 #[.slice A0 n0 c0, u1, u2]) (hr : Rd W0 base Ax nx (bv zs)) (hn : n0 + nx ≤ 1000000)
    (fin : ∀ σ w A1 c1, Far base b2 b3 Bn Bo W0 w → w.ownsRow base 5 1 (.slice A1 (n0 + nx) c1) (n0 + nx) (bv (ys ++ zs)) → Whole w Bo 24 #[.slice A1 (n0 + nx) c1, u1, u2] → Q .normal (lay σ appDs a0) w) :
    (Code.region id ops true).wpIn (Fence.wide.inRound l) m Try.prog Q a0 W0 := by
  refine region_cloIn (by kernel_rfl) hlow (fun L a w => AppI a0 base b2 b3 Bn Bo W0 A0 n0 c0 (bv ys) Ax nx cx (bv (ys ++ zs)) u1 u2 L a w) ?_ ?_ ?_
  · exact ⟨Agree.refl _ _, by simp, by simp, by simp, by simp, by simp, by simp, by simp, by simp, fun _ => ⟨⟨(Below.refl _ _).drew, ⟨Nat.le_refl _, fun _ _ h _ => h⟩, hb2, hb3, rfl⟩, hown, hbox⟩, by simp⟩
  · rintro i o L a w ho hi hclo hall I
    have hlt : i < 10 := by rw [← hsize]; exact (Array.getElem?_eq_some_iff.1 ho).1
    have hz : ∀ d ∈ appDs, d < a.tmps.size := fun d hd => by rw [I.agree.size]; exact hds d hd
    have hfar : Far base b2 b3 Bn Bo W0 w := by
      cases h6 : L 6 with
      | false => exact (I.pre h6).1
      | true => obtain ⟨_, _, _, hf, _⟩ := I.post h6; exact hf
    rcases (by omega : i = 0 ∨ i = 1 ∨ i = 2 ∨ i = 3 ∨ i = 4 ∨ i = 5 ∨ i = 6 ∨ i = 7 ∨ i = 8 ∨ i = 9) with rfl | rfl | rfl | rfl | rfl | rfl | rfl | rfl | rfl | rfl
    · have hd := o0.needs ho hall
      refine o0.runIn fun pos after => opI_load_ptr (by rw [I.agree.eval (by decide)]; exact h2) (hfar.two.cell 0) ⟨I.agree.put (by decide) _, ?_, ?_, ?_, ?_, ?_, ?_, ?_, ?_, ?_, ?_⟩
      · intro _; exact eval_new (hz _ (by decide)) _
      · simpa [eval_old] using I.x1
      · simpa [eval_old] using I.x2
      · simpa [eval_old] using I.x3
      · simpa [eval_old] using I.x4
      · simpa [eval_old] using I.x5
      · simpa [eval_old] using I.x7
      · simpa [eval_old] using I.x8
      · simpa [eval_old] using I.pre
      · simpa [eval_old] using I.post
    · have hd := o1.needs ho hall
      refine o1.runIn fun pos after => opI_load_ptr (by rw [I.agree.eval (by decide)]; exact h2) (hfar.two.cell 0) ⟨I.agree.put (by decide) _, ?_, ?_, ?_, ?_, ?_, ?_, ?_, ?_, ?_, ?_⟩
      · simpa [eval_old] using I.x0
      · intro _; exact eval_new (hz _ (by decide)) _
      · simpa [eval_old] using I.x2
      · simpa [eval_old] using I.x3
      · simpa [eval_old] using I.x4
      · simpa [eval_old] using I.x5
      · simpa [eval_old] using I.x7
      · simpa [eval_old] using I.x8
      · simpa [eval_old] using I.pre
      · simpa [eval_old] using I.post
    · have hd := o2.needs ho hall
      refine o2.runIn fun pos after => opI_nil (I.x1 (hd 1 (by simp))) ⟨I.agree.put (by decide) _, ?_, ?_, ?_, ?_, ?_, ?_, ?_, ?_, ?_, ?_⟩
      · simpa [eval_old] using I.x0
      · simpa [eval_old] using I.x1
      · intro _; exact eval_new (hz _ (by decide)) _
      · simpa [eval_old] using I.x3
      · simpa [eval_old] using I.x4
      · simpa [eval_old] using I.x5
      · simpa [eval_old] using I.x7
      · simpa [eval_old] using I.x8
      · simpa [eval_old] using I.pre
      · simpa [eval_old] using I.post
    · have hd := o3.needs ho hall
      refine o3.runIn fun pos after => opI_field0 (I.x2 (hd 2 (by simp))) ⟨I.agree.put (by decide) _, ?_, ?_, ?_, ?_, ?_, ?_, ?_, ?_, ?_, ?_⟩
      · simpa [eval_old] using I.x0
      · simpa [eval_old] using I.x1
      · simpa [eval_old] using I.x2
      · intro _; exact eval_new (hz _ (by decide)) _
      · simpa [eval_old] using I.x4
      · simpa [eval_old] using I.x5
      · simpa [eval_old] using I.x7
      · simpa [eval_old] using I.x8
      · simpa [eval_old] using I.pre
      · simpa [eval_old] using I.post
    · have hd := o4.needs ho hall
      refine o4.runIn fun pos after => opI_load_sl (I.x3 (hd 3 (by simp))) ((I.pre (o6.not hclo (j := 4) (by simp) hi)).2.2.cell 0) ⟨I.agree.put (by decide) _, ?_, ?_, ?_, ?_, ?_, ?_, ?_, ?_, ?_, ?_⟩
      · simpa [eval_old] using I.x0
      · simpa [eval_old] using I.x1
      · simpa [eval_old] using I.x2
      · simpa [eval_old] using I.x3
      · intro _; exact eval_new (hz _ (by decide)) _
      · simpa [eval_old] using I.x5
      · simpa [eval_old] using I.x7
      · simpa [eval_old] using I.x8
      · simpa [eval_old] using I.pre
      · simpa [eval_old] using I.post
    · have hd := o5.needs ho hall
      refine o5.runIn fun pos after => opI_move (v := .slice Ax nx cx) (by rw [I.agree.eval (by decide)]; exact h4) ⟨I.agree.put (by decide) _, ?_, ?_, ?_, ?_, ?_, ?_, ?_, ?_, ?_, ?_⟩
      · simpa [eval_old] using I.x0
      · simpa [eval_old] using I.x1
      · simpa [eval_old] using I.x2
      · simpa [eval_old] using I.x3
      · simpa [eval_old] using I.x4
      · intro _; exact eval_new (hz _ (by decide)) _
      · simpa [eval_old] using I.x7
      · simpa [eval_old] using I.x8
      · simpa [eval_old] using I.pre
      · simpa [eval_old] using I.post
    · have hd := o6.needs ho hall
      have n9 := o9.not hclo (j := 6) (by simp) hi
      obtain ⟨hf, ho0, hx0⟩ := I.pre hi
      obtain ⟨v', w', hrun, hown', hg⟩ := run_app w base _ n0 (bv ys) ho0 base Ax nx cx zs (hr.below hf.below) hn (by have := hf.below.size; omega)
      rw [← bv_append] at hown'
      obtain ⟨A1, c1, rfl⟩ := own_form hown'
      have ap : ∀ {b : Nat} {t : TypeId} {cs : Array Value}, 5 ≠ t → Whole w b t cs → Whole w' b t cs := fun hne h => h.grown hg (Ne.symm (own_apart_of hne ho0 h))
      obtain ⟨vn, hvn⟩ := hBn
      have hvn' : Whole w Bn 22 #[vn] := hf.bn.trans hvn
      have hf' : Far base b2 b3 Bn Bo W0 w' := ⟨hf.below.trans (below_row ho0 hg (by have := hf.below.size; omega)), hf.keeps.trans (keeps_row ho0 hg), ap (by decide) hf.two, ap (by decide) hf.three, (ap (by decide) hvn').trans hvn.symm⟩
      refine o6.runIn fun pos after => opI_append (I.x4 (hd 4 (by simp))) (I.x5 (hd 5 (by simp))) hrun ⟨I.agree.put (by decide) _, ?_, ?_, ?_, ?_, ?_, ?_, ?_, ?_, ?_, ?_⟩
      · simpa [eval_old] using I.x0
      · simpa [eval_old] using I.x1
      · simpa [eval_old] using I.x2
      · simpa [eval_old] using I.x3
      · simpa [eval_old] using I.x4
      · simpa [eval_old] using I.x5
      · simpa [eval_old] using I.x7
      · simpa [eval_old] using I.x8
      · simp
      · intro _
        refine ⟨A1, c1, eval_new (hz _ (by decide)) _, hf', hown', ?_⟩
        simpa [n9] using ap (by decide) hx0
    · have hd := o7.needs ho hall
      refine o7.runIn fun pos after => opI_nil (I.x0 (hd 0 (by simp))) ⟨I.agree.put (by decide) _, ?_, ?_, ?_, ?_, ?_, ?_, ?_, ?_, ?_, ?_⟩
      · simpa [eval_old] using I.x0
      · simpa [eval_old] using I.x1
      · simpa [eval_old] using I.x2
      · simpa [eval_old] using I.x3
      · simpa [eval_old] using I.x4
      · simpa [eval_old] using I.x5
      · intro _; exact eval_new (hz _ (by decide)) _
      · simpa [eval_old] using I.x8
      · simpa [eval_old] using I.pre
      · simpa [eval_old] using I.post
    · have hd := o8.needs ho hall
      refine o8.runIn fun pos after => opI_field0 (I.x7 (hd 7 (by simp))) ⟨I.agree.put (by decide) _, ?_, ?_, ?_, ?_, ?_, ?_, ?_, ?_, ?_, ?_⟩
      · simpa [eval_old] using I.x0
      · simpa [eval_old] using I.x1
      · simpa [eval_old] using I.x2
      · simpa [eval_old] using I.x3
      · simpa [eval_old] using I.x4
      · simpa [eval_old] using I.x5
      · simpa [eval_old] using I.x7
      · intro _; exact eval_new (hz _ (by decide)) _
      · simpa [eval_old] using I.pre
      · simpa [eval_old] using I.post
    · have hd := o9.needs ho hall
      have d6 := hd 6 (by simp)
      obtain ⟨A1, c1, he, hf, ho1, hx1⟩ := I.post d6
      rw [hi] at hx1
      simp only [Bool.false_eq_true, if_false] at hx1
      have hbs9 := hf.below.size
      obtain ⟨vn, hvn⟩ := hBn
      have hf' : Far base b2 b3 Bn Bo W0 (w.setCell ⟨Bo, 0, none⟩ (.slice A1 (n0 + nx) c1)) :=
        ⟨hf.below.setCell (p := ⟨Bo, 0, none⟩) hbo _, hf.keeps.trans (KeepsOthers.setCell _ _ _), hf.two.far (p := ⟨Bo, 0, none⟩) hne2 _, hf.three.far (p := ⟨Bo, 0, none⟩) hne3 _, (Below.heap_setCell w ⟨Bo, 0, none⟩ _ Bn hneB).trans hf.bn⟩
      refine o9.runIn fun pos after => opI_store (I.x8 (hd 8 (by simp))) he (hx1.cell 0) (hx1.frozen 0) ⟨I.agree, ?_, ?_, ?_, ?_, ?_, ?_, ?_, ?_, ?_, ?_⟩
      · simpa using I.x0
      · simpa using I.x1
      · simpa using I.x2
      · simpa using I.x3
      · simpa using I.x4
      · simpa using I.x5
      · simpa using I.x7
      · simpa using I.x8
      · simp [d6]
      · intro _
        refine ⟨A1, c1, he, hf', ownsRow_setCell_other (a := ⟨Bo, 0, none⟩) ho1 (own_apart_of (by decide) ho1 hx1) _, ?_⟩
        have h3 := hx1.set 0 (.slice A1 (n0 + nx) c1)
        simpa using h3
  · rintro L a w hall I
    obtain ⟨A1, c1, he, hf, ho1, hx1⟩ := I.post (hall 6 (by omega))
    rw [if_pos (hall 9 (by omega))] at hx1
    rw [I.agree.lay hds]
    exact fin _ w A1 c1 hf ho1 hx1

end Go.Proofs.Ytbkfpghpfaemeaa

/-
  The closure of 'write' of package disk, as a change of a disk: it puts bytes behind the disk's, if there is room for all. Conditions: those that each theorem names.
-/
namespace Go.Proofs.Ytbkfpghpfaemeaa
open Go.RowKit Go.Shelf
attribute [local go_sem] Oper.semAt_some

def plusD (b : List Nat) (D : Dk) : Dk := ⟨D.bs ++ b, D.syn, D.room⟩
def writeD (b : List Nat) (D : Dk) : Option Dk := if D.bs.length + b.length ≤ D.room then some (plusD b D) else none
set_option maxRecDepth 100000 in
theorem plus_ok {b : List Nat} {D : Dk} (h : D.Ok) (hb : ∀ x ∈ b, x < 256) (hl : D.bs.length + b.length ≤ D.room) : (plusD b D).Ok :=
  ⟨by simp only [plusD, List.length_append]; have := h.syn; omega, by simp only [plusD, List.length_append]; exact hl, h.room, fun x hx => by
    simp only [plusD, List.mem_append] at hx
    exact hx.elim (h.byte x) (hb x)⟩

/-- What holds between two rounds. -/
structure WriteAt (base Bo : Nat) (W : World) (D : Dk) (A : Option Addr) (n c : Nat) (pre : List (PrtAt W base)) (W1 : World) : Prop where
  box : DiskBox base W1 Bo (plusD (joined pre) D)
  two : Whole W1 W.heap.size 100 #[.pointer (some ⟨Bo, 0, none⟩)]
  three : Whole W1 (W.heap.size + 1) 4 #[.bool false]
  bn : Whole W1 (W.heap.size + 1 + 1) 22 #[.slice A n c]
  below : Below base W W1
set_option maxRecDepth 100000 in
theorem writeAt_own (base Bo : Nat) (W : World) (D : Dk) (A : Option Addr) (n c : Nat) (B : Nat) (hB : base ≤ B) (hb0 : base ≤ W.heap.size) : OwnFrom B (WriteAt base Bo W D A n c) := by
  intro pre W1 W2 row h hg hr
  have hr' : ∀ r, row = some r → ∃ o : Obj, W1.heap[r]? = some o ∧ o.isCells = false := fun r e => (hr r e).2
  obtain ⟨A3, c3, h1, h2, h3⟩ := h.box
  exact ⟨⟨A3, c3, h1.turn hg hr', own_turn h2 hg hr', h3⟩, h.two.turn hg hr', h.three.turn hg hr', h.bn.turn hg hr', h.below.grown hg (by have := h.below.size; omega) (fun k e => by have := (hr k e).1; omega)⟩

/-- Where one has left: there was no room. -/
structure WriteOut (base : Nat) (W : World) (D : Dk) (pre : List (PrtAt W base)) (W1 : World) : Prop where
  out : D.room < D.bs.length + (joined pre).length
  three : Whole W1 (W.heap.size + 1) 4 #[.bool false]
  below : Below base W W1
set_option maxRecDepth 100000 in
theorem writeOut_own (base : Nat) (W : World) (D : Dk) (B : Nat) (hB : base ≤ B) (hb0 : base ≤ W.heap.size) : OwnFrom B (WriteOut base W D) := by
  intro pre W1 W2 row h hg hr
  have hr' : ∀ r, row = some r → ∃ o : Obj, W1.heap[r]? = some o ∧ o.isCells = false := fun r e => (hr r e).2
  exact ⟨h.out, h.three.turn hg hr', h.below.grown hg (by have := h.below.size; omega) (fun k e => by have := (hr k e).1; omega)⟩

set_option maxRecDepth 100000 in
set_option maxHeartbeats 1000000 in
theorem write_chg (base : Nat) (w0 : World) (Bn : Nat) (A : Option Addr) (n c : Nat) (bs : List Nat) (hBn : Bn < base) (hc0 : w0.cell? ⟨Bn, 0, none⟩ = some (.slice A n c)) (hr0 : Rd w0 base A n (bv bs)) (hby : ∀ x ∈ bs, x < 256) (hn : n ≤ 100000) (hc : n ≤ c) (hcm : c ≤ maxLen) :
    ChgOk base w0 ⟨67, #[.pointer (some ⟨Bn, 0, none⟩)], writeD bs⟩ := by
  refine ⟨enters_of Try.func67 (by kernel_rfl) rfl, ?_⟩
  rintro W Bo D hb hbo hbox
  have hnc := (hb.cell (p := ⟨Bn, 0, none⟩) hBn).trans hc0
  have hrW := hr0.below hb
  have hbW : base ≤ W.heap.size := by obtain ⟨_, _, hw, _⟩ := hbox; have := hw.lt; omega
  have hBoW : Bo < W.heap.size := by obtain ⟨_, _, hw, _⟩ := hbox; exact hw.lt
  have hok : D.Ok := by obtain ⟨_, _, _, _, h⟩ := hbox; exact h
  have hbl : bs.length = n := by have := hr0.1; rwa [bv_length] at this
  have HRW := Lib.hid hrW
  have HK := Lib.hid hok
  have HBy := Lib.hid hby
  have HBL := Lib.hid hbl
  have HBox := Lib.hid hbox
  have hnc2 : ((W.alloc (.cells #[.pointer (some ⟨Bo, 0, none⟩)] 100)).alloc (.cells #[.bool false] 4)).cell? ⟨Bn, 0, none⟩ = some (.slice A n c) := (((Below.refl W.heap.size W).alloc (Nat.le_refl _) _).alloc (by simp) _).cell (p := ⟨Bn, 0, none⟩) (by simp; omega) |>.trans hnc
  clear hb hr0 hrW hok hby hbl hbox hc0
  show Calls Try.prog 67 #[.pointer (some ⟨Bo, 0, none⟩), .pointer (some ⟨Bn, 0, none⟩)] W _
  refine (callsIn_wide (n := 5)).1 ?_
  refine callsIn_of_wp_marks Try.func67 rfl trivial ?_ rfl
  simp only [Try.ntmps67, List.size_toArray, List.length_cons, List.length_nil, Nat.reduceAdd, Nat.reduceSub, Array.replicate_succ, Array.replicate_zero, List.push_toArray, List.append_toArray, List.nil_append, List.cons_append]
  gi_wp2_with (refine ⟨trivial, ?_⟩; gi_at_call 68; refine (callsIn_wide.2 (parts_any _ _ _ _)).mono ?_; rintro e w2 ⟨rfl, rfl⟩)
  obtain ⟨W0, hW0⟩ : ∃ W0, ((W.alloc (.cells #[.pointer (some ⟨Bo, 0, none⟩)] 100)).alloc (.cells #[.bool false] 4)).alloc (.cells #[.slice A n c] 22) = W0 := ⟨_, rfl⟩
  have hs0 : W0.heap.size = W.heap.size + 1 + 1 + 1 := by rw [← hW0]; simp
  have hb0 : Below base W W0 := by rw [← hW0]; exact (((Below.refl _ W).alloc hbW _).alloc (by simp; omega) _).alloc (by simp; omega) _
  have hinv : WriteAt base Bo W D A n c [] W0 := by
    obtain ⟨A3, c3, h1, h2, h3⟩ := HBox.out
    refine ⟨⟨A3, c3, ?_, ?_, ?_⟩, ?_, ?_, ?_, hb0⟩
    · rw [← hW0]; have := ((h1.alloc (.cells #[.pointer (some ⟨Bo, 0, none⟩)] 100)).alloc (.cells #[.bool false] 4)).alloc (.cells #[.slice A n c] 22); simpa [plusD, joined] using this
    · rw [← hW0]; have := ((h2.alloc (.cells #[.pointer (some ⟨Bo, 0, none⟩)] 100)).alloc (.cells #[.bool false] 4)).alloc (.cells #[.slice A n c] 22); simpa [plusD, joined] using this
    · simpa [plusD, joined] using h3
    · rw [← hW0]; exact ((Whole.new W _ _).alloc _).alloc _
    · rw [← hW0]; have := (Whole.new (W.alloc (.cells #[.pointer (some ⟨Bo, 0, none⟩)] 100)) 4 #[.bool false]).alloc (.cells #[.slice A n c] 22); simpa using this
    · rw [← hW0]; have := Whole.new ((W.alloc (.cells #[.pointer (some ⟨Bo, 0, none⟩)] 100)).alloc (.cells #[.bool false] 4)) 22 #[.slice A n c]; simpa using this
  rw [hW0]
  clear hW0
  refine wpIn_rangeFunc_ownF rfl (by omega) (gf := 81) (lb := #[.pointer (some ⟨W.heap.size + 1 + 1, 0, none⟩)]) rfl trivial (enters_of Try.func81 (by kernel_rfl) rfl)
    (parts_stops 4 (W.heap.size + 1 + 1) base W A n c bs (by omega) hc hcm HBy.out HRW.out W0 (by omega) (by simpa using hinv.bn.cell 0)) (fun h k => kpB_t h k) (kpB_b (by omega) (by omega)) (Below.refl _ _) (fun _ => rfl)
    (WriteAt base Bo W D A n c) (fun k pre W1 => k = .ret ∧ WriteOut base W D pre W1)
    (writeAt_own base Bo W D A n c _ (by omega) hbW) (fun k pre W1 W2 row h hg hr => ⟨h.1, writeOut_own base W D W0.heap.size (by omega) hbW pre W1 W2 row h.2 hg hr⟩) hinv
    (fun x => { tmps := #[.pointer (some ⟨Bo, 0, none⟩), .pointer (some ⟨Bn, 0, none⟩), .pointer (some ⟨W.heap.size, 0, none⟩), .pointer (some ⟨W.heap.size + 1, 0, none⟩), .slice x.1.A x.1.n x.1.c, .slice A n c, .func (.func 81) #[] #[.pointer (some ⟨W.heap.size + 1 + 1, 0, none⟩)], .slice x.1.A x.1.n x.1.c, undef, undef, undef, undef, undef, undef, undef, undef, undef, undef, undef, undef, undef, undef, undef, undef], defers := [] }) ?assign ?body ?done ?stop
  case assign =>
    intro l x W K hK
    gi_wp2
    exact hK
  case body =>
    rintro l pre x W1 hI hlen
    obtain ⟨A3, c3, hx1, hown, hok1⟩ := hI.box
    have hs1 : W.heap.size ≤ W1.heap.size := hI.below.size
    obtain ⟨D1, hD1⟩ : ∃ D1, plusD (joined pre) D = D1 := ⟨_, rfl⟩
    rw [hD1] at hx1 hown hok1
    have hF := free_any A3 D1.bs.length c3 D1.syn D1.room D1.bs W1.heap.size W1 (Rd.of_own hown) (Nat.le_refl _) (own_cap hown) (cnt_self hok1)
    obtain ⟨fr, hfr⟩ : ∃ fr, freeD D1 = fr := ⟨_, rfl⟩
    rw [hfr] at hF
    have t0 := hI.two.cell 0
    have x0 := hx1.cell 0
    have x1 := hx1.cell 1
    have x2 := hx1.cell 2
    simp only [List.getElem?_toArray, List.getElem?_cons_zero, List.getElem?_cons_succ] at t0 x0 x1 x2
    have hdr : D1.room = D.room ∧ D1.bs.length = D.bs.length + (joined pre).length ∧ D1.syn = D.syn := by rw [← hD1]; simp [plusD]
    have hjs : plusD (joined (pre ++ [x])) D = plusD x.1.bs D1 := by rw [← hD1, joined_snoc]; simp [plusD]
    have hjl : (joined (pre ++ [x])).length = (joined pre).length + x.1.n := by
      rw [joined_snoc, List.length_append]
      have h1 := x.2.rd.1
      rw [bv_length] at h1
      omega
    have HF := Lib.hid hF
    have HI := Lib.hid hI
    have HX1 := Lib.hid hx1
    have HOWN := Lib.hid hown
    have HOK1 := Lib.hid hok1
    have HFR := Lib.hid hfr
    have HDR := Lib.hid hdr
    have HJS := Lib.hid hjs
    have HJL := Lib.hid hjl
    clear hF hI hx1 hown hok1 hfr hdr hjs hjl hD1 hlen hnc hnc2
    by_cases hfit : (x.1.n : Int) ≤ fr
    · have d1 : decide (fr < (x.1.n : Int)) = false := by simp; omega
      gi_wp2_with fail
      refine ⟨trivial, (CallsIn.inRound l (callsIn_wide.2 HF.out)).mono ?_⟩
      rintro e w3 ⟨rfl, b3⟩
      have hk3 := keeps_under b3
      have h2 := HI.out.two.under b3
      have h3 := HI.out.three.under b3
      have hn3 := HI.out.bn.under b3
      have ho3 := own_under HOWN.out b3
      have hx3 := HX1.out.under b3
      have hbl3 := HI.out.below.trans (b3.mono (by omega))
      have H2 := Lib.hid h2
      have H3 := Lib.hid h3
      have HN3 := Lib.hid hn3
      have HO3 := Lib.hid ho3
      have HX3 := Lib.hid hx3
      have HBL3 := Lib.hid hbl3
      have HK3 := Lib.hid hk3
      have HB3 := Lib.hid b3
      clear h2 h3 hn3 ho3 hx3 hbl3 hk3 b3 t0 x0 x1 x2
      gi_wp2_with fail
      refine app_region rfl (by kernel_rfl) ⟨_, rfl, rfl, rfl, rfl, rfl, by kernel_rfl⟩ ⟨_, rfl, rfl, rfl, rfl, rfl, by kernel_rfl⟩ ⟨_, rfl, rfl, rfl, rfl, rfl, by kernel_rfl⟩ ⟨_, rfl, rfl, rfl, rfl, rfl, by kernel_rfl⟩ ⟨_, rfl, rfl, rfl, rfl, rfl, by kernel_rfl⟩ ⟨_, rfl, rfl, rfl, rfl, rfl, by kernel_rfl⟩ ⟨_, rfl, rfl, rfl, rfl, rfl, by kernel_rfl⟩ ⟨_, rfl, rfl, rfl, rfl, rfl, by kernel_rfl⟩ ⟨_, rfl, rfl, rfl, rfl, rfl, by kernel_rfl⟩ ⟨_, rfl, rfl, rfl, rfl, rfl, by kernel_rfl⟩ _ ?_ base W.heap.size (W.heap.size + 1) (W.heap.size + 1 + 1) Bo w3 A3 D1.bs.length c3 D1.bs x.1.A x.1.n x.1.c x.1.bs _ _ rfl rfl H2.out H3.out ⟨_, HN3.out⟩ (by have := HBL3.out.size; omega) hbo (by omega) (by omega) (by omega) HO3.out HX3.out (x.2.rd.below HBL3.out) (by have := x.2.many; have := HOK1.out.len; have := HOK1.out.room; omega) ?_
      · intro d hd
        simp only [List.mem_cons, List.not_mem_nil, or_false] at hd
        rcases hd with rfl | rfl | rfl | rfl | rfl | rfl | rfl | rfl | rfl <;> simp
      intro σ w4 A4 c4 hfar hown4 hx4
      have hxl : x.1.bs.length = x.1.n := by have h1 := x.2.rd.1; rwa [bv_length] at h1
      have hlen4 : (D1.bs ++ x.1.bs).length = D1.bs.length + x.1.n := by rw [List.length_append, hxl]
      have hbn4 : Whole w4 (W.heap.size + 1 + 1) 22 #[.slice A n c] := hfar.bn.trans HN3.out
      have hb14 : Below base W1 w4 := (HB3.out.mono (by omega)).trans hfar.below
      refine ⟨HK3.out.trans hfar.keeps, ⟨hb14, ?_⟩, ?_, hfar.two, hfar.three, hbn4, HBL3.out.trans hfar.below⟩
      · exact hbn4.trans HI.out.bn.symm
      · rw [HJS.out]
        refine ⟨A4, c4, ?_, ?_, plus_ok HOK1.out x.2.byte ?_⟩
        · simp only [plusD]; rw [hlen4]; exact hx4
        · simp only [plusD]; rw [hlen4]; exact hown4
        · have h1 := HFR.out
          simp only [freeD] at h1
          rw [hxl]
          omega
    · have d1 : fr < (x.1.n : Int) := by omega
      gi_wp2_with fail
      refine ⟨trivial, (CallsIn.inRound l (callsIn_wide.2 HF.out)).mono ?_⟩
      rintro e w3 ⟨rfl, b3⟩
      have hk3 := keeps_under b3
      have h3 := HI.out.three.under b3
      have hbl3 := HI.out.below.trans (b3.mono (by omega))
      have f3 := h3.frozen 0
      have q3 := h3.cell 0
      simp only [List.getElem?_toArray, List.getElem?_cons_zero] at q3
      have H3 := Lib.hid h3
      have HBL3 := Lib.hid hbl3
      have HK3 := Lib.hid hk3
      clear h3 hbl3 hk3 b3 t0 x0 x1 x2
      gi_wp2_with fail
      refine ⟨HK3.out.trans (KeepsOthers.setCell _ _ _), rfl, ?_, ?_, ?_⟩
      · have h1 := HFR.out
        simp only [freeD] at h1
        obtain ⟨h4, h5, _⟩ := HDR.out
        have h6 := HJL.out
        omega
      · have h7 := H3.out.set 0 (.bool false)
        simpa using h7
      · exact HBL3.out.setCell (p := ⟨W.heap.size + 1, 0, none⟩) (by simp; omega) _
  case done =>
    rintro Dd ys W1 hDd hys hI hK
    have c2 := hI.three.cell 0
    have f2 := hI.three.frozen 0
    simp only [List.getElem?_toArray, List.getElem?_cons_zero] at c2
    have HK2 := Lib.hid hK
    have HI := Lib.hid hI
    have HYS := Lib.hid hys
    clear hK hI hys hnc hnc2
    gi_wp2_with fail
    have hK1 : (W1.setCell ⟨W.heap.size + 1, 0, none⟩ (.bool true)).heap[Dd]? = some (.deferred (some [])) := (KeepsOthers.setCell _ _ _).same Dd _ HK2.out rfl
    have r1 := HI.out.three.set 0 (.bool true)
    have hb : Below base W (W1.setCell ⟨W.heap.size + 1, 0, none⟩ (.bool true)) := HI.out.below.setCell (p := ⟨W.heap.size + 1, 0, none⟩) (by simp; omega) _
    obtain ⟨A3, c3, g1, g2, g3⟩ := HI.out.box
    have g1' := g1.far (p := ⟨W.heap.size + 1, 0, none⟩) (by simp; omega) (.bool true)
    have g2' := ownsRow_setCell_other (a := ⟨W.heap.size + 1, 0, none⟩) g2 (own_apart_of (by decide) g2 HI.out.three) (.bool true)
    obtain ⟨W2, hW2⟩ : ∃ W2, W1.setCell ⟨W.heap.size + 1, 0, none⟩ (.bool true) = W2 := ⟨_, rfl⟩
    rw [hW2] at hK1 r1 hb g1' g2' ⊢
    have hg' := grownBy_putObj' W2 Dd (.deferred none)
    have hr' : ∀ r, (some Dd) = some r → ∃ o : Obj, W2.heap[r]? = some o ∧ o.isCells = false := fun r e => by cases e; exact ⟨_, hK1, rfl⟩
    have q1 := (r1.turn hg' hr').cell 0
    simp at q1
    refine ⟨by simp, .inl ⟨_, _, rfl, run_takeDeferred hK1, ?_⟩⟩
    refine ⟨.bool true, by simp [results, Try.results67, go_sem, q1], ?_, ?_⟩
    · exact hb.trans ((Below.refl _ _).grown hg' (by have := hb.size; omega) (fun k e => by cases e; omega))
    · have hlen := g3.len
      rw [HYS.out] at g1' g2' g3 hlen
      have hle : D.bs.length + bs.length ≤ D.room := by simpa [plusD] using hlen
      have hwd : writeD bs D = some (plusD bs D) := by rw [writeD, if_pos hle]
      rw [hwd]
      exact ⟨rfl, A3, c3, g1'.turn hg' hr', own_turn g2' hg' hr', g3⟩
  case stop =>
    rintro Dd k pre W1 hDd hpre ⟨rfl, hO⟩ hK
    clear hnc hnc2
    gi_wp2_with fail
    have hg' := grownBy_putObj' W1 Dd (.deferred none)
    have hr' : ∀ r, (some Dd) = some r → ∃ o : Obj, W1.heap[r]? = some o ∧ o.isCells = false := fun r e => by cases e; exact ⟨_, hK, rfl⟩
    have q1 := (hO.three.turn hg' hr').cell 0
    simp at q1
    have hwd : writeD bs D = none := by
      obtain ⟨t, ht⟩ := hpre
      have h1 := hO.out
      have h2 : bs.length = (joined pre).length + t.length := by rw [← ht, List.length_append]
      rw [writeD, if_neg (by omega)]
    refine ⟨by simp, .inl ⟨_, _, rfl, run_takeDeferred hK, ?_⟩⟩
    refine ⟨.bool false, by simp [results, Try.results67, go_sem, q1], ?_, ?_⟩
    · exact hO.below.trans ((Below.refl _ _).grown hg' (by have := hO.below.size; omega) (fun k e => by cases e; omega))
    · rw [hwd]

end Go.Proofs.Ytbkfpghpfaemeaa

/-
  The walk of 'Append' of package disk. Conditions: those that each theorem names.
-/
namespace Go.Proofs.Ytbkfpghpfaemeaa
open Go.RowKit Go.Shelf

set_option maxRecDepth 100000 in
theorem Whole.drew {w : World} {b : Nat} {t : TypeId} {cs : Array Value} (h : Whole w b t cs) : Whole w.drew b t cs := h
set_option maxRecDepth 100000 in
theorem Whole.cells3 {w : World} {b : Nat} {t : TypeId} {u0 u1 u2 : Value} (h : Whole w b t #[u0, u1, u2]) : w.cell? ⟨b, 0, none⟩ = some u0 ∧ w.cell? ⟨b, 1, none⟩ = some u1 ∧ w.cell? ⟨b, 2, none⟩ = some u2 := ⟨h.cell 0, h.cell 1, h.cell 2⟩
set_option maxRecDepth 100000 in
theorem runs_one (c : Chg) (D : Dk) : runs [c] D = c.f D := by simp [runs]

set_option maxRecDepth 100000 in
/-- What 'changed' is handed by 'Append'. -/
theorem changed_write (A : Option Addr) (n c : Nat) (s r : Int) (bs : List Nat) (Ab : Option Addr) (nb cb : Nat) (b : List Nat) (w W : World) (hr : Rd w w.heap.size A n (bv bs)) (hc : n ≤ c) (hby : ∀ x ∈ bs, x < 256) (hrb : Rd w w.heap.size Ab nb (bv b)) (hcb : nb ≤ cb) (hcm : cb ≤ maxLen) (hbb : ∀ x ∈ b, x < 256) (hnb : nb ≤ 100000)
    (hW : Below w.heap.size w W) (bl bc cl : Nat) (hbl : bl < W.heap.size) (hbc : bc < W.heap.size) (h1 : W.cell? ⟨bl, 0, none⟩ = some (.func (.func 67) #[] #[.pointer (some ⟨bc, 0, none⟩)])) (h2 : W.cell? ⟨bc, 0, none⟩ = some (.slice Ab nb cb)) :
    Calls Try.prog 49 #[diskV A n c s r, .slice (some ⟨bl, 0, none⟩) 1 cl] W (ChangedIs (writeD b (cnt bs s r)) (cnt bs s r) W) := by
  have hB := hW.size
  have h := changed_any A n c s r bs w.heap.size W (hr.below hW) hB hc hby [⟨67, #[.pointer (some ⟨bc, 0, none⟩)], writeD b⟩] bl cl hbl ?_ (by simp) ?_
  · rw [runs_one] at h
    exact h
  · intro k ch hk
    match k, hk with
    | 0, hk =>
      simp only [List.getElem?_cons_zero, Option.some.injEq] at hk
      subst hk
      exact h1
  · intro ch hch
    simp only [List.mem_singleton] at hch
    subst hch
    have hbel : Below W.heap.size W ((W.alloc (diskB A n c s r)).alloc zeroB) := ((Below.refl _ W).alloc (Nat.le_refl _) _).alloc (by simp) _
    exact write_chg _ _ bc Ab nb cb b (by omega) ((hbel.cell (p := ⟨bc, 0, none⟩) hbc).trans h2) (((hrb.below hW).more (by omega)).below (hbel.mono hB) |>.more (by omega)) hbb hnb hcb hcm

def errE (r : Option Dk) : Int := if r.isSome then 0 else 30
set_option maxRecDepth 100000 in
theorem changed_res {r : Option Dk} {D : Dk} {w w' : World} {e : Ending} (h : ChangedIs r D w e w') : DiskRes (r.getD D) (errE r) w e w' := by
  cases r <;> exact h

set_option maxRecDepth 100000 in
set_option maxHeartbeats 1000000 in
theorem append_any (A : Option Addr) (n c : Nat) (s r : Int) (bs : List Nat) (Ab : Option Addr) (nb cb : Nat) (b : List Nat) (w : World) (hr : Rd w w.heap.size A n (bv bs)) (hc : n ≤ c) (hby : ∀ x ∈ bs, x < 256) (hrb : Rd w w.heap.size Ab nb (bv b)) (hcb : nb ≤ cb) (hcm : cb ≤ maxLen) (hbb : ∀ x ∈ b, x < 256) (hnb : nb ≤ 100000) {D : Dk} (hD : cnt bs s r = D) :
    Calls Try.prog 34 #[diskV A n c s r, .slice Ab nb cb] w (DiskRes ((writeD b D).getD D) (errE (writeD b D)) w) := by
  have hbel : Below w.heap.size w ((((w.alloc (diskB A n c s r)).alloc zeroB).alloc (.cells #[.slice Ab nb cb] 22)).alloc (.cells #[.func (.func 67) #[] #[.pointer (some ⟨w.heap.size + 1 + 1, 0, none⟩)]] 84)) := ((((Below.refl _ w).alloc (Nat.le_refl _) _).alloc (by simp) _).alloc (by simp; omega) _).alloc (by simp; omega) _
  have HC := Lib.hid (changed_write A n c s r bs Ab nb cb b w _ hr hc hby hrb hcb hcm hbb hnb hbel.drew (w.heap.size + 1 + 1 + 1) (w.heap.size + 1 + 1) 1 (by simp) (by simp) (by simpa using cell_new (((w.alloc (diskB A n c s r)).alloc zeroB).alloc (.cells #[.slice Ab nb cb] 22)) #[.func (.func 67) #[] #[.pointer (some ⟨w.heap.size + 1 + 1, 0, none⟩)]] 84 0)
    (by simpa using ((Whole.new ((w.alloc (diskB A n c s r)).alloc zeroB) 22 #[.slice Ab nb cb]).alloc (.cells #[.func (.func 67) #[] #[.pointer (some ⟨w.heap.size + 1 + 1, 0, none⟩)]] 84)).cell 0))
  rw [hD] at HC
  obtain ⟨D', hD'⟩ : ∃ D', (writeD b D).getD D = D' := ⟨_, rfl⟩
  obtain ⟨E, hE⟩ : ∃ E, errE (writeD b D) = E := ⟨_, rfl⟩
  have HX := Lib.hid (Whole.drew ((((Whole.new w 24 #[.slice A n c, .int .i64 s, .int .i64 r]).alloc zeroB).alloc (.cells #[.slice Ab nb cb] 22)).alloc (.cells #[.func (.func 67) #[] #[.pointer (some ⟨w.heap.size + 1 + 1, 0, none⟩)]] 84)))
  have hy := (Whole.drew (((Whole.new (w.alloc (diskB A n c s r)) 24 #[.slice none 0 0, .int .i64 0, .int .i64 0]).alloc (.cells #[.slice Ab nb cb] 22)).alloc (.cells #[.func (.func 67) #[] #[.pointer (some ⟨w.heap.size + 1 + 1, 0, none⟩)]] 84)))
  rw [World.size_alloc] at hy
  have HY := Lib.hid hy
  clear hy
  have HCD : Hid (∀ W e w', ChangedIs (writeD b D) D W e w' → DiskRes D' E W e w') := fun W e w' h => by rw [← hD', ← hE]; exact changed_res h
  rw [hD', hE]
  have HBE := Lib.hid hbel
  have hw0 := (Whole.new w 24 #[.slice A n c, .int .i64 s, .int .i64 r]).alloc zeroB
  have x0 := hw0.cell 0
  have x1 := hw0.cell 1
  have x2 := hw0.cell 2
  simp only [List.getElem?_toArray, List.getElem?_cons_zero, List.getElem?_cons_succ] at x0 x1 x2
  clear hr hby hrb hbb hD hw0 hD' hE hbel
  go_enter Try.func34, Try.ntmps34
  go_wp2_with fail
  go_region_held3 (fun W => W.cell? ⟨w.heap.size, 0, none⟩ = some (.slice A n c) ∧ W.cell? ⟨w.heap.size, 1, none⟩ = some (.int .i64 s) ∧ W.cell? ⟨w.heap.size, 2, none⟩ = some (.int .i64 r)) (first | (with_reducible exact S4.out) | (with_reducible exact S3.out) | go_keep)
    (first | (go_at_call 50; ((with_reducible refine (write_any _ _ _ _).mono ?_); rintro e w2 ⟨rfl, rfl⟩)) | (go_at_call 49; refine (HC.out).mono ?_; intro e w5 hch; obtain ⟨A5, c5, rfl, o5, b5⟩ := HCD.out _ _ _ hch; have O5 := Lib.hid o5; have B5 := Lib.hid b5; have X5 := Lib.hid (HX.out.under b5); have Y5 := Lib.hid (HY.out.under b5); have S3 := Lib.hid X5.out.cells3; have Z5 := Lib.hid (X5.out.farDisk (b' := w.heap.size + 1) (by omega) (.slice A5 D'.bs.length c5) (.int .i64 D'.syn) (.int .i64 D'.room)); have S4 := Lib.hid Z5.out.cells3; have y0 := Y5.out.cell 0; have y1 := Y5.out.cell 1; have y2 := Y5.out.cell 2; simp only [List.getElem?_toArray, List.getElem?_cons_zero, List.getElem?_cons_succ] at y0 y1 y2; have f0 := Y5.out.frozen 0; have f1 := Y5.out.frozen 1; have f2 := Y5.out.frozen 2; clear hch o5 b5))
  rename_i hHeld
  have hz := Y5.out.disk (.slice A5 D'.bs.length c5) (.int .i64 D'.syn) (.int .i64 D'.room)
  have p0 := hz.cell 0
  have p1 := hz.cell 1
  have p2 := hz.cell 2
  simp at p0 p1 p2
  clear hHeld S3 S4 Z5 y0 y1 y2 f0 f1 f2 x0 x1 x2
  go_wp2_with fail
  refine bodyPost_ret (v := .tuple #[diskV A5 D'.bs.length c5 D'.syn D'.room, .int .i64 E]) (by simp [results, Try.results34, go_sem, p0, p1, p2]) rfl ⟨A5, c5, rfl, ?_, ?_⟩
  · exact own_weaker (own_setDisk O5.out (b := w.heap.size + 1) (by simp) _ _ _) (by simp; omega)
  · exact below_setDisk (HBE.out.drew.trans (B5.out.mono (by simp; omega))) (b := w.heap.size + 1) (Nat.le_succ _) _ _ _

end Go.Proofs.Ytbkfpghpfaemeaa

/-
  The walks of 'Sync', 'Crash' and 'New' of package disk. Conditions: those that each theorem names.
-/
namespace Go.Proofs.Ytbkfpghpfaemeaa
open Go.RowKit Go.Shelf

def crashD (keep : Int) (D : Dk) : Dk := secureD (loseD keep D)

set_option maxRecDepth 100000 in
/-- What 'changed' is handed by 'Sync'. -/
theorem changed_sync (A : Option Addr) (n c : Nat) (s r : Int) (bs : List Nat) (w W : World) (hr : Rd w w.heap.size A n (bv bs)) (hc : n ≤ c) (hby : ∀ x ∈ bs, x < 256)
    (hW : Below w.heap.size w W) (bl cl : Nat) (hbl : bl < W.heap.size) (h1 : W.cell? ⟨bl, 0, none⟩ = some (.func (.func 54) #[] #[])) :
    Calls Try.prog 49 #[diskV A n c s r, .slice (some ⟨bl, 0, none⟩) 1 cl] W (DiskRes (secureD (cnt bs s r)) 0 W) := by
  have h := changed_any A n c s r bs w.heap.size W (hr.below hW) hW.size hc hby [⟨54, #[], fun D => some (secureD D)⟩] bl cl hbl ?_ (by simp) ?_
  · rw [runs_one] at h
    exact h
  · intro k ch hk
    match k, hk with
    | 0, hk =>
      simp only [List.getElem?_cons_zero, Option.some.injEq] at hk
      subst hk
      exact h1
  · intro ch hch
    simp only [List.mem_singleton] at hch
    subst hch
    exact secure_chg _ _

end Go.Proofs.Ytbkfpghpfaemeaa
