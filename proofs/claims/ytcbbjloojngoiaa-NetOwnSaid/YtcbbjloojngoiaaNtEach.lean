/-
  The walks of 'each' of package net, at asks and at tells, and of the iterators that it hands back: what is in a row, with its places, in order. Conditions: those that each theorem names.
-/
import Derived.Test.YtcbbjloojngoiaaNtRow
import Derived.Test.YtcbbjloojngoiaaRangeMem
import Derived.Test.YtcbbjloojngoiaaScope2
namespace Go.Proofs.Ytcbbjloojngoiaa
open Go.RowKit Go.Shelf
attribute [local go_sem] Oper.semAt_some


set_option maxHeartbeats 400000 in
theorem eachK_any (A : Option Addr) (n c : Nat) (w : World) :
    Calls Try.prog 30 #[.slice A n c] w fun e w' => e = .returned (.func (.func 40) #[] #[.pointer (some ⟨w.heap.size, 0, none⟩)]) ∧ w' = w.alloc (.cells #[.slice A n c] 22) := by
  go_enter Try.func30, Try.ntmps30
  go_wp2
  go_ret
  exact ⟨rfl, rfl⟩

/-- Where the iterator stands. -/
def IterK (l Bn n₀ : Nat) (A : Option Addr) (n c : Nat) (xs : List Ak) (J : List (Nat × Ak) → World → Prop) (a' : Act) (w' : World) : Prop :=
  ∃ (pre : List (Nat × Ak)) (u4 u5 u6 u7 u8 u9 u10 u11 u12 u13 u14 u15 u16 u17 u18 : Value), a' = { tmps := #[.func (.yield l) #[] #[], .pointer (some ⟨Bn, 0, none⟩), undef, .int .i64 (pre.length : Int), u4, u5, u6, u7, u8, u9, u10, u11, u12, u13, u14, u15, u16, u17, u18], defers := [] } ∧ pre.length ≤ n ∧ w'.cell? ⟨Bn, 0, none⟩ = some (.slice A n c) ∧ RdK w' n₀ A n xs ∧ J pre w'

set_option maxRecDepth 100000 in
set_option maxHeartbeats 1000000 in
theorem eachK1_in (m l Bn n₀ : Nat) (A : Option Addr) (n c : Nat) (xs : List Ak) (hn : n ≤ 1000000) (J : List (Nat × Ak) → World → Prop) (Jx : World → Prop)
    (hY : ∀ (pre : List (Nat × Ak)) (k : Nat) (x : Ak) W, J pre W → (k = pre.length ∧ xs[k]? = some x) → YieldAt Fence.wide (m - 1) Try.prog l #[.int .i64 (k : Int), .agg #[.int .u8 x.kind, .int .i64 x.call, .int .i64 x.a, .int .i64 x.b, .int .i64 x.c, .int .i64 x.d]] W fun e W' =>
      (e = .returned (.bool true) ∧ J (pre ++ [(k, x)]) W' ∧ KpB n₀ Bn W W') ∨ (e = .returned (.bool false) ∧ Jx W'))
    (W : World) (hBn : W.cell? ⟨Bn, 0, none⟩ = some (.slice A n c)) (hr : RdK W n₀ A n xs) (h0 : J [] W) :
    CallsIn Fence.wide m Try.prog 40 #[.func (.yield l) #[] #[], .pointer (some ⟨Bn, 0, none⟩)] W fun e W' => (∃ v, e = .returned v) ∧
      ((∃ ys : List (Nat × Ak), ys.length = n ∧ J ys W') ∨ Jx W') := by
  have HY := Lib.hid hY
  clear hY
  have Hr := Lib.hid hr
  clear hr
  refine callsIn_of_wp Try.func40 rfl trivial ?_ rfl
  simp only [Try.ntmps40, List.size_toArray, List.length_cons, List.length_nil, Nat.reduceAdd, Nat.reduceSub, Array.replicate_succ, Array.replicate_zero, List.push_toArray, List.append_toArray, List.nil_append, List.cons_append]
  gi_wp2_with fail
  refine wpIn_wide.2 (wp_scope_back_behind 0 (IterK l Bn n₀ A n c xs J)
    (fun a' _ => n - (intOf (a'.tmps.getD 3 undef)).toNat) rfl (wpIn_wide (n := m).1 ?ahead) (fun a' w' hJ' => wpIn_wide (n := m).1 ?pass))
  case ahead =>
    gi_wp2_with fail
    exact ⟨[], _, _, _, _, _, _, _, _, _, _, _, _, _, _, _, rfl, Nat.zero_le _, hBn, Hr.out, h0⟩
  case pass =>
    obtain ⟨pre, u4, u5, u6, u7, u8, u9, u10, u11, u12, u13, u14, u15, u16, u17, u18, rfl, hle, hBn', hr', hJp⟩ := hJ'
    clear hBn
    have Hr' := Lib.hid hr'
    have HJ := Lib.hid hJp
    clear hr' hJp h0 Hr
    by_cases hltn : pre.length < n
    rotate_left
    · have hge : decide (pre.length < n) = false := by simp; omega
      have HE := Lib.hid (show pre.length = n by omega)
      clear hle
      gi_wp2_with fail
      refine ⟨fun _ h => (by cases h), ?_⟩
      gi_wp2_with fail
      simp only [Exit.jump]
      go_end0
      exact ⟨⟨_, rfl⟩, .inl ⟨pre, HE.out, HJ.out⟩⟩
    · have hlt : (pre.length : Int) < (n : Int) := by omega
      obtain ⟨x, hx⟩ : ∃ x, xs[pre.length]? = some x := ⟨_, List.getElem?_eq_getElem (by rw [Hr'.out.1]; exact hltn)⟩
      obtain ⟨fn, tmps, assign, body, hy, hR⟩ := HY.out pre pre.length x w' HJ.out ⟨rfl, hx⟩
      obtain ⟨b, off, rfl, hb, hc⟩ := Hr'.out.2 (by omega)
      obtain ⟨c0, c1, c2, c3, c4, c5⟩ := hc pre.length x hx
      have HR := Lib.hid hR
      clear hR hc hx
      gi_wp2_with fail
      refine ⟨fun h => (by cases h), HR.out.mono ?_⟩
      rintro e W3 (⟨rfl, hJ3, hk3⟩ | ⟨rfl, hJx3⟩)
      · have HJ3 := Lib.hid hJ3
        have HK3 := Lib.hid hk3
        clear hJ3 hk3 c0 c1 c2 c3 c4 c5
        gi_wp2_with fail
        refine wpIn_goto ?_
        have hb3 : W3.cell? ⟨Bn, 0, none⟩ = some (.slice (some ⟨b, off, none⟩) n c) := (World.cell?_of_block (a := ⟨Bn, 0, none⟩) HK3.out.2).trans hBn'
        have el : ((pre.length : Int) + 1) = ((pre ++ [(pre.length, x)]).length : Int) := by simp
        rw [el]
        refine ⟨rfl, ⟨pre ++ [(pre.length, x)], _, _, _, _, _, _, _, _, _, _, _, _, _, _, _, rfl, by simp; omega, hb3, Hr'.out.below HK3.out.1, HJ3.out⟩, ?_⟩
        simp [intOf]; omega
      · have HJx := Lib.hid hJx3
        clear hJx3 c0 c1 c2 c3 c4 c5
        gi_wp2_with fail
        simp only [Exit.jump]
        go_end0
        exact ⟨⟨_, rfl⟩, .inr HJx.out⟩

/-- One with its place, as the iterator hands it over. -/
def encK (p : Nat × Ak) : Array Value := #[.int .i64 (p.1 : Int), .agg #[.int .u8 p.2.kind, .int .i64 p.2.call, .int .i64 p.2.a, .int .i64 p.2.b, .int .i64 p.2.c, .int .i64 p.2.d]]
def OkK (xs : List Ak) (pre : List (Nat × Ak)) (x : Nat × Ak) (_ : World) : Prop := x.1 = pre.length ∧ xs[x.1]? = some x.2

/-- The iterator hands over what is in the row with its places, in order. -/
theorem eachK_mem (m Bn n₀ : Nat) (A : Option Addr) (n c : Nat) (xs : List Ak) (hn : n ≤ 1000000) (w : World) (hBl : Bn < w.heap.size) (hn₀ : n₀ ≤ w.heap.size) (hBn : w.cell? ⟨Bn, 0, none⟩ = some (.slice A n c)) (hr : RdK w n₀ A n xs) :
    SeqMem m Try.prog 40 #[.pointer (some ⟨Bn, 0, none⟩)] encK (OkK xs) (KpB n₀ Bn) (fun ys => ys.length = n) w := fun l J Jx W hW _ hY h0 =>
  eachK1_in m l Bn n₀ A n c xs hn J Jx (fun pre k x V hV hk => hY pre (k, x) V hV hk) W ((hW.cell (p := ⟨Bn, 0, none⟩) hBl).trans hBn) (hr.below (hW.mono hn₀)) h0

set_option maxHeartbeats 400000 in
theorem eachT_any (A : Option Addr) (n c : Nat) (w : World) :
    Calls Try.prog 31 #[.slice A n c] w fun e w' => e = .returned (.func (.func 41) #[] #[.pointer (some ⟨w.heap.size, 0, none⟩)]) ∧ w' = w.alloc (.cells #[.slice A n c] 23) := by
  go_enter Try.func31, Try.ntmps31
  go_wp2
  go_ret
  exact ⟨rfl, rfl⟩

/-- Where the iterator stands. -/
def IterT (l Bn n₀ : Nat) (A : Option Addr) (n c : Nat) (xs : List TE) (J : List (Nat × TE) → World → Prop) (a' : Act) (w' : World) : Prop :=
  ∃ (pre : List (Nat × TE)) (u4 u5 u6 u7 u8 u9 u10 u11 u12 u13 u14 u15 u16 u17 u18 : Value), a' = { tmps := #[.func (.yield l) #[] #[], .pointer (some ⟨Bn, 0, none⟩), undef, .int .i64 (pre.length : Int), u4, u5, u6, u7, u8, u9, u10, u11, u12, u13, u14, u15, u16, u17, u18], defers := [] } ∧ pre.length ≤ n ∧ w'.cell? ⟨Bn, 0, none⟩ = some (.slice A n c) ∧ RdF 6 TE.vs w' n₀ A n xs ∧ J pre w'

set_option maxRecDepth 100000 in
set_option maxHeartbeats 1000000 in
theorem eachT1_in (m l Bn n₀ : Nat) (A : Option Addr) (n c : Nat) (xs : List TE) (hn : n ≤ 1000000) (J : List (Nat × TE) → World → Prop) (Jx : World → Prop)
    (hY : ∀ (pre : List (Nat × TE)) (k : Nat) (x : TE) W, J pre W → (k = pre.length ∧ xs[k]? = some x) → YieldAt Fence.wide (m - 1) Try.prog l #[.int .i64 (k : Int), .agg #[.int .i64 x.call, .int .u8 x.kind, .int .u8 x.code, .int .i64 x.id, .slice x.A x.n x.c, .bool x.more]] W fun e W' =>
      (e = .returned (.bool true) ∧ J (pre ++ [(k, x)]) W' ∧ KpB n₀ Bn W W') ∨ (e = .returned (.bool false) ∧ Jx W'))
    (W : World) (hBn : W.cell? ⟨Bn, 0, none⟩ = some (.slice A n c)) (hr : RdF 6 TE.vs W n₀ A n xs) (h0 : J [] W) :
    CallsIn Fence.wide m Try.prog 41 #[.func (.yield l) #[] #[], .pointer (some ⟨Bn, 0, none⟩)] W fun e W' => (∃ v, e = .returned v) ∧
      ((∃ ys : List (Nat × TE), ys.length = n ∧ J ys W') ∨ Jx W') := by
  have HY := Lib.hid hY
  clear hY
  have Hr := Lib.hid hr
  clear hr
  refine callsIn_of_wp Try.func41 rfl trivial ?_ rfl
  simp only [Try.ntmps41, List.size_toArray, List.length_cons, List.length_nil, Nat.reduceAdd, Nat.reduceSub, Array.replicate_succ, Array.replicate_zero, List.push_toArray, List.append_toArray, List.nil_append, List.cons_append]
  gi_wp2_with fail
  refine wpIn_wide.2 (wp_scope_back_behind 0 (IterT l Bn n₀ A n c xs J)
    (fun a' _ => n - (intOf (a'.tmps.getD 3 undef)).toNat) rfl (wpIn_wide (n := m).1 ?ahead) (fun a' w' hJ' => wpIn_wide (n := m).1 ?pass))
  case ahead =>
    gi_wp2_with fail
    exact ⟨[], _, _, _, _, _, _, _, _, _, _, _, _, _, _, _, rfl, Nat.zero_le _, hBn, Hr.out, h0⟩
  case pass =>
    obtain ⟨pre, u4, u5, u6, u7, u8, u9, u10, u11, u12, u13, u14, u15, u16, u17, u18, rfl, hle, hBn', hr', hJp⟩ := hJ'
    clear hBn
    have Hr' := Lib.hid hr'
    have HJ := Lib.hid hJp
    clear hr' hJp h0 Hr
    by_cases hltn : pre.length < n
    rotate_left
    · have hge : decide (pre.length < n) = false := by simp; omega
      have HE := Lib.hid (show pre.length = n by omega)
      clear hle
      gi_wp2_with fail
      refine ⟨fun _ h => (by cases h), ?_⟩
      gi_wp2_with fail
      simp only [Exit.jump]
      go_end0
      exact ⟨⟨_, rfl⟩, .inl ⟨pre, HE.out, HJ.out⟩⟩
    · have hlt : (pre.length : Int) < (n : Int) := by omega
      obtain ⟨x, hx⟩ : ∃ x, xs[pre.length]? = some x := ⟨_, List.getElem?_eq_getElem (by rw [Hr'.out.1]; exact hltn)⟩
      obtain ⟨fn, tmps, assign, body, hy, hR⟩ := HY.out pre pre.length x w' HJ.out ⟨rfl, hx⟩
      obtain ⟨b, off, rfl, hb, hc⟩ := Hr'.out.2 (by omega)
      obtain ⟨c0, c1, c2, c3, c4, c5⟩ := tlAt_of (hc pre.length x hx)
      have HR := Lib.hid hR
      clear hR hc hx
      gi_wp2_with fail
      refine ⟨fun h => (by cases h), HR.out.mono ?_⟩
      rintro e W3 (⟨rfl, hJ3, hk3⟩ | ⟨rfl, hJx3⟩)
      · have HJ3 := Lib.hid hJ3
        have HK3 := Lib.hid hk3
        clear hJ3 hk3 c0 c1 c2 c3 c4 c5
        gi_wp2_with fail
        refine wpIn_goto ?_
        have hb3 : W3.cell? ⟨Bn, 0, none⟩ = some (.slice (some ⟨b, off, none⟩) n c) := (World.cell?_of_block (a := ⟨Bn, 0, none⟩) HK3.out.2).trans hBn'
        have el : ((pre.length : Int) + 1) = ((pre ++ [(pre.length, x)]).length : Int) := by simp
        rw [el]
        refine ⟨rfl, ⟨pre ++ [(pre.length, x)], _, _, _, _, _, _, _, _, _, _, _, _, _, _, _, rfl, by simp; omega, hb3, Hr'.out.below HK3.out.1, HJ3.out⟩, ?_⟩
        simp [intOf]; omega
      · have HJx := Lib.hid hJx3
        clear hJx3 c0 c1 c2 c3 c4 c5
        gi_wp2_with fail
        simp only [Exit.jump]
        go_end0
        exact ⟨⟨_, rfl⟩, .inr HJx.out⟩

/-- One with its place, as the iterator hands it over. -/
def encT (p : Nat × TE) : Array Value := #[.int .i64 (p.1 : Int), .agg #[.int .i64 p.2.call, .int .u8 p.2.kind, .int .u8 p.2.code, .int .i64 p.2.id, .slice p.2.A p.2.n p.2.c, .bool p.2.more]]
def OkT (xs : List TE) (pre : List (Nat × TE)) (x : Nat × TE) (_ : World) : Prop := x.1 = pre.length ∧ xs[x.1]? = some x.2

/-- The iterator hands over what is in the row with its places, in order. -/
theorem eachT_mem (m Bn n₀ : Nat) (A : Option Addr) (n c : Nat) (xs : List TE) (hn : n ≤ 1000000) (w : World) (hBl : Bn < w.heap.size) (hn₀ : n₀ ≤ w.heap.size) (hBn : w.cell? ⟨Bn, 0, none⟩ = some (.slice A n c)) (hr : RdF 6 TE.vs w n₀ A n xs) :
    SeqMem m Try.prog 41 #[.pointer (some ⟨Bn, 0, none⟩)] encT (OkT xs) (KpB n₀ Bn) (fun ys => ys.length = n) w := fun l J Jx W hW _ hY h0 =>
  eachT1_in m l Bn n₀ A n c xs hn J Jx (fun pre k x V hV hk => hY pre (k, x) V hV hk) W ((hW.cell (p := ⟨Bn, 0, none⟩) hBl).trans hBn) (hr.below (hW.mono hn₀)) h0

end Go.Proofs.Ytcbbjloojngoiaa
