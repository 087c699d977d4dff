/-
  The walks of 'boxes' and of the iterator that it hands back (package cloud): the boxes with their places, in order. Conditions: those that each theorem names.
-/
import Derived.Test.YtoiegffnmjlkdaaCdRow
import Derived.Test.YtoiegffnmjlkdaaRangeMem
namespace Go.Proofs.Ytoiegffnmjlkdaa
open Go.RowKit Go.Shelf
attribute [local go_sem] Oper.semAt_some

set_option maxRecDepth 100000 in
set_option maxHeartbeats 400000 in
theorem boxes_any (A : Option Addr) (n c : Nat) (fl dr nw : Int) (tg : Bool) (w : World) :
    Calls Try.prog 37 #[.agg #[.slice A n c, .int .i64 fl, .int .i64 dr, .int .i64 nw, .bool tg]] w fun e w' => e = .returned (.func (.func 43) #[] #[.pointer (some ⟨w.heap.size, 0, none⟩)]) ∧ w' = w.alloc (.cells #[.slice A n c, .int .i64 fl, .int .i64 dr, .int .i64 nw, .bool tg] 24) := by
  go_enter Try.func37, Try.ntmps37
  go_wp2
  go_ret
  exact ⟨rfl, rfl⟩

/-- Where the iterator stands. -/
def BoxIter (l Bn n₀ : Nat) (A : Option Addr) (n c : Nat) (xs : List Bx) (J : List (Nat × Bx) → World → Prop) (a' : Act) (w' : World) : Prop :=
  ∃ (pre : List (Nat × Bx)) (u4 u5 u6 u7 u8 u9 u10 u11 u12 u13 u14 u15 u16 u17 u18 u19 u20 : Value), a' = { tmps := #[.func (.yield l) #[] #[], .pointer (some ⟨Bn, 0, none⟩), undef, .int .i64 (pre.length : Int), u4, u5, u6, u7, u8, u9, u10, u11, u12, u13, u14, u15, u16, u17, u18, u19, u20], defers := [] } ∧ pre.length ≤ n ∧ w'.cell? ⟨Bn, 0, none⟩ = some (.slice A n c) ∧ RdX w' n₀ A n xs ∧ J pre w'

set_option maxRecDepth 100000 in
set_option maxHeartbeats 1000000 in
theorem boxes1_in (m l Bn n₀ : Nat) (A : Option Addr) (n c : Nat) (xs : List Bx) (hn : n ≤ maxLen) (J : List (Nat × Bx) → World → Prop) (Jx : World → Prop)
    (hY : ∀ (pre : List (Nat × Bx)) (k : Nat) (x : Bx) W, J pre W → (k = pre.length ∧ xs[k]? = some x) → YieldAt Fence.wide (m - 1) Try.prog l #[.int .i64 (k : Int), .agg #[.int .i64 x.id, .int .i64 x.tok, .int .i64 x.ver, .int .i64 x.zone, .bool x.tag, .bool x.on, .bool x.gone, .bool x.well, .int .u8 x.lb, .int .i64 x.unt, .int .i64 x.fen]] W fun e W' =>
      (e = .returned (.bool true) ∧ J (pre ++ [(k, x)]) W' ∧ KpB n₀ Bn W W') ∨ (e = .returned (.bool false) ∧ Jx W'))
    (W : World) (hBn : W.cell? ⟨Bn, 0, none⟩ = some (.slice A n c)) (hr : RdX W n₀ A n xs) (h0 : J [] W) :
    CallsIn Fence.wide m Try.prog 43 #[.func (.yield l) #[] #[], .pointer (some ⟨Bn, 0, none⟩)] W fun e W' => (∃ v, e = .returned v) ∧
      ((∃ ys : List (Nat × Bx), ys.length = n ∧ J ys W') ∨ Jx W') := by
  unfold maxLen at hn
  have HY := Lib.hid hY
  clear hY
  have Hr := Lib.hid hr
  clear hr
  refine callsIn_of_wp Try.func43 rfl trivial ?_ rfl
  simp only [Try.ntmps43, List.size_toArray, List.length_cons, List.length_nil, Nat.reduceAdd, Nat.reduceSub, Array.replicate_succ, Array.replicate_zero, List.push_toArray, List.append_toArray, List.nil_append, List.cons_append]
  gi_wp2_with fail
  refine wpIn_wide.2 (wp_scope_back_behind 0 (BoxIter l Bn n₀ A n c xs J)
    (fun a' _ => n - (intOf (a'.tmps.getD 3 undef)).toNat) rfl (wpIn_wide (n := m).1 ?ahead) (fun a' w' hJ' => wpIn_wide (n := m).1 ?pass))
  case ahead =>
    gi_wp2_with fail
    exact ⟨[], _, _, _, _, _, _, _, _, _, _, _, _, _, _, _, _, _, rfl, Nat.zero_le _, hBn, Hr.out, h0⟩
  case pass =>
    obtain ⟨pre, u4, u5, u6, u7, u8, u9, u10, u11, u12, u13, u14, u15, u16, u17, u18, u19, u20, rfl, hle, hBn', hr', hJp⟩ := hJ'
    clear hBn
    have Hr' := Lib.hid hr'
    have HJ := Lib.hid hJp
    clear hr' hJp h0 Hr
    by_cases hltn : pre.length < n
    rotate_left
    · have hge : decide (pre.length < n) = false := by simp; omega
      have HE := Lib.hid (show pre.length = n by omega)
      clear hle
      gi_wp2_with fail
      refine ⟨fun _ h => (by cases h), ?_⟩
      gi_wp2_with fail
      simp only [Exit.jump]
      go_end0
      exact ⟨⟨_, rfl⟩, .inl ⟨pre, HE.out, HJ.out⟩⟩
    · have hlt : (pre.length : Int) < (n : Int) := by omega
      obtain ⟨x, hx⟩ : ∃ x, xs[pre.length]? = some x := ⟨_, List.getElem?_eq_getElem (by rw [Hr'.out.1]; exact hltn)⟩
      obtain ⟨fn, tmps, assign, body, hy, hR⟩ := HY.out pre pre.length x w' HJ.out ⟨rfl, hx⟩
      obtain ⟨b, off, rfl, hb, hc⟩ := Hr'.out.2 (by omega)
      obtain ⟨c0, c1, c2, c3, c4, c5, c6, c7, c8, c9, c10⟩ := hc pre.length x hx
      have HR := Lib.hid hR
      clear hR hc hx
      gi_wp2_with fail
      refine ⟨fun h => (by cases h), HR.out.mono ?_⟩
      rintro e W3 (⟨rfl, hJ3, hk3⟩ | ⟨rfl, hJx3⟩)
      · have HJ3 := Lib.hid hJ3
        have HK3 := Lib.hid hk3
        clear hJ3 hk3 c0 c1 c2 c3 c4 c5 c6 c7 c8 c9 c10
        gi_wp2_with fail
        refine wpIn_goto ?_
        have hb3 : W3.cell? ⟨Bn, 0, none⟩ = some (.slice (some ⟨b, off, none⟩) n c) := (World.cell?_of_block (a := ⟨Bn, 0, none⟩) HK3.out.2).trans hBn'
        have el : ((pre.length : Int) + 1) = ((pre ++ [(pre.length, x)]).length : Int) := by simp
        rw [el]
        refine ⟨rfl, ⟨pre ++ [(pre.length, x)], _, _, _, _, _, _, _, _, _, _, _, _, _, _, _, _, _, rfl, by simp; omega, hb3, Hr'.out.below HK3.out.1, HJ3.out⟩, ?_⟩
        simp [intOf]; omega
      · have HJx := Lib.hid hJx3
        clear hJx3 c0 c1 c2 c3 c4 c5 c6 c7 c8 c9 c10
        gi_wp2_with fail
        simp only [Exit.jump]
        go_end0
        exact ⟨⟨_, rfl⟩, .inr HJx.out⟩

/-- A box with its place, as the iterator hands it over. -/
def bxEnc (x : Nat × Bx) : Array Value := #[.int .i64 (x.1 : Int), .agg #[.int .i64 x.2.id, .int .i64 x.2.tok, .int .i64 x.2.ver, .int .i64 x.2.zone, .bool x.2.tag, .bool x.2.on, .bool x.2.gone, .bool x.2.well, .int .u8 x.2.lb, .int .i64 x.2.unt, .int .i64 x.2.fen]]
def BxOk (xs : List Bx) (pre : List (Nat × Bx)) (x : Nat × Bx) (_ : World) : Prop := x.1 = pre.length ∧ xs[x.1]? = some x.2

set_option maxRecDepth 100000 in
/-- The iterator hands over the boxes with their places, in order. -/
theorem boxes_mem (m Bn n₀ : Nat) (A : Option Addr) (n c : Nat) (xs : List Bx) (hn : n ≤ maxLen) (w : World) (hBl : Bn < w.heap.size) (hn₀ : n₀ ≤ w.heap.size) (hBn : w.cell? ⟨Bn, 0, none⟩ = some (.slice A n c)) (hr : RdX w n₀ A n xs) :
    SeqMem m Try.prog 43 #[.pointer (some ⟨Bn, 0, none⟩)] bxEnc (BxOk xs) (KpB n₀ Bn) (fun ys => ys.length = n) w := fun l J Jx W hW _ hY h0 =>
  boxes1_in m l Bn n₀ A n c xs hn J Jx (fun pre k x V hV hk => hY pre (k, x) V hV hk) W ((hW.cell (p := ⟨Bn, 0, none⟩) hBl).trans hBn) (hr.below (hW.mono hn₀)) h0

end Go.Proofs.Ytoiegffnmjlkdaa
