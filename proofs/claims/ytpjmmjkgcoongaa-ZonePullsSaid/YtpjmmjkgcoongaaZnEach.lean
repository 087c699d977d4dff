/-
  The walks of 'each' and of the iterator that it hands back (package zone). Conditions: those that each theorem names.
-/
import Derived.Test.YtpjmmjkgcoongaaMem
namespace Go.Proofs.Ytpjmmjkgcoongaa
open Go.RowKit Go.Shelf
attribute [local go_sem] Oper.semAt_some

set_option maxHeartbeats 400000 in
theorem each_any (A : Option Addr) (n c : Nat) (w : World) :
    Calls Try.prog 18 #[.slice A n c] w fun e w' => e = .returned (.func (.func 21) #[] #[.pointer (some ⟨w.heap.size, 0, none⟩)]) ∧ w' = w.alloc (.cells #[.slice A n c] 29) := by
  go_enter Try.func18, Try.ntmps18
  go_wp2
  go_ret
  exact ⟨rfl, rfl⟩

set_option maxRecDepth 100000 in
set_option maxHeartbeats 1000000 in
theorem each1_in (m l Bn n₀ : Nat) (A : Option Addr) (n c : Nat) (xs : List Int) (hn : n ≤ maxLen) (J Jx : List Int → World → Prop)
    (hY : ∀ pre x W, J pre W → pre.length < xs.length → YieldAt Fence.wide (m - 1) Try.prog l #[.int .i64 x] W fun e W' =>
      (e = .returned (.bool true) ∧ J (pre ++ [x]) W' ∧ KpB n₀ Bn W W') ∨ (e = .returned (.bool false) ∧ Jx (pre ++ [x]) W'))
    (W : World) (hBn : W.cell? ⟨Bn, 0, none⟩ = some (.slice A n c)) (hr : Rd W n₀ A n (iv xs)) (h0 : J [] W) :
    CallsIn Fence.wide m Try.prog 21 #[.func (.yield l) #[] #[], .pointer (some ⟨Bn, 0, none⟩)] W fun e W' => (∃ v, e = .returned v) ∧
      ((∃ ys, ys = xs ∧ J ys W') ∨ (∃ pre, pre <+: xs ∧ Jx pre W')) := by
  unfold maxLen at hn
  have HY := Lib.hid hY
  clear hY
  have Hr := Lib.hid hr
  clear hr
  refine callsIn_of_wp Try.func21 rfl trivial ?_ rfl
  simp only [Try.ntmps21, List.size_toArray, List.length_cons, List.length_nil, Nat.reduceAdd, Nat.reduceSub, Array.replicate_succ, Array.replicate_zero, List.push_toArray, List.append_toArray, List.nil_append, List.cons_append]
  gi_wp2_with fail
  refine wpIn_wide.2 (wp_scope_back_behind 0 (fun a' w' => ∃ (pre rest : List Int) (u4 u5 u6 u7 u8 u9 u10 u11 u12 u13 u14 u15 u16 u17 : Value), a' = { tmps := #[.func (.yield l) #[] #[], .pointer (some ⟨Bn, 0, none⟩), undef, .int .i64 (pre.length : Int), u4, u5, u6, u7, u8, u9, u10, u11, u12, u13, u14, u15, u16, u17], defers := [] } ∧ xs = pre ++ rest ∧ w'.cell? ⟨Bn, 0, none⟩ = some (.slice A n c) ∧ Rd w' n₀ A n (iv xs) ∧ J pre w')
    (fun a' _ => n - (intOf (a'.tmps.getD 3 undef)).toNat) rfl (wpIn_wide (n := m).1 ?ahead) (fun a' w' hJ' => wpIn_wide (n := m).1 ?pass))
  case ahead =>
    gi_wp2_with fail
    exact ⟨[], rfl, ⟨xs, rfl⟩, Hr.out, h0⟩
  case pass =>
    obtain ⟨pre, rest, u4, u5, u6, u7, u8, u9, u10, u11, u12, u13, u14, u15, u16, u17, rfl, hx, hBn', hr', hJp⟩ := hJ'
    clear hBn
    have Hr' := Lib.hid hr'
    have Hx := Lib.hid hx
    have HJ := Lib.hid hJp
    have hl : (iv xs).length = n := hr'.1
    rw [iv_length, hx, List.length_append] at hl
    clear hr' hx hJp h0 Hr
    cases rest with
    | nil =>
      have hge : decide (pre.length < n) = false := by simp at hl ⊢; omega
      have hge2 : ¬ pre.length < n := by simp at hl; omega
      clear hl
      gi_wp2_with fail
      refine ⟨fun _ h => (by cases h), ?_⟩
      gi_wp2_with fail
      simp only [Exit.jump]
      go_end0
      exact ⟨⟨_, rfl⟩, .inl ⟨pre, by rw [Hx.out, List.append_nil], HJ.out⟩⟩
    | cons x rest =>
      have hlt : (pre.length : Int) < (n : Int) := by simp at hl; omega
      have hltn : pre.length < n := by omega
      obtain ⟨fn, tmps, assign, body, hy, hR⟩ := HY.out pre x w' HJ.out (by rw [Hx.out]; simp)
      obtain ⟨b, off, rfl, hb, hc⟩ := Hr'.out.2 (by omega)
      have hcell := hc pre.length hltn
      have e1 : (iv xs)[pre.length]? = some (.int .i64 x) := by rw [Hx.out]; simp [iv]
      rw [e1] at hcell
      clear e1 hc hl
      have HR := Lib.hid hR
      clear hR
      gi_wp2_with fail
      refine ⟨fun h => (by cases h), HR.out.mono ?_⟩
      rintro e W3 (⟨rfl, hJ3, hk3⟩ | ⟨rfl, hJx3⟩)
      · have HJ3 := Lib.hid hJ3
        have HK3 := Lib.hid hk3
        clear hJ3 hk3
        gi_wp2_with fail
        refine wpIn_goto ?_
        have hb3 : W3.cell? ⟨Bn, 0, none⟩ = some (.slice (some ⟨b, off, none⟩) n c) := (World.cell?_of_block (a := ⟨Bn, 0, none⟩) HK3.out.2).trans hBn'
        have el : ((pre.length : Int) + 1) = ((pre ++ [x]).length : Int) := by simp
        rw [el]
        refine ⟨rfl, ⟨pre ++ [x], rest, _, _, _, _, _, _, _, _, _, _, _, _, _, _, rfl, by rw [Hx.out]; simp, hb3, Hr'.out.below HK3.out.1, HJ3.out⟩, ?_⟩
        simp [intOf]; omega
      · have HJx := Lib.hid hJx3
        clear hJx3
        gi_wp2_with fail
        simp only [Exit.jump]
        go_end0
        exact ⟨⟨_, rfl⟩, .inr ⟨pre ++ [x], ⟨rest, by rw [Hx.out]; simp⟩, HJx.out⟩⟩

/-- The iterator hands over the slice's numbers, in order. -/
theorem each_stops (m Bn n₀ : Nat) (A : Option Addr) (n c : Nat) (xs : List Int) (hn : n ≤ maxLen) (w : World) (hBl : Bn < w.heap.size) (hn₀ : n₀ ≤ w.heap.size) (hBn : w.cell? ⟨Bn, 0, none⟩ = some (.slice A n c)) (hr : Rd w n₀ A n (iv xs)) :
    SeqStopsK Fence.wide m Try.prog 21 #[.pointer (some ⟨Bn, 0, none⟩)] (fun x : Int => #[Value.int .i64 x]) (KpB n₀ Bn) (fun ys => ys = xs) (fun pre => pre <+: xs) xs.length w := fun l J Jx W hW _ _ hY h0 =>
  each1_in m l Bn n₀ A n c xs hn J Jx hY W ((hW.cell (p := ⟨Bn, 0, none⟩) hBl).trans hBn) (hr.below (hW.mono hn₀)) h0

end Go.Proofs.Ytpjmmjkgcoongaa
