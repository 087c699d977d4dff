/-
  The walks of 'boxes' of package event and of the iterator that it hands back: the boxes' places in memory, in order. Conditions: those that each theorem names.
-/
import Derived.Test.YtoiegffnmjlkdaaCdBut
import Derived.Test.YtoiegffnmjlkdaaKpG
namespace Go.Proofs.Ytoiegffnmjlkdaa
open Go.RowKit Go.Shelf
attribute [local go_sem] Oper.semAt_some

set_option maxHeartbeats 400000 in
theorem evBoxes_any (Cb : Nat) (w : World) :
    Calls Try.prog 42 #[.pointer (some ⟨Cb, 0, none⟩)] w fun e w' => e = .returned (.func (.func 46) #[] #[.pointer (some ⟨w.heap.size, 0, none⟩)]) ∧ w' = w.alloc (.cells #[.pointer (some ⟨Cb, 0, none⟩)] 49) := by
  go_enter Try.func42, Try.ntmps42
  go_wp2
  go_ret
  exact ⟨rfl, rfl⟩

/-- A box's place, as the iterator hands it over. -/
def plEnc (g : Nat) (j : Nat) : Array Value := #[.pointer (some ⟨g, j * 11, none⟩)]
def PlOk (n : Nat) (pre : List Nat) (j : Nat) (_ : World) : Prop := j = pre.length ∧ j < n
def TwoG (Q Cb : Nat) (k : Nat) : Prop := k = Q ∨ k = Cb

/-- Where the iterator stands. -/
def PlIter (lp Q Cb : Nat) (A : Option Addr) (n c : Nat) (J : List Nat → World → Prop) (a' : Act) (w' : World) : Prop :=
  ∃ (pre : List Nat) (u4 u5 u6 u7 u8 u9 u10 u11 u12 u13 u14 u15 u16 u17 u18 u19 u20 u21 u22 : Value), a' = { tmps := #[.func (.yield lp) #[] #[], .pointer (some ⟨Q, 0, none⟩), undef, .int .i64 (pre.length : Int), u4, u5, u6, u7, u8, u9, u10, u11, u12, u13, u14, u15, u16, u17, u18, u19, u20, u21, u22], defers := [] } ∧ pre.length ≤ n ∧ w'.cell? ⟨Q, 0, none⟩ = some (.pointer (some ⟨Cb, 0, none⟩)) ∧ w'.cell? ⟨Cb, 0, none⟩ = some (.slice A n c) ∧ J pre w'

set_option maxRecDepth 100000 in
set_option maxHeartbeats 1000000 in
theorem evBoxes1_in (m lp Q Cb g : Nat) (A : Option Addr) (n c : Nat) (hn : n ≤ 1000) (hA : 0 < n → A = some ⟨g, 0, none⟩) (J : List Nat → World → Prop) (Jx : World → Prop)
    (hY : ∀ (pre : List Nat) (j : Nat) W, J pre W → (j = pre.length ∧ j < n) → YieldAt Fence.wide (m - 1) Try.prog lp #[.pointer (some ⟨g, j * 11, none⟩)] W fun e W' =>
      (e = .returned (.bool true) ∧ J (pre ++ [j]) W' ∧ KpG (TwoG Q Cb) W W') ∨ (e = .returned (.bool false) ∧ Jx W'))
    (W : World) (hQ : W.cell? ⟨Q, 0, none⟩ = some (.pointer (some ⟨Cb, 0, none⟩))) (hC : W.cell? ⟨Cb, 0, none⟩ = some (.slice A n c)) (h0 : J [] W) :
    CallsIn Fence.wide m Try.prog 46 #[.func (.yield lp) #[] #[], .pointer (some ⟨Q, 0, none⟩)] W fun e W' => (∃ v, e = .returned v) ∧
      ((∃ ys : List Nat, ys.length = n ∧ J ys W') ∨ Jx W') := by
  have HY := Lib.hid hY
  have HA := Lib.hid hA
  clear hY hA
  refine callsIn_of_wp Try.func46 rfl trivial ?_ rfl
  simp only [Try.ntmps46, List.size_toArray, List.length_cons, List.length_nil, Nat.reduceAdd, Nat.reduceSub, Array.replicate_succ, Array.replicate_zero, List.push_toArray, List.append_toArray, List.nil_append, List.cons_append]
  gi_wp2_with fail
  refine wpIn_wide.2 (wp_scope_back_behind 0 (PlIter lp Q Cb A n c J)
    (fun a' _ => n - (intOf (a'.tmps.getD 3 undef)).toNat) rfl (wpIn_wide (n := m).1 ?ahead) (fun a' w' hJ' => wpIn_wide (n := m).1 ?pass))
  case ahead =>
    gi_wp2_with fail
    exact ⟨[], _, _, _, _, _, _, _, _, _, _, _, _, _, _, _, _, _, _, _, rfl, Nat.zero_le _, hQ, hC, h0⟩
  case pass =>
    obtain ⟨pre, u4, u5, u6, u7, u8, u9, u10, u11, u12, u13, u14, u15, u16, u17, u18, u19, u20, u21, u22, rfl, hle, hQ', hC', hJp⟩ := hJ'
    clear hQ hC
    have HJ := Lib.hid hJp
    clear hJp h0
    by_cases hltn : pre.length < n
    rotate_left
    · have hge : decide (pre.length < n) = false := by simp; omega
      have HE := Lib.hid (show pre.length = n by omega)
      clear hle
      gi_wp2_with fail
      refine ⟨fun _ h => (by cases h), ?_⟩
      gi_wp2_with fail
      simp only [Exit.jump]
      go_end0
      exact ⟨⟨_, rfl⟩, .inl ⟨pre, HE.out, HJ.out⟩⟩
    · have hlt : (pre.length : Int) < (n : Int) := by omega
      have eA := HA.out (by omega)
      subst eA
      obtain ⟨fn, tmps, assign, body, hy, hR⟩ := HY.out pre pre.length w' HJ.out ⟨rfl, hltn⟩
      have HR := Lib.hid hR
      clear hR
      gi_wp2_with fail
      refine ⟨fun h => (by cases h), HR.out.mono ?_⟩
      rintro e W3 (⟨rfl, hJ3, hk3⟩ | ⟨rfl, hJx3⟩)
      · have HJ3 := Lib.hid hJ3
        have q3 : W3.cell? ⟨Q, 0, none⟩ = some (.pointer (some ⟨Cb, 0, none⟩)) := (World.cell?_of_block (a := ⟨Q, 0, none⟩) (hk3.2 Q (.inl rfl))).trans hQ'
        have c3 : W3.cell? ⟨Cb, 0, none⟩ = some (.slice (some ⟨g, 0, none⟩) n c) := (World.cell?_of_block (a := ⟨Cb, 0, none⟩) (hk3.2 Cb (.inr rfl))).trans hC'
        have Q3 := Lib.hid q3
        have C3 := Lib.hid c3
        clear hJ3 hk3 hQ' hC' q3 c3
        gi_wp2_with fail
        refine wpIn_goto ?_
        have el : ((pre.length : Int) + 1) = ((pre ++ [pre.length]).length : Int) := by simp
        rw [el]
        refine ⟨rfl, ⟨pre ++ [pre.length], _, _, _, _, _, _, _, _, _, _, _, _, _, _, _, _, _, _, _, rfl, by simp; omega, Q3.out, C3.out, HJ3.out⟩, ?_⟩
        simp [intOf]; omega
      · have HJx := Lib.hid hJx3
        clear hJx3 hQ' hC'
        gi_wp2_with fail
        simp only [Exit.jump]
        go_end0
        exact ⟨⟨_, rfl⟩, .inr HJx.out⟩

/-- The iterator hands over the boxes' places, in order. -/
theorem evBoxes_mem (m Q Cb g : Nat) (A : Option Addr) (n c : Nat) (hn : n ≤ 1000) (hA : 0 < n → A = some ⟨g, 0, none⟩) (w : World) (hQl : Q < w.heap.size) (hCl : Cb < w.heap.size) (hQ : w.cell? ⟨Q, 0, none⟩ = some (.pointer (some ⟨Cb, 0, none⟩))) (hC : w.cell? ⟨Cb, 0, none⟩ = some (.slice A n c)) :
    SeqMem m Try.prog 46 #[.pointer (some ⟨Q, 0, none⟩)] (plEnc g) (PlOk n) (KpG (TwoG Q Cb)) (fun ys => ys.length = n) w := fun l J Jx W hW _ hY h0 =>
  evBoxes1_in m l Q Cb g A n c hn hA J Jx (fun pre x V hV hk => hY pre x V hV hk) W ((hW.cell (p := ⟨Q, 0, none⟩) hQl).trans hQ) ((hW.cell (p := ⟨Cb, 0, none⟩) hCl).trans hC) h0

end Go.Proofs.Ytoiegffnmjlkdaa
