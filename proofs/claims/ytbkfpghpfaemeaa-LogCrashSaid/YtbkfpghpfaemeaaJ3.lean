/-
  Texts that the walks of the statements over logs lean on, joined (RefNum, RefTake, RefRow, RefTakeRow, RefRec, FrSum, FrMath, RowsB, FrPut, RefFrPut, DiskBase). Conditions: those that each theorem names.
-/
import Derived.Test.YtbkfpghpfaemeaaJ0
import Derived.Test.YtbkfpghpfaemeaaJ1
import Derived.Test.YtbkfpghpfaemeaaJ2
import Derived.Lib.AppendZerosOnto
import Derived.Laws.OwnMore

/-
  The walks of the document's own 'fine', 'Put' and 'Take' of numbers. Conditions: those that each theorem names.
-/
namespace Go.Proofs.Ytbkfpghpfaemeaa
open Go.RowKit Go.Shelf

set_option maxRecDepth 100000 in
set_option maxHeartbeats 400000 in
theorem fine_any (n : Int) (w : World) : Calls Try.prog 63 #[.int .i64 n] w fun e w' => e = .returned (.bool (isNum n)) ∧ w = w' := by
  by_cases h0 : 0 ≤ n
  · by_cases h1 : n ≤ 1099511627776
    · rw [isNum_yes h0 h1]
      go_enter Try.func63, Try.ntmps63
      go_wp2
      go_ret
      exact ⟨rfl, rfl⟩
    · have e : isNum n = false := by simp [isNum, h1]
      rw [e]
      go_enter Try.func63, Try.ntmps63
      go_wp2
      go_ret
      exact ⟨rfl, rfl⟩
  · have e : isNum n = false := by simp [isNum, h0]
    rw [e]
    go_enter Try.func63, Try.ntmps63
    go_wp2
    go_ret
    exact ⟨rfl, rfl⟩

set_option maxRecDepth 100000 in
set_option maxHeartbeats 400000 in
theorem refPut_no (n : Int) (hn : isNum n = false) (w : World) :
    Calls Try.prog 64 #[.int .i64 n] w fun e w' => e = .returned (.tuple #[.slice none 0 0, .int .i64 2]) ∧ w = w' := by
  go_enter Try.func64, Try.ntmps64
  go_wp2_with (first | (go_at_call 63; refine (fine_any _ _).mono ?_; rintro e w' ⟨rfl, rfl⟩))
  go_ret2
  exact ⟨rfl, rfl⟩

set_option maxRecDepth 1000000 in
set_option maxHeartbeats 1000000 in
theorem refPut_yes (N : Nat) (hN : N ≤ 1099511627776) (w : World) :
    Calls Try.prog 64 #[.int .i64 (N : Int)] w (TwoPost w.heap.size (put N).length (bv (put N)) w) := by
  obtain ⟨i0, hi, hz0, hz1, hz2⟩ := info_parts info_u8
  have hnum : isNum (N : Int) = true := isNum_yes (by omega) (by omega)
  have hl6 := put_six hN
  go_enter Try.func64, Try.ntmps64
  go_wp2_with (first | (go_at_call 63; refine (fine_any _ _).mono ?_; rintro e w' ⟨rfl, rfl⟩))
  go_loopw [0, 4] (fun x v wr => ∃ (m j : Nat) (ys : List Value), x = .int .i64 (m : Int) ∧ AddInv w.heap.size j ys w v wr ∧ j + (put m).length = (put N).length ∧ ys ++ bv (put m) = bv (put N) ∧ m ≤ N) (fun x _ _ => (intOf x).toNat)
  case atStart => exact ⟨N, 0, [], rfl, ⟨World.ownsRow_nil _ _ _ _, Below.refl _ _, KeepsOthers.refl _, Nat.le_refl _⟩, by omega, rfl, Nat.le_refl _⟩
  case round =>
    obtain ⟨m, j, ys, rfl, hP, hlen, hcat, hm⟩ := hrel
    obtain ⟨hr, hb, hko, hs⟩ := id hP
    have HP := Lib.hid hP
    have Hlen := Lib.hid hlen
    have Hcat := Lib.hid hcat
    have hp := put_pos m
    have hj : j ≤ 10 := by omega
    clear hP hlen hcat hb hko
    by_cases hlt : m < 128
    · go_wp2_with (at_builtin; refine wpList_append_own_at _ rfl _ _ 22 rfl w.heap.size 5 i0 (.int .u8 0) 1 1 Try.underlying22 hi hz0 hz1 hz2 rfl (by decide) _ _ _ rfl (hr.alloc _) ⟨wr.heap.size, 0, none⟩ 1 1 [.int .u8 (m : Int)] rfl rfl (cell_one_new _ _ _) (by simp [Value.oneCell']) (by unfold maxLen; omega) (by omega) (by simp; omega) ?_; intro v1 w1 hown1 hgrow1 _ _)
      obtain ⟨g1, cap1, rfl⟩ := ownsRow_succ hown1
      have e1 := Hlen.out
      have e2 := Hcat.out
      rw [put_small hlt] at e1 e2
      go_ret2
      have hI := addInv_step HP.out hown1 hgrow1
      have e3 : j + 1 = (put N).length := by simpa using e1
      have e4 : ys ++ [.int .u8 (m : Int)] = bv (put N) := by rw [← e2]; rfl
      rw [e4] at hI
      rw [e3] at hI ⊢
      exact ⟨_, _, rfl, hI⟩
    · go_wp2_with (at_builtin; refine wpList_append_own_at _ rfl _ _ 22 rfl w.heap.size 5 i0 (.int .u8 0) 1 1 Try.underlying22 hi hz0 hz1 hz2 rfl (by decide) _ _ _ rfl (hr.alloc _) ⟨wr.heap.size, 0, none⟩ 1 1 [.int .u8 ((m % 128 + 128 : Nat) : Int)] rfl rfl (cell_one_new _ _ _) (by simp [Value.oneCell']) (by unfold maxLen; omega) (by omega) (by simp; omega) ?_; intro v1 w1 hown1 hgrow1 _ _)
      have e1 := Hlen.out
      have e2 := Hcat.out
      rw [put_big hlt] at e1 e2
      go_roundw
      case rel => exact ⟨m / 128, j + 1, _, by go_num, addInv_step HP.out hown1 hgrow1, by simp only [List.length_cons] at e1; omega, by rw [← e2]; simp [bv], by omega⟩
      case measure => simp [intOf]; omega

end Go.Proofs.Ytbkfpghpfaemeaa

/-
  The walk of the document's own 'Take' of a number. Conditions: those that each theorem names.
-/
namespace Go.Proofs.Ytbkfpghpfaemeaa
open Go.RowKit Go.Shelf

/-- What Take answers: a number, the bytes behind, an error's number. -/
def TakeRef (N : Nat) (rest : List Nat) (E : Nat) (w : World) (e : Ending) (w' : World) : Prop :=
  ∃ A c, e = .returned (.tuple #[.int .i64 (N : Int), .slice A rest.length c, .int .i64 (E : Int)]) ∧ w'.ownsRow w.heap.size 5 1 (.slice A rest.length c) rest.length (bv rest) ∧ Below w.heap.size w w'
set_option maxRecDepth 100000 in
theorem takeRef_no {E : Nat} {w w' : World} (hb : Below w.heap.size w w') : TakeRef 0 [] E w (.returned (.tuple #[.int .i64 0, .slice none 0 0, .int .i64 (E : Int)])) w' :=
  ⟨none, 0, rfl, World.ownsRow_nil _ _ _ _, hb⟩

set_option maxRecDepth 100000 in
/-- 'append([]byte{}, b[k:]...)': both run. -/
theorem refTake_end {A : Option Addr} {n c : Nat} {bs : List Nat} {w : World} (hr : Rd w w.heap.size A n (bv bs)) (hn : n ≤ 1000000) (hc : n ≤ c) {k : Nat} (hk : k ≤ n) {rest : List Nat} (hrest : rest = bs.drop k) :
    ∃ A' A3 c3 W1, (∀ W : World, (Instr.slice 22 (.slice A n c) (some (.int .i64 (k : Int))) none none).run Try.prog W = .ok (.slice A' rest.length (c - k)) W) ∧
      (Builtin.append_ #[22, 22] 22 #[.slice (some ⟨w.heap.size, 0, none⟩) 0 0, .slice A' rest.length (c - k)]).run Try.prog (w.alloc (.cells #[] 5)) = .ok (.slice A3 rest.length c3) W1 ∧
      W1.ownsRow w.heap.size 5 1 (.slice A3 rest.length c3) rest.length (bv rest) ∧ Below w.heap.size w W1 := by
  obtain ⟨A', hA1, hA2⟩ := run_rest A n c k hk
  have R2 : Rd w w.heap.size A' (n - k) (bv rest) := by
    have h1 := hr.cut (k := k) hk A' (fun h => hA2 ⟨h, hc⟩)
    rw [hrest, bv, List.map_drop]
    exact h1
  have hrl : rest.length = n - k := by have := R2.1; rwa [bv_length] at this
  rw [← hrl] at R2 hA1
  have ho := World.ownsRow_made (base := w.heap.size) (e := 5) (size := 1) w #[] 0 (Nat.le_refl _) (Nat.zero_le _) rfl
  obtain ⟨v1, W1, e2, o1, g1⟩ := run_app (w.alloc (.cells #[] 5)) w.heap.size _ 0 [] ho w.heap.size A' rest.length (c - k) rest (R2.alloc (Nat.le_refl _) _) (by omega) (by simp)
  rw [Nat.zero_add, List.nil_append] at o1
  obtain ⟨A3, c3, rfl⟩ := own_form o1
  exact ⟨A', A3, c3, W1, hA1, e2, o1, ((Below.refl _ w).alloc (Nat.le_refl _) (.cells #[] 5)).trans (below_row ho g1 (by simp))⟩

set_option maxRecDepth 1000000 in
set_option maxHeartbeats 800000 in
theorem refTake_is (A : Option Addr) (n c : Nat) (bs : List Nat) (B : Nat) (w : World) (hr : Rd w B A n (bv bs)) (hB : B ≤ w.heap.size) (hb : ∀ x ∈ bs, x < 256) (hn : n ≤ 1000000) (hc : n ≤ c) {N E : Nat} {rest : List Nat} (hN : (first bs).1 = N) (hE : (first bs).2.2 = E) (hrest : behind bs = rest) :
    Calls Try.prog 44 #[.slice A n c] w (TakeRef N rest E w) := by
  have Hlen : Hid (bs.length = n) := by have := hr.1; rw [bv_length] at this; exact this
  have Hb := Lib.hid hb
  have Hr := Lib.hid (hr.more hB)
  have HN := Lib.hid hN
  have HE := Lib.hid hE
  have HRest := Lib.hid hrest
  clear hb hr hN hE hrest hB
  have HFin : Hid (∀ K e, first bs = (0, K, e) → e ≠ 0 → N = 0 ∧ E = e ∧ rest = []) := fun K e h he => by
    refine ⟨by rw [← HN.out, h], by rw [← HE.out, h], by rw [← HRest.out, behind, h, if_neg he]⟩
  go_enter Try.func44, Try.ntmps44
  go_wp2_with fail
  go_loop [5, 6, 7] (fun x y i => ∃ (M k P : Nat), x = .int .i64 (M : Int) ∧ y = .int .i64 (P : Int) ∧ i = .int .i64 (k : Int) ∧ FirstInv bs n M k P) (fun _ _ i => n - (intOf i).toNat)
  case atStart => exact ⟨0, 0, 1, rfl, rfl, rfl, FirstInv.start bs n⟩
  case round =>
    obtain ⟨M, k, P, rfl, rfl, rfl, hI⟩ := hrel
    have HI := Lib.hid hI
    have hkn := hI.le
    have hk5 := hI.five
    obtain ⟨hP1, hP2⟩ := hI.bound
    have hNP := hI.val
    clear hI
    by_cases hlt : k < n
    · obtain ⟨b, off, rfl, hB, hcl⟩ := Hr.out.2 (by omega)
      have hkl : k < bs.length := by rw [Hlen.out]; exact hlt
      obtain ⟨d, hd⟩ : ∃ d, bs[k]? = some d := ⟨_, List.getElem?_eq_getElem hkl⟩
      have hd6 : d < 256 := Hb.out d (List.mem_of_getElem? hd)
      have hcell := hcl k hlt
      have e1 : (bv bs)[k]? = some (.int .u8 (d : Int)) := by simp [bv, hd]
      rw [e1] at hcell
      have hbd := digit_bound d P hP2
      have hz1 : (0 : Int) ≤ (d : Int) % 128 * (P : Int) := by
        have : ((d % 128 * P : Nat) : Int) = (d : Int) % 128 * (P : Int) := by simp
        omega
      have hz2 : (d : Int) % 128 * (P : Int) ≤ 4363686772736 := by
        have : ((d % 128 * P : Nat) : Int) = (d : Int) % 128 * (P : Int) := by simp
        omega
      have Hd := Lib.hid hd
      have hI2 : (k : Int) < (n : Int) := by omega
      clear hd hcl e1 hkl
      have HkN : Hid (k < n) := hlt
      by_cases h128 : 128 ≤ d
      · have d128 : ¬ (d : Int) < 128 := by omega
        by_cases h6 : k + 1 < 6
        · have hne : ((k : Int) == 5) = false := by rw [beq_eq_false_iff_ne]; omega
          go_wp2_with fail
          go_round
          case rel => exact ⟨M + d % 128 * P, k + 1, P * 128, by simp, by go_num, by go_num, HI.out.next Hlen.out Hd.out h128 h6⟩
          case measure => simp [intOf]; omega
        · have hne : ((k : Int) == 5) = true := by rw [beq_iff_eq]; omega
          have e := HI.out.look Hd.out
          rw [if_neg (by omega), if_pos (.inl h128)] at e
          obtain ⟨rfl, rfl, rfl⟩ := HFin.out 0 11 e (by omega)
          clear e
          go_wp2_with fail
          go_ret3
          exact takeRef_no (Below.refl _ _)
      · have d128 : (d : Int) < 128 := by omega
        by_cases h0 : d = 0 ∧ 1 < k + 1
        · have e := HI.out.look Hd.out
          rw [if_neg (by omega), if_pos (.inr (.inl h0))] at e
          obtain ⟨rfl, rfl, rfl⟩ := HFin.out 0 11 e (by omega)
          clear e
          obtain ⟨h0, h01⟩ := h0
          have hd0 : ((d : Int) == 0) = true := by simp; omega
          have hk0 : (0 : Int) < (k : Int) := by omega
          go_wp2_with fail
          go_ret3
          exact takeRef_no (Below.refl _ _)
        · by_cases hbig : M + d % 128 * P ≤ 1099511627776
          · have e := HI.out.look Hd.out
            rw [if_neg (by omega), if_neg (by omega)] at e
            have hNn : N = M + d % 128 * P := by rw [← HN.out, e]
            have hEn : E = 0 := by rw [← HE.out, e]
            have hRn : rest = bs.drop (k + 1) := by rw [← HRest.out, behind, e, if_pos rfl]
            have hnum : isNum ((M : Int) + (d : Int) % 128 * (P : Int)) = true := isNum_yes (by omega) (big_cast.1 hbig)
            have hNum : ((N : Nat) : Int) = (M : Int) + (d : Int) % 128 * (P : Int) := by rw [hNn]; simp
            subst hEn
            obtain ⟨A', A3, c3, W1, hA1, e2, o1, b1⟩ := refTake_end Hr.out hn hc (show k + 1 ≤ n by omega) hRn
            have B1 := Lib.hid b1
            have O1 := Lib.hid o1
            have E1 := Lib.hid e2
            have HNum := Lib.hid hNum
            clear e hNn hRn o1 e2 hNum b1
            by_cases hd0 : d = 0
            · obtain rfl : k = 0 := by rcases Nat.eq_zero_or_pos k with h | h; exact h; exact absurd ⟨hd0, by omega⟩ h0
              have hd1 : ((d : Int) == 0) = true := by simp; omega
              have e1 : ((0 + 1 : Nat) : Int) = 1 := rfl
              rw [e1] at hA1
              rw [Nat.add_zero] at hcell
              clear h0 hd0 e1
              go_wp2_with (first | (go_at_call 63; refine (fine_any _ _).mono ?_; rintro e w' ⟨rfl, rfl⟩) | (at_builtin; refine wpList_app (by rfl) _ _ _ rfl _ _ _ _ rfl rfl E1.out ?_; clear E1))
              go_ret3
              exact ⟨A3, c3, by rw [HNum.out]; rfl, O1.out, B1.out⟩
            · have hd1 : ((d : Int) == 0) = false := by simp; omega
              have e1 : ((k + 1 : Nat) : Int) = (k : Int) + 1 := by omega
              rw [e1] at hA1
              clear h0 e1
              go_wp2_with (first | (go_at_call 63; refine (fine_any _ _).mono ?_; rintro e w' ⟨rfl, rfl⟩) | (at_builtin; refine wpList_app (by rfl) _ _ _ rfl _ _ _ _ rfl rfl E1.out ?_; clear E1))
              go_ret3
              exact ⟨A3, c3, by rw [HNum.out]; rfl, O1.out, B1.out⟩
          · have e := HI.out.look Hd.out
            rw [if_neg (by omega), if_pos (.inr (.inr (by omega)))] at e
            obtain ⟨rfl, rfl, rfl⟩ := HFin.out 0 11 e (by omega)
            clear e
            have hnum : isNum ((M : Int) + (d : Int) % 128 * (P : Int)) = false := by simp only [isNum, Bool.and_eq_false_iff, decide_eq_false_iff_not]; right; exact fun h => hbig (big_cast.2 h)
            by_cases hd0 : d = 0
            · have hk1 : ¬ 1 < k + 1 := fun h => h0 ⟨hd0, h⟩
              have hd1 : ((d : Int) == 0) = true := by simp; omega
              have hk3 : ¬ (0 : Int) < (k : Int) := by omega
              have hk4 : decide ((0 : Int) < (k : Int)) = false := by simpa using hk3
              clear h0 hd0 hk1
              go_wp2_with (go_at_call 63; refine (fine_any _ _).mono ?_; rintro e w' ⟨rfl, rfl⟩)
              go_ret3
              exact takeRef_no (Below.refl _ _)
            · have hd1 : ((d : Int) == 0) = false := by simp; omega
              clear h0
              go_wp2_with (go_at_call 63; refine (fine_any _ _).mono ?_; rintro e w' ⟨rfl, rfl⟩)
              go_ret3
              exact takeRef_no (Below.refl _ _)
    · have e := HI.out.end_ Hlen.out (by omega)
      obtain ⟨rfl, rfl, rfl⟩ := HFin.out 0 10 e (by omega)
      clear e
      go_wp2_with fail
      go_ret3
      exact takeRef_no (Below.refl _ _)

end Go.Proofs.Ytbkfpghpfaemeaa

/-
  The walks of the document's own 'Row' and 'TakeRow' of numbers. Conditions: those that each theorem names.
-/
namespace Go.Proofs.Ytbkfpghpfaemeaa
open Go.RowKit Go.Shelf

set_option maxRecDepth 100000 in
theorem own_stays {w w' : World} {base : Nat} {e : TypeId} {size n : Nat} {v : Value} {xs : List Value} (h : w.ownsRow base e size v n xs) (hb : Below w.heap.size w w') : w'.ownsRow base e size v n xs := by
  refine h.kept (row := none) ⟨hb.os, hb.tape, hb.output, hb.size, fun i hi _ => hb.block i hi⟩ ?_
  rcases h.2 with ⟨rfl, _⟩ | ⟨g, cap, cur, rfl, _⟩
  · exact .inl rfl
  · exact .inr (by simp [Value.ownBlock])

/-- What holds at each number of the row. -/
structure RefRowAt (w : World) (n : Nat) (zs : List Int) (j : Nat) (v : Value) (W : World) : Prop where
  le : j ≤ n
  num : (zs.take j).all isNum = true
  own : W.ownsRow w.heap.size 5 1 v (sofar n (zs.take j)).length (bv (sofar n (zs.take j)))
  below : Below w.heap.size w W

set_option maxRecDepth 100000 in
theorem refRowAt_step {w W W1 W2 : World} {n j m : Nat} {zs : List Int} {v v' : Value} (h : RefRowAt w n zs j v W) (hl : zs.length = n) (hj : j < n) (hz : zs[j]? = some (m : Int)) (hm : m ≤ 1099511627776) (hb : Below W.heap.size W W1)
    (ho : W2.ownsRow w.heap.size 5 1 v' ((sofar n (zs.take j)).length + (put m).length) (bv (sofar n (zs.take j)) ++ bv (put m))) (hg : W1.grownBy W2 v.ownBlock) : RefRowAt w n zs (j + 1) v' W2 := by
  have hjl : j < zs.length := by omega
  have e : zs.take (j + 1) = zs.take j ++ [(m : Int)] := by
    rw [List.take_succ_eq_append_getElem hjl]
    rw [List.getElem?_eq_getElem hjl] at hz
    rw [Option.some.inj hz]
  have hnum : isNum (m : Int) = true := isNum_yes (by omega) (by omega)
  have b1 := h.below.trans (hb.mono h.below.size)
  refine ⟨by omega, by rw [e, List.all_append, h.num]; simp [hnum], ?_, b1.trans (below_row (own_stays h.own hb) hg b1.size)⟩
  rw [e, sofar_snoc, List.length_append, bv_append]
  exact ho

set_option maxRecDepth 100000 in
set_option maxHeartbeats 1000000 in
theorem refRow_any (A : Option Addr) (n c : Nat) (zs : List Int) (w : World) (hr : Rd w w.heap.size A n (iv zs)) :
    Calls Try.prog 70 #[.slice A n c] w (RowPost zs w) := by
  have hl : zs.length = n := by have := hr.1; rwa [iv_length] at this
  by_cases hn : n ≤ 40
  · have HL := Lib.hid hl
    have HR := Lib.hid hr
    have d40 : decide ((40 : Int) < (n : Int)) = false := by simp; omega
    clear hl hr
    go_enter Try.func70, Try.ntmps70
    go_wp2_with fail
    refine (refPut_yes n (by omega) w).mono ?_
    rintro e w1 ⟨A1, c1, rfl, I1⟩
    have HI1 : Hid (RefRowAt w n zs 0 (.slice A1 (put n).length c1) w1) := ⟨by omega, rfl, by have := I1.1; simpa [sofar, nats, puts] using this, I1.2.1⟩
    clear I1
    go_wp2_with fail
    go_loopw [4, 6] (fun v i wr => ∃ j : Nat, i = .int .i64 (j : Int) ∧ RefRowAt w n zs j v wr) (fun _ i _ => n - (intOf i).toNat)
    case atStart => exact ⟨0, rfl, HI1.out⟩
    case round =>
      obtain ⟨j, rfl, hI⟩ := hrel
      clear HI1
      have hjn := hI.le
      obtain ⟨Av, cv, rfl⟩ := own_form hI.own
      have hS : (sofar n (zs.take j)).length ≤ 246 := by
        have := sofar_six hn hI.num
        rw [List.length_take] at this; omega
      by_cases hj : j < n
      · obtain ⟨b, off, rfl, hB, hc⟩ := (HR.out.below hI.below).2 (by omega)
        have hjl : j < zs.length := by rw [HL.out]; exact hj
        obtain ⟨z, hz⟩ : ∃ z, zs[j]? = some z := ⟨_, List.getElem?_eq_getElem hjl⟩
        have hcell := hc j hj
        have e1 : (iv zs)[j]? = some (.int .i64 z) := by simp [iv, hz]
        rw [e1] at hcell
        have Hz := Lib.hid hz
        have HI := Lib.hid hI
        have hIlt : (j : Int) < (n : Int) := by omega
        clear hz hc e1 hjl hI
        by_cases hnum : isNum z = true
        · obtain ⟨hz0, hz1⟩ := isNum_iff.1 hnum
          obtain ⟨m, rfl⟩ := Int.eq_ofNat_of_zero_le hz0
          have hP := put_six (n := m) (by omega)
          have hm : m ≤ 1099511627776 := by omega
          clear hz0 hz1 hnum
          go_wp2_with fail
          refine (refPut_yes m hm _).mono ?_
          rintro e w3 ⟨A3, c3, rfl, I3⟩
          obtain ⟨v4, W4, e4, o4, g4⟩ := run_app w3 w.heap.size _ _ _ (own_stays HI.out.own I3.2.1) w3.heap.size A3 (put m).length c3 (put m) I3.rd (by omega) (HI.out.below.trans (I3.2.1.mono HI.out.below.size)).size
          obtain ⟨A4, c4, rfl⟩ := own_form o4
          have hS4 := refRowAt_step HI.out HL.out hj Hz.out hm I3.2.1 o4 g4
          have HS4 := Lib.hid hS4
          have E4 := Lib.hid e4
          clear I3 e4 o4 g4 hS4
          go_wp2_with (at_builtin; refine wpList_app (by rfl) _ _ _ rfl _ _ _ _ rfl rfl E4.out ?_; clear E4)
          go_roundw
          case rel => exact ⟨j + 1, by go_num, HS4.out⟩
          case measure => simp [intOf]; omega
        · have hnf : isNum z = false := by simpa using hnum
          have HF := Lib.hid (show isRow zs = false by
            have h1 : zs.all isNum = false := by
              simp only [List.all_eq_false]
              exact ⟨z, List.mem_of_getElem? Hz.out, by simp [hnf]⟩
            simp [isRow, h1])
          have HNf := Lib.hid hnf
          clear hnum hnf
          go_wp2_with fail
          refine (refPut_no z HNf.out _).mono ?_
          rintro e w3 ⟨rfl, rfl⟩
          go_wp2_with fail
          go_ret2
          exact .inr ⟨HF.out, rfl, HI.out.below⟩
      · obtain rfl : n = j := by omega
        have HI := Lib.hid hI
        clear hI
        go_wp2_with fail
        go_ret2
        have h1 := HI.out.num
        have h2 := HI.out.own
        rw [List.take_of_length_le (by have := HL.out; omega)] at h1 h2 ⊢
        have h3 := HL.out
        rw [show sofar n zs = row (nats zs) by rw [← h3]; exact sofar_row zs] at h2 ⊢
        exact .inl ⟨by simp only [isRow, h1, Bool.and_true, decide_eq_true_eq]; omega, Av, cv, rfl, h2, HI.out.below, below_keeps HI.out.below, HI.out.below.size⟩
  · have HF := Lib.hid (show isRow zs = false by simp [isRow]; omega)
    have hn' : (40 : Int) < (n : Int) := by omega
    clear hr hl
    go_enter Try.func70, Try.ntmps70
    go_wp2_with fail
    go_ret2
    exact .inr ⟨HF.out, rfl, Below.refl _ _⟩

end Go.Proofs.Ytbkfpghpfaemeaa

/-
  The walk of the document's own 'TakeRow' of numbers. Conditions: those that each theorem names.
-/
namespace Go.Proofs.Ytbkfpghpfaemeaa
open Go.RowKit Go.Shelf

set_option maxRecDepth 100000 in
/-- Rows of elements of two types are two blocks. -/
theorem own_apart {w w' : World} {b1 b2 n1 n2 : Nat} {v1 v2 : Value} {xs1 xs2 : List Value} {e1 e2 : TypeId} (h1 : w.ownsRow b1 e1 1 v1 n1 xs1) (h2 : w.ownsRow b2 e2 1 v2 n2 xs2) (hne : e1 ≠ e2) (hg : w.grownBy w' v2.ownBlock) : w'.ownsRow b1 e1 1 v1 n1 xs1 := by
  refine h1.kept hg ?_
  rcases h1.2 with ⟨rfl, _⟩ | ⟨g, cap, cur, rfl, _, hc, _⟩
  · exact .inl rfl
  · right
    intro e
    rcases h2.2 with ⟨rfl, _⟩ | ⟨g2, cap2, cur2, rfl, _, hc2, _⟩
    · simp [Value.ownBlock] at e
    · simp only [Value.ownBlock, Option.some.injEq] at e
      subst e
      rw [hc] at hc2
      injection hc2 with h3
      injection h3 with _ h4
      exact hne h4

/-- What holds at each number that has been taken: pre: the numbers; rem: the bytes that are left. -/
structure TkAt (w : World) (bs : List Nat) (M j : Nat) (v : Value) (A' : Option Addr) (m c' : Nat) (pre rem : List Nat) (K : Nat) (W : World) : Prop where
  le : j ≤ M
  len : pre.length = j
  own : W.ownsRow w.heap.size 3 1 v j (iv (ints pre))
  rest : W.ownsRow w.heap.size 5 1 (.slice A' m c') m (bv rem)
  left : rem = bs.drop K
  same : takes M bs = (K + (takes (M - j) rem).1, pre ++ (takes (M - j) rem).2.1, (takes (M - j) rem).2.2)
  below : Below w.heap.size w W

set_option maxRecDepth 100000 in
theorem TkAt.look {w : World} {bs : List Nat} {M j : Nat} {v : Value} {A' : Option Addr} {m c' : Nat} {pre rem : List Nat} {K : Nat} {W : World} (h : TkAt w bs M j v A' m c' pre rem K W) (hj : j < M) {N L E : Nat} (hF : first rem = (N, L, E)) :
    (E ≠ 0 → (takes M bs).2.2 = E) ∧ (E = 0 → takes M bs = (K + L + (takes (M - (j + 1)) (rem.drop L)).1, (pre ++ [N]) ++ (takes (M - (j + 1)) (rem.drop L)).2.1, (takes (M - (j + 1)) (rem.drop L)).2.2)) := by
  obtain ⟨q, hq⟩ : ∃ q, M - j = q + 1 := ⟨M - j - 1, by omega⟩
  have hq2 : M - (j + 1) = q := by omega
  have hs := h.same
  rw [hq] at hs
  simp only [takes, hF] at hs
  rw [hq2]
  constructor
  · intro hE
    rw [if_neg hE] at hs
    rw [hs]
  · intro hE
    rw [if_pos hE] at hs
    rw [hs]
    simp [Nat.add_assoc]
set_option maxRecDepth 100000 in
theorem ints_snoc (l : List Nat) (x : Nat) : iv (ints (l ++ [x])) = iv (ints l) ++ [.int .i64 (x : Int)] := by simp [iv, ints]

set_option maxRecDepth 100000 in
set_option maxHeartbeats 1000000 in
theorem refTakeRow_is (A : Option Addr) (n c : Nat) (bs : List Nat) (B : Nat) (w : World) (hr : Rd w B A n (bv bs)) (hB : B ≤ w.heap.size) (hb : ∀ x ∈ bs, x < 256) (hn : n ≤ 1000000) (hc : n ≤ c) {E : Nat} {l rest : List Nat}
    (hL : (takeRow bs).2.1 = l) (hE : (takeRow bs).2.2 = E) (hR : behindRow bs = rest) :
    Calls Try.prog 46 #[.slice A n c] w (RowIs l rest E w) := by
  obtain ⟨N, K0, E0, hF⟩ : ∃ N K E, first bs = (N, K, E) := ⟨_, _, _, rfl⟩
  obtain ⟨bs1, hbs1⟩ : ∃ bs1, behind bs = bs1 := ⟨_, rfl⟩
  have HT := Lib.hid (refTake_is A n c bs B w hr hB hb hn hc (N := N) (E := E0) (rest := bs1) (by rw [hF]) (by rw [hF]) hbs1)
  have hlen : bs.length = n := by have := hr.1; rwa [bv_length] at this
  have HB256 := Lib.hid hb
  have Hlen := Lib.hid hlen
  clear hr hb hlen
  by_cases hE0 : E0 = 0
  · subst hE0
    have hb1 : bs1 = bs.drop K0 := by rw [← hbs1, behind, hF, if_pos rfl]
    by_cases h40 : 40 < N
    · have ht : takeRow bs = (0, [], 11) := by unfold takeRow; rw [hF, if_neg (by simp), if_pos h40]
      have hl0 : l = [] := by rw [← hL, ht]
      have hE11 : E = 11 := by rw [← hE, ht]
      have hr0 : rest = [] := by rw [← hR, behindRow, ht, if_neg (by simp)]
      subst hl0; subst hE11; subst hr0
      have h40' : (40 : Int) < (N : Int) := by omega
      clear hL hE hR hF hbs1 hb1 ht h40
      go_enter Try.func46, Try.ntmps46
      go_wp2_with fail
      refine (HT.out).mono ?_
      rintro e w1 ⟨A1, c1, rfl, o1, b1⟩
      have B1 := Lib.hid b1
      clear o1 b1
      go_wp2_with fail
      go_ret3
      exact rowIs_nil B1.out
    · have hN40 : N ≤ 40 := by omega
      have h40' : ¬ (40 : Int) < (N : Int) := by omega
      have d40 : decide ((40 : Int) < (N : Int)) = false := by simpa using h40'
      have htr : takeRow bs = if (takes N bs1).2.2 ≠ 0 then (0, [], (takes N bs1).2.2) else (K0 + (takes N bs1).1, (takes N bs1).2.1, 0) := by
        unfold takeRow; rw [hF, if_neg (by simp), if_neg h40, hb1]
      have HTR := Lib.hid htr
      have HL := Lib.hid hL
      have HE := Lib.hid hE
      have HR := Lib.hid hR
      have Hb1 := Lib.hid hb1
      have hb1l : bs1.length ≤ n := by rw [hb1, List.length_drop, Hlen.out]; omega
      have hb1b : ∀ x ∈ bs1, x < 256 := by rw [hb1]; exact fun x hx => HB256.out x (List.mem_of_mem_drop hx)
      have Hb1l := Lib.hid hb1l
      have Hb1b := Lib.hid hb1b
      clear hL hE hR hF hbs1 hb1 htr h40 hb1l hb1b
      go_enter Try.func46, Try.ntmps46
      go_wp2_with fail
      refine (HT.out).mono ?_
      rintro e w1 ⟨A1, c1, rfl, o1, b1⟩
      have hI0 : TkAt w bs1 N 0 (.slice none 0 0) A1 bs1.length c1 [] bs1 0 w1 := ⟨by omega, rfl, World.ownsRow_nil _ _ _ _, o1, rfl, by simp, b1⟩
      have HI0 := Lib.hid hI0
      clear o1 b1 hI0
      go_wp2_with fail
      go_loopw [0, 7, 8] (fun b v i wr => ∃ (j m c' K : Nat) (A' : Option Addr) (pre rem : List Nat), i = .int .i64 (j : Int) ∧ b = .slice A' m c' ∧ TkAt w bs1 N j v A' m c' pre rem K wr) (fun _ _ i _ => N - (intOf i).toNat)
      case atStart => exact ⟨0, bs1.length, c1, 0, A1, [], bs1, rfl, rfl, HI0.out⟩
      case round =>
        obtain ⟨j, m, c', K, A', pre, rem, rfl, rfl, hI⟩ := hrel
        clear HI0
        have hjN := hI.le
        obtain ⟨Av, cv, rfl⟩ := own_form hI.own
        have HI := Lib.hid hI
        clear hI
        by_cases hj : j < N
        · have hI2 : (j : Int) < (N : Int) := by omega
          obtain ⟨X, L, E1, hF1⟩ : ∃ X L E1, first rem = (X, L, E1) := ⟨_, _, _, rfl⟩
          obtain ⟨rem1, hrem1⟩ : ∃ rem1, behind rem = rem1 := ⟨_, rfl⟩
          have hrb : ∀ x ∈ rem, x < 256 := by rw [HI.out.left]; exact fun x hx => Hb1b.out x (List.mem_of_mem_drop hx)
          have hml : rem.length = m := by have := HI.out.rest.1; simpa [bv_length] using this
          have hmn : m ≤ 1000000 := by rw [← hml, HI.out.left, List.length_drop]; have := Hb1l.out; omega
          have HT1 := Lib.hid (refTake_is A' m c' rem wr.heap.size wr (Rd.of_own HI.out.rest) (Nat.le_refl _) hrb hmn (own_cap HI.out.rest) (N := X) (E := E1) (rest := rem1) (by rw [hF1]) (by rw [hF1]) hrem1)
          have hlook := HI.out.look hj hF1
          by_cases hE1 : E1 = 0
          · subst hE1
            have hr1 : rem1 = rem.drop L := by rw [← hrem1, behind, hF1, if_pos rfl]
            have HLk := Lib.hid (hlook.2 rfl)
            have HR1 := Lib.hid hr1
            clear hF1 hrem1 hrb hml hlook hr1
            go_wp2_with fail
            refine (HT1.out).mono ?_
            rintro e w3 ⟨A3, c3, rfl, o3, b3⟩
            obtain ⟨v4, W4, e4, o4, g4⟩ := run_appI (w3.alloc (.cells #[.int .i64 (X : Int)] 3)) w.heap.size _ j _ ((own_stays HI.out.own b3).alloc _) (w3.heap.size + 1) (some ⟨w3.heap.size, 0, none⟩) 1 1 [(X : Int)] (rd_lit w3 (iv [(X : Int)]) 3 1 rfl) (by omega) (by have := (HI.out.below.trans (b3.mono HI.out.below.size)).size; simp; omega)
            have o3' := own_weaker o3 HI.out.below.size
            have o5 := own_apart (o3'.alloc (.cells #[.int .i64 (X : Int)] 3)) ((own_stays HI.out.own b3).alloc (.cells #[.int .i64 (X : Int)] 3)) (by decide) g4
            have bb : Below w.heap.size w W4 := ((HI.out.below.trans (b3.mono HI.out.below.size)).alloc (HI.out.below.trans (b3.mono HI.out.below.size)).size _).trans (below_row ((own_stays HI.out.own b3).alloc _) g4 (by have := (HI.out.below.trans (b3.mono HI.out.below.size)).size; simp; omega))
            obtain ⟨A4, c4, rfl⟩ := own_form o4
            have hS : TkAt w bs1 N (j + 1) (.slice A4 (j + 1) c4) A3 rem1.length c3 (pre ++ [X]) rem1 (K + L) W4 :=
              ⟨by omega, by simp [HI.out.len], by rw [ints_snoc]; exact o4, o5, by rw [HR1.out, HI.out.left, List.drop_drop], by rw [HR1.out]; exact HLk.out, bb⟩
            have HS := Lib.hid hS
            have E4 := Lib.hid e4
            clear o3 b3 e4 o4 g4 o3' o5 bb hS
            go_wp2_with (at_builtin; refine wpList_app (by rfl) _ _ _ rfl _ _ _ _ rfl rfl E4.out ?_; clear E4)
            go_roundw
            case rel => exact ⟨j + 1, _, _, _, _, _, _, by go_num, rfl, HS.out⟩
            case measure => simp [intOf]; omega
          · have hEb : ((E1 : Int) != 0) = true := by simp; exact hE1
            have htk := hlook.1 hE1
            have hfin : l = [] ∧ rest = [] ∧ E = E1 := by
              have h1 := HTR.out
              rw [htk, if_pos hE1] at h1
              exact ⟨by rw [← HL.out, h1], by rw [← HR.out, behindRow, h1, if_neg hE1], by rw [← HE.out, h1]⟩
            obtain ⟨rfl, rfl, rfl⟩ := hfin
            clear hF1 hrem1 hrb hml hlook htk hE1
            go_wp2_with fail
            refine (HT1.out).mono ?_
            rintro e w3 ⟨A3, c3, rfl, o3, b3⟩
            have B3 := Lib.hid (HI.out.below.trans (b3.mono HI.out.below.size))
            clear o3 b3
            go_wp2_with fail
            go_ret3
            exact rowIs_nil B3.out
        · obtain rfl : N = j := by omega
          have hs := HI.out.same
          rw [Nat.sub_self] at hs
          simp only [takes, Nat.add_zero, List.append_nil] at hs
          have h1 := HTR.out
          rw [hs, if_neg (by simp)] at h1
          have hl1 : l = pre := by rw [← HL.out, h1]
          have hE1 : E = 0 := by rw [← HE.out, h1]
          have hr1 : rest = rem := by
            rw [← HR.out, behindRow, h1, if_pos rfl, HI.out.left, Hb1.out, List.drop_drop]
          have hpl := HI.out.len
          have hml : rem.length = m := by have := HI.out.rest.1; simpa [bv_length] using this
          subst hl1; subst hE1; subst hr1
          have Hpl := Lib.hid hpl
          have Hml := Lib.hid hml
          clear hs h1 hpl hml
          go_wp2_with fail
          go_ret3
          refine ⟨Av, cv, A', c', by rw [Hpl.out, Hml.out]; rfl, ?_, ?_, HI.out.below⟩
          · rw [Hpl.out]; exact HI.out.own
          · rw [Hml.out]; exact HI.out.rest
  · have ht : takeRow bs = (0, [], E0) := by unfold takeRow; rw [hF, if_pos hE0]
    have hl0 : l = [] := by rw [← hL, ht]
    have hEE : E = E0 := by rw [← hE, ht]
    have hr0 : rest = [] := by rw [← hR, behindRow, ht, if_neg hE0]
    subst hl0; subst hEE; subst hr0
    have hEb : ((E : Int) != 0) = true := by simp; exact hE0
    clear hL hE hR hF hbs1 ht hE0
    go_enter Try.func46, Try.ntmps46
    go_wp2_with fail
    refine (HT.out).mono ?_
    rintro e w1 ⟨A1, c1, rfl, o1, b1⟩
    have B1 := Lib.hid b1
    clear o1 b1
    go_wp2_with fail
    go_ret3
    exact rowIs_nil B1.out

end Go.Proofs.Ytbkfpghpfaemeaa

/-
  The walks of the document's own 'Of', 'Put', 'Name', 'All' of records. Conditions: those that each theorem names.
-/
namespace Go.Proofs.Ytbkfpghpfaemeaa
open Go.RowKit Go.Shelf

set_option maxRecDepth 100000 in
set_option maxHeartbeats 400000 in
theorem refOf_any (k : Nat) (A : Option Addr) (n c : Nat) (zs : List Int) (B : Nat) (w : World) (hr : Rd w B A n (iv zs)) (hB : B ≤ w.heap.size) (hn : n ≤ 1000000) :
    Calls Try.prog 47 #[.int .u8 (k : Int), .slice A n c] w (RecIs k zs w) := by
  have hl : zs.length = n := by have := hr.1; rwa [iv_length] at this
  have hbox := (Whole.new w 43 #[.int .u8 0, .slice none 0 0]).alloc (.cells #[] 3)
  have hbel : Below w.heap.size w ((w.alloc (.cells #[.int .u8 0, .slice none 0 0] 43)).alloc (.cells #[] 3)) := ((Below.refl _ w).alloc (Nat.le_refl _) _).alloc (by simp) _
  have ho := World.ownsRow_made (base := w.heap.size + 1) (e := 3) (size := 1) (w.alloc (.cells #[.int .u8 0, .slice none 0 0] 43)) #[] 0 (by simp) (Nat.zero_le _) rfl
  obtain ⟨v1, W1, e1, o1, g1⟩ := run_appI ((w.alloc (.cells #[.int .u8 0, .slice none 0 0] 43)).alloc (.cells #[] 3)) (w.heap.size + 1) _ 0 [] ho B A n c zs (hr.below (hbel.mono hB)) (by omega) (by simp)
  rw [Nat.zero_add, List.nil_append] at o1
  obtain ⟨A1, c1, rfl⟩ := own_form o1
  have hbox1 := hbox.grown g1 (by simp [Value.ownBlock])
  have hb1 : Below w.heap.size w W1 := hbel.trans ((Below.refl _ _).grown g1 (by simp; omega) (fun k e => by simp only [Value.ownBlock, Option.some.injEq] at e; simp at e; omega))
  have h0 := hbox1.cell 0
  have h1 := hbox1.cell 1
  have f0 := hbox1.frozen 0
  have f1 := hbox1.frozen 1
  simp only [World.size_alloc] at e1
  have E1 := Lib.hid e1
  have O1 := Lib.hid o1
  have HX := Lib.hid hbox1
  have HB := Lib.hid hb1
  have Hl := Lib.hid hl
  clear e1 o1 g1 hbox hbel hr hl hbox1 hb1 ho
  simp only [List.getElem?_toArray, List.getElem?_cons_zero, List.getElem?_cons_succ] at h0 h1
  go_enter Try.func47, Try.ntmps47
  go_wp2_with (at_builtin; refine wpList_app (by rfl) _ _ _ rfl _ _ _ _ rfl rfl E1.out ?_; clear E1)
  have hw := (HX.out.set 0 (.int .u8 (k : Int))).set 1 (.slice A1 n c1)
  have q0 := hw.cell 0
  have q1 := hw.cell 1
  simp at q0 q1
  refine bodyPost_ret (v := .agg #[.int .u8 (k : Int), .slice A1 n c1]) (by simp [results, Try.results47, go_sem, q0, q1]) rfl ⟨A1, c1, by rw [Hl.out], ?_, ?_⟩
  · rw [Hl.out]
    have hne : (Value.slice A1 n c1).ownBlock ≠ some w.heap.size := fun e => by have := (O1.out.lt _ e).1; omega
    exact own_weaker (ownsRow_setCell_other (ownsRow_setCell_other (a := ⟨w.heap.size, 0, none⟩) O1.out hne _) (a := ⟨w.heap.size, 1, none⟩) hne _) (Nat.le_succ _)
  · exact (HB.out.setCell (p := ⟨w.heap.size, 0, none⟩) (Nat.le_refl _) _).setCell (p := ⟨w.heap.size, 1, none⟩) (Nat.le_refl _) _

set_option maxRecDepth 100000 in
set_option maxHeartbeats 400000 in
theorem refPutRec_no (k : Nat) (A : Option Addr) (n c : Nat) (zs : List Int) (B : Nat) (w : World) (hr : Rd w B A n (iv zs)) (hB : B ≤ w.heap.size) (h : mayB k zs = false) :
    Calls Try.prog 51 #[.agg #[.int .u8 (k : Int), .slice A n c]] w fun e w' => e = .returned (.tuple #[.slice none 0 0, .int .i64 2]) ∧ Below w.heap.size w w' := by
  have hb : Below w.heap.size w (w.alloc (.cells #[.int .u8 (k : Int), .slice A n c] 43)) := (Below.refl _ w).alloc (Nat.le_refl _) _
  have HR := Lib.hid (refRight_any k A n c zs w.heap.size (w.alloc (.cells #[.int .u8 (k : Int), .slice A n c] 43)) ((hr.more hB).below hb) hb.size)
  rw [h] at HR
  have HB := Lib.hid hb
  clear hr h hb hB
  go_enter Try.func51, Try.ntmps51
  go_wp2_with fail
  refine (HR.out).mono ?_
  rintro e w1 ⟨rfl, b1⟩
  go_wp2_with fail
  go_ret2
  exact ⟨rfl, HB.out.trans (b1.mono HB.out.size)⟩

set_option maxRecDepth 100000 in
set_option maxHeartbeats 400000 in
theorem refPutRec_yes (k : Nat) (A : Option Addr) (n c : Nat) (zs : List Int) (B : Nat) (w : World) (hr : Rd w B A n (iv zs)) (hB : B ≤ w.heap.size) (h : mayB k zs = true) :
    Calls Try.prog 51 #[.agg #[.int .u8 (k : Int), .slice A n c]] w (TwoPost w.heap.size (recB k zs).length (bv (recB k zs)) w) := by
  have hk := (mayB_kind h).2
  have hl : zs.length = n := by have := hr.1; rwa [iv_length] at this
  have hn : n ≤ 18 := by have h1 := (mayB_yes h).2.1; have h2 := (hi_le k).1; omega
  have hrow := mayB_row h
  have hb : Below w.heap.size w (w.alloc (.cells #[.int .u8 (k : Int), .slice A n c] 43)) := (Below.refl _ w).alloc (Nat.le_refl _) _
  have HR := Lib.hid (refRight_any k A n c zs w.heap.size (w.alloc (.cells #[.int .u8 (k : Int), .slice A n c] 43)) ((hr.more hB).below hb) hb.size)
  rw [h] at HR
  have HB := Lib.hid hb
  have Hr := Lib.hid (hr.more hB)
  have HBox := Lib.hid (Whole.new w 43 #[.int .u8 (k : Int), .slice A n c])
  have Hrow := Lib.hid hrow
  have Hl := Lib.hid hl
  clear hr h hb hB hrow hl
  go_enter Try.func51, Try.ntmps51
  go_wp2_with fail
  refine (HR.out).mono ?_
  rintro e w1 ⟨rfl, b1⟩
  have X1 := Lib.hid (HBox.out.under b1)
  have B1 := Lib.hid (HB.out.trans (b1.mono HB.out.size))
  have x1 := X1.out.alloc (.cells #[.int .i64 (k : Int)] 3)
  have q0 := X1.out.cell 0
  have q1 := x1.cell 1
  simp only [List.getElem?_toArray, List.getElem?_cons_zero, List.getElem?_cons_succ] at q0 q1
  have ho : (w1.alloc (.cells #[.int .i64 (k : Int)] 3)).ownsRow w1.heap.size 3 1 (.slice (some ⟨w1.heap.size, 0, none⟩) 1 1) 1 (iv [(k : Int)]) := by
    have := World.ownsRow_lit (base := w1.heap.size) (e := 3) (size := 1) w1 #[.int .i64 (k : Int)] 1 (Nat.le_refl _) (by unfold maxLen; omega) rfl
    simpa [iv] using this
  obtain ⟨v2, W2, e2, o2, g2⟩ := run_appI (w1.alloc (.cells #[.int .i64 (k : Int)] 3)) w1.heap.size _ 1 _ ho w.heap.size A n c zs ((Hr.out.below B1.out).alloc B1.out.size _) (by omega) (by simp)
  obtain ⟨A2, c2, rfl⟩ := own_form o2
  have b2 : Below w1.heap.size w1 W2 := ((Below.refl _ w1).alloc (Nat.le_refl _) _).trans (below_row ho g2 (by simp))
  have B2 := Lib.hid (B1.out.trans (b2.mono B1.out.size))
  have R2 : Rd W2 W2.heap.size A2 ((k : Int) :: zs).length (iv ((k : Int) :: zs)) := by
    have h1 := Rd.of_own o2
    have h2 : iv [(k : Int)] ++ iv zs = iv ((k : Int) :: zs) := by simp [iv]
    rw [h2] at h1
    have h3 : 1 + n = ((k : Int) :: zs).length := by simp [Hl.out]; omega
    rw [h3] at h1
    exact h1
  have h3 : 1 + n = ((k : Int) :: zs).length := by simp [Hl.out]; omega
  rw [h3] at e2
  have E2 := Lib.hid e2
  clear b1 x1 ho e2 o2 g2 b2 h3
  go_wp2_with (at_builtin; refine wpList_app (by rfl) _ _ _ rfl _ _ _ _ rfl rfl E2.out ?_; clear E2)
  refine (refRow_any A2 ((k : Int) :: zs).length c2 ((k : Int) :: zs) _ R2).mono ?_
  rintro e w4 (⟨_, A4, c4, rfl, I4⟩ | ⟨h0, _⟩)
  · have I4' := I4.after B2.out (below_keeps B2.out) B2.out.size
    clear I4
    go_wp2_with fail
    go_ret2
    exact ⟨A4, c4, rfl, I4'⟩
  · rw [Hrow.out] at h0; cases h0

set_option maxRecDepth 100000 in
set_option maxHeartbeats 1000000 in
theorem refAll_any (A : Option Addr) (n c : Nat) (l : List RE) (B : Nat) (w : World) (hr : RdR w B A n l) (hB : B ≤ w.heap.size) (hn : n ≤ 1000) :
    Calls Try.prog 27 #[.slice A n c] w (BoolPost (allB l) w) := by
  have HR := Lib.hid (hr.more hB)
  clear hr hB
  go_enter Try.func27, Try.ntmps27
  go_wp2_with fail
  go_loopw [3] (fun i wr => ∃ j : Nat, i = .int .i64 (j : Int) ∧ j ≤ n ∧ allB (l.take j) = true ∧ Below w.heap.size w wr) (fun i _ => n - (intOf i).toNat)
  case atStart => exact ⟨0, rfl, Nat.zero_le _, rfl, Below.refl _ _⟩
  case round =>
    obtain ⟨j, rfl, hj, hT, hb⟩ := hrel
    have HT := Lib.hid hT
    have HB := Lib.hid hb
    clear hT hb
    by_cases hlt : j < n
    · have hjl : j < l.length := by rw [HR.out.1]; exact hlt
      obtain ⟨x, hx⟩ : ∃ x, l[j]? = some x := ⟨_, List.getElem?_eq_getElem hjl⟩
      obtain ⟨b, off, rfl, hblt, hc⟩ := (HR.out.below HB.out).2.1 (by omega)
      obtain ⟨h1, h2⟩ := hc j x hx
      obtain ⟨hk, hrx⟩ := (HR.out.below HB.out).2.2 x (List.mem_of_getElem? hx)
      have hI : (j : Int) < (n : Int) := by omega
      have HX := Lib.hid hx
      have HRX := Lib.hid hrx
      clear hc hx hrx hjl
      cases x with
      | mk k A' n' c' zs' =>
      simp only at h1 h2 hk HRX HX
      have HRt := Lib.hid (refRight_any k A' n' c' zs' w.heap.size wr HRX.out HB.out.size)
      by_cases hm : mayB k zs' = true
      · rw [hm] at HRt
        have HS := Lib.hid (show allB (l.take (j + 1)) = true by rw [allB_take HX.out, HT.out]; simpa using hm)
        clear hm
        go_wp2_with fail
        refine (HRt.out).mono ?_
        rintro e w2 ⟨rfl, b2⟩
        have B2 := Lib.hid (HB.out.trans (b2.mono HB.out.size))
        clear b2
        go_wp2_with fail
        go_roundw
        case rel => exact ⟨j + 1, by go_num, by omega, HS.out, B2.out⟩
        case measure => simp [intOf]; omega
      · have hmf : mayB k zs' = false := by simpa using hm
        rw [hmf] at HRt
        have HS := Lib.hid (allB_no HX.out hmf)
        clear hm hmf
        go_wp2_with fail
        refine (HRt.out).mono ?_
        rintro e w2 ⟨rfl, b2⟩
        have B2 := Lib.hid (HB.out.trans (b2.mono HB.out.size))
        clear b2
        go_wp2_with fail
        go_ret
        exact ⟨by rw [HS.out]; rfl, B2.out⟩
    · have HA := Lib.hid (show allB l = true by have h1 := HT.out; rwa [List.take_of_length_le (by have := HR.out.1; omega)] at h1)
      go_wp2_with fail
      go_ret
      exact ⟨by rw [HA.out]; rfl, HB.out⟩

end Go.Proofs.Ytbkfpghpfaemeaa

/-
  The walks of 'Sum' of package frame, of the function in it, and of the document's own 'Sum'. Conditions: those that each theorem names.
-/
namespace Go.Proofs.Ytbkfpghpfaemeaa
open Go.RowKit Go.Shelf

def step (s c : Nat) : Nat := (31 * s + c + 7) % 4294967296
def sumOf (bs : List Nat) : Nat := bs.foldl step 1
set_option maxRecDepth 100000 in
theorem step_lt (s c : Nat) : step s c < 4294967296 := Nat.mod_lt _ (by omega)
set_option maxRecDepth 100000 in
theorem fold_lt (bs : List Nat) : ∀ s, s < 4294967296 → bs.foldl step s < 4294967296 := by
  induction bs with
  | nil => intro s h; exact h
  | cons b bs ih => intro s _; exact ih _ (step_lt _ _)
set_option maxRecDepth 100000 in
theorem sumOf_lt (bs : List Nat) : sumOf bs < 4294967296 := fold_lt bs 1 (by omega)
set_option maxRecDepth 100000 in
theorem sum_take {bs : List Nat} {k d : Nat} (h : bs[k]? = some d) : sumOf (bs.take (k + 1)) = step (sumOf (bs.take k)) d := by
  have hk : k < bs.length := (List.getElem?_eq_some_iff.1 h).1
  rw [List.getElem?_eq_getElem hk] at h
  rw [List.take_succ_eq_append_getElem hk, sumOf, List.foldl_append, Option.some.inj h]
  rfl

set_option maxRecDepth 100000 in
set_option maxHeartbeats 1000000 in
theorem sum1_any (b s c : Nat) (hc : c < 256) (w : World) (h : Whole w b 40 #[.int .u32 (s : Int)]) :
    Calls Try.prog 96 #[.int .u8 (c : Int), .pointer (some ⟨b, 0, none⟩)] w fun e w' => (∃ v, e = .returned v) ∧ w' = w.setCell ⟨b, 0, none⟩ (.int .u32 (step s c : Int)) := by
  have x0 := h.cell 0
  have y0 := h.frozen 0
  simp only [List.getElem?_toArray, List.getElem?_cons_zero] at x0
  have e : (31 * (s : Int) + (c : Int) + 7) % 4294967296 = ((step s c : Nat) : Int) := by unfold step; omega
  go_enter Try.func96, Try.ntmps96
  go_wp2_with fail
  go_end0
  exact ⟨⟨_, rfl⟩, rfl⟩

set_option maxRecDepth 100000 in
set_option maxHeartbeats 1000000 in
theorem refSum_any (A : Option Addr) (n c : Nat) (bs : List Nat) (B : Nat) (w : World) (hr : Rd w B A n (bv bs)) (hb : ∀ x ∈ bs, x < 256) (hn : n ≤ 140737488355328) :
    Calls Try.prog 65 #[.slice A n c] w fun e w' => e = .returned (.int .u32 (sumOf bs : Int)) ∧ w = w' := by
  have hl : bs.length = n := by have := hr.1; rwa [bv_length] at this
  have HR := Lib.hid hr
  have HB := Lib.hid hb
  have HL := Lib.hid hl
  clear hr hb hl
  go_enter Try.func65, Try.ntmps65
  go_wp2_with fail
  go_loop [3, 4] (fun x i => ∃ k : Nat, x = .int .u32 (sumOf (bs.take k) : Int) ∧ i = .int .i64 (k : Int) ∧ k ≤ n) (fun _ i => n - (intOf i).toNat)
  case atStart => exact ⟨0, rfl, rfl, Nat.zero_le _⟩
  case round =>
    obtain ⟨k, rfl, rfl, hk⟩ := hrel
    rcases Nat.eq_or_lt_of_le hk with rfl | hlt
    · go_wp2_with fail
      go_ret
      exact ⟨by rw [List.take_of_length_le (by rw [HL.out]; exact Nat.le_refl _)]; rfl, rfl⟩
    · obtain ⟨b, off, rfl, hbl, hc⟩ := HR.out.2 (by omega)
      obtain ⟨d, hd⟩ : ∃ d, bs[k]? = some d := ⟨_, List.getElem?_eq_getElem (by rw [HL.out]; exact hlt)⟩
      have hd6 : d < 256 := HB.out d (List.mem_of_getElem? hd)
      have hcell := hc k hlt
      have e1 : (bv bs)[k]? = some (.int .u8 (d : Int)) := by simp [bv, hd]
      rw [e1] at hcell
      have hs := sumOf_lt (bs.take k)
      have hT : Hid ((31 * (sumOf (bs.take k) : Int) + (d : Int) + 7) % 4294967296 = ((sumOf (bs.take (k + 1)) : Nat) : Int)) := by
        show (31 * (sumOf (bs.take k) : Int) + (d : Int) + 7) % 4294967296 = ((sumOf (bs.take (k + 1)) : Nat) : Int)
        rw [sum_take hd]; unfold step; omega
      generalize sumOf (bs.take k) = s at hT hs ⊢
      have hlt2 : (k : Int) < (n : Int) := by omega
      clear hc hd e1
      go_wp2_with fail
      go_round
      case rel => exact ⟨k + 1, by rw [← hT.out]; simp, by go_num, by omega⟩
      case measure => simp [intOf]; omega

set_option maxRecDepth 100000 in
set_option maxHeartbeats 1000000 in
theorem sum_any (A : Option Addr) (n c : Nat) (bs : List Nat) (B : Nat) (w : World) (hr : Rd w B A n (bv bs)) (hB : B ≤ w.heap.size) (hb : ∀ x ∈ bs, x < 256) (hn : n ≤ 140737488355328) :
    Calls Try.prog 94 #[.slice A n c] w fun e w' => e = .returned (.int .u32 (sumOf bs : Int)) ∧ Below w.heap.size w w' := by
  have hl : bs.length = n := by have := hr.1; rwa [bv_length] at this
  have HR := Lib.hid (hr.more hB)
  have HBy := Lib.hid hb
  have HL := Lib.hid hl
  clear hr hb hl hB
  go_enter Try.func94, Try.ntmps94
  go_wp2_with fail
  go_loopw [10] (fun i wr => ∃ k : Nat, i = .int .i64 (k : Int) ∧ k ≤ n ∧ Whole wr w.heap.size 40 #[.int .u32 (sumOf (bs.take k) : Int)] ∧ Below w.heap.size w wr) (fun i _ => n - (intOf i).toNat)
  case atStart => exact ⟨0, rfl, Nat.zero_le _, Whole.new w _ _, (Below.refl _ w).alloc (Nat.le_refl _) _⟩
  case round =>
    obtain ⟨k, rfl, hk, hW, hB⟩ := hrel
    rcases Nat.eq_or_lt_of_le hk with rfl | hlt
    · have x0 := hW.cell 0
      simp only [List.getElem?_toArray, List.getElem?_cons_zero] at x0
      go_wp2_with fail
      go_ret
      exact ⟨by rw [List.take_of_length_le (by rw [HL.out]; exact Nat.le_refl _)]; rfl, hB⟩
    · obtain ⟨b, off, rfl, hbl, hc⟩ := HR.out.2 (by omega)
      obtain ⟨d, hd⟩ : ∃ d, bs[k]? = some d := ⟨_, List.getElem?_eq_getElem (by rw [HL.out]; exact hlt)⟩
      have hd6 : d < 256 := HBy.out d (List.mem_of_getElem? hd)
      have hcell := (hB.cell (p := ⟨b, off + k, none⟩) hbl).trans (hc k hlt)
      have e1 : (bv bs)[k]? = some (.int .u8 (d : Int)) := by simp [bv, hd]
      rw [e1] at hcell
      have H1 := Lib.hid (sum1_any w.heap.size (sumOf (bs.take k)) d hd6 wr hW)
      have hW2 := hW.set 0 (.int .u32 (sumOf (bs.take (k + 1)) : Int))
      simp only [List.setIfInBounds_toArray, List.set_cons_zero] at hW2
      have hB2 := hB.setCell (p := ⟨w.heap.size, 0, none⟩) (Nat.le_refl _) (.int .u32 (sumOf (bs.take (k + 1)) : Int))
      rw [← sum_take hd] at H1
      have HW2 := Lib.hid hW2
      have HB2 := Lib.hid hB2
      have hlt2 : (k : Int) < (n : Int) := by omega
      clear hc hd e1 hW2 hB2 hW hB
      go_wp2_with fail
      refine (H1.out).mono ?_
      rintro e w' ⟨⟨v, rfl⟩, rfl⟩
      go_wp2_with fail
      go_roundw
      case rel => exact ⟨k + 1, by go_num, by omega, HW2.out, HB2.out⟩
      case measure => simp [intOf]; omega

end Go.Proofs.Ytbkfpghpfaemeaa

/-
  Plain facts on frames (no program): sums, frames, what is taken of bytes. Conditions: those that each theorem names.
-/
namespace Go.Proofs.Ytbkfpghpfaemeaa

set_option maxRecDepth 100000 in
theorem step_inj {s s' c : Nat} (hs : s < 4294967296) (hs' : s' < 4294967296) (h : step s c = step s' c) : s = s' := by unfold step at h; omega
set_option maxRecDepth 100000 in
theorem step_byte {s x y : Nat} (hx : x < 256) (hy : y < 256) (h : step s x = step s y) : x = y := by unfold step at h; omega
set_option maxRecDepth 100000 in
theorem fold_inj (l : List Nat) : ∀ s s', s < 4294967296 → s' < 4294967296 → l.foldl step s = l.foldl step s' → s = s' := by
  induction l with
  | nil => intro s s' _ _ h; exact h
  | cons c l ih => intro s s' hs hs' h; exact step_inj hs hs' (ih _ _ (step_lt _ _) (step_lt _ _) h)
set_option maxRecDepth 100000 in
/-- With one byte that is another one the sum is another one. -/
theorem sum_byte {a b : List Nat} {x y : Nat} (hx : x < 256) (hy : y < 256) (h : sumOf (a ++ x :: b) = sumOf (a ++ y :: b)) : x = y := by
  unfold sumOf at h
  simp only [List.foldl_append, List.foldl_cons] at h
  exact step_byte hx hy (fold_inj b _ _ (step_lt _ _) (step_lt _ _) h)
set_option maxRecDepth 100000 in
theorem sum_app {a b c : List Nat} (h : sumOf a = sumOf b) : sumOf (a ++ c) = sumOf (b ++ c) := by
  unfold sumOf at *
  rw [List.foldl_append, List.foldl_append, h]

/-- The four bytes of a sum. -/
def le4 (s : Nat) : List Nat := [s % 256, s / 256 % 256, s / 65536 % 256, s / 16777216 % 256]
set_option maxRecDepth 100000 in
theorem le4_length (s : Nat) : (le4 s).length = 4 := rfl
set_option maxRecDepth 100000 in
theorem le4_bytes (s : Nat) : ∀ x ∈ le4 s, x < 256 := by
  intro x hx
  simp only [le4, List.mem_cons, List.not_mem_nil, or_false] at hx
  omega
set_option maxRecDepth 100000 in
theorem le4_inj {s t : Nat} (hs : s < 4294967296) (ht : t < 4294967296) (h : le4 s = le4 t) : s = t := by
  simp only [le4, List.cons.injEq, and_true] at h
  omega

/-- A payload's frame. -/
def fr (p : List Nat) : List Nat := put p.length ++ p ++ le4 (sumOf p)
def frLen (n : Nat) : Nat := (put n).length + n + 4
set_option maxRecDepth 100000 in
theorem fr_length (p : List Nat) : (fr p).length = frLen p.length := by simp [fr, frLen, le4_length]; omega
set_option maxRecDepth 100000 in
theorem fr_bytes {p : List Nat} (h : ∀ x ∈ p, x < 256) : ∀ x ∈ fr p, x < 256 := by
  intro x hx
  simp only [fr, List.mem_append] at hx
  rcases hx with (hx | hx) | hx
  · exact put_bytes _ x hx
  · exact h x hx
  · exact le4_bytes _ x hx
set_option maxRecDepth 100000 in
theorem put_two {n : Nat} (h : n ≤ 4000) : (put n).length ≤ 2 := put_len_le (k := 2) (by omega) (by omega)
set_option maxRecDepth 100000 in
theorem frLen_pos (n : Nat) : 5 ≤ frLen n := by have := put_pos n; unfold frLen; omega

/-- p is the payload of the frame that bs begins with. -/
def IsFr (bs p : List Nat) : Prop := p.length ≤ 4000 ∧ fr p <+: bs
set_option maxRecDepth 100000 in
theorem isFr_one {bs p q : List Nat} (h : IsFr bs p) (h' : IsFr bs q) : p = q := by
  obtain ⟨r, hr⟩ := h.2
  obtain ⟨s, hs⟩ := h'.2
  have h1 : fr p ++ r = fr q ++ s := hr.trans hs.symm
  unfold fr at h1
  simp only [List.append_assoc] at h1
  obtain ⟨h2, h3⟩ := put_prefix _ _ _ _ h1
  exact (List.append_inj h3 h2).1
set_option maxRecDepth 100000 in
theorem isFr_fr {p : List Nat} (h : p.length ≤ 4000) (rest : List Nat) : IsFr (fr p ++ rest) p := ⟨h, List.prefix_append _ _⟩
set_option maxRecDepth 100000 in
theorem IsFr.le {bs p : List Nat} (h : IsFr bs p) : frLen p.length ≤ bs.length := by rw [← fr_length]; exact h.2.length_le
set_option maxRecDepth 100000 in
theorem IsFr.split {bs p : List Nat} (h : IsFr bs p) : bs = fr p ++ bs.drop (frLen p.length) := by
  obtain ⟨r, hr⟩ := h.2
  rw [← hr, ← fr_length, List.drop_left]
set_option maxRecDepth 100000 in
theorem IsFr.bytes {bs p : List Nat} (h : IsFr bs p) (hb : ∀ x ∈ bs, x < 256) : ∀ x ∈ p, x < 256 := by
  intro x hx
  refine hb x (h.2.subset ?_)
  simp only [fr, List.mem_append]
  exact .inl (.inr hx)
set_option maxRecDepth 100000 in
/-- Where a frame's payload lies. -/
theorem IsFr.lies {bs p : List Nat} (h : IsFr bs p) : (bs.drop (put p.length).length).take p.length = p ∧ (bs.drop ((put p.length).length + p.length)).take 4 = le4 (sumOf p) ∧ bs.take (put p.length).length = put p.length := by
  obtain ⟨r, hr⟩ := h.2
  rw [← hr]
  unfold fr
  simp only [List.append_assoc]
  refine ⟨?_, ?_, ?_⟩
  · rw [List.drop_left, List.take_left]
  · rw [← List.drop_drop, List.drop_left, List.drop_left]
    exact List.take_left (l₁ := le4 (sumOf p))
  · exact List.take_left
set_option maxRecDepth 100000 in
/-- What stands where a frame would have its parts. -/
theorem isFr_of {bs : List Nat} {N : Nat} (hN : N ≤ 4000) (h0 : put N = bs.take (put N).length) (hl : frLen N ≤ bs.length) {p : List Nat} (hp : (bs.drop (put N).length).take N = p) (hs : (bs.drop ((put N).length + N)).take 4 = le4 (sumOf p)) : IsFr bs p := by
  have hpl : p.length = N := by
    rw [← hp, List.length_take, List.length_drop]; unfold frLen at hl; omega
  refine ⟨by omega, bs.drop (frLen N), ?_⟩
  unfold fr
  have e1 : bs = bs.take (put N).length ++ bs.drop (put N).length := (List.take_append_drop _ _).symm
  have e2 : bs.drop (put N).length = p ++ bs.drop ((put N).length + N) := by
    rw [← hp, ← List.drop_drop]; exact (List.take_append_drop _ _).symm
  have e3 : bs.drop ((put N).length + N) = le4 (sumOf p) ++ bs.drop (frLen N) := by
    have h1 := (List.take_append_drop 4 (bs.drop ((put N).length + N))).symm
    rw [List.drop_drop, hs] at h1
    exact h1
  rw [hpl]
  conv => rhs; rw [e1, e2, e3, ← h0]
  simp
set_option maxRecDepth 100000 in
/-- The number that a frame begins with, of its first two bytes, or of all. -/
theorem isFr_first {bs p : List Nat} (h : IsFr bs p) (k : Nat) (hk : 2 ≤ k) : first (bs.take k) = (p.length, (put p.length).length, 0) := by
  obtain ⟨r, hr⟩ := h.2
  rw [← hr]
  unfold fr
  simp only [List.append_assoc]
  have h2 := put_two h.1
  rw [List.take_append, List.take_of_length_le (by omega)]
  exact first_put (by have := h.1; omega) _
set_option maxRecDepth 100000 in
theorem isFr_first_all {bs p : List Nat} (h : IsFr bs p) : first bs = (p.length, (put p.length).length, 0) := by
  have := isFr_first h (bs.length + 2) (by omega)
  rwa [List.take_of_length_le (by omega)] at this

/-- The frames that bs begins with: their payloads, how many bytes they have. -/
def AllIs (bs : List Nat) (l : List (List Nat)) (used : Nat) : Prop :=
  bs = l.flatMap fr ++ bs.drop used ∧ used = (l.flatMap fr).length ∧ (∀ p ∈ l, p.length ≤ 4000) ∧ ∀ p, ¬ IsFr (bs.drop used) p
set_option maxRecDepth 100000 in
theorem all_ex : ∀ (m : Nat) (bs : List Nat), bs.length ≤ m → ∃ l used, AllIs bs l used := by
  intro m
  induction m with
  | zero =>
    intro bs h
    refine ⟨[], 0, by simp, rfl, by simp, fun p hp => ?_⟩
    have h1 := hp.le
    have h2 := frLen_pos p.length
    simp only [List.drop_zero] at h1; omega
  | succ m ih =>
    intro bs h
    by_cases hp : ∃ p, IsFr bs p
    · obtain ⟨p, hp⟩ := hp
      have h1 := hp.le
      have h2 := frLen_pos p.length
      obtain ⟨l, used, e1, e2, e3, e4⟩ := ih (bs.drop (frLen p.length)) (by rw [List.length_drop]; omega)
      refine ⟨p :: l, frLen p.length + used, ?_, ?_, ?_, ?_⟩
      · rw [List.flatMap_cons, List.append_assoc, ← List.drop_drop, ← e1, ← hp.split]
      · rw [List.flatMap_cons, List.length_append, fr_length, ← e2]
      · intro q hq
        rcases List.mem_cons.1 hq with rfl | hq
        · exact hp.1
        · exact e3 q hq
      · rw [← List.drop_drop]; exact e4
    · exact ⟨[], 0, by simp, rfl, by simp, fun p h => hp ⟨p, by simpa using h⟩⟩
set_option maxRecDepth 100000 in
/-- Frames one behind the other, and then none. -/
theorem allIs_app (l : List (List Nat)) (r : List Nat) (h : ∀ p ∈ l, p.length ≤ 4000) (hr : ∀ p, ¬ IsFr r p) : AllIs (l.flatMap fr ++ r) l (l.flatMap fr).length := by
  refine ⟨by rw [List.drop_left], rfl, h, ?_⟩
  rw [List.drop_left]; exact hr
set_option maxRecDepth 100000 in
/-- What comes next of them. -/
theorem AllIs.next {bs : List Nat} {pre rest : List (List Nat)} {p : List Nat} {used : Nat} (h : AllIs bs (pre ++ p :: rest) used) : IsFr (bs.drop (pre.flatMap fr).length) p := by
  obtain ⟨h1, _, h3, _⟩ := h
  rw [List.flatMap_append, List.flatMap_cons, List.append_assoc, List.append_assoc] at h1
  rw [h1, List.drop_left]
  exact isFr_fr (h3 p (by simp)) _
set_option maxRecDepth 100000 in
theorem not_isFr_nil (p : List Nat) : ¬ IsFr [] p := fun h => by
  have h1 := h.le
  have h2 := frLen_pos p.length
  simp at h1; omega
set_option maxRecDepth 100000 in
/-- A frame of which bytes at the end are cut off is none. -/
theorem not_isFr_cut {p q : List Nat} {k : Nat} (h : p.length ≤ 4000) (hk : k < (fr p).length) : ¬ IsFr ((fr p).take k) q := fun hq => by
  have h1 : IsFr (fr p) q := ⟨hq.1, hq.2.trans (List.take_prefix _ _)⟩
  have h2 : IsFr (fr p) p := by have := isFr_fr h []; rwa [List.append_nil] at this
  obtain rfl := isFr_one h1 h2
  have h3 := hq.le
  rw [fr_length] at hk
  rw [List.length_take] at h3
  omega
set_option maxRecDepth 100000 in
/-- With one byte behind the length that is another one a frame is none. -/
theorem not_isFr_harm {p q r : List Nat} {i x : Nat} (hp : ∀ y ∈ p, y < 256) (hx : x < 256) (hi : (put p.length).length ≤ i) (hi2 : i < (fr p).length) (hne : (fr p)[i]? ≠ some x) (hr : (fr p).set i x = r) : ¬ IsFr r q := fun hq => by
  subst hr
  obtain ⟨j, rfl⟩ : ∃ j, i = (put p.length).length + j := ⟨i - (put p.length).length, by omega⟩
  have e0 : fr p = put p.length ++ (p ++ le4 (sumOf p)) := by unfold fr; rw [List.append_assoc]
  rw [fr_length] at hi2
  have hj : j < p.length + 4 := by unfold frLen at hi2; omega
  obtain ⟨s, hs⟩ := hq.2
  rw [e0, List.set_append_right _ _ (by omega)] at hs
  rw [e0, List.getElem?_append_right (by omega)] at hne
  rw [Nat.add_sub_cancel_left] at hs hne
  unfold fr at hs
  simp only [List.append_assoc] at hs
  obtain ⟨h1, h2⟩ := put_prefix _ _ _ _ hs
  by_cases hjp : j < p.length
  · rw [List.set_append_left _ _ hjp] at h2
    rw [List.getElem?_append_left hjp] at hne
    obtain ⟨h3, h4⟩ := List.append_inj h2 (by rw [h1, List.length_set])
    obtain ⟨h5, _⟩ := List.append_inj (s₁ := le4 (sumOf q)) (t₁ := s) (s₂ := le4 (sumOf p)) (t₂ := []) (by simpa using h4) rfl
    have h6 := le4_inj (sumOf_lt _) (sumOf_lt _) h5
    rw [h3] at h6
    have e1 : p = p.take j ++ p[j] :: p.drop (j + 1) := by rw [List.getElem_cons_drop, List.take_append_drop]
    have e2 : p.set j x = p.take j ++ x :: p.drop (j + 1) := by rw [List.set_eq_take_append_cons_drop, if_pos hjp]
    rw [e2] at h6
    have h7 : x = p[j] := sum_byte hx (hp _ (List.getElem_mem hjp)) (h6.trans (by conv => lhs; rw [e1]))
    rw [List.getElem?_eq_getElem hjp, ← h7] at hne
    exact hne rfl
  · rw [List.set_append_right _ _ (by omega)] at h2
    rw [List.getElem?_append_right (by omega)] at hne
    obtain ⟨h3, h4⟩ := List.append_inj h2 h1
    obtain ⟨h5, _⟩ := List.append_inj (s₁ := le4 (sumOf q)) (t₁ := s) (s₂ := (le4 (sumOf p)).set (j - p.length) x) (t₂ := []) (by simpa using h4) (by rw [List.length_set]; rfl)
    rw [h3] at h5
    rw [h5] at hne
    exact hne (List.getElem?_set_self (by rw [le4_length]; omega))

end Go.Proofs.Ytbkfpghpfaemeaa

/-
  Rows of bytes in a slice. Conditions: those that each theorem names.
-/
namespace Go.Proofs.Ytbkfpghpfaemeaa
open Go.RowKit Go.Shelf

/-- A row of bytes, as an element of a slice: its slice, and what that reads as. -/
structure BE where
  A : Option Addr
  n : Nat
  c : Nat
  bs : List Nat
/-- A slice of rows of bytes that reads as the list l, in blocks below B. -/
def RdB (w : World) (B : Nat) (A : Option Addr) (n : Nat) (l : List BE) : Prop :=
  l.length = n ∧ (0 < n → ∃ b off, A = some ⟨b, off, none⟩ ∧ b < B ∧ ∀ j x, l[j]? = some x → w.cell? ⟨b, off + j, none⟩ = some (.slice x.A x.n x.c)) ∧
    ∀ x ∈ l, Rd w B x.A x.n (bv x.bs) ∧ (∀ y ∈ x.bs, y < 256) ∧ x.n ≤ x.c ∧ x.c ≤ maxLen
set_option maxRecDepth 100000 in
theorem RdB.below {w w' : World} {B n : Nat} {A : Option Addr} {l : List BE} (h : RdB w B A n l) (hb : Below B w w') : RdB w' B A n l :=
  ⟨h.1, fun hn => by
    obtain ⟨b, off, e, hlt, hc⟩ := h.2.1 hn
    exact ⟨b, off, e, hlt, fun j x hx => (hb.cell (p := ⟨b, off + j, none⟩) hlt).trans (hc j x hx)⟩,
   fun x hx => ⟨(h.2.2 x hx).1.below hb, (h.2.2 x hx).2⟩⟩

set_option maxRecDepth 100000 in
theorem RdB.more {w : World} {B B' n : Nat} {A : Option Addr} {l : List BE} (h : RdB w B A n l) (hB : B ≤ B') : RdB w B' A n l :=
  ⟨h.1, fun hn => by
    obtain ⟨b, off, e, hlt, hc⟩ := h.2.1 hn
    exact ⟨b, off, e, by omega, hc⟩,
   fun x hx => ⟨(h.2.2 x hx).1.more hB, (h.2.2 x hx).2⟩⟩
/-- The bytes of all rows, one behind the other. -/
def joinB (l : List BE) : List Nat := l.flatMap fun x => x.bs
set_option maxRecDepth 100000 in
theorem joinB_snoc (l : List BE) (x : BE) : joinB (l ++ [x]) = joinB l ++ x.bs := by simp [joinB]
set_option maxRecDepth 100000 in
theorem joinB_take {l : List BE} {k : Nat} {x : BE} (h : l[k]? = some x) : joinB (l.take (k + 1)) = joinB (l.take k) ++ x.bs := by
  have hk : k < l.length := (List.getElem?_eq_some_iff.1 h).1
  rw [List.getElem?_eq_getElem hk] at h
  rw [List.take_succ_eq_append_getElem hk, joinB_snoc, Option.some.inj h]
set_option maxRecDepth 100000 in
theorem joinB_le (l : List BE) (k : Nat) : (joinB (l.take k)).length ≤ (joinB l).length := by
  conv => rhs; rw [← List.take_append_drop k l, joinB, List.flatMap_append, List.length_append]
  exact Nat.le_add_right _ _
set_option maxRecDepth 100000 in
theorem own_capm {w : World} {base : Nat} {e : TypeId} {n c : Nat} {A : Option Addr} {xs : List Value} (h : w.ownsRow base e 1 (.slice A n c) n xs) : c ≤ maxLen := by
  rcases h.2 with ⟨h1, h2⟩ | ⟨g, cap, cur, h1, _, _, _, h2, _⟩
  · injection h1 with _ _ h3; unfold maxLen; omega
  · injection h1 with _ _ h3; omega

end Go.Proofs.Ytbkfpghpfaemeaa

/-
  The walks of 'Long', 'sumBytes', 'Put' of package frame, of slices.Grow and slices.Concat. Conditions: those that each theorem names.
-/
namespace Go.Proofs.Ytbkfpghpfaemeaa
open Go.RowKit Go.Shelf

set_option maxRecDepth 100000 in
/-- A literal slice is a row of the call's own. -/
theorem own_lit (w : World) (cs : List Value) (t : TypeId) (h : cs.length ≤ maxLen) : (w.alloc (.cells cs.toArray t)).ownsRow w.heap.size t 1 (.slice (some ⟨w.heap.size, 0, none⟩) cs.length cs.length) cs.length cs :=
  ⟨by simp, .inr ⟨w.heap.size, cs.length, cs.toArray, rfl, Nat.le_refl _, heap_alloc_new w _, Nat.le_refl _, h, by simp, by simp⟩⟩

def longOf (n : Int) : Int := if 0 ≤ n ∧ n ≤ 4000 then (frLen n.toNat : Int) else -1

set_option maxRecDepth 100000 in
set_option maxHeartbeats 400000 in
theorem frLong_yes (N : Nat) (hN : N ≤ 4000) (w : World) : Calls Try.prog 43 #[.int .i64 (N : Int)] w fun e w' => e = .returned (.int .i64 (frLen N : Int)) ∧ Below w.heap.size w w' := by
  have HL := Lib.hid (long_yes N (by omega) w)
  have h1 : ((put N).length : Int) + (N : Int) + 4 = ((frLen N : Nat) : Int) := by unfold frLen; omega
  have h2 := put_two hN
  go_enter Try.func43, Try.ntmps43
  go_wp2_with fail
  refine (HL.out).mono ?_
  rintro e w' ⟨rfl, hb, _⟩
  go_wp2_with fail
  go_ret
  exact ⟨rfl, hb⟩

set_option maxRecDepth 100000 in
set_option maxHeartbeats 400000 in
theorem frLong_no (n : Int) (hn : ¬ (0 ≤ n ∧ n ≤ 4000)) (w : World) : Calls Try.prog 43 #[.int .i64 n] w fun e w' => e = .returned (.int .i64 (-1)) ∧ Below w.heap.size w w' := by
  by_cases h0 : n < 0
  · go_enter Try.func43, Try.ntmps43
    go_wp2_with fail
    go_ret
    exact ⟨rfl, Below.refl _ _⟩
  · have h1 : 4000 < n := by omega
    go_enter Try.func43, Try.ntmps43
    go_wp2_with fail
    go_ret
    exact ⟨rfl, Below.refl _ _⟩

set_option maxRecDepth 100000 in
theorem frLong_any (n : Int) (w : World) : Calls Try.prog 43 #[.int .i64 n] w fun e w' => e = .returned (.int .i64 (longOf n)) ∧ Below w.heap.size w w' := by
  by_cases h : 0 ≤ n ∧ n ≤ 4000
  · obtain ⟨N, rfl⟩ := Int.eq_ofNat_of_zero_le h.1
    have := frLong_yes N (by omega) w
    rw [longOf, if_pos h]
    exact this
  · rw [longOf, if_neg h]
    exact frLong_no n h w

set_option maxRecDepth 100000 in
set_option maxHeartbeats 1000000 in
theorem sumBytes_any (A : Option Addr) (n c : Nat) (bs : List Nat) (B : Nat) (w : World) (hr : Rd w B A n (bv bs)) (hB : B ≤ w.heap.size) (hb : ∀ x ∈ bs, x < 256) (hn : n ≤ 140737488355328) :
    Calls Try.prog 86 #[.slice A n c] w fun e w' => ∃ A' c', e = .returned (.slice A' 4 c') ∧ w'.ownsRow w.heap.size 5 1 (.slice A' 4 c') 4 (bv (le4 (sumOf bs))) ∧ Below w.heap.size w w' := by
  have HS := Lib.hid (sum_any A n c bs B w hr hB hb hn)
  have hlt := sumOf_lt bs
  clear hr hb
  generalize sumOf bs = s at HS hlt ⊢
  go_enter Try.func86, Try.ntmps86
  go_wp2_with fail
  refine (HS.out).mono ?_
  rintro e w' ⟨rfl, hb⟩
  go_wp2_with fail
  go_ret
  refine ⟨_, _, rfl, ?_, hb.alloc hb.size _⟩
  have e4 : (s : Int) / 16777216 = (s : Int) / 16777216 % 256 := by omega
  rw [e4]
  exact own_weaker (own_lit w' [.int .u8 ((s : Int) % 256), .int .u8 ((s : Int) / 256 % 256), .int .u8 ((s : Int) / 65536 % 256), .int .u8 ((s : Int) / 16777216 % 256)] 5 (by simp [maxLen])) hb.size

set_option maxRecDepth 100000 in
/-- An append of noughts whose run is known. -/
theorem wpList_zeros {P : Program} {w : World} {ops : Array Oper} {rest : List Oper} {o : Oper} {a : Act} {Q : Exit → Act → World → Prop} (hw : Region.wanted o (yielded ops a.tmps) = true) (s x : Operand) (t u : TypeId)
    (ho : o.op = .call { callee := .builtin .append, args := #[s, x], argTypes := #[t, u] }) (vs vx v' : Value) (w' : World) (hs : a.eval s = vs) (hx : a.eval x = vx)
    (hr : (Builtin.append_ #[t, u] o.type #[vs, vx]).run P w = .ok v' w') (h : wpList P ops Q rest (a.put o.dst v') w') : wpList P ops Q (o :: rest) a w := by
  unfold wpList
  rw [if_pos hw]
  left
  unfold Oper.wp execOp
  simp only [ho, resolve, invoke, builtin, Sem.run_bind, Sem.run_pure, Result.andThen_ok, List.map_toArray, List.map_cons, List.map_nil, hs, hx, hr]
  exact h

set_option maxRecDepth 100000 in
set_option maxHeartbeats 1000000 in
theorem grow_nil (n : Nat) (h0 : 0 < n) (hn : n ≤ 100000) (w : World) :
    Calls Try.prog 93 #[.slice none 0 0, .int .i64 (n : Int)] w fun e w' => ∃ A' c', e = .returned (.slice A' 0 c') ∧ w'.ownsRow w.heap.size 5 1 (.slice A' 0 c') 0 [] ∧ Below w.heap.size w w' := by
  obtain ⟨i0, hi, hz0, hz1, hz2⟩ := info_parts info_u8
  have hr := Lib.run_append_grow_zeros (P := Try.prog) w 22 3 22 5 i0 (.int .u8 0) .i64 .i64 Try.underlying22 Try.underlying3 hi hz0 none 0 0 [] (run_firstCells_none w.drew i0.size 0 0 0) n h0 (by omega) (by omega) (by omega) (by rw [hz2]; omega) (by rw [hz2]; exact growslice_fits (by omega) (by omega))
  rw [Nat.zero_add] at hr
  obtain ⟨G, hG⟩ : ∃ G, G = grownCap w n 0 5 := ⟨_, rfl⟩
  have hG1 : n ≤ G := by rw [hG]; exact grownCap_ge w _ _ _
  have hG2 : G ≤ maxLen := by rw [hG]; exact grownCap_le_maxLen w _ _ _ (by unfold maxLen; omega)
  rw [← hG] at hr
  obtain ⟨W, hW⟩ : ∃ W, (w.drew.alloc (.cells (([] : List Value).toArray ++ Builtin.zeroCells (Value.int .u8 0).cells n ++ Builtin.zeroCells (Value.int .u8 0).cells (G - n)) 5)) = W := ⟨_, rfl⟩
  rw [hW] at hr
  have ho : W.ownsRow w.heap.size 5 1 (.slice (some ⟨w.heap.size, 0, none⟩) 0 G) 0 [] := by
    rw [← hW]
    exact World.ownsRow_made w.drew _ G (Nat.le_refl _) hG2 (by rw [Array.size_append, Array.size_append, size_zeroCells, size_zeroCells]; simp [Value.cells]; omega)
  have hb : Below w.heap.size w W := by rw [← hW]; exact ((Below.refl _ w).drew).alloc (Nat.le_refl _) _
  have HR := Lib.hid hr
  have HO := Lib.hid ho
  have HB := Lib.hid hb
  clear hr ho hb hW hG hi hz0 hz1 hz2
  unfold maxLen at hG2
  go_enter Try.func93, Try.ntmps93
  go_wp2_with (at_builtin; refine wpList_zeros (by rfl) _ _ _ _ rfl _ _ _ _ rfl rfl HR.out ?_; clear HR)
  go_ret
  exact ⟨_, _, rfl, HO.out, HB.out⟩

/-- A slice of the call's own, and what it reads as. -/
def OwnIs (n : Nat) (bs : List Nat) (w : World) (e : Ending) (w' : World) : Prop :=
  ∃ A c, e = .returned (.slice A n c) ∧ w'.ownsRow w.heap.size 5 1 (.slice A n c) n (bv bs) ∧ Below w.heap.size w w'

set_option maxRecDepth 100000 in
set_option maxHeartbeats 1000000 in
theorem concat_any (A : Option Addr) (n c : Nat) (l : List BE) (B : Nat) (w : World) (hr : RdB w B A n l) (hB : B ≤ w.heap.size) (hn : n ≤ 1000) (tot : Nat) (ht : (joinB l).length = tot) (h0 : 0 < tot) (hm : tot ≤ 100000) :
    Calls Try.prog 85 #[.slice A n c] w (OwnIs tot (joinB l) w) := by
  have HR := Lib.hid (hr.more hB)
  have hl := hr.1
  have HG := Lib.hid (grow_nil tot h0 hm w)
  have HT := Lib.hid ht
  clear hr hB ht
  go_enter Try.func85, Try.ntmps85
  go_wp2_with fail
  go_loop [3, 11] (fun x i => ∃ k : Nat, x = .int .i64 ((joinB (l.take k)).length : Int) ∧ i = .int .i64 (k : Int) ∧ k ≤ n) (fun _ i => n - (intOf i).toNat)
  case atStart => exact ⟨0, rfl, rfl, Nat.zero_le _⟩
  case round =>
    obtain ⟨k, rfl, rfl, hk⟩ := hrel
    rcases Nat.eq_or_lt_of_le hk with rfl | hlt
    · rw [List.take_of_length_le (by omega), HT.out]
      go_wp2_with fail
      refine (HG.out).mono ?_
      rintro e w1 ⟨A1, c1, rfl, o1, b1⟩
      have HO := Lib.hid o1
      have HB1 := Lib.hid b1
      clear o1 b1 HG
      go_wp2_with fail
      go_loopw [6, 27] (fun x i wr => ∃ (j m : Nat), i = .int .i64 (j : Int) ∧ j ≤ k ∧ (joinB (l.take j)).length = m ∧ wr.ownsRow w.heap.size 5 1 x m (bv (joinB (l.take j))) ∧ Below w.heap.size w wr) (fun _ i _ => k - (intOf i).toNat)
      case atStart => exact ⟨0, 0, rfl, Nat.zero_le _, rfl, HO.out, HB1.out⟩
      case round =>
        obtain ⟨j, m, rfl, hj, hjm, hown, hb⟩ := hrel
        have hmt : m ≤ tot := by rw [← hjm, ← HT.out]; exact joinB_le l j
        rcases Nat.eq_or_lt_of_le hj with rfl | hlt
        · rw [List.take_of_length_le (by omega)] at hown hjm
          obtain rfl : m = tot := by rw [← hjm]; exact HT.out
          obtain ⟨A3, c3, rfl⟩ := own_form hown
          go_wp2_with fail
          go_ret
          exact ⟨A3, c3, rfl, hown, hb⟩
        · obtain ⟨b, off, rfl, hbl, hc⟩ := HR.out.2.1 (by omega)
          obtain ⟨x, hx⟩ : ∃ x, l[j]? = some x := ⟨_, List.getElem?_eq_getElem (by omega)⟩
          have hcell := (hb.cell (p := ⟨b, off + j, none⟩) hbl).trans (hc j x hx)
          have hxr := (HR.out.2.2 x (List.mem_of_getElem? hx)).1.below hb
          have hxl : x.bs.length = x.n := by have := hxr.1; rwa [bv_length] at this
          have hj1 := joinB_take hx
          have hm1 : (joinB (l.take (j + 1))).length = m + x.n := by rw [hj1, List.length_append, hjm, hxl]
          have hm2 : m + x.n ≤ tot := by rw [← hm1, ← HT.out]; exact joinB_le l (j + 1)
          obtain ⟨v2, w2, hrun, hown2, hg2⟩ := run_app wr w.heap.size _ m _ hown w.heap.size x.A x.n x.c x.bs hxr (by omega) hb.size
          rw [← bv_append, ← hj1] at hown2
          have HO2 := Lib.hid hown2
          have HB2 := Lib.hid (hb.trans (below_row hown hg2 hb.size))
          have HM1 := Lib.hid hm1
          have HRun := Lib.hid hrun
          have hlt2 : (j : Int) < (k : Int) := by omega
          clear hown hb hxr hj1 hm1 hown2 hg2 hrun hc hx hxl hjm
          go_wp2_with (at_builtin; refine wpList_app (by rfl) _ _ _ rfl _ _ _ _ rfl rfl HRun.out ?_; clear HRun)
          go_roundw
          case rel => exact ⟨j + 1, m + x.n, by go_num, by omega, HM1.out, HO2.out, HB2.out⟩
          case measure => simp [intOf]; omega
    · obtain ⟨b, off, rfl, hbl, hc⟩ := HR.out.2.1 (by omega)
      obtain ⟨x, hx⟩ : ∃ x, l[k]? = some x := ⟨_, List.getElem?_eq_getElem (by omega)⟩
      have hcell := hc k x hx
      have hxl : x.bs.length = x.n := by have := (HR.out.2.2 x (List.mem_of_getElem? hx)).1.1; rwa [bv_length] at this
      obtain ⟨m, hm0⟩ : ∃ m, (joinB (l.take k)).length = m := ⟨_, rfl⟩
      have hm1 : (joinB (l.take (k + 1))).length = m + x.n := by rw [joinB_take hx, List.length_append, hm0, hxl]
      have hm2 : m + x.n ≤ tot := by rw [← hm1, ← HT.out]; exact joinB_le l (k + 1)
      have HM1 := Lib.hid hm1
      have hlt2 : (k : Int) < (n : Int) := by omega
      rw [hm0]
      clear hc hx hxl hm1
      go_wp2_with fail
      go_round
      case rel => exact ⟨k + 1, by rw [HM1.out]; go_num, by go_num, by omega⟩
      case measure => simp [intOf]; omega

/-- The payload's frame, of the call's own. -/
def FrOk (p : List Nat) (w : World) (e : Ending) (w' : World) : Prop :=
  ∃ A c, e = .returned (.tuple #[.slice A (frLen p.length) c, .int .i64 0]) ∧ w'.ownsRow w.heap.size 5 1 (.slice A (frLen p.length) c) (frLen p.length) (bv (fr p)) ∧ Below w.heap.size w w'

set_option maxRecDepth 100000 in
set_option maxHeartbeats 1000000 in
theorem frPut_any (A : Option Addr) (n c : Nat) (bs : List Nat) (B : Nat) (w : World) (hr : Rd w B A n (bv bs)) (hB : B ≤ w.heap.size) (hb : ∀ x ∈ bs, x < 256) (hn : n ≤ 4000) (hc : n ≤ c) (hm : c ≤ maxLen) :
    Calls Try.prog 72 #[.slice A n c] w (FrOk bs w) := by
  have hl : bs.length = n := by have := hr.1; rwa [bv_length] at this
  have HP := Lib.hid (put_yes n (by omega) w.heap.size w (Nat.le_refl _))
  have HS := Lib.hid (fun (W : World) (hW : Below w.heap.size w W) => sumBytes_any A n c bs w.heap.size W ((hr.more hB).below hW) hW.size hb (by omega))
  have HR := Lib.hid (hr.more hB)
  have HBy := Lib.hid hb
  have HL := Lib.hid hl
  have HC := Lib.hid hc
  have HM := Lib.hid hm
  clear hr hB hb hl hc hm
  go_enter Try.func72, Try.ntmps72
  go_wp2_with fail
  refine (HP.out).mono ?_
  rintro e w1 ⟨A1, c1, rfl, hI⟩
  have HI := Lib.hid hI
  clear hI HP
  go_wp2_with fail
  refine (HS.out _ HI.out.2.1).mono ?_
  rintro e w2 ⟨A2, c2, rfl, o2, b2⟩
  have B2 := Lib.hid (HI.out.2.1.trans (b2.mono HI.out.2.2.2))
  have O1 := Lib.hid (own_under HI.out.1 b2)
  have O2 := Lib.hid o2
  clear o2 b2 HS
  go_wp2_with fail
  have HRB : RdB (w2.alloc (.cells #[.slice A1 (put n).length c1, .slice A n c, .slice A2 4 c2] 22)) (w2.heap.size + 1) (some ⟨w2.heap.size, 0, none⟩) 3 [⟨A1, (put n).length, c1, put n⟩, ⟨A, n, c, bs⟩, ⟨A2, 4, c2, le4 (sumOf bs)⟩] := by
    refine ⟨rfl, fun _ => ⟨_, _, rfl, Nat.lt_succ_self _, fun j x hx => ?_⟩, ?_⟩
    · rw [Nat.zero_add, cell_new]
      match j, hx with
      | 0, hx => simp at hx; subst hx; rfl
      | 1, hx => simp at hx; subst hx; rfl
      | 2, hx => simp at hx; subst hx; rfl
      | j + 3, hx => simp at hx
    · intro x hx
      simp only [List.mem_cons, List.not_mem_nil, or_false] at hx
      rcases hx with rfl | rfl | rfl
      · exact ⟨((Rd.of_own O1.out).alloc (Nat.le_refl _) _).more (Nat.le_succ _), put_bytes _, own_cap O1.out, own_capm O1.out⟩
      · exact ⟨((HR.out.below B2.out).more B2.out.size |>.alloc (Nat.le_refl _) _).more (Nat.le_succ _), HBy.out, HC.out, HM.out⟩
      · exact ⟨((Rd.of_own O2.out).alloc (Nat.le_refl _) _).more (Nat.le_succ _), le4_bytes _, own_cap O2.out, own_capm O2.out⟩
  have hj : joinB [⟨A1, (put n).length, c1, put n⟩, ⟨A, n, c, bs⟩, ⟨A2, 4, c2, le4 (sumOf bs)⟩] = fr bs := by simp [joinB, fr, HL.out]
  have h2 := put_two hn
  have h3 := frLen_pos n
  refine (concat_any _ 3 3 _ _ _ HRB (by simp) (by omega) (frLen n) (by rw [hj, fr_length, HL.out]) (by omega) (by unfold frLen; omega)).mono ?_
  rintro e w3 ⟨A3, c3, rfl, o3, b3⟩
  rw [hj] at o3
  have HO3 := Lib.hid o3
  have HB3 := Lib.hid b3
  clear o3 b3 HRB hj
  go_wp2_with fail
  go_ret2
  have b4 := (B2.out.alloc B2.out.size (.cells #[.slice A1 (put n).length c1, .slice A n c, .slice A2 4 c2] 22))
  refine ⟨A3, c3, by rw [HL.out]; rfl, ?_, b4.trans (HB3.out.mono b4.size)⟩
  rw [HL.out]
  exact own_weaker HO3.out b4.size

end Go.Proofs.Ytbkfpghpfaemeaa

/-
  The walks of the document's own 'Put' and 'Long' of frames. Conditions: those that each theorem names.
-/
namespace Go.Proofs.Ytbkfpghpfaemeaa
open Go.RowKit Go.Shelf

set_option maxRecDepth 100000 in
set_option maxHeartbeats 1000000 in
theorem refFrPut_any (A : Option Addr) (n c : Nat) (bs : List Nat) (B : Nat) (w : World) (hr : Rd w B A n (bv bs)) (hB : B ≤ w.heap.size) (hb : ∀ x ∈ bs, x < 256) (hn : n ≤ 4000) :
    Calls Try.prog 45 #[.slice A n c] w (FrOk bs w) := by
  have hl : bs.length = n := by have := hr.1; rwa [bv_length] at this
  have HP := Lib.hid (refPut_yes n (by omega) w)
  have HS := Lib.hid (fun (W : World) (hW : Below w.heap.size w W) => refSum_any A n c bs w.heap.size W ((hr.more hB).below hW) hb (by omega))
  have HR := Lib.hid (hr.more hB)
  have HL := Lib.hid hl
  have hlt := sumOf_lt bs
  have i0 : ¬ (4000 : Int) < (n : Int) := by omega
  have hP2 := put_two hn
  clear hr hB hb hl
  go_enter Try.func45, Try.ntmps45
  go_wp2_with fail
  refine (HP.out).mono ?_
  rintro e w1 ⟨A1, c1, rfl, hI⟩
  have B1 := Lib.hid hI.2.1
  obtain ⟨v2, w2, hrun, o2, g2⟩ := run_app w1 w.heap.size _ (put n).length _ hI.1 w.heap.size A n c bs (HR.out.below B1.out) (by omega) B1.out.size
  obtain ⟨A2, c2, rfl⟩ := own_form o2
  have B2 := Lib.hid (B1.out.trans (below_row hI.1 g2 B1.out.size))
  have O2 := Lib.hid o2
  have HRun := Lib.hid hrun
  clear hrun o2 g2 hI HP
  go_wp2_with (first | (at_builtin; refine wpList_app (by rfl) _ _ _ rfl _ _ _ _ rfl rfl HRun.out ?_; clear HRun))
  refine (HS.out _ B2.out).mono ?_
  rintro e w3 ⟨rfl, rfl⟩
  have hsq : bv (le4 (sumOf bs)) = [.int .u8 ((sumOf bs : Int) % 256), .int .u8 ((sumOf bs : Int) / 256 % 256), .int .u8 ((sumOf bs : Int) / 65536 % 256), .int .u8 ((sumOf bs : Int) / 16777216)] := by
    have e4 : (sumOf bs : Int) / 16777216 % 256 = (sumOf bs : Int) / 16777216 := by omega
    simp [bv, le4, e4]
  have hLit := rd_lit w2 (bv (le4 (sumOf bs))) 5 4 rfl
  obtain ⟨v4, w4, hrun4, o4, g4⟩ := run_app (w2.alloc (.cells (bv (le4 (sumOf bs))).toArray 5)) w.heap.size _ ((put n).length + n) _ (O2.out.alloc _) (w2.heap.size + 1) (some ⟨w2.heap.size, 0, none⟩) 4 4 (le4 (sumOf bs)) hLit (by omega) (by have := B2.out.size; simp; omega)
  obtain ⟨A4, c4, rfl⟩ := own_form o4
  have B4 := Lib.hid ((B2.out.alloc B2.out.size (.cells (bv (le4 (sumOf bs))).toArray 5)).trans (below_row (O2.out.alloc _) g4 (by have := B2.out.size; simp; omega)))
  rw [← bv_append, ← bv_append] at o4
  have O4 := Lib.hid o4
  rw [hsq] at hrun4
  have HRun4 := Lib.hid hrun4
  clear hrun4 o4 g4 hsq hLit
  go_wp2_with (first | (at_builtin; refine wpList_app (by rfl) _ _ _ rfl _ _ _ _ rfl rfl HRun4.out ?_; clear HRun4))
  go_ret2
  have hF : (put n).length + n + 4 = frLen bs.length := by rw [HL.out]; rfl
  have hfr : put n ++ bs ++ le4 (sumOf bs) = fr bs := by rw [fr, HL.out]
  refine ⟨A4, c4, by rw [← hF]; rfl, ?_, B4.out⟩
  rw [← hF, ← hfr]
  exact O4.out

end Go.Proofs.Ytbkfpghpfaemeaa

/-
  Disks as they count, in plain words, and the walks of 'within', 'counted' and 'Own' of package disk. Conditions: those that each theorem names.
-/
namespace Go.Proofs.Ytbkfpghpfaemeaa
open Go.RowKit Go.Shelf

/-- A disk as it counts. -/
structure Dk where
  bs : List Nat
  syn : Nat
  room : Nat
deriving DecidableEq

/-- A number held within 0 and a top. -/
def clampN (n : Int) (top : Nat) : Nat := min n.toNat top
set_option maxRecDepth 100000 in
theorem clampN_le (n : Int) (top : Nat) : clampN n top ≤ top := Nat.min_le_right _ _
set_option maxRecDepth 100000 in
theorem clampN_self {n top : Nat} (h : n ≤ top) : clampN (n : Int) top = n := by unfold clampN; omega
set_option maxRecDepth 100000 in
theorem clampN_int (n : Int) (top : Nat) : min (max n 0) (top : Int) = (clampN n top : Int) := by unfold clampN; omega
def cnt (bs : List Nat) (s r : Int) : Dk := ⟨bs.take (clampN r 65536), clampN s (bs.take (clampN r 65536)).length, clampN r 65536⟩

structure Dk.Ok (D : Dk) : Prop where
  syn : D.syn ≤ D.bs.length
  len : D.bs.length ≤ D.room
  room : D.room ≤ 65536
  byte : ∀ x ∈ D.bs, x < 256
set_option maxRecDepth 100000 in
theorem cnt_ok {bs : List Nat} (s r : Int) (hb : ∀ x ∈ bs, x < 256) : (cnt bs s r).Ok :=
  ⟨clampN_le _ _, by simp only [cnt, List.length_take]; omega, clampN_le _ _, fun x hx => hb x (List.mem_of_mem_take hx)⟩
set_option maxRecDepth 100000 in
theorem cnt_self {D : Dk} (h : D.Ok) : cnt D.bs D.syn D.room = D := by
  obtain ⟨h1, h2, h3, _⟩ := h
  cases D with
  | mk bs syn room =>
    simp only at h1 h2 h3
    simp only [cnt, clampN_self h3, List.take_of_length_le h2, clampN_self h1]

/-- A disk, as a value. -/
abbrev diskV (A : Option Addr) (n c : Nat) (s r : Int) : Value := .agg #[.slice A n c, .int .i64 s, .int .i64 r]

set_option maxRecDepth 100000 in
theorem ret_int {k : IntKind} {a b : Int} (h : a = b) : Ending.returned (.int k a) = .returned (.int k b) := by rw [h]

set_option maxRecDepth 100000 in
set_option maxHeartbeats 400000 in
theorem within_any (n : Int) (top : Nat) (w : World) : Calls Try.prog 66 #[.int .i64 n, .int .i64 (top : Int)] w fun e w' => e = .returned (.int .i64 (clampN n top : Int)) ∧ w = w' := by
  go_enter Try.func66, Try.ntmps66
  go_wp2
  all_goals
    rename_i h1
    go_ret
    refine ⟨ret_int ?_, rfl⟩
    unfold clampN
    split at h1 <;> omega

abbrev diskB (A : Option Addr) (n c : Nat) (s r : Int) : Obj := .cells #[.slice A n c, .int .i64 s, .int .i64 r] 24
/-- A disk that is told: in one block, and in another one. -/
def CountedIs (A : Option Addr) (n c : Nat) (s r : Int) (w : World) (e : Ending) (w' : World) : Prop :=
  e = .returned (diskV A n c s r) ∧ w' = (w.alloc (diskB A n c s r)).alloc (diskB A n c s r)
set_option maxRecDepth 100000 in
theorem CountedIs.below {A : Option Addr} {n c : Nat} {s r : Int} {w w' : World} {e : Ending} (h : CountedIs A n c s r w e w') : Below w.heap.size w w' := by
  obtain ⟨_, rfl⟩ := h
  exact ((Below.refl _ w).alloc (Nat.le_refl _) _).alloc (by simp) _

set_option maxRecDepth 100000 in
set_option maxHeartbeats 800000 in
theorem counted_len (A : Option Addr) (n c : Nat) (s r : Int) (bs : List Nat) (w : World) (hl : bs.length = n) (hc : n ≤ c) :
    Calls Try.prog 48 #[diskV A n c s r] w (CountedIs A (cnt bs s r).bs.length c (cnt bs s r).syn (cnt bs s r).room w) := by
  obtain ⟨R, hR⟩ : ∃ R, clampN r 65536 = R := ⟨_, rfl⟩
  obtain ⟨K, hK⟩ : ∃ K, min R n = K := ⟨_, rfl⟩
  have hKl : (bs.take R).length = K := by rw [List.length_take, hl, hK]
  obtain ⟨S, hS⟩ : ∃ S, clampN s K = S := ⟨_, rfl⟩
  have hW1 := within_any r 65536
  rw [hR] at hW1
  have HW1 := Lib.hid hW1
  have hW2 := within_any s K
  rw [hS] at hW2
  have HW2 := Lib.hid hW2
  have e1 : (cnt bs s r).bs.length = K := by simp only [cnt, hR, hKl]
  have e2 : (cnt bs s r).syn = S := by simp only [cnt, hR, hKl, hS]
  have e3 : (cnt bs s r).room = R := by simp only [cnt, hR]
  rw [e1, e2, e3]
  have hKc : K ≤ c := by omega
  have HH := Lib.hid (fun W => run_head A n c K hKc W)
  have hR2 : R ≤ 65536 := by rw [← hR]; exact clampN_le _ _
  clear hW1 hW2 e1 e2 e3 hKl hl hS hR
  rcases Nat.lt_or_ge n R with hlt | hge
  · obtain rfl : n = K := by omega
    have hlt' : (n : Int) < (R : Int) := by omega
    clear hK hlt
    go_enter Try.func48, Try.ntmps48
    go_wp2_with fail
    refine (HW1.out _).mono ?_
    rintro e w1 ⟨rfl, rfl⟩
    have h0 := HH.out
    go_wp2_with fail
    refine (HW2.out _).mono ?_
    rintro e w1 ⟨rfl, rfl⟩
    go_wp2_with fail
    exact bodyPost_ret (v := diskV A n c S R) (by simp [results, Try.results48, go_sem]) rfl ⟨rfl, rfl⟩
  · obtain rfl : R = K := by omega
    have hge' : (R : Int) ≤ (n : Int) := by omega
    clear hK hge
    go_enter Try.func48, Try.ntmps48
    go_wp2_with fail
    refine (HW1.out _).mono ?_
    rintro e w1 ⟨rfl, rfl⟩
    have h0 := HH.out
    go_wp2_with fail
    refine (HW2.out _).mono ?_
    rintro e w1 ⟨rfl, rfl⟩
    go_wp2_with fail
    exact bodyPost_ret (v := diskV A R c S R) (by simp [results, Try.results48, go_sem]) rfl ⟨rfl, rfl⟩

set_option maxRecDepth 100000 in
theorem counted_any (A : Option Addr) (n c : Nat) (s r : Int) (bs : List Nat) (B : Nat) (w : World) (hr : Rd w B A n (bv bs)) (hc : n ≤ c) :
    Calls Try.prog 48 #[diskV A n c s r] w (CountedIs A (cnt bs s r).bs.length c (cnt bs s r).syn (cnt bs s r).room w) :=
  counted_len A n c s r bs w (by have := hr.1; rwa [bv_length] at this) hc

/-- A disk that is answered, its bytes in memory of the call's own. -/
def DiskIs (D : Dk) (w : World) (e : Ending) (w' : World) : Prop :=
  ∃ A c, e = .returned (diskV A D.bs.length c D.syn D.room) ∧ w'.ownsRow w.heap.size 5 1 (.slice A D.bs.length c) D.bs.length (bv D.bs) ∧ Below w.heap.size w w'

abbrev zeroB : Obj := .cells #[.slice none 0 0, .int .i64 0, .int .i64 0] 24

set_option maxRecDepth 100000 in
set_option maxHeartbeats 800000 in
theorem own_any (A : Option Addr) (n c : Nat) (s r : Int) (bs : List Nat) (B : Nat) (w : World) (hr : Rd w B A n (bv bs)) (hB : B ≤ w.heap.size) (hc : n ≤ c) :
    Calls Try.prog 33 #[diskV A n c s r] w (DiskIs (cnt bs s r) w) := by
  have hl : bs.length = n := by have := hr.1; rwa [bv_length] at this
  obtain ⟨D, hD⟩ : ∃ D, cnt bs s r = D := ⟨_, rfl⟩
  have hDb : D.bs = bs.take D.bs.length ∧ D.bs.length ≤ n ∧ D.bs.length ≤ 65536 := by
    rw [← hD]
    have h1 := clampN_le r 65536
    simp only [cnt, List.length_take]
    refine ⟨?_, by omega, by omega⟩
    rw [List.take_eq_take_iff]; omega
  have hC := Lib.hid (fun (W : World) (hW : Below w.heap.size w W) => counted_any A n c s r bs B W (hr.below (hW.mono hB)) hc)
  rw [hD] at hC ⊢
  have hrd : Rd w B A D.bs.length (bv D.bs) := by
    have := hr.take hDb.2.1
    rw [bv, ← List.map_take, ← hDb.1] at this
    exact this
  have hb0 : Below w.heap.size w ((w.alloc (diskB A n c s r)).alloc zeroB) := ((Below.refl _ w).alloc (Nat.le_refl _) _).alloc (by simp) _
  obtain ⟨W4, hW4⟩ : ∃ W4, (((w.alloc (diskB A D.bs.length c D.syn D.room)).alloc zeroB).alloc (diskB A D.bs.length c D.syn D.room)).alloc (diskB A D.bs.length c D.syn D.room) = W4 := ⟨_, rfl⟩
  have hx4 : Whole W4 w.heap.size 24 #[.slice A D.bs.length c, .int .i64 D.syn, .int .i64 D.room] := by
    rw [← hW4]; exact (((Whole.new w _ _).alloc _).alloc _).alloc _
  have hy4 : Whole W4 (w.heap.size + 1) 24 #[.slice none 0 0, .int .i64 0, .int .i64 0] := by
    rw [← hW4]; have := ((Whole.new (w.alloc (diskB A D.bs.length c D.syn D.room)) 24 #[.slice none 0 0, .int .i64 0, .int .i64 0]).alloc (diskB A D.bs.length c D.syn D.room)).alloc (diskB A D.bs.length c D.syn D.room); simpa using this
  have hb4 : Below w.heap.size w W4 := by
    rw [← hW4]; exact ((((Below.refl _ w).alloc (Nat.le_refl _) _).alloc (by simp) _).alloc (by simp; omega) _).alloc (by simp; omega) _
  have hs4 : W4.heap.size = w.heap.size + 4 := by rw [← hW4]; simp
  obtain ⟨v5, W5, e5, o5, g5⟩ := run_app W4 W4.heap.size (.slice none 0 0) 0 [] (World.ownsRow_nil _ _ _ _) B A D.bs.length c D.bs (hrd.below (hb4.mono hB)) (by omega) (Nat.le_refl _)
  rw [Nat.zero_add, List.nil_append] at o5
  obtain ⟨A5, c5, rfl⟩ := own_form o5
  have hx5 := hx4.grown g5 (by simp [Value.ownBlock])
  have hy5 := hy4.grown g5 (by simp [Value.ownBlock])
  have hb5 : Below w.heap.size w W5 := hb4.trans ((Below.refl _ _).grown g5 (by omega) (fun k e => by simp [Value.ownBlock] at e))
  have x0 := hx5.cell 0
  have x1 := hx5.cell 1
  have x2 := hx5.cell 2
  have y0 := hy5.cell 0
  have y1 := hy5.cell 1
  have y2 := hy5.cell 2
  have fx0 := hx5.frozen 0
  have fy0 := hy5.frozen 0
  have fy1 := hy5.frozen 1
  have fy2 := hy5.frozen 2
  simp only [List.getElem?_toArray, List.getElem?_cons_zero, List.getElem?_cons_succ] at x0 x1 x2 y0 y1 y2
  have E5 := Lib.hid e5
  have O5 := Lib.hid o5
  have HX5 := Lib.hid hx5
  have HY5 := Lib.hid hy5
  have HB5 := Lib.hid hb5
  have HB0 := Lib.hid hb0
  have HS4 := Lib.hid hs4
  have HW4 := Lib.hid hW4
  have hlen := hDb.2.2
  clear hr hDb hl hD hb0 hrd hW4 hx4 hy4 hb4 hs4 e5 o5 g5 hx5 hy5 hb5
  go_enter Try.func33, Try.ntmps33
  go_wp2_with fail
  refine (hC.out _ HB0.out).mono ?_
  rintro e w1 ⟨rfl, rfl⟩
  go_wp2_with (at_builtin; rw [HW4.out]; refine wpList_app (by rfl) _ _ _ rfl _ _ _ _ rfl rfl E5.out ?_; clear E5)
  have hz := ((HY5.out.far (p := ⟨w.heap.size, 0, none⟩) (by simp) (.slice A5 D.bs.length c5)).set 0 (.slice A5 D.bs.length c5)).set 1 (.int .i64 D.syn) |>.set 2 (.int .i64 D.room)
  have q0 := hz.cell 0
  have q1 := hz.cell 1
  have q2 := hz.cell 2
  simp at q0 q1 q2
  refine bodyPost_ret (v := diskV A5 D.bs.length c5 D.syn D.room) (by simp [results, Try.results33, go_sem, q0, q1, q2]) rfl ⟨A5, c5, rfl, ?_, ?_⟩
  · have hs := HS4.out
    exact own_weaker (own_set (own_set (own_set (own_set O5.out (by omega) _) (by omega) _) (by omega) _) (by omega) _) (by omega)
  · exact (((HB5.out.setCell (p := ⟨w.heap.size, 0, none⟩) (Nat.le_refl _) _).setCell (p := ⟨w.heap.size + 1, 0, none⟩) (by simp) _).setCell (p := ⟨w.heap.size + 1, 1, none⟩) (by simp) _).setCell (p := ⟨w.heap.size + 1, 2, none⟩) (by simp) _

end Go.Proofs.Ytbkfpghpfaemeaa
