/-
  The walks of the document's own 'Row' and 'TakeRow' of numbers. Conditions: those that each theorem names.
-/
import Derived.Test.YtcgfakpolfopnaaRefTake
namespace Go.Proofs.Ytcgfakpolfopnaa
open Go.RowKit Go.Shelf

theorem own_stays {w w' : World} {base : Nat} {e : TypeId} {size n : Nat} {v : Value} {xs : List Value} (h : w.ownsRow base e size v n xs) (hb : Below w.heap.size w w') : w'.ownsRow base e size v n xs := by
  refine h.kept (row := none) ⟨hb.os, hb.tape, hb.output, hb.size, fun i hi _ => hb.block i hi⟩ ?_
  rcases h.2 with ⟨rfl, _⟩ | ⟨g, cap, cur, rfl, _⟩
  · exact .inl rfl
  · exact .inr (by simp [Value.ownBlock])

/-- What holds at each number of the row. -/
structure RefRowAt (w : World) (n : Nat) (zs : List Int) (j : Nat) (v : Value) (W : World) : Prop where
  le : j ≤ n
  num : (zs.take j).all isNum = true
  own : W.ownsRow w.heap.size 5 1 v (sofar n (zs.take j)).length (bv (sofar n (zs.take j)))
  below : Below w.heap.size w W

theorem refRowAt_step {w W W1 W2 : World} {n j m : Nat} {zs : List Int} {v v' : Value} (h : RefRowAt w n zs j v W) (hl : zs.length = n) (hj : j < n) (hz : zs[j]? = some (m : Int)) (hm : m ≤ 1099511627776) (hb : Below W.heap.size W W1)
    (ho : W2.ownsRow w.heap.size 5 1 v' ((sofar n (zs.take j)).length + (put m).length) (bv (sofar n (zs.take j)) ++ bv (put m))) (hg : W1.grownBy W2 v.ownBlock) : RefRowAt w n zs (j + 1) v' W2 := by
  have hjl : j < zs.length := by omega
  have e : zs.take (j + 1) = zs.take j ++ [(m : Int)] := by
    rw [List.take_succ_eq_append_getElem hjl]
    rw [List.getElem?_eq_getElem hjl] at hz
    rw [Option.some.inj hz]
  have hnum : isNum (m : Int) = true := isNum_yes (by omega) (by omega)
  have b1 := h.below.trans (hb.mono h.below.size)
  refine ⟨by omega, by rw [e, List.all_append, h.num]; simp [hnum], ?_, b1.trans (below_row (own_stays h.own hb) hg b1.size)⟩
  rw [e, sofar_snoc, List.length_append, bv_append]
  exact ho

set_option maxRecDepth 100000 in
set_option maxHeartbeats 1000000 in
theorem refRow_any (A : Option Addr) (n c : Nat) (zs : List Int) (w : World) (hr : Rd w w.heap.size A n (iv zs)) :
    Calls Try.prog 28 #[.slice A n c] w (RowPost zs w) := by
  have hl : zs.length = n := by have := hr.1; rwa [iv_length] at this
  by_cases hn : n ≤ 40
  · have HL := Lib.hid hl
    have HR := Lib.hid hr
    have d40 : decide ((40 : Int) < (n : Int)) = false := by simp; omega
    clear hl hr
    go_enter Try.func28, Try.ntmps28
    go_wp2_with fail
    refine (refPut_yes n (by omega) w).mono ?_
    rintro e w1 ⟨A1, c1, rfl, I1⟩
    have HI1 : Hid (RefRowAt w n zs 0 (.slice A1 (put n).length c1) w1) := ⟨by omega, rfl, by have := I1.1; simpa [sofar, nats, puts] using this, I1.2.1⟩
    clear I1
    go_wp2_with fail
    go_loopw [4, 6] (fun v i wr => ∃ j : Nat, i = .int .i64 (j : Int) ∧ RefRowAt w n zs j v wr) (fun _ i _ => n - (intOf i).toNat)
    case atStart => exact ⟨0, rfl, HI1.out⟩
    case round =>
      obtain ⟨j, rfl, hI⟩ := hrel
      clear HI1
      have hjn := hI.le
      obtain ⟨Av, cv, rfl⟩ := own_form hI.own
      have hS : (sofar n (zs.take j)).length ≤ 246 := by
        have := sofar_six hn hI.num
        rw [List.length_take] at this; omega
      by_cases hj : j < n
      · obtain ⟨b, off, rfl, hB, hc⟩ := (HR.out.below hI.below).2 (by omega)
        have hjl : j < zs.length := by rw [HL.out]; exact hj
        obtain ⟨z, hz⟩ : ∃ z, zs[j]? = some z := ⟨_, List.getElem?_eq_getElem hjl⟩
        have hcell := hc j hj
        have e1 : (iv zs)[j]? = some (.int .i64 z) := by simp [iv, hz]
        rw [e1] at hcell
        have Hz := Lib.hid hz
        have HI := Lib.hid hI
        have hIlt : (j : Int) < (n : Int) := by omega
        clear hz hc e1 hjl hI
        by_cases hnum : isNum z = true
        · obtain ⟨hz0, hz1⟩ := isNum_iff.1 hnum
          obtain ⟨m, rfl⟩ := Int.eq_ofNat_of_zero_le hz0
          have hP := put_six (n := m) (by omega)
          have hm : m ≤ 1099511627776 := by omega
          clear hz0 hz1 hnum
          go_wp2_with fail
          refine (refPut_yes m hm _).mono ?_
          rintro e w3 ⟨A3, c3, rfl, I3⟩
          obtain ⟨v4, W4, e4, o4, g4⟩ := run_app w3 w.heap.size _ _ _ (own_stays HI.out.own I3.2.1) w3.heap.size A3 (put m).length c3 (put m) I3.rd (by omega) (HI.out.below.trans (I3.2.1.mono HI.out.below.size)).size
          obtain ⟨A4, c4, rfl⟩ := own_form o4
          have hS4 := refRowAt_step HI.out HL.out hj Hz.out hm I3.2.1 o4 g4
          have HS4 := Lib.hid hS4
          have E4 := Lib.hid e4
          clear I3 e4 o4 g4 hS4
          go_wp2_with (at_builtin; refine wpList_app (by rfl) _ _ _ rfl _ _ _ _ rfl rfl E4.out ?_; clear E4)
          go_roundw
          case rel => exact ⟨j + 1, by go_num, HS4.out⟩
          case measure => simp [intOf]; omega
        · have hnf : isNum z = false := by simpa using hnum
          have HF := Lib.hid (show isRow zs = false by
            have h1 : zs.all isNum = false := by
              simp only [List.all_eq_false]
              exact ⟨z, List.mem_of_getElem? Hz.out, by simp [hnf]⟩
            simp [isRow, h1])
          have HNf := Lib.hid hnf
          clear hnum hnf
          go_wp2_with fail
          refine (refPut_no z HNf.out _).mono ?_
          rintro e w3 ⟨rfl, rfl⟩
          go_wp2_with fail
          go_ret2
          exact .inr ⟨HF.out, rfl, HI.out.below⟩
      · obtain rfl : n = j := by omega
        have HI := Lib.hid hI
        clear hI
        go_wp2_with fail
        go_ret2
        have h1 := HI.out.num
        have h2 := HI.out.own
        rw [List.take_of_length_le (by have := HL.out; omega)] at h1 h2 ⊢
        have h3 := HL.out
        rw [show sofar n zs = row (nats zs) by rw [← h3]; exact sofar_row zs] at h2 ⊢
        exact .inl ⟨by simp only [isRow, h1, Bool.and_true, decide_eq_true_eq]; omega, Av, cv, rfl, h2, HI.out.below, below_keeps HI.out.below, HI.out.below.size⟩
  · have HF := Lib.hid (show isRow zs = false by simp [isRow]; omega)
    have hn' : (40 : Int) < (n : Int) := by omega
    clear hr hl
    go_enter Try.func28, Try.ntmps28
    go_wp2_with fail
    go_ret2
    exact .inr ⟨HF.out, rfl, Below.refl _ _⟩

end Go.Proofs.Ytcgfakpolfopnaa
