/-
  The walk of 'Path' of package phase. Conditions: those that each theorem names.
-/
import Derived.Test.YtgjipbhhdiacmaaDoorPhMap
import Derived.Test.YtgjipbhhdiacmaaDoorRegTwo
import Derived.Test.YtgjipbhhdiacmaaDoorBoxW
import Derived.Test.YtgjipbhhdiacmaaDoorWalkAt
import Derived.Test.YtgjipbhhdiacmaaDoorScope2
import Derived.Deep.DeepCutAuto
namespace Go.Proofs.YtgjipbhhdiacmaaDoor
open Go.RowKit Go.Shelf

/-- Where it stands. -/
structure PtInv (k b base : Nat) (v : Value) (pre : List Nat) (f : Nat) (w W : World) : Prop where
  path : pathP k = pre ++ pathP f
  lt : f < 256
  map : PhMap b W
  own : W.ownsRow base 5 1 v pre.length (bv pre)
  below : Below base w W
def PtAt (k b base : Nat) (w : World) (a' : Act) (w' : World) : Prop :=
  ∃ (f : Nat) (v : Value) (pre : List Nat) (u5 u6 u7 u8 u9 u10 u11 u12 u13 u14 u15 u16 u17 u18 u19 u20 u21 : Value), a' = { tmps := #[.int .u8 (f : Int), undef, .slice none 0 0, v, .map (some b), u5, u6, u7, u8, u9, u10, u11, u12, u13, u14, u15, u16, u17, u18, u19, u20, u21], defers := [] } ∧ PtInv k b base v pre f w w'
def PathPost (k : Nat) (w : World) (e : Ending) (w' : World) : Prop := ∃ A c, e = .returned (.slice A (pathP k).length c) ∧ Rd w' w'.heap.size A (pathP k).length (bv (pathP k)) ∧ Below w.heap.size w w'

set_option maxRecDepth 100000 in
set_option maxHeartbeats 4000000 in
theorem path_any (k : Nat) (hk : k < 256) (w : World) : Calls Tryd.prog 13 #[.int .u8 (k : Int)] w (PathPost k w) := by
  go_enter Tryd.func13, Tryd.ntmps13
  go_wp2_with fail
  refine wp_scope_back_behind2 0 (PtAt k w.heap.size w.heap.size w) (fun a' _ => (pathP (intOf (a'.tmps.getD 0 undef)).toNat).length) rfl rfl ?ahead (fun a' w' hJ' => ?pass)
  case ahead =>
    go_wp2_with fail
    refine (follows_any w).mono ?_
    rintro e V ⟨rfl, hm, hb⟩
    have HM := Lib.hid hm
    have HB := Lib.hid hb
    clear hm hb
    go_wp2_with fail
    exact ⟨k, _, [], _, _, _, _, _, _, _, _, _, _, _, _, _, _, _, _, _, rfl, rfl, hk, HM.out, World.ownsRow_nil _ _ _ _, HB.out⟩
  case pass =>
    obtain ⟨f, v, pre, u5, u6, u7, u8, u9, u10, u11, u12, u13, u14, u15, u16, u17, u18, u19, u20, u21, rfl, hI⟩ := hJ'
    have HI := Lib.hid hI
    clear hI
    have hl := HI.out.map.look2 HI.out.lt
    unfold phV at hl
    cases hf : isP f with
    | true =>
      rw [hf] at hl
      have HF := Lib.hid hf
      clear hf
      go_upto_region 5 with fail
      refine wpV (fun V hV => ?_)
      have hb : Below w'.heap.size w' V := by rw [← hV]; exact (Below.refl _ _).alloc (Nat.le_refl _) _
      have hw : Whole V w'.heap.size 47 #[.int .u8 (nxA f : Int), .int .u8 (nxB f : Int)] := by rw [← hV]; exact Whole.new _ _ _
      have hp : pathP k = (pre ++ [f]) ++ pathP (nxA f) := by rw [HI.out.path, pathP_yes HF.out]; simp
      have hlen : pre.length ≤ 9 := by
        have h1 := pathP_len k
        rw [hp] at h1
        simp at h1
        omega
      have hb1 : Below V.heap.size V (V.alloc (.cells #[.int .u8 (f : Int)] 5)) := (Below.refl _ _).alloc (Nat.le_refl _) _
      have hbs : w.heap.size ≤ w'.heap.size := HI.out.below.size
      obtain ⟨v2, W2, hrun, ho2, hg2⟩ := run_app (V.alloc (.cells #[.int .u8 (f : Int)] 5)) w.heap.size v pre.length (bv pre) (own_under (own_under HI.out.own hb) hb1) (V.heap.size + 1) (some ⟨V.heap.size, 0, none⟩) 1 1 [f] (rd_lit V [.int .u8 (f : Int)] _ 1 rfl) (by omega) (Nat.le_trans hbs (Nat.le_trans hb.size hb1.size))
      have hown1 := own_under (own_under HI.out.own hb) hb1
      have hb2 : Below w.heap.size (V.alloc (.cells #[.int .u8 (f : Int)] 5)) W2 := below_row hown1 hg2 (Nat.le_trans hbs (Nat.le_trans hb.size hb1.size))
      have HInv : Hid (PtInv k w.heap.size w.heap.size v2 (pre ++ [f]) (nxA f) w W2) := Lib.hid ⟨hp, by have := nxA_lt f; omega, ((HI.out.map.under hb).under hb1).grown hown1 hg2, by rw [bv_append, List.length_append]; exact ho2, (HI.out.below.trans (hb.mono hbs)).trans ((hb1.mono (Nat.le_trans hbs hb.size)).trans hb2)⟩
      have hw2 : Whole W2 w'.heap.size 47 #[.int .u8 (nxA f : Int), .int .u8 (nxB f : Int)] := (hw.under hb1).grown hg2 (Ne.symm (own_apart_of (by decide) hown1 (hw.under hb1)))
      have c0 := hw2.cell 0
      simp only [List.getElem?_toArray, List.getElem?_cons_zero] at c0
      have HRun := Lib.hid hrun
      have HP := Lib.hid (pathP_yes HF.out)
      clear hV hb hw hp hlen hb1 hbs hrun ho2 hg2 hown1 hb2 hw2 hl
      go_wp2_with (at_builtin; refine wpList_app (by rfl) _ _ 35 rfl _ _ _ W2 (by rfl) (by rfl) HRun.out ?_)
      go_step3
      refine ⟨rfl, ⟨nxA f, v2, pre ++ [f], _, _, _, _, _, _, _, _, _, _, _, _, _, _, _, _, _, rfl, HInv.out⟩, ?_⟩
      simp [intOf, HP.out]
    | false =>
      rw [hf] at hl
      have hp : pathP k = pre := by rw [HI.out.path, pathP_no hf, List.append_nil]
      obtain ⟨A, c, hv⟩ := own_form HI.out.own
      have hb : Below w'.heap.size w' (w'.alloc (.cells #[.int .u8 (nxA f : Int), .int .u8 (nxB f : Int)] 47)) := (Below.refl _ _).alloc (Nat.le_refl _) _
      have HQ : Hid (PathPost k w (.returned v) (w'.alloc (.cells #[.int .u8 (nxA f : Int), .int .u8 (nxB f : Int)] 47))) := Lib.hid ⟨A, c, by rw [hp, hv], by rw [hp]; exact Rd.of_own (by have := own_under HI.out.own hb; rw [hv] at this; exact this), HI.out.below.trans (hb.mono HI.out.below.size)⟩
      clear hf hp hv hb
      go_wp2_with fail
      simp only [Exit.jump]
      exact bodyPost_ret (v := v) (by simp [results, Tryd.results13, go_sem]) rfl HQ.out

end Go.Proofs.YtgjipbhhdiacmaaDoor
