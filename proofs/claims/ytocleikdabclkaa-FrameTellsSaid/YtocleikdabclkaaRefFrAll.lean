/-
  The walk of the document's own 'All' of frames. Conditions: those that each theorem names.
-/
import Derived.Test.YtocleikdabclkaaRefFrTake
import Derived.Test.YtocleikdabclkaaFrAll
namespace Go.Proofs.Ytocleikdabclkaa
open Go.RowKit Go.Shelf

theorem refFrTake_yes {A : Option Addr} {n c : Nat} {bs p r : List Nat} {B : Nat} {w : World} (hp : IsFr bs p) (hrest : bs.drop (frLen p.length) = r) (hr : Rd w B A n (bv bs)) (hB : B ≤ w.heap.size) (hb : ∀ x ∈ bs, x < 256) (hn : n ≤ 1000000) (hc : n ≤ c) :
    Calls Try.prog 12 #[.slice A n c] w (TakeYes p r w) := by
  refine (refFrTake_any A n c bs B w hr hB hb hn hc).mono ?_
  rintro e w' (⟨q, hq, h⟩ | ⟨h, _⟩)
  · obtain rfl := isFr_one hp hq
    rw [hrest] at h; exact h
  · exact absurd hp (h p)
theorem refFrTake_no {A : Option Addr} {n c : Nat} {bs : List Nat} {B : Nat} {w : World} (hp : ∀ p, ¬ IsFr bs p) (hr : Rd w B A n (bv bs)) (hB : B ≤ w.heap.size) (hb : ∀ x ∈ bs, x < 256) (hn : n ≤ 1000000) (hc : n ≤ c) :
    Calls Try.prog 12 #[.slice A n c] w (TakeNo w) := by
  refine (refFrTake_any A n c bs B w hr hB hb hn hc).mono ?_
  rintro e w' (⟨q, hq, _⟩ | ⟨_, h⟩)
  · exact absurd hq (hp q)
  · exact h

set_option maxRecDepth 100000 in
set_option maxHeartbeats 1000000 in
theorem refFrAll_any (A : Option Addr) (n c : Nat) (bs : List Nat) (L : List (List Nat)) (used : Nat) (B : Nat) (w : World) (hall : AllIs bs L used) (hr : Rd w B A n (bv bs)) (hB : B ≤ w.heap.size) (hb : ∀ x ∈ bs, x < 256) (hn : n ≤ 1000000) (hc : n ≤ c) :
    Calls Try.prog 14 #[.slice A n c] w (AllPost L used w) := by
  have hl : bs.length = n := by have := hr.1; rwa [bv_length] at this
  have hL : L.length ≤ 200000 := by
    have h1 := usedOf_ge L
    have h2 := hall.1
    have h4 := congrArg List.length h2
    rw [List.length_append] at h4
    unfold usedOf at h1
    omega
  have HAll := Lib.hid hall
  have HR := Lib.hid (hr.more hB)
  have HBy := Lib.hid hb
  have HL := Lib.hid hl
  clear hall hr hB hb hl
  go_enter Try.func14, Try.ntmps14
  go_wp2_with fail
  go_loopw [4, 5] (fun v i wr => ∃ (pre rest : List (List Nat)) (k : Nat), pre ++ rest = L ∧ i = .int .i64 (k : Int) ∧ k = usedOf pre ∧ k ≤ n ∧ RowsAt w.heap.size wr v pre ∧ Below w.heap.size w wr) (fun _ i _ => n - (intOf i).toNat)
  case atStart => exact ⟨[], L, 0, rfl, rfl, rfl, Nat.zero_le _, RowsAt.nil_ _ _, Below.refl _ _⟩
  case round =>
    obtain ⟨pre, rest, k, hpr, rfl, hku, hk, hrows, hbel⟩ := hrel
    obtain ⟨A', hA1, hA2⟩ := run_rest A n c k hk
    have hrd : Rd wr w.heap.size A' (n - k) (bv (bs.drop k)) := by
      have h2 := (HR.out.below hbel).cut hk A' (fun h => hA2 ⟨h, hc⟩)
      rwa [bv, ← List.map_drop] at h2
    have hbb : ∀ x ∈ bs.drop k, x < 256 := fun x hx => HBy.out x (List.mem_of_mem_drop hx)
    have hpl : pre.length ≤ 200000 := by rw [← hpr, List.length_append] at hL; omega
    have HBel := Lib.hid hbel
    have HRows := Lib.hid hrows
    obtain ⟨Av, cv, rfl⟩ := hrows.form
    cases rest with
    | nil =>
      rw [List.append_nil] at hpr
      subst hpr
      have hu : k = used := by rw [hku]; exact HAll.out.2.1.symm
      subst hu
      have HT := Lib.hid (refFrTake_no HAll.out.2.2.2 hrd hbel.size hbb (by omega) (by omega : n - k ≤ c - k))
      clear hrd hbb hA2 hbel hrows hku
      go_wp2_with fail
      refine (HT.out).mono ?_
      rintro e w1 ⟨rfl, d1⟩
      go_wp2_with fail
      go_ret2
      exact ⟨Av, cv, rfl, HRows.out.under d1, HBel.out.trans (d1.mono HBel.out.size)⟩
    | cons p rest =>
      have hp : IsFr (bs.drop k) p := by
        have h1 := HAll.out
        rw [← hpr] at h1
        have h2 := h1.next
        rw [hku]; exact h2
      have hple := hp.le
      rw [List.length_drop, HL.out] at hple
      obtain ⟨F, hF⟩ : ∃ F, frLen p.length = F := ⟨_, rfl⟩
      have hF5 : 5 ≤ F := by rw [← hF]; exact frLen_pos _
      obtain ⟨r, hrr⟩ : ∃ r, (bs.drop k).drop (frLen p.length) = r := ⟨_, rfl⟩
      have hrl : r.length = n - k - F := by rw [← hrr, List.length_drop, List.length_drop, HL.out, hF]
      have hT := refFrTake_yes hp hrr hrd hbel.size hbb (by omega) (by omega : n - k ≤ c - k)
      unfold TakeYes at hT
      obtain ⟨M, hM⟩ : ∃ M, r.length = M := ⟨_, rfl⟩
      rw [hM] at hT hrl
      rw [hF] at hple
      have hat : (n : Int) - (M : Int) = ((k + F : Nat) : Int) := by omega
      have hMn : (M : Int) ≤ (n : Int) := by omega
      have HT := Lib.hid hT
      have HP := Lib.hid hpr
      have HKU := Lib.hid hku
      have HF := Lib.hid hF
      clear hrd hbb hA2 hbel hrows hku hpr hT hp hrr hM hF hrl
      go_wp2_with fail
      refine (HT.out).mono ?_
      rintro e w1 ⟨A1, c1, A2, c2, rfl, o1, _, d1⟩
      have hb1 := HBel.out.trans (d1.mono HBel.out.size)
      have HB1 := Lib.hid hb1
      have hbl := hb1.alloc hb1.size (.cells #[.slice A1 p.length c1] 22)
      obtain ⟨A3, c3, w3, hrun, hR3, hg3, _⟩ := rows_app (w1.alloc (.cells #[.slice A1 p.length c1] 22)) w.heap.size _ pre (HRows.out.under (d1.alloc d1.size _)) w1.heap.size A1 p.length c1 p (cell_new w1 _ _ 0) (own_weaker (o1.alloc _) HBel.out.size) (by omega) hbl.size
      have hb3 : Below w.heap.size w w3 := by
        obtain ⟨es, h1, _⟩ := HRows.out.under (d1.alloc d1.size (.cells #[.slice A1 p.length c1] 22))
        exact hbl.trans (below_row h1 hg3 hbl.size)
      have HRun := Lib.hid hrun
      have HR3 := Lib.hid hR3
      have HB3 := Lib.hid hb3
      clear hrun hR3 hg3 hb3 hbl hb1 o1 d1 HT
      go_wp2_with (first | (at_builtin; refine wpList_app (by rfl) _ _ _ rfl _ _ _ _ rfl rfl HRun.out ?_; clear HRun))
      go_roundw
      case rel =>
        refine ⟨pre ++ [p], rest, k + F, by rw [← HP.out]; simp, by go_num, ?_, by omega, ?_, HB3.out⟩
        · rw [usedOf_snoc, HF.out, HKU.out]
        · have h := HR3.out
          rwa [show pre.length + 1 = (pre ++ [p]).length by simp] at h
      case measure => simp [intOf]; omega

end Go.Proofs.Ytocleikdabclkaa
