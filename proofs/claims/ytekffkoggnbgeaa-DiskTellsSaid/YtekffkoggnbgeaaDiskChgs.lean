/-
  The changes of package disk: 'secure', 'wipe', 'lose', as what 'changed' may be handed. Conditions: those that each theorem names.
-/
import Derived.Test.YtekffkoggnbgeaaDiskChanged
import Derived.IntWalk
import Derived.RegionTactic
namespace Go.Proofs.Ytekffkoggnbgeaa
open Go.RowKit Go.Shelf

/-- What is safe; what is empty; what is lost. -/
def secureD (D : Dk) : Dk := ⟨D.bs, D.bs.length, D.room⟩
def wipeD (D : Dk) : Dk := ⟨[], 0, D.room⟩
def loseN (keep : Int) (D : Dk) : Nat := D.syn + clampN keep (D.bs.length - D.syn)
def loseD (keep : Int) (D : Dk) : Dk := ⟨D.bs.take (loseN keep D), D.syn, D.room⟩
theorem secure_ok {D : Dk} (h : D.Ok) : (secureD D).Ok := ⟨Nat.le_refl _, h.len, h.room, h.byte⟩
theorem wipe_ok {D : Dk} (h : D.Ok) : (wipeD D).Ok := ⟨Nat.le_refl _, Nat.zero_le _, h.room, by simp [wipeD]⟩
theorem loseN_le {D : Dk} (h : D.Ok) (keep : Int) : loseN keep D ≤ D.bs.length := by have h1 := clampN_le keep (D.bs.length - D.syn); have h2 := h.syn; unfold loseN; omega
theorem loseD_len {D : Dk} (h : D.Ok) (keep : Int) : (loseD keep D).bs.length = loseN keep D := by have := loseN_le h keep; simp only [loseD, List.length_take]; omega
theorem lose_ok {D : Dk} (h : D.Ok) (keep : Int) : (loseD keep D).Ok := by
  have h1 := loseD_len h keep
  have h2 := loseN_le h keep
  exact ⟨by rw [h1]; exact Nat.le_add_right _ _, by rw [h1]; have := h.len; simp only [loseD]; omega, h.room, fun x hx => h.byte x (List.mem_of_mem_take hx)⟩

theorem own_head {w : World} {base : Nat} {A : Option Addr} {n c k : Nat} {bs : List Nat} (h : w.ownsRow base 5 1 (.slice A n c) n (bv bs)) (hk : k ≤ n) : w.ownsRow base 5 1 (.slice A k c) k (bv (bs.take k)) := by
  obtain ⟨h1, h2⟩ := h
  rw [bv_length, Nat.mul_one] at h1
  refine ⟨by rw [bv_length, List.length_take]; omega, ?_⟩
  rcases h2 with ⟨e, h0⟩ | ⟨g, cap, cur, e, hg, hh, hn, hm, hs, hx⟩
  · obtain rfl : k = 0 := by omega
    subst h0
    exact .inl ⟨e, rfl⟩
  · injection e with eA _ ec
    subst eA; subst ec
    refine .inr ⟨g, c, cur, rfl, hg, hh, by omega, hm, hs, ?_⟩
    rw [Nat.mul_one] at hx ⊢
    have h3 : (cur.toList.take n).take k = cur.toList.take k := by rw [List.take_take]; congr 1; omega
    rw [← h3, hx, bv, bv, List.map_take]

set_option maxHeartbeats 400000 in
theorem secure_chg (base : Nat) (w0 : World) : ChgOk base w0 ⟨30, #[], fun D => some (secureD D)⟩ := by
  refine ⟨enters_of Try.func30 (by kernel_rfl) rfl, ?_⟩
  rintro W Bo D hb hbo ⟨A, c, hw, ho, hok⟩
  have x0 := hw.cell 0
  have x1 := hw.cell 1
  have f1 := hw.frozen 1
  simp only [List.getElem?_toArray, List.getElem?_cons_zero, List.getElem?_cons_succ] at x0 x1
  have HW := Lib.hid hw
  have HO := Lib.hid ho
  have HK := Lib.hid hok
  clear hw ho hok hb
  show Calls Try.prog 30 #[.pointer (some ⟨Bo, 0, none⟩)] W _
  go_enter Try.func30, Try.ntmps30
  go_wp2_with fail
  go_ret
  refine ⟨(Below.refl _ _).setCell (p := ⟨Bo, 1, none⟩) hbo _, rfl, A, c, ?_, ?_, secure_ok HK.out⟩
  · have := HW.out.set 1 (.int .i64 D.bs.length)
    simpa [secureD] using this
  · exact ownsRow_setCell_other (a := ⟨Bo, 1, none⟩) HO.out (own_apart_of (by decide) HO.out HW.out) _

set_option maxHeartbeats 400000 in
theorem wipe_chg (base : Nat) (w0 : World) : ChgOk base w0 ⟨29, #[], fun D => some (wipeD D)⟩ := by
  refine ⟨enters_of Try.func29 (by kernel_rfl) rfl, ?_⟩
  rintro W Bo D hb hbo ⟨A, c, hw, ho, hok⟩
  have x0 := hw.cell 0
  have x1 := hw.cell 1
  have f0 := hw.frozen 0
  have f1 := hw.frozen 1
  simp only [List.getElem?_toArray, List.getElem?_cons_zero, List.getElem?_cons_succ] at x0 x1
  have HW := Lib.hid hw
  have HO := Lib.hid ho
  have HK := Lib.hid hok
  clear hw ho hok hb
  show Calls Try.prog 29 #[.pointer (some ⟨Bo, 0, none⟩)] W _
  go_enter Try.func29, Try.ntmps29
  go_wp2_with fail
  go_ret
  refine ⟨((Below.refl _ _).setCell (p := ⟨Bo, 0, none⟩) hbo _).setCell (p := ⟨Bo, 1, none⟩) hbo _, rfl, none, 0, ?_, World.ownsRow_nil _ _ _ _, wipe_ok HK.out⟩
  have := (HW.out.set 0 (.slice none 0 0)).set 1 (.int .i64 0)
  simpa [wipeD] using this

theorem lose_any (keep : Int) (w : World) :
    Calls Try.prog 32 #[.int .i64 keep] w fun e w' => e = .returned (.func (.func 37) #[] #[.pointer (some ⟨w.heap.size, 0, none⟩)]) ∧ w' = w.alloc (.cells #[.int .i64 keep] 3) := by
  go_enter Try.func32, Try.ntmps32
  go_wp2
  go_ret
  exact ⟨rfl, rfl⟩

set_option maxRecDepth 100000 in
set_option maxHeartbeats 1000000 in
theorem lose_chg (base : Nat) (w0 : World) (Bn : Nat) (keep : Int) (hBn : Bn < base) (hc : w0.cell? ⟨Bn, 0, none⟩ = some (.int .i64 keep)) : ChgOk base w0 ⟨37, #[.pointer (some ⟨Bn, 0, none⟩)], fun D => some (loseD keep D)⟩ := by
  refine ⟨enters_of Try.func37 (by kernel_rfl) rfl, ?_⟩
  rintro W Bo D hb hbo ⟨A, c, hw, ho, hok⟩
  have hkc := (hb.cell (p := ⟨Bn, 0, none⟩) hBn).trans hc
  have x0 := hw.cell 0
  have x1 := hw.cell 1
  have f0 := hw.frozen 0
  simp only [List.getElem?_toArray, List.getElem?_cons_zero, List.getElem?_cons_succ] at x0 x1
  have hs := hok.syn
  have hl := hok.len
  have hrm := hok.room
  have hlN := loseN_le hok keep
  have hcap := own_cap ho
  obtain ⟨m, hm⟩ : ∃ m, D.bs.length - D.syn = m := ⟨_, rfl⟩
  obtain ⟨q, hq⟩ : ∃ q, clampN keep m = q := ⟨_, rfl⟩
  obtain ⟨z, hz⟩ : ∃ z, D.syn + q = z := ⟨_, rfl⟩
  have hN : loseN keep D = z := by unfold loseN; rw [hm, hq, hz]
  have HW1 : Hid (∀ w, Calls Try.prog 36 #[.int .i64 keep, .int .i64 (m : Int)] w fun e w' => e = .returned (.int .i64 (q : Int)) ∧ w' = w) := fun w => by
    rw [← hq]
    exact (within_any keep m w).mono fun _ _ ⟨h1, h2⟩ => ⟨h1, h2.symm⟩
  have e1 : (D.bs.length : Int) - (D.syn : Int) = (m : Int) := by omega
  have e2 : IntKind.i64.wrap (m : Int) = (m : Int) := IntWalk.i64_in _ ⟨by omega, by omega⟩
  have HN := Lib.hid hN
  have hq2 : z ≤ D.bs.length := by omega
  have HH := Lib.hid (fun W => run_head A D.bs.length c z (by omega) W)
  have HW := Lib.hid hw
  have HO := Lib.hid ho
  have HK := Lib.hid hok
  have HZ := Lib.hid hz
  clear hw ho hok hb hc hq hN hlN hz hm
  show Calls Try.prog 37 #[.pointer (some ⟨Bo, 0, none⟩), .pointer (some ⟨Bn, 0, none⟩)] W _
  go_enter Try.func37, Try.ntmps37
  go_wp2_with fail
  go_quiet ((go_at_call 36; exact Calls.quiet_of_same (HW1.out _)))
  clear e1 e2
  have e4 : (D.syn : Int) + (q : Int) = (z : Int) := by have := HZ.out; omega
  have e3 : IntKind.i64.wrap (z : Int) = (z : Int) := IntWalk.i64_in _ ⟨by omega, by omega⟩
  have h0 := HH.out
  go_wp2_with fail
  go_region
  go_wp2_with fail
  go_ret
  have hlen : (loseD keep D).bs.length = z := (loseD_len HK.out keep).trans HN.out
  have htk : (loseD keep D).bs = D.bs.take z := by simp only [loseD, HN.out]
  have hw' : Whole (W.drewN (nq + 1)) Bo 24 #[.slice A D.bs.length c, .int .i64 D.syn, .int .i64 D.room] := HW.out
  have ho' : (W.drewN (nq + 1)).ownsRow base 5 1 (.slice A D.bs.length c) D.bs.length (bv D.bs) := HO.out
  refine ⟨(below_drewN (Below.refl _ _) _).setCell (p := ⟨Bo, 0, none⟩) hbo _, rfl, A, c, ?_, ?_, lose_ok HK.out keep⟩
  · have := hw'.set 0 (.slice A z c)
    rw [hlen]
    simpa [loseD] using this
  · rw [hlen, htk]
    exact ownsRow_setCell_other (a := ⟨Bo, 0, none⟩) (own_head ho' hq2) (own_apart_of (by decide) (own_head ho' hq2) hw') _

theorem write_any (A : Option Addr) (n c : Nat) (w : World) :
    Calls Try.prog 28 #[.slice A n c] w fun e w' => e = .returned (.func (.func 34) #[] #[.pointer (some ⟨w.heap.size, 0, none⟩)]) ∧ w' = w.alloc (.cells #[.slice A n c] 22) := by
  go_enter Try.func28, Try.ntmps28
  go_wp2
  go_ret
  exact ⟨rfl, rfl⟩

end Go.Proofs.Ytekffkoggnbgeaa
