/-
  The walks of 'Same' of package cloud, and of the document's own Same, SameTell and Own. Conditions: those that each theorem names.
-/
import Derived.Test.YtoiegffnmjlkdaaCdEq
namespace Go.Proofs.Ytoiegffnmjlkdaa
open Go.RowKit Go.Shelf

def sameCw (x y : Cw) : Bool := decide (x.fl = y.fl) && (decide (x.dr = y.dr) && (decide (x.nw = y.nw) && ((x.tg == y.tg) && decide (x.l = y.l))))

set_option maxRecDepth 100000 in
set_option maxHeartbeats 2000000 in
theorem refSame_any (A A' : Option Addr) (n c n' c' : Nat) (x y : Cw) (B B' : Nat) (w : World) (hr : RdX w B A n x.l) (hr' : RdX w B' A' n' y.l) (hB : B ≤ w.heap.size) (hB' : B' ≤ w.heap.size) (hn : n ≤ 1000) :
    Calls Try.prog 9 #[.agg #[.slice A n c, .int .i64 x.fl, .int .i64 x.dr, .int .i64 x.nw, .bool x.tg], .agg #[.slice A' n' c', .int .i64 y.fl, .int .i64 y.dr, .int .i64 y.nw, .bool y.tg]] w (BoolPost (sameCw x y) w) := by
  have hb : Below w.heap.size w ((w.alloc (.cells #[.slice A n c, .int .i64 x.fl, .int .i64 x.dr, .int .i64 x.nw, .bool x.tg] 24)).alloc (.cells #[.slice A' n' c', .int .i64 y.fl, .int .i64 y.dr, .int .i64 y.nw, .bool y.tg] 24)) := ((Below.refl _ w).alloc (Nat.le_refl _) _).alloc (by simp) _
  have HB := Lib.hid hb
  by_cases h0 : x.fl = y.fl
  rotate_left
  ·
    have q0 : (x.fl == y.fl) = false := by rw [beq_eq_false_iff_ne]; exact h0
    have p0 : (x.fl != y.fl) = true := by simp [bne, q0]
    have HF := Lib.hid (show sameCw x y = false by simp [sameCw, h0])
    rw [HF.out]
    clear hr hr' hb HF h0
    go_enter Try.func9, Try.ntmps9
    go_wp2_with fail
    go_ret
    exact ⟨rfl, HB.out⟩
  have q0 : (x.fl == y.fl) = true := by rw [beq_iff_eq]; exact h0
  have K0 := Lib.hid h0
  clear h0
  have p0 : (x.fl != y.fl) = false := by simp [bne, q0]
  by_cases h1 : x.dr = y.dr
  rotate_left
  ·
    have q1 : (x.dr == y.dr) = false := by rw [beq_eq_false_iff_ne]; exact h1
    have p1 : (x.dr != y.dr) = true := by simp [bne, q1]
    have HF := Lib.hid (show sameCw x y = false by simp [sameCw, h1])
    rw [HF.out]
    clear hr hr' hb HF h1
    go_enter Try.func9, Try.ntmps9
    go_wp2_with fail
    go_ret
    exact ⟨rfl, HB.out⟩
  have q1 : (x.dr == y.dr) = true := by rw [beq_iff_eq]; exact h1
  have K1 := Lib.hid h1
  clear h1
  have p1 : (x.dr != y.dr) = false := by simp [bne, q1]
  by_cases h2 : x.nw = y.nw
  rotate_left
  ·
    have q2 : (x.nw == y.nw) = false := by rw [beq_eq_false_iff_ne]; exact h2
    have p2 : (x.nw != y.nw) = true := by simp [bne, q2]
    have HF := Lib.hid (show sameCw x y = false by simp [sameCw, h2])
    rw [HF.out]
    clear hr hr' hb HF h2
    go_enter Try.func9, Try.ntmps9
    go_wp2_with fail
    go_ret
    exact ⟨rfl, HB.out⟩
  have q2 : (x.nw == y.nw) = true := by rw [beq_iff_eq]; exact h2
  have K2 := Lib.hid h2
  clear h2
  have p2 : (x.nw != y.nw) = false := by simp [bne, q2]
  by_cases h3 : x.tg = y.tg
  rotate_left
  ·
    have q3 : (x.tg == y.tg) = false := by rw [beq_eq_false_iff_ne]; exact h3
    have p3 : (x.tg != y.tg) = true := by simp [bne, q3]
    have HF := Lib.hid (show sameCw x y = false by simp [sameCw, h3])
    rw [HF.out]
    clear hr hr' hb HF h3
    go_enter Try.func9, Try.ntmps9
    go_wp2_with fail
    go_ret
    exact ⟨rfl, HB.out⟩
  have q3 : (x.tg == y.tg) = true := by rw [beq_iff_eq]; exact h3
  have K3 := Lib.hid h3
  clear h3
  have p3 : (x.tg != y.tg) = false := by simp [bne, q3]
  have HF := Lib.hid (show sameCw x y = decide (x.l = y.l) by simp only [sameCw, K0.out, K1.out, K2.out, K3.out, decide_true, beq_self_eq_true, Bool.true_and])
  rw [HF.out]
  clear K0 K1 K2 K3 HF
  have hl := hr.len
  have hl' := hr'.len
  by_cases hne : n = n'
  rotate_left
  · have HF := Lib.hid (show decide (x.l = y.l) = false by rw [decide_eq_false_iff_not]; intro e; rw [e] at hl; omega)
    rw [HF.out]
    have q4 : ((n : Int) == (n' : Int)) = false := by rw [beq_eq_false_iff_ne]; omega
    have p4 : ((n : Int) != (n' : Int)) = true := by simp [bne, q4]
    clear hr hr' hb hl hl' hne HF
    go_enter Try.func9, Try.ntmps9
    go_wp2_with fail
    go_ret
    exact ⟨rfl, HB.out⟩
  subst hne
  have HX := Lib.hid (hr.below (hb.mono hB))
  have HY := Lib.hid (hr'.below (hb.mono hB'))
  have hcx : ((w.alloc (.cells #[.slice A n c, .int .i64 x.fl, .int .i64 x.dr, .int .i64 x.nw, .bool x.tg] 24)).alloc (.cells #[.slice A' n c', .int .i64 y.fl, .int .i64 y.dr, .int .i64 y.nw, .bool y.tg] 24)).cell? ⟨w.heap.size, 0, none⟩ = some (.slice A n c) := ((Whole.new w _ _).alloc _).cell 0
  have hcy : ((w.alloc (.cells #[.slice A n c, .int .i64 x.fl, .int .i64 x.dr, .int .i64 x.nw, .bool x.tg] 24)).alloc (.cells #[.slice A' n c', .int .i64 y.fl, .int .i64 y.dr, .int .i64 y.nw, .bool y.tg] 24)).cell? ⟨w.heap.size + 1, 0, none⟩ = some (.slice A' n c') := by
    have := (Whole.new (w.alloc (.cells #[.slice A n c, .int .i64 x.fl, .int .i64 x.dr, .int .i64 x.nw, .bool x.tg] 24)) 24 #[.slice A' n c', .int .i64 y.fl, .int .i64 y.dr, .int .i64 y.nw, .bool y.tg]).cell 0
    rwa [World.size_alloc] at this
  obtain ⟨V, hV⟩ : ∃ V, ((w.alloc (.cells #[.slice A n c, .int .i64 x.fl, .int .i64 x.dr, .int .i64 x.nw, .bool x.tg] 24)).alloc (.cells #[.slice A' n c', .int .i64 y.fl, .int .i64 y.dr, .int .i64 y.nw, .bool y.tg] 24)) = V := ⟨_, rfl⟩
  have HVe := Lib.hid hV
  clear hV
  have HLx := Lib.hid hl
  have HLy := Lib.hid hl'
  clear hr hr' hb hl hl'
  go_enter Try.func9, Try.ntmps9
  go_wp2_with fail
  rw [HVe.out]
  rw [HVe.out] at HX HY hcx hcy HB
  clear HVe q0 q1 q2 q3 p0 p1 p2 p3
  go_loopw [5] (fun i wr => ∃ j : Nat, i = .int .i64 (j : Int) ∧ j ≤ n ∧ x.l.take j = y.l.take j ∧ ∃ k, wr = V.drewN k) (fun i _ => n - (intOf i).toNat)
  case atStart => exact ⟨0, rfl, Nat.zero_le _, rfl, 0, rfl⟩
  case round =>
    obtain ⟨j, rfl, hj, hT, k, rfl⟩ := hrel
    have HT := Lib.hid hT
    clear hT
    by_cases hlt : j < n
    · obtain ⟨b, off, rfl, _, hc⟩ := HX.out.2 (by omega)
      obtain ⟨b', off', rfl, _, hc'⟩ := HY.out.2 (by omega)
      obtain ⟨u, hu⟩ : ∃ u, x.l[j]? = some u := ⟨_, List.getElem?_eq_getElem (by rw [HLx.out]; exact hlt)⟩
      obtain ⟨v, hv⟩ : ∃ v, y.l[j]? = some v := ⟨_, List.getElem?_eq_getElem (by rw [HLy.out]; exact hlt)⟩
      obtain ⟨c0, c1, c2, c3, c4, c5, c6, c7, c8, c9, c10⟩ := hc j u hu
      obtain ⟨d0, d1, d2, d3, d4, d5, d6, d7, d8, d9, d10⟩ := hc' j v hv
      have hI : (j : Int) < (n : Int) := by omega
      have HU := Lib.hid hu
      have HV := Lib.hid hv
      clear hc hc' hu hv
      by_cases hxy : u = v
      · subst hxy
        go_wp2_with fail
        go_quiet (fail)
        go_wp2_with fail
        go_roundw
        case rel => exact ⟨j + 1, by go_num, by omega, take_growX HT.out HU.out HV.out, _, rfl⟩
        case measure => simp [intOf]; omega
      · have hq := fun W => (run_neqBx W u v).trans (by rw [decide_eq_false hxy, Bool.not_false])
        have HF := Lib.hid (show decide (x.l = y.l) = false by rw [decide_eq_false_iff_not]; intro e; have h3 := HU.out; rw [e, HV.out] at h3; exact hxy (Option.some.inj h3).symm)
        clear hxy
        go_wp2_with fail
        go_quiet (fail)
        go_wp2_with fail
        go_ret
        exact ⟨by rw [HF.out]; rfl, below_drewN (below_drewN HB.out _) _⟩
    · have HF := Lib.hid (show decide (x.l = y.l) = true by
        rw [decide_eq_true_eq]
        have h1 := HT.out
        rwa [List.take_of_length_le (by have := HLx.out; omega), List.take_of_length_le (by have := HLy.out; omega)] at h1)
      go_wp2_with fail
      go_ret
      exact ⟨by rw [HF.out]; rfl, below_drewN HB.out _⟩

def sameTl (c k d i c' k' d' i' : Int) : Bool := decide (c = c') && (decide (k = k') && (decide (d = d') && decide (i = i')))
end Go.Proofs.Ytoiegffnmjlkdaa
