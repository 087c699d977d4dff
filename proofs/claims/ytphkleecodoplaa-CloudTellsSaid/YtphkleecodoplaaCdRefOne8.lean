/-
  The document's own 'one' (layer 8), all its cases. Conditions: those that each theorem names.
-/
import Derived.Test.YtphkleecodoplaaCdRefOne1
import Derived.Test.YtphkleecodoplaaCdRefOne2
import Derived.Test.YtphkleecodoplaaCdRefOne3
import Derived.Test.YtphkleecodoplaaCdRefOne4
import Derived.Test.YtphkleecodoplaaCdRefOne5
import Derived.Test.YtphkleecodoplaaCdRefOne6
import Derived.Test.YtphkleecodoplaaCdRefOne7
namespace Go.Proofs.Ytphkleecodoplaa
open Go.RowKit Go.Shelf

section
variable {x : Cw} {q : Ak} {A : Option Addr} {n c base : Nat} {w : World}

/-- A box of that id that is not found is gone. -/
theorem any_gone (hR : right x = true) (hf : find x.l q.a = none) : (x.l.any fun y => y.id == q.a) = goneP x.l q.a := by
  cases h : x.l.any fun y => y.id == q.a with
  | true =>
    rw [List.any_eq_true] at h
    obtain ⟨y, hy, hi⟩ := h
    obtain ⟨k, hk⟩ := List.getElem?_of_mem hy
    have hid := right_id hR hk
    have hlt : k < x.l.length := (List.getElem?_eq_some_iff.1 hk).1
    have hi' : y.id = q.a := by simpa using hi
    have hg := firstAt_none.1 hf y hy
    have hgone : y.gone = true := by simpa [findB, hi'] using hg
    unfold goneP
    rw [decide_eq_true (by omega), decide_eq_true (by omega), show (q.a - 1).toNat = k by omega, hk]
    simp [hgone]
  | false =>
    cases h2 : goneP x.l q.a with
    | false => rfl
    | true =>
      exfalso
      unfold goneP at h2
      simp only [Bool.and_eq_true, decide_eq_true_eq] at h2
      obtain ⟨h3, h4, h5⟩ := h2
      obtain ⟨y, hy⟩ : ∃ y, x.l[(q.a - 1).toNat]? = some y := ⟨_, List.getElem?_eq_getElem (by omega)⟩
      have hid := right_id hR hy
      rw [List.any_eq_false] at h
      have := h y (List.mem_of_getElem? hy)
      have h6 : y.id = q.a := by omega
      simp [h6] at this

theorem rone_any (ho : w.ownsRow base 40 11 (.slice A n c) n (flat x.l)) (hb : base ≤ w.heap.size) (hn : n ≤ 1000) (hR : right x = true) (hk : q.kind = 2 ∨ q.kind = 3 ∨ q.kind = 4 ∨ q.kind = 5 ∨ q.kind = 6) :
    Calls Try.prog 26 #[.agg #[.slice A n c, .int .i64 x.fl, .int .i64 x.dr, .int .i64 x.nw, .bool x.tg], .agg #[.int .u8 q.kind, .int .i64 q.call, .int .i64 q.a, .int .i64 q.b, .int .i64 q.c, .int .i64 q.d]] w (RO base x (oneP x q).1 (oneP x q).2 w) := by
  have hnum : isNum x.dr = true ∧ isNum x.nw = true := by
    have h := hR
    simp only [right, Bool.and_eq_true] at h
    exact ⟨h.1.2.1.2, h.1.2.2⟩
  cases hf : find x.l q.a with
  | none =>
    by_cases h6 : q.kind = 6
    · cases hg : goneP x.l q.a with
      | true =>
        have e : oneP x q = (x.l, 1) := by unfold oneP; simp only [hf]; rw [any_gone hR hf, hg, if_pos ⟨h6, rfl⟩]
        rw [e, h6]
        exact ro_none6t ho hb hn hf hg
      | false =>
        have e : oneP x q = (x.l, 2) := by unfold oneP; simp only [hf]; rw [any_gone hR hf, hg, if_neg (by simp)]
        rw [e, h6]
        exact ro_none6f ho hb hn hf hg
    · have e : oneP x q = (x.l, 2) := by unfold oneP; simp only [hf]; rw [if_neg (fun h => h6 h.1)]
      rw [e]
      exact ro_none ho hb hn hf h6
  | some j =>
    obtain ⟨y, hy, _, _⟩ := firstAt_some hf
    have e0 : oneP x q = if codeOf x q y = 1 then (x.l.set j (doneB x q y), 1) else (x.l, codeOf x q y) := by unfold oneP; simp only [hf, hy]; rfl
    by_cases hs : q.call < y.fen
    · have h5 : codeOf x q y = 5 := by unfold codeOf; rw [if_pos hs]
      have e : oneP x q = (x.l, 5) := by rw [e0, h5]; rfl
      rw [e]
      exact ro_stale ho hb hn hf hy hs
    · by_cases hT : q.kind = 3 ∨ q.kind = 5 ∨ q.kind = 6
      · cases hcy : cnt y with
        | true =>
          by_cases hfb : (hN x.l : Int) - 1 < x.fl
          · have h3 : codeOf x q y = 3 := by unfold codeOf; rw [if_neg hs, if_pos ⟨hT, hcy, hfb⟩]
            have e : oneP x q = (x.l, 3) := by rw [e0, h3]; rfl
            rw [e]
            rcases hT with h | h | h
            · rw [h]; exact ro_stopno ho hb hn hf hy hs hcy hfb
            · rw [h]; exact ro_leaveno ho hb hn hf hy hs hcy hfb
            · rw [h]; exact ro_endno ho hb hn hf hy hs hcy hfb
          · have h1 : codeOf x q y = 1 := by unfold codeOf; rw [if_neg hs, if_neg (fun h => hfb h.2.2), if_neg (by omega)]
            have e : oneP x q = (x.l.set j (doneB x q y), 1) := by rw [e0, if_pos h1]
            rw [e]
            rcases hT with h | h | h
            · rw [h]; exact ro_stopc0 ho hb hn hf hy h hs hcy hfb
            · rw [h]
              by_cases hl : y.lb = 1
              · exact ro_leavec0 ho hb hn hf hy h hs hcy hfb hl hnum.1 hnum.2
              · exact ro_leavec1 ho hb hn hf hy h hs hcy hfb hl
            · rw [h]; exact ro_endc0 ho hb hn hf hy h hs hcy hfb
        | false =>
          have h1 : codeOf x q y = 1 := by unfold codeOf; rw [if_neg hs, if_neg (fun h => by rw [hcy] at h; exact absurd h.2.1 (by simp)), if_neg (by omega)]
          have e : oneP x q = (x.l.set j (doneB x q y), 1) := by rw [e0, if_pos h1]
          rw [e]
          rcases hT with h | h | h
          · rw [h]; exact ro_stopf0 ho hb hn hf hy h hs hcy
          · rw [h]
            by_cases hl : y.lb = 1
            · exact ro_leavef0 ho hb hn hf hy h hs hcy hl hnum.1 hnum.2
            · exact ro_leavef1 ho hb hn hf hy h hs hcy hl
          · rw [h]; exact ro_endf0 ho hb hn hf hy h hs hcy
      · by_cases h2 : q.kind = 2
        · have h1 : codeOf x q y = 1 := by unfold codeOf; rw [if_neg hs, if_neg (fun h => hT h.1), if_neg (by omega)]
          have e : oneP x q = (x.l.set j (doneB x q y), 1) := by rw [e0, if_pos h1]
          rw [e, h2]
          exact ro_start ho hb hn hf hy h2 hs
        · have h4 : q.kind = 4 := by omega
          cases hon : y.on with
          | false =>
            have h1 : codeOf x q y = 2 := by unfold codeOf; rw [if_neg hs, if_neg (fun h => hT h.1), if_pos ⟨h4, hon⟩]
            have e : oneP x q = (x.l, 2) := by rw [e0, h1]; rfl
            rw [e, h4]
            exact ro_joinoff ho hb hn hf hy hs hon
          | true =>
            have h1 : codeOf x q y = 1 := by unfold codeOf; rw [if_neg hs, if_neg (fun h => hT h.1), if_neg (fun h => by rw [hon] at h; exact absurd h.2 (by simp))]
            have e : oneP x q = (x.l.set j (doneB x q y), 1) := by rw [e0, if_pos h1]
            rw [e, h4]
            exact ro_join ho hb hn hf hy h4 hs hon
end

end Go.Proofs.Ytphkleecodoplaa
