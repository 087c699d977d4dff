/-
  The walk of the document's own 'Great' of ways. Conditions: those that each theorem names.
-/
import Derived.Test.YtcbbjloojngoiaaNtSame
import Derived.BigQuiet
namespace Go.Proofs.Ytcbbjloojngoiaa
open Go.RowKit Go.Shelf

theorem great_take {l : List Tl} {j : Nat} {t : Tl} (h : l[j]? = some t) : ((l.take (j + 1)).any fun t => decide (60 < t.seen.length)) = (((l.take j).any fun t => decide (60 < t.seen.length)) || decide (60 < t.seen.length)) := by
  have h1 := List.getElem?_eq_some_iff.1 h
  rw [List.take_succ_eq_append_getElem h1.1, h1.2, List.any_append]
  simp

set_option maxRecDepth 100000 in
set_option maxHeartbeats 2000000 in
theorem great_any (A : Option Addr) (n c : Nat) (A' : Option Addr) (n' c' : Nat) (s : Nt) (es : List TE) (w : World) (hk : s.ks.length = n) (hes : es.map TE.t = s.ts) (hr : RdT w w.heap.size A' n' es) :
    Calls Try.prog 8 #[.agg #[.slice A n c, .slice A' n' c']] w (BoolPost (greatN s) w) := by
  have hl := hr.len
  have hts : s.ts.length = n' := by rw [← hes, List.length_map]; exact hl
  have HR := Lib.hid hr
  have HL := Lib.hid hl
  have HE := Lib.hid hes
  have HK := Lib.hid hk
  have HTS := Lib.hid hts
  have h1 := Whole.new w 25 #[.slice A n c, .slice A' n' c']
  have hb := (Below.refl w.heap.size w).alloc (Nat.le_refl _) (.cells #[.slice A n c, .slice A' n' c'] 25)
  obtain ⟨V, hV⟩ : ∃ V, w.alloc (.cells #[.slice A n c, .slice A' n' c'] 25) = V := ⟨_, rfl⟩
  rw [hV] at h1 hb
  have HV := Lib.hid hV
  have HB := Lib.hid hb
  obtain ⟨c0, c1⟩ := cells2 h1
  clear hr hl hes hk hts h1 hb hV
  go_enter Try.func8, Try.ntmps8
  go_upto_region 1 with fail
  rw [HV.out]
  clear HV
  go_wp2_with fail
  go_loopw [3] (fun i wr => ∃ j : Nat, i = .int .i64 (j : Int) ∧ j ≤ n' ∧ j ≤ 71 ∧ ((s.ts.take j).any fun t => decide (60 < t.seen.length)) = false ∧ wr = V) (fun i _ => 71 - (intOf i).toNat)
  case atStart => exact ⟨0, rfl, Nat.zero_le _, Nat.zero_le _, by simp, rfl⟩
  case round =>
    obtain ⟨j, rfl, hj, hj2, hT, rfl⟩ := hrel
    have HT := Lib.hid hT
    clear hT
    by_cases hlt : j < n'
    · have hI : (j : Int) < (n' : Int) := by omega
      by_cases h70 : j < 71
      · have d70 : decide ((j : Int) ≤ 70) = true := by simp; omega
        obtain ⟨b, off, rfl, hbl, hc⟩ := HR.out.1.2 (by omega)
        obtain ⟨x, hx⟩ : ∃ x, es[j]? = some x := ⟨_, List.getElem?_eq_getElem (by rw [HL.out]; exact hlt)⟩
        have c4 := (tlAt_of (w := wr) (b := b) (o := off + j * 6) (x := x) (fun i hi => (HB.out.cell (p := ⟨b, off + j * 6 + i, none⟩) hbl).trans (hc j x hx i hi))).c4
        have hxt : s.ts[j]? = some x.t := by rw [← HE.out, List.getElem?_map, hx]; rfl
        have hxl := (HR.out.2 x (List.mem_of_getElem? hx)).len
        have hg := great_take hxt
        rw [HT.out, Bool.false_or, show x.t.seen.length = x.n from hxl] at hg
        have HG := Lib.hid hg
        clear hc hx hxt hxl hg
        by_cases h60 : 60 < x.n
        · have d60 : decide ((60 : Int) < (x.n : Int)) = true := by simp; omega
          have HGT := Lib.hid (show greatN s = true by
            have h1 : ((s.ts.take 71).any fun t => decide (60 < t.seen.length)) = true := by
              have h2 := HG.out
              rw [decide_eq_true h60] at h2
              rw [List.any_eq_true] at h2 ⊢
              obtain ⟨t, ht, h3⟩ := h2
              exact ⟨t, (List.take_sublist_take_left (by omega : j + 1 ≤ 71)).subset ht, h3⟩
            rw [greatN, h1, Bool.true_or])
          clear h60
          go_wp2_with fail
          go_ret
          exact ⟨by rw [HGT.out]; rfl, HB.out⟩
        · have d60 : decide ((60 : Int) < (x.n : Int)) = false := by simp; omega
          have HN := Lib.hid (show ((s.ts.take (j + 1)).any fun t => decide (60 < t.seen.length)) = false by rw [HG.out, decide_eq_false h60])
          clear h60
          go_wp2_with fail
          go_roundw
          case rel => exact ⟨j + 1, by simp, by omega, by omega, HN.out, trivial⟩
          case measure => simp [intOf]; omega
      · have d70 : decide ((j : Int) ≤ 70) = false := by simp; omega
        have hA : ((s.ts.take 71).any fun t => decide (60 < t.seen.length)) = false := by
          have : j = 71 := by omega
          rw [← this]; exact HT.out
        clear h70
        have HG := Lib.hid (show greatN s = (decide (70 < s.ks.length) || decide (70 < s.ts.length)) by rw [greatN, hA, Bool.false_or])
        rw [HK.out, HTS.out] at HG
        clear hA
        by_cases h7 : 70 < n
        · have d7 : decide ((70 : Int) < (n : Int)) = true := by simp; omega
          have HE7 := Lib.hid (show greatN s = true by rw [HG.out, decide_eq_true h7, Bool.true_or])
          clear h7
          go_wp2_with fail
          go_ret
          exact ⟨by rw [HE7.out]; rfl, HB.out⟩
        · have d7 : decide ((70 : Int) < (n : Int)) = false := by simp; omega
          by_cases h8 : 70 < n'
          · have d8 : decide ((70 : Int) < (n' : Int)) = true := by simp; omega
            have HE7 := Lib.hid (show greatN s = true by rw [HG.out, decide_eq_true h8, Bool.or_true])
            clear h7 h8
            go_wp2_with fail
            go_ret
            exact ⟨by rw [HE7.out]; rfl, HB.out⟩
          · have d8 : decide ((70 : Int) < (n' : Int)) = false := by simp; omega
            have HE7 := Lib.hid (show greatN s = false by rw [HG.out, decide_eq_false h7, decide_eq_false h8]; rfl)
            clear h7 h8
            go_wp2_with fail
            go_ret
            exact ⟨by rw [HE7.out]; rfl, HB.out⟩
    · have hI : decide ((j : Int) < (n' : Int)) = false := by simp; omega
      have hA : ((s.ts.take 71).any fun t => decide (60 < t.seen.length)) = false := by
        have h1 := HT.out
        rw [List.take_of_length_le (by have := HTS.out; omega)] at h1
        rw [List.take_of_length_le (by have := HTS.out; omega)]
        exact h1
      have HG := Lib.hid (show greatN s = (decide (70 < s.ks.length) || decide (70 < s.ts.length)) by rw [greatN, hA, Bool.false_or])
      rw [HK.out, HTS.out] at HG
      clear hA
      by_cases h7 : 70 < n
      · have d7 : decide ((70 : Int) < (n : Int)) = true := by simp; omega
        have HE7 := Lib.hid (show greatN s = true by rw [HG.out, decide_eq_true h7, Bool.true_or])
        clear h7
        go_wp2_with fail
        go_ret
        exact ⟨by rw [HE7.out]; rfl, HB.out⟩
      · have d7 : decide ((70 : Int) < (n : Int)) = false := by simp; omega
        by_cases h8 : 70 < n'
        · have d8 : decide ((70 : Int) < (n' : Int)) = true := by simp; omega
          have HE7 := Lib.hid (show greatN s = true by rw [HG.out, decide_eq_true h8, Bool.or_true])
          clear h7 h8
          go_wp2_with fail
          go_ret
          exact ⟨by rw [HE7.out]; rfl, HB.out⟩
        · have d8 : decide ((70 : Int) < (n' : Int)) = false := by simp; omega
          have HE7 := Lib.hid (show greatN s = false by rw [HG.out, decide_eq_false h7, decide_eq_false h8]; rfl)
          clear h7 h8
          go_wp2_with fail
          go_ret
          exact ⟨by rw [HE7.out]; rfl, HB.out⟩

end Go.Proofs.Ytcbbjloojngoiaa
