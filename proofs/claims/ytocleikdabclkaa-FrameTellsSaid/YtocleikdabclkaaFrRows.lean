/-
  The walk of the statements' 'rows' (stage 4). Conditions: those that each theorem names.
-/
import Derived.Test.YtocleikdabclkaaFrSame
import Derived.Test.YtocleikdabclkaaRowsOwn
namespace Go.Proofs.Ytocleikdabclkaa
open Go.RowKit Go.Shelf

def rowsOf (l : List BE) : List (List Nat) := l.map fun x => x.bs
theorem rowsOf_take {l : List BE} {k : Nat} {x : BE} (h : l[k]? = some x) : rowsOf (l.take (k + 1)) = rowsOf (l.take k) ++ [x.bs] := by
  have hk : k < l.length := (List.getElem?_eq_some_iff.1 h).1
  rw [List.getElem?_eq_getElem hk] at h
  rw [List.take_succ_eq_append_getElem hk, rowsOf, List.map_append, Option.some.inj h]
  rfl
theorem rowsOf_at {l l' : List BE} {k : Nat} {x y : BE} (h : l[k]? = some x) (h' : l'[k]? = some y) (he : rowsOf l = rowsOf l') : x.bs = y.bs := by
  have h1 : (rowsOf l)[k]? = some x.bs := by simp [rowsOf, h]
  have h2 : (rowsOf l')[k]? = some y.bs := by simp [rowsOf, h']
  rw [he, h2] at h1
  exact (Option.some.inj h1).symm

set_option maxRecDepth 100000 in
set_option maxHeartbeats 1000000 in
theorem rows_any (A A' : Option Addr) (n c n' c' : Nat) (l l' : List BE) (B : Nat) (w : World) (hr : RdB w B A n l) (hr' : RdB w B A' n' l') (hB : B ≤ w.heap.size) (hn : n ≤ 1000000) {r : Bool} (hres : decide (rowsOf l = rowsOf l') = r) :
    Calls Try.prog 16 #[.slice A n c, .slice A' n' c'] w fun e w' => e = .returned (.bool r) ∧ Below w.heap.size w w' := by
  have hl := hr.1
  have hl' := hr'.1
  have HR := Lib.hid (hr.more hB)
  have HR' := Lib.hid (hr'.more hB)
  have HRes := Lib.hid hres
  clear hr hr' hB hres
  by_cases hnn : n = n'
  · subst hnn
    have hne : ((n : Int) != (n : Int)) = false := by simp
    go_enter Try.func16, Try.ntmps16
    go_wp2_with fail
    go_loopw [5] (fun i wr => ∃ k : Nat, i = .int .i64 (k : Int) ∧ k ≤ n ∧ rowsOf (l.take k) = rowsOf (l'.take k) ∧ Below w.heap.size w wr) (fun i _ => n - (intOf i).toNat)
    case atStart => exact ⟨0, rfl, Nat.zero_le _, rfl, Below.refl _ _⟩
    case round =>
      obtain ⟨k, rfl, hk, heq, hb⟩ := hrel
      rcases Nat.eq_or_lt_of_le hk with rfl | hlt
      · rw [List.take_of_length_le (by omega), List.take_of_length_le (by omega)] at heq
        have hr1 : r = true := by rw [← HRes.out, decide_eq_true heq]
        subst hr1
        go_wp2_with fail
        go_ret
        exact ⟨rfl, hb⟩
      · obtain ⟨b, off, rfl, hbl, hc⟩ := HR.out.2.1 (by omega)
        obtain ⟨b', off', rfl, hbl', hc'⟩ := HR'.out.2.1 (by omega)
        obtain ⟨x, hx⟩ : ∃ x, l[k]? = some x := ⟨_, List.getElem?_eq_getElem (by omega)⟩
        obtain ⟨y, hy⟩ : ∃ y, l'[k]? = some y := ⟨_, List.getElem?_eq_getElem (by omega)⟩
        have hcell := (hb.cell (p := ⟨b, off + k, none⟩) hbl).trans (hc k x hx)
        have hcell' := (hb.cell (p := ⟨b', off' + k, none⟩) hbl').trans (hc' k y hy)
        obtain ⟨x1, x2, _⟩ := HR.out.2.2 x (List.mem_of_getElem? hx)
        obtain ⟨y1, y2, _⟩ := HR'.out.2.2 y (List.mem_of_getElem? hy)
        have HS := Lib.hid (fun (W : World) (hW : Below w.heap.size w W) => same_any x.A y.A x.n x.c y.n y.c x.bs y.bs w.heap.size W (x1.below hW) (y1.below hW) x2 y2)
        have hlt2 : (k : Int) < (n : Int) := by omega
        have HB := Lib.hid hb
        by_cases hxy : x.bs = y.bs
        · rw [decide_eq_true hxy] at HS
          have HE : Hid (rowsOf (l.take (k + 1)) = rowsOf (l'.take (k + 1))) := by rw [rowsOf_take hx, rowsOf_take hy, heq, hxy]; exact Lib.hid rfl
          clear hc hc' hx hy x1 x2 y1 y2 heq hb hxy
          go_wp2_with fail
          have HB1 := Lib.hid HB.out.drew
          go_region_held3 (fun W => W.cell? ⟨b, off + k, none⟩ = some (.slice x.A x.n x.c) ∧ W.cell? ⟨b', off' + k, none⟩ = some (.slice y.A y.n y.c)) (go_keep)
            (first | (go_at_call 15; refine (HS.out _ HB1.out).mono ?_; rintro e w' ⟨rfl, rfl⟩))
          go_wp2_with fail
          go_roundw
          case rel => exact ⟨k + 1, by go_num, by omega, HE.out, HB1.out⟩
          case measure => simp [intOf]; omega
        · have hr1 : r = false := by
            rw [← HRes.out]
            exact decide_eq_false (fun e => hxy (rowsOf_at hx hy e))
          subst hr1
          rw [decide_eq_false hxy] at HS
          clear hc hc' hx hy x1 x2 y1 y2 heq hb hxy
          go_wp2_with fail
          have HB1 := Lib.hid HB.out.drew
          go_region_held3 (fun W => W.cell? ⟨b, off + k, none⟩ = some (.slice x.A x.n x.c) ∧ W.cell? ⟨b', off' + k, none⟩ = some (.slice y.A y.n y.c)) (go_keep)
            (first | (go_at_call 15; refine (HS.out _ HB1.out).mono ?_; rintro e w' ⟨rfl, rfl⟩))
          go_wp2_with fail
          go_ret
          exact ⟨rfl, HB1.out⟩
  · have hr1 : r = false := by
      rw [← HRes.out]
      refine decide_eq_false (fun e => hnn ?_)
      have := congrArg List.length e
      simp only [rowsOf, List.length_map] at this
      omega
    subst hr1
    have hne : ((n : Int) != (n' : Int)) = true := by simp; omega
    go_enter Try.func16, Try.ntmps16
    go_wp2_with fail
    go_ret
    exact ⟨rfl, Below.refl _ _⟩

end Go.Proofs.Ytocleikdabclkaa
