/-
  The walks of 'All' of package record, and of the statements' 'great'. Conditions: those that each theorem names.
-/
import Derived.Test.YtcgfakpolfopnaaRecRight
namespace Go.Proofs.Ytcgfakpolfopnaa
open Go.RowKit Go.Shelf

/-- A record, as an element of a slice: its kind, its slice of numbers, and what that reads as. -/
structure RE where
  k : Nat
  A : Option Addr
  n : Nat
  c : Nat
  zs : List Int

/-- A slice of records that reads as the list l, in blocks below B. -/
def RdR (w : World) (B : Nat) (A : Option Addr) (n : Nat) (l : List RE) : Prop :=
  l.length = n ∧ (0 < n → ∃ b off, A = some ⟨b, off, none⟩ ∧ b < B ∧ ∀ j x, l[j]? = some x → w.cell? ⟨b, off + j * 2, none⟩ = some (.int .u8 (x.k : Int)) ∧ w.cell? ⟨b, off + j * 2 + 1, none⟩ = some (.slice x.A x.n x.c)) ∧
    ∀ x ∈ l, x.k < 256 ∧ Rd w B x.A x.n (iv x.zs)

section
variable {w w' : World} {B B' n : Nat} {A : Option Addr} {l : List RE}
theorem RdR.below (h : RdR w B A n l) (hb : Below B w w') : RdR w' B A n l :=
  ⟨h.1, fun hn => by
    obtain ⟨b, off, e, hlt, hc⟩ := h.2.1 hn
    exact ⟨b, off, e, hlt, fun j x hx => ⟨(hb.cell (p := ⟨b, off + j * 2, none⟩) hlt).trans (hc j x hx).1, (hb.cell (p := ⟨b, off + j * 2 + 1, none⟩) hlt).trans (hc j x hx).2⟩⟩,
   fun x hx => ⟨(h.2.2 x hx).1, (h.2.2 x hx).2.below hb⟩⟩
theorem RdR.more (h : RdR w B A n l) (hB : B ≤ B') : RdR w B' A n l :=
  ⟨h.1, fun hn => by
    obtain ⟨b, off, e, hlt, hc⟩ := h.2.1 hn
    exact ⟨b, off, e, by omega, hc⟩, fun x hx => ⟨(h.2.2 x hx).1, (h.2.2 x hx).2.more hB⟩⟩
end

/-- A literal of one record; of two. -/
theorem rdR_one (W : World) (x : RE) (B : Nat) (hB : B ≤ W.heap.size) (hk : x.k < 256) (hr : Rd W B x.A x.n (iv x.zs)) (b : Nat) (hb : W.heap.size = b) :
    RdR (W.alloc (.cells #[.int .u8 (x.k : Int), .slice x.A x.n x.c] 24)) (b + 1) (some ⟨b, 0, none⟩) 1 [x] := by
  subst hb
  refine ⟨rfl, fun _ => ⟨W.heap.size, 0, rfl, by omega, ?_⟩, ?_⟩
  · rintro (_ | j) y hy
    · simp only [List.getElem?_cons_zero, Option.some.injEq] at hy
      subst hy
      exact ⟨cell_new W _ _ 0, cell_new W _ _ 1⟩
    · simp at hy
  · intro y hy
    simp only [List.mem_singleton] at hy
    subst hy
    exact ⟨hk, (hr.alloc hB _).more (by omega)⟩

theorem rdR_two (W : World) (x y : RE) (B : Nat) (hB : B ≤ W.heap.size) (hk : x.k < 256) (hr : Rd W B x.A x.n (iv x.zs)) (hk' : y.k < 256) (hr' : Rd W B y.A y.n (iv y.zs)) (b : Nat) (hb : W.heap.size = b) :
    RdR (W.alloc (.cells #[.int .u8 (x.k : Int), .slice x.A x.n x.c, .int .u8 (y.k : Int), .slice y.A y.n y.c] 24)) (b + 1) (some ⟨b, 0, none⟩) 2 [x, y] := by
  subst hb
  refine ⟨rfl, fun _ => ⟨W.heap.size, 0, rfl, by omega, ?_⟩, ?_⟩
  · rintro (_ | _ | j) z hz
    · simp only [List.getElem?_cons_zero, Option.some.injEq] at hz
      subst hz
      exact ⟨cell_new W _ _ 0, cell_new W _ _ 1⟩
    · simp only [List.getElem?_cons_succ, List.getElem?_cons_zero, Option.some.injEq] at hz
      subst hz
      exact ⟨cell_new W _ _ 2, cell_new W _ _ 3⟩
    · simp at hz
  · intro z hz
    simp only [List.mem_cons, List.not_mem_nil, or_false] at hz
    rcases hz with rfl | rfl
    · exact ⟨hk, (hr.alloc hB _).more (by omega)⟩
    · exact ⟨hk', (hr'.alloc hB _).more (by omega)⟩

def allB (l : List RE) : Bool := l.all fun x => mayB x.k x.zs
theorem allB_take {l : List RE} {j : Nat} {x : RE} (hx : l[j]? = some x) : allB (l.take (j + 1)) = (allB (l.take j) && mayB x.k x.zs) := by
  have hjl : j < l.length := (List.getElem?_eq_some_iff.1 hx).1
  rw [List.take_succ_eq_append_getElem hjl]
  rw [List.getElem?_eq_getElem hjl] at hx
  rw [Option.some.inj hx]
  simp [allB]
theorem allB_no {l : List RE} {j : Nat} {x : RE} (hx : l[j]? = some x) (h : mayB x.k x.zs = false) : allB l = false := by
  have hjl : j < l.length := (List.getElem?_eq_some_iff.1 hx).1
  have hm : x ∈ l := List.mem_of_getElem? hx
  simp only [allB, List.all_eq_false]
  exact ⟨x, hm, by simp [h]⟩

set_option maxRecDepth 100000 in
set_option maxHeartbeats 1000000 in
theorem all_any (A : Option Addr) (n c : Nat) (l : List RE) (B : Nat) (w : World) (hr : RdR w B A n l) (hB : B ≤ w.heap.size) (hn : n ≤ 1000) :
    Calls Try.prog 21 #[.slice A n c] w (BoolPost (allB l) w) := by
  have HR := Lib.hid (hr.more hB)
  clear hr hB
  go_enter Try.func21, Try.ntmps21
  go_wp2_with fail
  go_loopw [4, 7] (fun _ i wr => ∃ j : Nat, i = .int .i64 (j : Int) ∧ j ≤ n ∧ allB (l.take j) = true ∧ Below w.heap.size w wr) (fun _ i _ => n - (intOf i).toNat)
  case atStart => exact ⟨0, rfl, Nat.zero_le _, rfl, Below.refl _ _⟩
  case round =>
    obtain ⟨j, rfl, hj, hT, hb⟩ := hrel
    have HT := Lib.hid hT
    have HB := Lib.hid hb
    clear hT hb
    by_cases hlt : j < n
    · have hjl : j < l.length := by rw [HR.out.1]; exact hlt
      obtain ⟨x, hx⟩ : ∃ x, l[j]? = some x := ⟨_, List.getElem?_eq_getElem hjl⟩
      obtain ⟨b, off, rfl, hblt, hc⟩ := (HR.out.below HB.out).2.1 (by omega)
      obtain ⟨h1, h2⟩ := hc j x hx
      obtain ⟨hk, hrx⟩ := (HR.out.below HB.out).2.2 x (List.mem_of_getElem? hx)
      have hI : (j : Int) < (n : Int) := by omega
      have HX := Lib.hid hx
      have HRX := Lib.hid hrx
      clear hc hx hrx hjl
      cases x with
      | mk k A' n' c' zs' =>
      simp only at h1 h2 hk HRX HX
      have hb1 : Below w.heap.size w (wr.alloc (.cells #[.int .u8 (k : Int), .slice A' n' c'] 24)) := HB.out.alloc HB.out.size _
      have HRt := Lib.hid (right_rec k hk A' n' c' zs' w.heap.size _ (HRX.out.alloc HB.out.size (.cells #[.int .u8 (k : Int), .slice A' n' c'] 24)) hb1.size)
      have HB1 := Lib.hid hb1
      clear hb1 HB
      by_cases hm : mayB k zs' = true
      · rw [hm] at HRt
        have HS := Lib.hid (show allB (l.take (j + 1)) = true by rw [allB_take HX.out, HT.out]; simpa using hm)
        clear hm
        go_wp2_with fail
        refine (HRt.out).mono ?_
        rintro e w2 ⟨rfl, b2⟩
        have B2 := Lib.hid (HB1.out.trans (b2.mono HB1.out.size))
        clear b2
        go_wp2_with fail
        go_roundw
        case rel => exact ⟨j + 1, by go_num, by omega, HS.out, B2.out⟩
        case measure => simp [intOf]; omega
      · have hmf : mayB k zs' = false := by simpa using hm
        rw [hmf] at HRt
        have HS := Lib.hid (allB_no HX.out hmf)
        clear hm hmf
        go_wp2_with fail
        refine (HRt.out).mono ?_
        rintro e w2 ⟨rfl, b2⟩
        have B2 := Lib.hid (HB1.out.trans (b2.mono HB1.out.size))
        clear b2
        go_wp2_with fail
        go_ret
        exact ⟨by rw [HS.out]; rfl, B2.out⟩
    · have HA := Lib.hid (show allB l = true by have h1 := HT.out; rwa [List.take_of_length_le (by have := HR.out.1; omega)] at h1)
      go_wp2_with fail
      go_ret
      exact ⟨by rw [HA.out]; rfl, HB.out⟩

def greatB (l : List RE) : Bool := ((l.take 41).any fun x => decide (60 < x.n)) || decide (40 < l.length)

theorem greatB_no {l : List RE} (h : greatB l = false) : l.length ≤ 40 ∧ ∀ x ∈ l, x.n ≤ 60 := by
  simp only [greatB, Bool.or_eq_false_iff, decide_eq_false_iff_not, List.any_eq_false, decide_eq_true_eq] at h
  refine ⟨by omega, fun x hx => ?_⟩
  have h1 := h.1 x (by rw [List.take_of_length_le (by omega)]; exact hx)
  omega
theorem great_yes {l : List RE} {j : Nat} {x : RE} (hj : j ≤ 40) (hx : l[j]? = some x) (h : 60 < x.n) : greatB l = true := by
  have h1 : (l.take 41)[j]? = some x := by rw [List.getElem?_take, if_pos (by omega)]; exact hx
  simp only [greatB, Bool.or_eq_true, List.any_eq_true, decide_eq_true_eq]
  exact .inl ⟨x, List.mem_of_getElem? h1, h⟩
theorem great_end {l : List RE} {j : Nat} (hj : j ≤ 41) (he : j = 41 ∨ j = l.length) (h : (l.take j).any (fun x => decide (60 < x.n)) = false) : greatB l = decide (40 < l.length) := by
  have h1 : (l.take 41).any (fun x => decide (60 < x.n)) = false := by
    rcases he with rfl | rfl
    · exact h
    · rwa [List.take_of_length_le (by omega)] at h ⊢
  rw [greatB, h1, Bool.false_or]

set_option maxRecDepth 100000 in
set_option maxHeartbeats 1000000 in
theorem great_any (A : Option Addr) (n c : Nat) (l : List RE) (B : Nat) (w : World) (hr : RdR w B A n l) :
    Calls Try.prog 9 #[.slice A n c] w fun e w' => e = .returned (.bool (greatB l)) ∧ w = w' := by
  have HR := Lib.hid hr
  clear hr
  go_enter Try.func9, Try.ntmps9
  go_wp2_with fail
  go_loop [3] (fun i => ∃ j : Nat, i = .int .i64 (j : Int) ∧ j ≤ n ∧ j ≤ 41 ∧ (l.take j).any (fun x => decide (60 < x.n)) = false) (fun i => 41 - (intOf i).toNat)
  case atStart => exact ⟨0, rfl, Nat.zero_le _, by omega, rfl⟩
  case round =>
    obtain ⟨j, rfl, hj, hj41, hT⟩ := hrel
    have HT := Lib.hid hT
    clear hT
    by_cases hlt : j < n
    · have hI : (j : Int) < (n : Int) := by omega
      by_cases h40 : j ≤ 40
      · have hjl : j < l.length := by rw [HR.out.1]; exact hlt
        obtain ⟨x, hx⟩ : ∃ x, l[j]? = some x := ⟨_, List.getElem?_eq_getElem hjl⟩
        obtain ⟨b, off, rfl, hblt, hc⟩ := HR.out.2.1 (by omega)
        obtain ⟨h1, h2⟩ := hc j x hx
        have HX := Lib.hid hx
        have HS : Hid ((l.take (j + 1)).any (fun x => decide (60 < x.n)) = ((l.take j).any (fun x => decide (60 < x.n)) || decide (60 < x.n))) := by
          rw [List.getElem?_eq_getElem hjl] at hx
          show (l.take (j + 1)).any (fun x => decide (60 < x.n)) = _
          rw [List.take_succ_eq_append_getElem hjl, Option.some.inj hx]
          simp
        clear hc hx hjl
        cases x with
        | mk k A' n' c' zs' =>
        simp only at h1 h2 HX HS
        have h40' : (j : Int) ≤ 40 := by omega
        by_cases h60 : 60 < n'
        · have HG := Lib.hid (great_yes h40 HX.out h60)
          have h60' : (60 : Int) < (n' : Int) := by omega
          go_wp2_with fail
          go_ret
          exact ⟨by rw [HG.out]; rfl, rfl⟩
        · have h60' : ¬ (60 : Int) < (n' : Int) := by omega
          have HD := Lib.hid (show decide (60 < n') = false by simpa using h60)
          go_wp2_with fail
          go_round
          case rel => exact ⟨j + 1, by go_num, by omega, by omega, by rw [HS.out, HT.out, HD.out]; rfl⟩
          case measure => simp [intOf]; omega
      · have h40' : ¬ (j : Int) ≤ 40 := by omega
        have HG := Lib.hid (great_end hj41 (.inl (by omega)) HT.out)
        have h40n : (40 : Int) < (n : Int) := by omega
        have HD := Lib.hid (show decide (40 < l.length) = true by rw [decide_eq_true_eq, HR.out.1]; omega)
        go_wp2_with fail
        go_ret
        exact ⟨by rw [HG.out, HD.out]; rfl, rfl⟩
    · obtain rfl : n = j := by omega
      have HG := Lib.hid (great_end hj41 (.inr HR.out.1.symm) HT.out)
      by_cases h40n : (40 : Int) < (n : Int)
      · have HD := Lib.hid (show decide (40 < l.length) = true by rw [decide_eq_true_eq, HR.out.1]; omega)
        go_wp2_with fail
        go_ret
        exact ⟨by rw [HG.out, HD.out]; rfl, rfl⟩
      · have HD := Lib.hid (show decide (40 < l.length) = false by rw [decide_eq_false_iff_not, HR.out.1]; omega)
        go_wp2_with fail
        go_ret
        exact ⟨by rw [HG.out, HD.out]; rfl, rfl⟩

end Go.Proofs.Ytcgfakpolfopnaa
