/-
  The walks of the document's own 'Of', 'Put', 'Name', 'All' of records. Conditions: those that each theorem names.
-/
import Derived.Test.YtcgfakpolfopnaaRecNames
import Derived.Test.YtcgfakpolfopnaaRefTakeRow
namespace Go.Proofs.Ytcgfakpolfopnaa
open Go.RowKit Go.Shelf

set_option maxHeartbeats 400000 in
theorem refOf_any (k : Nat) (A : Option Addr) (n c : Nat) (zs : List Int) (B : Nat) (w : World) (hr : Rd w B A n (iv zs)) (hB : B ≤ w.heap.size) (hn : n ≤ 1000000) :
    Calls Try.prog 24 #[.int .u8 (k : Int), .slice A n c] w (RecIs k zs w) := by
  have hl : zs.length = n := by have := hr.1; rwa [iv_length] at this
  have hbox := (Whole.new w 24 #[.int .u8 0, .slice none 0 0]).alloc (.cells #[] 3)
  have hbel : Below w.heap.size w ((w.alloc (.cells #[.int .u8 0, .slice none 0 0] 24)).alloc (.cells #[] 3)) := ((Below.refl _ w).alloc (Nat.le_refl _) _).alloc (by simp) _
  have ho := World.ownsRow_made (base := w.heap.size + 1) (e := 3) (size := 1) (w.alloc (.cells #[.int .u8 0, .slice none 0 0] 24)) #[] 0 (by simp) (Nat.zero_le _) rfl
  obtain ⟨v1, W1, e1, o1, g1⟩ := run_appI ((w.alloc (.cells #[.int .u8 0, .slice none 0 0] 24)).alloc (.cells #[] 3)) (w.heap.size + 1) _ 0 [] ho B A n c zs (hr.below (hbel.mono hB)) (by omega) (by simp)
  rw [Nat.zero_add, List.nil_append] at o1
  obtain ⟨A1, c1, rfl⟩ := own_form o1
  have hbox1 := hbox.grown g1 (by simp [Value.ownBlock])
  have hb1 : Below w.heap.size w W1 := hbel.trans ((Below.refl _ _).grown g1 (by simp; omega) (fun k e => by simp only [Value.ownBlock, Option.some.injEq] at e; simp at e; omega))
  have h0 := hbox1.cell 0
  have h1 := hbox1.cell 1
  have f0 := hbox1.frozen 0
  have f1 := hbox1.frozen 1
  simp only [World.size_alloc] at e1
  have E1 := Lib.hid e1
  have O1 := Lib.hid o1
  have HX := Lib.hid hbox1
  have HB := Lib.hid hb1
  have Hl := Lib.hid hl
  clear e1 o1 g1 hbox hbel hr hl hbox1 hb1 ho
  simp only [List.getElem?_toArray, List.getElem?_cons_zero, List.getElem?_cons_succ] at h0 h1
  go_enter Try.func24, Try.ntmps24
  go_wp2_with (at_builtin; refine wpList_app (by rfl) _ _ _ rfl _ _ _ _ rfl rfl E1.out ?_; clear E1)
  have hw := (HX.out.set 0 (.int .u8 (k : Int))).set 1 (.slice A1 n c1)
  have q0 := hw.cell 0
  have q1 := hw.cell 1
  simp at q0 q1
  refine bodyPost_ret (v := .agg #[.int .u8 (k : Int), .slice A1 n c1]) (by simp [results, Try.results24, go_sem, q0, q1]) rfl ⟨A1, c1, by rw [Hl.out], ?_, ?_⟩
  · rw [Hl.out]
    have hne : (Value.slice A1 n c1).ownBlock ≠ some w.heap.size := fun e => by have := (O1.out.lt _ e).1; omega
    exact own_weaker (ownsRow_setCell_other (ownsRow_setCell_other (a := ⟨w.heap.size, 0, none⟩) O1.out hne _) (a := ⟨w.heap.size, 1, none⟩) hne _) (Nat.le_succ _)
  · exact (HB.out.setCell (p := ⟨w.heap.size, 0, none⟩) (Nat.le_refl _) _).setCell (p := ⟨w.heap.size, 1, none⟩) (Nat.le_refl _) _

set_option maxHeartbeats 400000 in
theorem refPutRec_no (k : Nat) (A : Option Addr) (n c : Nat) (zs : List Int) (B : Nat) (w : World) (hr : Rd w B A n (iv zs)) (hB : B ≤ w.heap.size) (h : mayB k zs = false) :
    Calls Try.prog 12 #[.agg #[.int .u8 (k : Int), .slice A n c]] w fun e w' => e = .returned (.tuple #[.slice none 0 0, .int .i64 2]) ∧ Below w.heap.size w w' := by
  have hb : Below w.heap.size w (w.alloc (.cells #[.int .u8 (k : Int), .slice A n c] 24)) := (Below.refl _ w).alloc (Nat.le_refl _) _
  have HR := Lib.hid (refRight_any k A n c zs w.heap.size (w.alloc (.cells #[.int .u8 (k : Int), .slice A n c] 24)) ((hr.more hB).below hb) hb.size)
  rw [h] at HR
  have HB := Lib.hid hb
  clear hr h hb hB
  go_enter Try.func12, Try.ntmps12
  go_wp2_with fail
  refine (HR.out).mono ?_
  rintro e w1 ⟨rfl, b1⟩
  go_wp2_with fail
  go_ret2
  exact ⟨rfl, HB.out.trans (b1.mono HB.out.size)⟩

set_option maxHeartbeats 400000 in
theorem refPutRec_yes (k : Nat) (A : Option Addr) (n c : Nat) (zs : List Int) (B : Nat) (w : World) (hr : Rd w B A n (iv zs)) (hB : B ≤ w.heap.size) (h : mayB k zs = true) :
    Calls Try.prog 12 #[.agg #[.int .u8 (k : Int), .slice A n c]] w (TwoPost w.heap.size (recB k zs).length (bv (recB k zs)) w) := by
  have hk := (mayB_kind h).2
  have hl : zs.length = n := by have := hr.1; rwa [iv_length] at this
  have hn : n ≤ 18 := by have h1 := (mayB_yes h).2.1; have h2 := (hi_le k).1; omega
  have hrow := mayB_row h
  have hb : Below w.heap.size w (w.alloc (.cells #[.int .u8 (k : Int), .slice A n c] 24)) := (Below.refl _ w).alloc (Nat.le_refl _) _
  have HR := Lib.hid (refRight_any k A n c zs w.heap.size (w.alloc (.cells #[.int .u8 (k : Int), .slice A n c] 24)) ((hr.more hB).below hb) hb.size)
  rw [h] at HR
  have HB := Lib.hid hb
  have Hr := Lib.hid (hr.more hB)
  have HBox := Lib.hid (Whole.new w 24 #[.int .u8 (k : Int), .slice A n c])
  have Hrow := Lib.hid hrow
  have Hl := Lib.hid hl
  clear hr h hb hB hrow hl
  go_enter Try.func12, Try.ntmps12
  go_wp2_with fail
  refine (HR.out).mono ?_
  rintro e w1 ⟨rfl, b1⟩
  have X1 := Lib.hid (HBox.out.under b1)
  have B1 := Lib.hid (HB.out.trans (b1.mono HB.out.size))
  have x1 := X1.out.alloc (.cells #[.int .i64 (k : Int)] 3)
  have q0 := X1.out.cell 0
  have q1 := x1.cell 1
  simp only [List.getElem?_toArray, List.getElem?_cons_zero, List.getElem?_cons_succ] at q0 q1
  have ho : (w1.alloc (.cells #[.int .i64 (k : Int)] 3)).ownsRow w1.heap.size 3 1 (.slice (some ⟨w1.heap.size, 0, none⟩) 1 1) 1 (iv [(k : Int)]) := by
    have := World.ownsRow_lit (base := w1.heap.size) (e := 3) (size := 1) w1 #[.int .i64 (k : Int)] 1 (Nat.le_refl _) (by unfold maxLen; omega) rfl
    simpa [iv] using this
  obtain ⟨v2, W2, e2, o2, g2⟩ := run_appI (w1.alloc (.cells #[.int .i64 (k : Int)] 3)) w1.heap.size _ 1 _ ho w.heap.size A n c zs ((Hr.out.below B1.out).alloc B1.out.size _) (by omega) (by simp)
  obtain ⟨A2, c2, rfl⟩ := own_form o2
  have b2 : Below w1.heap.size w1 W2 := ((Below.refl _ w1).alloc (Nat.le_refl _) _).trans (below_row ho g2 (by simp))
  have B2 := Lib.hid (B1.out.trans (b2.mono B1.out.size))
  have R2 : Rd W2 W2.heap.size A2 ((k : Int) :: zs).length (iv ((k : Int) :: zs)) := by
    have h1 := Rd.of_own o2
    have h2 : iv [(k : Int)] ++ iv zs = iv ((k : Int) :: zs) := by simp [iv]
    rw [h2] at h1
    have h3 : 1 + n = ((k : Int) :: zs).length := by simp [Hl.out]; omega
    rw [h3] at h1
    exact h1
  have h3 : 1 + n = ((k : Int) :: zs).length := by simp [Hl.out]; omega
  rw [h3] at e2
  have E2 := Lib.hid e2
  clear b1 x1 ho e2 o2 g2 b2 h3
  go_wp2_with (at_builtin; refine wpList_app (by rfl) _ _ _ rfl _ _ _ _ rfl rfl E2.out ?_; clear E2)
  refine (refRow_any A2 ((k : Int) :: zs).length c2 ((k : Int) :: zs) _ R2).mono ?_
  rintro e w4 (⟨_, A4, c4, rfl, I4⟩ | ⟨h0, _⟩)
  · have I4' := I4.after B2.out (below_keeps B2.out) B2.out.size
    clear I4
    go_wp2_with fail
    go_ret2
    exact ⟨A4, c4, rfl, I4'⟩
  · rw [Hrow.out] at h0; cases h0

set_option maxRecDepth 100000 in
set_option maxHeartbeats 1000000 in
theorem refAll_any (A : Option Addr) (n c : Nat) (l : List RE) (B : Nat) (w : World) (hr : RdR w B A n l) (hB : B ≤ w.heap.size) (hn : n ≤ 1000) :
    Calls Try.prog 22 #[.slice A n c] w (BoolPost (allB l) w) := by
  have HR := Lib.hid (hr.more hB)
  clear hr hB
  go_enter Try.func22, Try.ntmps22
  go_wp2_with fail
  go_loopw [3] (fun i wr => ∃ j : Nat, i = .int .i64 (j : Int) ∧ j ≤ n ∧ allB (l.take j) = true ∧ Below w.heap.size w wr) (fun i _ => n - (intOf i).toNat)
  case atStart => exact ⟨0, rfl, Nat.zero_le _, rfl, Below.refl _ _⟩
  case round =>
    obtain ⟨j, rfl, hj, hT, hb⟩ := hrel
    have HT := Lib.hid hT
    have HB := Lib.hid hb
    clear hT hb
    by_cases hlt : j < n
    · have hjl : j < l.length := by rw [HR.out.1]; exact hlt
      obtain ⟨x, hx⟩ : ∃ x, l[j]? = some x := ⟨_, List.getElem?_eq_getElem hjl⟩
      obtain ⟨b, off, rfl, hblt, hc⟩ := (HR.out.below HB.out).2.1 (by omega)
      obtain ⟨h1, h2⟩ := hc j x hx
      obtain ⟨hk, hrx⟩ := (HR.out.below HB.out).2.2 x (List.mem_of_getElem? hx)
      have hI : (j : Int) < (n : Int) := by omega
      have HX := Lib.hid hx
      have HRX := Lib.hid hrx
      clear hc hx hrx hjl
      cases x with
      | mk k A' n' c' zs' =>
      simp only at h1 h2 hk HRX HX
      have HRt := Lib.hid (refRight_any k A' n' c' zs' w.heap.size wr HRX.out HB.out.size)
      by_cases hm : mayB k zs' = true
      · rw [hm] at HRt
        have HS := Lib.hid (show allB (l.take (j + 1)) = true by rw [allB_take HX.out, HT.out]; simpa using hm)
        clear hm
        go_wp2_with fail
        refine (HRt.out).mono ?_
        rintro e w2 ⟨rfl, b2⟩
        have B2 := Lib.hid (HB.out.trans (b2.mono HB.out.size))
        clear b2
        go_wp2_with fail
        go_roundw
        case rel => exact ⟨j + 1, by go_num, by omega, HS.out, B2.out⟩
        case measure => simp [intOf]; omega
      · have hmf : mayB k zs' = false := by simpa using hm
        rw [hmf] at HRt
        have HS := Lib.hid (allB_no HX.out hmf)
        clear hm hmf
        go_wp2_with fail
        refine (HRt.out).mono ?_
        rintro e w2 ⟨rfl, b2⟩
        have B2 := Lib.hid (HB.out.trans (b2.mono HB.out.size))
        clear b2
        go_wp2_with fail
        go_ret
        exact ⟨by rw [HS.out]; rfl, B2.out⟩
    · have HA := Lib.hid (show allB l = true by have h1 := HT.out; rwa [List.take_of_length_le (by have := HR.out.1; omega)] at h1)
      go_wp2_with fail
      go_ret
      exact ⟨by rw [HA.out]; rfl, HB.out⟩

set_option maxRecDepth 100000 in
set_option maxHeartbeats 400000 in
theorem refName_any (k : Nat) (hk : k < 256) (w : World) : Calls Try.prog 19 #[.int .u8 (k : Int)] w (NamePost k w) := by
  rcases Nat.lt_or_ge k 17 with h | h
  · go_enter Try.func19, Try.ntmps19
    go_wp2_with fail
    go_ret
    refine ⟨?_, (Below.refl _ w).alloc (Nat.le_refl _) _⟩
    rcases kind_cases h with rfl | rfl | rfl | rfl | rfl | rfl | rfl | rfl | rfl | rfl | rfl | rfl | rfl | rfl | rfl | rfl | rfl
    all_goals rfl
  · have h17 : (17 : Int) ≤ (k : Int) := by omega
    have HN := Lib.hid (nmOf_out h)
    clear h
    go_enter Try.func19, Try.ntmps19
    go_wp2_with fail
    go_ret
    exact ⟨by rw [HN.out]; rfl, (Below.refl _ w).alloc (Nat.le_refl _) _⟩

end Go.Proofs.Ytcgfakpolfopnaa
