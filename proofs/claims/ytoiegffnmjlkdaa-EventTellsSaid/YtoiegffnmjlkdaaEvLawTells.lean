/-
  The walk of the statement EventTells: clouds behind events, one, and all, are the document's own. Conditions: those that each theorem names.
-/
import Derived.Test.YtoiegffnmjlkdaaEvWakes
import Derived.Test.YtoiegffnmjlkdaaEvRefAll
import Derived.BigQuiet
import Derived.Deep.DeepCutAuto
namespace Go.Proofs.Ytoiegffnmjlkdaa
open Go.RowKit Go.Shelf

theorem whole_twoE {W : World} {t u : TypeId} {x y : Array Value} : Whole ((W.alloc (.cells x t)).alloc (.cells y u)) W.heap.size t x ∧ Whole ((W.alloc (.cells x t)).alloc (.cells y u)) (W.heap.size + 1) u y ∧ Below W.heap.size W ((W.alloc (.cells x t)).alloc (.cells y u)) := by
  refine ⟨(Whole.new W _ _).alloc _, ?_, ((Below.refl _ W).alloc (Nat.le_refl _) _).alloc (by simp) _⟩
  have := Whole.new (W.alloc (.cells x t)) u y; rwa [World.size_alloc] at this

set_option maxRecDepth 100000 in
set_option maxHeartbeats 8000000 in
theorem tells_great (x : Cw) (e : Ev) (A : Option Addr) (n c : Nat) (A2 : Option Addr) (m c2 : Nat) (w : World) (hr : RdX w w.heap.size A n x.l) (hm : (70 : Int) < (n : Int)) :
    Calls Try.prog 3 #[.agg #[.slice A n c, .int .i64 x.fl, .int .i64 x.dr, .int .i64 x.nw, .bool x.tg], .agg #[.int .u8 e.kind, .int .i64 e.a, .int .i64 e.b], .slice A2 m c2] w (TruePost w) := by
  have two := whole_twoE (W := w) (t := 24) (u := 26) (x := #[.slice A n c, .int .i64 x.fl, .int .i64 x.dr, .int .i64 x.nw, .bool x.tg]) (y := #[.int .u8 e.kind, .int .i64 e.a, .int .i64 e.b])
  have C := Lib.hid two.1
  have E := Lib.hid two.2.1
  have R := Lib.hid (hr.up two.2.2)
  have B := Lib.hid two.2.2
  clear two hr
  have d0 : decide ((70 : Int) < (n : Int)) = true := decide_eq_true hm
  clear hm
  go_enter Try.func3, Try.ntmps3
  have vC_0 := C.out.cell 0
  have vC_1 := C.out.cell 1
  have vC_2 := C.out.cell 2
  have vC_3 := C.out.cell 3
  have vC_4 := C.out.cell 4
  simp only [List.getElem?_toArray, List.getElem?_cons_zero, List.getElem?_cons_succ] at vC_0 vC_1 vC_2 vC_3 vC_4
  go_wp2_with fail
  clear vC_0 vC_1 vC_2 vC_3 vC_4
  refine (evWakes_any _).mono ?_
  rintro e y1 ⟨rfl, b⟩
  have C_ := Lib.hid (C.out.under b)
  have E_ := Lib.hid (E.out.under b)
  have R_ := Lib.hid (R.out.up b)
  have B_ := Lib.hid (B.out.trans (b.mono B.out.size))
  clear C E R B
  have C := C_
  have E := E_
  have R := R_
  have B := B_
  clear C_ E_ R_ B_
  clear b
  go_wp2_with fail
  go_ret
  exact ⟨rfl, B.out⟩

set_option maxRecDepth 100000 in
set_option maxHeartbeats 8000000 in
theorem tells_long (x : Cw) (e : Ev) (A : Option Addr) (n c : Nat) (A2 : Option Addr) (m c2 : Nat) (w : World) (hr : RdX w w.heap.size A n x.l) (hm : ¬ (70 : Int) < (n : Int)) (h4 : (40 : Int) < (m : Int)) :
    Calls Try.prog 3 #[.agg #[.slice A n c, .int .i64 x.fl, .int .i64 x.dr, .int .i64 x.nw, .bool x.tg], .agg #[.int .u8 e.kind, .int .i64 e.a, .int .i64 e.b], .slice A2 m c2] w (TruePost w) := by
  have two := whole_twoE (W := w) (t := 24) (u := 26) (x := #[.slice A n c, .int .i64 x.fl, .int .i64 x.dr, .int .i64 x.nw, .bool x.tg]) (y := #[.int .u8 e.kind, .int .i64 e.a, .int .i64 e.b])
  have C := Lib.hid two.1
  have E := Lib.hid two.2.1
  have R := Lib.hid (hr.up two.2.2)
  have B := Lib.hid two.2.2
  clear two hr
  have d0 : decide ((70 : Int) < (n : Int)) = false := decide_eq_false hm
  have d1 : decide ((40 : Int) < (m : Int)) = true := decide_eq_true h4
  clear hm h4
  go_enter Try.func3, Try.ntmps3
  have vC_0 := C.out.cell 0
  have vC_1 := C.out.cell 1
  have vC_2 := C.out.cell 2
  have vC_3 := C.out.cell 3
  have vC_4 := C.out.cell 4
  simp only [List.getElem?_toArray, List.getElem?_cons_zero, List.getElem?_cons_succ] at vC_0 vC_1 vC_2 vC_3 vC_4
  go_wp2_with fail
  clear vC_0 vC_1 vC_2 vC_3 vC_4
  refine (evWakes_any _).mono ?_
  rintro e y1 ⟨rfl, b⟩
  have C_ := Lib.hid (C.out.under b)
  have E_ := Lib.hid (E.out.under b)
  have R_ := Lib.hid (R.out.up b)
  have B_ := Lib.hid (B.out.trans (b.mono B.out.size))
  clear C E R B
  have C := C_
  have E := E_
  have R := R_
  have B := B_
  clear C_ E_ R_ B_
  clear b
  go_wp2_with fail
  go_ret
  exact ⟨rfl, B.out⟩

set_option maxRecDepth 100000 in
set_option maxHeartbeats 8000000 in
theorem tells_on (x : Cw) (e : Ev) (A : Option Addr) (n c : Nat) (A2 : Option Addr) (m c2 : Nat) (w : World) (hr : RdX w w.heap.size A n x.l) (ls : List Ev) (hq : RdE w w.heap.size A2 m ls) (hk0 : (Lit.int .u8 e.kind).wf = true) (hk : ∀ e ∈ ls, (Lit.int .u8 e.kind).wf = true) (hm : n ≤ 70) (h4 : m ≤ 40) :
    Calls Try.prog 3 #[.agg #[.slice A n c, .int .i64 x.fl, .int .i64 x.dr, .int .i64 x.nw, .bool x.tg], .agg #[.int .u8 e.kind, .int .i64 e.a, .int .i64 e.b], .slice A2 m c2] w (TruePost w) := by
  have two := whole_twoE (W := w) (t := 24) (u := 26) (x := #[.slice A n c, .int .i64 x.fl, .int .i64 x.dr, .int .i64 x.nw, .bool x.tg]) (y := #[.int .u8 e.kind, .int .i64 e.a, .int .i64 e.b])
  have C := Lib.hid two.1
  have E := Lib.hid two.2.1
  have R := Lib.hid (hr.up two.2.2)
  have B := Lib.hid two.2.2
  have QQ := Lib.hid (hq.up two.2.2)
  clear two hr
  have d0 : decide ((70 : Int) < (n : Int)) = false := decide_eq_false (by omega)
  have d1 : decide ((40 : Int) < (m : Int)) = false := decide_eq_false (by omega)
  have hlx := R.out.len
  have hlq := QQ.out.len
  obtain ⟨z, hz⟩ : ∃ z, evC x e = z := ⟨_, rfl⟩
  obtain ⟨v, hv⟩ : ∃ v, evsC x ls = v := ⟨_, rfl⟩
  obtain ⟨N, hN⟩ : ∃ N, z.l.length = N := ⟨_, rfl⟩
  obtain ⟨M, hM⟩ : ∃ M, v.l.length = M := ⟨_, rfl⟩
  have hN1 : N ≤ 1000 := by have := evC_len x e; rw [hz] at this; omega
  have hM1 : M ≤ 1000 := by have := evsC_len x ls; rw [hv] at this; omega
  have H1 := Lib.hid (fun W A c hr => evDoL (l := x.l) (fl := x.fl) (dr := x.dr) (nw := x.nw) (tg := x.tg) (k := e.kind) (a := e.a) (b := e.b) (n := n) (L := z.l) (fl' := z.fl) (dr' := z.dr) (nw' := z.nw) (tg' := z.tg) hz hN hk0 (by omega) W A c hr)
  have H2 := Lib.hid (fun W A c (hr : RdX W W.heap.size A n x.l) => refDo_any (x := x) (e := e) (w := W) (A := A) (n := n) (c := c) hr (by omega))
  rw [hz] at H2
  have H3 := Lib.hid (fun W A c B cl hr hl => evAllL (l := x.l) (fl := x.fl) (dr := x.dr) (nw := x.nw) (tg := x.tg) (n := n) (m := m) (es := ls) (L := v.l) (fl' := v.fl) (dr' := v.dr) (nw' := v.nw) (tg' := v.tg) hv hM hk (by omega) (by omega) W A c B cl hr hl)
  have H4 := Lib.hid (fun W A c B cl (hr : RdX W W.heap.size A n x.l) (hl : RdE W W.heap.size B m ls) => refAll_any (x := x) (w := W) (A := A) (n := n) (c := c) (cl := cl) hr (by omega) hl (by omega))
  rw [hv] at H4
  have HS1 := Lib.hid (fun W A c A' c' (N' : Nat) hr hr' => sameL2 (l := z.l) (l' := z.l) (fl := z.fl) (dr := z.dr) (nw := z.nw) (tg := z.tg) (fl' := z.fl) (dr' := z.dr) (nw' := z.nw) (tg' := z.tg) (n := N) (N := N') (b := true) (sameCw_refl (x := z)) hN1 W A c A' c' hr hr')
  have HS2 := Lib.hid (fun W A c A' c' (N' : Nat) hr hr' => sameL2 (l := v.l) (l' := v.l) (fl := v.fl) (dr := v.dr) (nw := v.nw) (tg := v.tg) (fl' := v.fl) (dr' := v.dr) (nw' := v.nw) (tg' := v.tg) (n := M) (N := N') (b := true) (sameCw_refl (x := v)) hM1 W A c A' c' hr hr')
  obtain ⟨f, hf⟩ : ∃ f, fallsB e = f := ⟨_, rfl⟩
  have H5 := Lib.hid (fun W => fallsL (k := e.kind) (a := e.a) (b := e.b) (f := f) hf W)
  have H6 := Lib.hid (fun W => refFalls_any e W)
  rw [hf] at H6
  have qf : (f == f) = true := by simp
  clear hlx hlq hz hv hN hM hN1 hM1 hk hk0 hm h4 hf hq
  go_enter Try.func3, Try.ntmps3
  have vC_0 := C.out.cell 0
  have vC_1 := C.out.cell 1
  have vC_2 := C.out.cell 2
  have vC_3 := C.out.cell 3
  have vC_4 := C.out.cell 4
  simp only [List.getElem?_toArray, List.getElem?_cons_zero, List.getElem?_cons_succ] at vC_0 vC_1 vC_2 vC_3 vC_4
  go_upto_region 3 with fail
  clear vC_0 vC_1 vC_2 vC_3 vC_4
  clear d0 d1
  obtain ⟨V, hV⟩ : ∃ V, (w.alloc (.cells #[.slice A n c, .int .i64 x.fl, .int .i64 x.dr, .int .i64 x.nw, .bool x.tg] 24)).alloc (.cells #[.int .u8 e.kind, .int .i64 e.a, .int .i64 e.b] 26) = V := ⟨_, rfl⟩
  rw [hV] at C E R QQ B ⊢
  clear hV
  have HC := Lib.hid ((Below.refl V.heap.size V).drew)
  have HL := Lib.hid (fun W (hW : Below V.heap.size V W) => And.intro (cells5 (C.out.under hW)) (EvIn.cells (e := e) (E.out.under hW)))
  have R_ := Lib.hid (R.out.up HC.out)
  have QQ_ := Lib.hid (QQ.out.up HC.out)
  clear R QQ
  have R := R_
  have QQ := QQ_
  clear R_ QQ_
  refine wp_region_held_drew (S := fun W => Below V.heap.size V W) (by kernel_rfl) HC.out (fun _ => ?_)
  refine takeH (i := 0) (v := ?_) rfl (by kernel_rfl) (by kernel_rfl) (by kernel_rfl) (fun _ _ _ h => h) (by rfl) ?_ HC.out ?_
  rotate_left
  · intro W hW; obtain ⟨⟨c0, c1, c3, c4, c5⟩, v0, v1, v2⟩ := HL.out W hW; go_simp <;> with_reducible rfl
  simp only [Act.put, List.setIfInBounds_toArray, List.set_cons_zero, List.set_cons_succ]
  refine takeH (i := 1) (v := ?_) rfl (by kernel_rfl) (by kernel_rfl) (by kernel_rfl) (fun _ _ _ h => h) (by rfl) ?_ HC.out ?_
  rotate_left
  · intro W hW; obtain ⟨⟨c0, c1, c3, c4, c5⟩, v0, v1, v2⟩ := HL.out W hW; go_simp <;> with_reducible rfl
  simp only [Act.put, List.setIfInBounds_toArray, List.set_cons_zero, List.set_cons_succ]
  refine takeH (i := 3) (v := ?_) rfl (by kernel_rfl) (by kernel_rfl) (by kernel_rfl) (fun _ _ _ h => h) (by rfl) ?_ HC.out ?_
  rotate_left
  · intro W hW; obtain ⟨⟨c0, c1, c3, c4, c5⟩, v0, v1, v2⟩ := HL.out W hW; go_simp <;> with_reducible rfl
  simp only [Act.put, List.setIfInBounds_toArray, List.set_cons_zero, List.set_cons_succ]
  refine takeH (i := 4) (v := ?_) rfl (by kernel_rfl) (by kernel_rfl) (by kernel_rfl) (fun _ _ _ h => h) (by rfl) ?_ HC.out ?_
  rotate_left
  · intro W hW; obtain ⟨⟨c0, c1, c3, c4, c5⟩, v0, v1, v2⟩ := HL.out W hW; go_simp <;> with_reducible rfl
  simp only [Act.put, List.setIfInBounds_toArray, List.set_cons_zero, List.set_cons_succ]
  refine oneH (i := 2) rfl (by kernel_rfl) (by rfl) (fun K hK => ?_)
  go_simp
  go_at_call 10
  refine (H1.out _ _ _ R.out).mono ?_
  rintro e9 y1 ⟨A3, c3, rfl, r9, b9⟩
  have R_ := Lib.hid (R.out.up b9)
  have QQ_ := Lib.hid (QQ.out.up b9)
  clear R QQ
  have R := R_
  have QQ := QQ_
  clear R_ QQ_
  have R3 := Lib.hid r9
  clear r9
  have HC2 := Lib.hid (HC.out.trans (b9.mono HC.out.size))
  clear HC b9
  have HC := HC2
  clear HC2
  refine hK.out _ _ HC.out (fun _ => ?_)
  clear hK K
  refine oneH (i := 5) rfl (by kernel_rfl) (by rfl) (fun K hK => ?_)
  go_simp
  go_at_call 11
  refine (H2.out _ _ _ R.out).mono ?_
  rintro e9 y2 ⟨A4, n4, c4, rfl, o9, b9⟩
  have r9 := RdX.of_own o9
  clear o9
  have R_ := Lib.hid (R.out.up b9)
  have QQ_ := Lib.hid (QQ.out.up b9)
  have R3_ := Lib.hid (R3.out.up b9)
  clear R QQ R3
  have R := R_
  have QQ := QQ_
  have R3 := R3_
  clear R_ QQ_ R3_
  have R4 := Lib.hid r9
  clear r9
  have HC2 := Lib.hid (HC.out.trans (b9.mono HC.out.size))
  clear HC b9
  have HC := HC2
  clear HC2
  refine hK.out _ _ HC.out (fun _ => ?_)
  clear hK K
  refine oneH (i := 6) rfl (by kernel_rfl) (by rfl) (fun K hK => ?_)
  go_simp
  go_at_call 9
  refine (HS1.out _ _ _ _ _ _ R3.out R4.out).mono ?_
  rintro e9 y3 ⟨rfl, b9⟩
  have R_ := Lib.hid (R.out.up b9)
  have QQ_ := Lib.hid (QQ.out.up b9)
  have R3_ := Lib.hid (R3.out.up b9)
  have R4_ := Lib.hid (R4.out.up b9)
  clear R QQ R3 R4
  have R := R_
  have QQ := QQ_
  have R3 := R3_
  have R4 := R4_
  clear R_ QQ_ R3_ R4_
  have HC2 := Lib.hid (HC.out.trans (b9.mono HC.out.size))
  clear HC b9
  have HC := HC2
  clear HC2
  refine hK.out _ _ HC.out (fun _ => ?_)
  clear hK K
  clear R3 R4 H1 H2 HS1
  refine takeH (i := 7) (v := ?_) rfl (by kernel_rfl) (by kernel_rfl) (by kernel_rfl) (fun _ _ _ h => h) (by rfl) ?_ HC.out ?_
  rotate_left
  · intro W hW; obtain ⟨⟨c0, c1, c3, c4, c5⟩, v0, v1, v2⟩ := HL.out W hW; go_simp <;> with_reducible rfl
  simp only [Act.put, List.setIfInBounds_toArray, List.set_cons_zero, List.set_cons_succ]
  refine takeH (i := 8) (v := ?_) rfl (by kernel_rfl) (by kernel_rfl) (by kernel_rfl) (fun _ _ _ h => h) (by rfl) ?_ HC.out ?_
  rotate_left
  · intro W hW; obtain ⟨⟨c0, c1, c3, c4, c5⟩, v0, v1, v2⟩ := HL.out W hW; go_simp <;> with_reducible rfl
  simp only [Act.put, List.setIfInBounds_toArray, List.set_cons_zero, List.set_cons_succ]
  refine takeH (i := 9) (v := ?_) rfl (by kernel_rfl) (by kernel_rfl) (by kernel_rfl) (fun _ _ _ h => h) (by rfl) ?_ HC.out ?_
  rotate_left
  · intro W hW; obtain ⟨⟨c0, c1, c3, c4, c5⟩, v0, v1, v2⟩ := HL.out W hW; go_simp <;> with_reducible rfl
  simp only [Act.put, List.setIfInBounds_toArray, List.set_cons_zero, List.set_cons_succ]
  refine takeH (i := 11) (v := ?_) rfl (by kernel_rfl) (by kernel_rfl) (by kernel_rfl) (fun _ _ _ h => h) (by rfl) ?_ HC.out ?_
  rotate_left
  · intro W hW; obtain ⟨⟨c0, c1, c3, c4, c5⟩, v0, v1, v2⟩ := HL.out W hW; go_simp <;> with_reducible rfl
  simp only [Act.put, List.setIfInBounds_toArray, List.set_cons_zero, List.set_cons_succ]
  refine takeH (i := 12) (v := ?_) rfl (by kernel_rfl) (by kernel_rfl) (by kernel_rfl) (fun _ _ _ h => h) (by rfl) ?_ HC.out ?_
  rotate_left
  · intro W hW; obtain ⟨⟨c0, c1, c3, c4, c5⟩, v0, v1, v2⟩ := HL.out W hW; go_simp <;> with_reducible rfl
  simp only [Act.put, List.setIfInBounds_toArray, List.set_cons_zero, List.set_cons_succ]
  refine oneH (i := 10) rfl (by kernel_rfl) (by rfl) (fun K hK => ?_)
  go_simp
  go_at_call 12
  refine (H3.out _ _ _ _ _ R.out QQ.out).mono ?_
  rintro e9 y4 ⟨A5, c5, rfl, r9, b9⟩
  have R_ := Lib.hid (R.out.up b9)
  have QQ_ := Lib.hid (QQ.out.up b9)
  clear R QQ
  have R := R_
  have QQ := QQ_
  clear R_ QQ_
  have R5 := Lib.hid r9
  clear r9
  have HC2 := Lib.hid (HC.out.trans (b9.mono HC.out.size))
  clear HC b9
  have HC := HC2
  clear HC2
  refine hK.out _ _ HC.out (fun _ => ?_)
  clear hK K
  refine oneH (i := 13) rfl (by kernel_rfl) (by rfl) (fun K hK => ?_)
  go_simp
  go_at_call 13
  refine (H4.out _ _ _ _ _ R.out QQ.out).mono ?_
  rintro e9 y5 ⟨A6, n6, c6, rfl, o9, b9⟩
  have r9 := RdX.of_own o9
  clear o9
  have R_ := Lib.hid (R.out.up b9)
  have QQ_ := Lib.hid (QQ.out.up b9)
  have R5_ := Lib.hid (R5.out.up b9)
  clear R QQ R5
  have R := R_
  have QQ := QQ_
  have R5 := R5_
  clear R_ QQ_ R5_
  have R6 := Lib.hid r9
  clear r9
  have HC2 := Lib.hid (HC.out.trans (b9.mono HC.out.size))
  clear HC b9
  have HC := HC2
  clear HC2
  refine hK.out _ _ HC.out (fun _ => ?_)
  clear hK K
  refine oneH (i := 14) rfl (by kernel_rfl) (by rfl) (fun K hK => ?_)
  go_simp
  go_at_call 9
  refine (HS2.out _ _ _ _ _ _ R5.out R6.out).mono ?_
  rintro e9 y6 ⟨rfl, b9⟩
  have R_ := Lib.hid (R.out.up b9)
  have QQ_ := Lib.hid (QQ.out.up b9)
  have R5_ := Lib.hid (R5.out.up b9)
  have R6_ := Lib.hid (R6.out.up b9)
  clear R QQ R5 R6
  have R := R_
  have QQ := QQ_
  have R5 := R5_
  have R6 := R6_
  clear R_ QQ_ R5_ R6_
  have HC2 := Lib.hid (HC.out.trans (b9.mono HC.out.size))
  clear HC b9
  have HC := HC2
  clear HC2
  refine hK.out _ _ HC.out (fun _ => ?_)
  clear hK K
  clear R5 R6 H3 H4 HS2 R QQ
  refine takeH (i := 15) (v := ?_) rfl (by kernel_rfl) (by kernel_rfl) (by kernel_rfl) (fun _ _ _ h => h) (by rfl) ?_ HC.out ?_
  rotate_left
  · intro W hW; obtain ⟨⟨c0, c1, c3, c4, c5⟩, v0, v1, v2⟩ := HL.out W hW; go_simp <;> with_reducible rfl
  simp only [Act.put, List.setIfInBounds_toArray, List.set_cons_zero, List.set_cons_succ]
  refine takeH (i := 16) (v := ?_) rfl (by kernel_rfl) (by kernel_rfl) (by kernel_rfl) (fun _ _ _ h => h) (by rfl) ?_ HC.out ?_
  rotate_left
  · intro W hW; obtain ⟨⟨c0, c1, c3, c4, c5⟩, v0, v1, v2⟩ := HL.out W hW; go_simp <;> with_reducible rfl
  simp only [Act.put, List.setIfInBounds_toArray, List.set_cons_zero, List.set_cons_succ]
  refine takeH (i := 17) (v := ?_) rfl (by kernel_rfl) (by kernel_rfl) (by kernel_rfl) (fun _ _ _ h => h) (by rfl) ?_ HC.out ?_
  rotate_left
  · intro W hW; obtain ⟨⟨c0, c1, c3, c4, c5⟩, v0, v1, v2⟩ := HL.out W hW; go_simp <;> with_reducible rfl
  simp only [Act.put, List.setIfInBounds_toArray, List.set_cons_zero, List.set_cons_succ]
  refine takeH (i := 19) (v := ?_) rfl (by kernel_rfl) (by kernel_rfl) (by kernel_rfl) (fun _ _ _ h => h) (by rfl) ?_ HC.out ?_
  rotate_left
  · intro W hW; obtain ⟨⟨c0, c1, c3, c4, c5⟩, v0, v1, v2⟩ := HL.out W hW; go_simp <;> with_reducible rfl
  simp only [Act.put, List.setIfInBounds_toArray, List.set_cons_zero, List.set_cons_succ]
  refine oneH (i := 18) rfl (by kernel_rfl) (by rfl) (fun K hK => ?_)
  go_simp
  go_at_call 14
  refine (H5.out _).mono ?_
  rintro e9 y7 ⟨rfl, b9⟩
  have HC2 := Lib.hid (HC.out.trans (b9.mono HC.out.size))
  clear HC b9
  have HC := HC2
  clear HC2
  refine hK.out _ _ HC.out (fun _ => ?_)
  clear hK K
  refine oneH (i := 20) rfl (by kernel_rfl) (by rfl) (fun K hK => ?_)
  go_simp
  go_at_call 15
  refine (H6.out _).mono ?_
  rintro e9 y8 ⟨rfl, b9⟩
  have HC2 := Lib.hid (HC.out.trans (b9.mono HC.out.size))
  clear HC b9
  have HC := HC2
  clear HC2
  refine hK.out _ _ HC.out (fun _ => ?_)
  clear hK K
  refine takeH (i := 21) (v := ?_) rfl (by kernel_rfl) (by kernel_rfl) (by kernel_rfl) (fun _ _ _ h => h) (by rfl) ?_ HC.out ?_
  rotate_left
  · intro W hW; obtain ⟨⟨c0, c1, c3, c4, c5⟩, v0, v1, v2⟩ := HL.out W hW; go_simp <;> with_reducible rfl
  simp only [Act.put, List.setIfInBounds_toArray, List.set_cons_zero, List.set_cons_succ]
  refine takeH (i := 22) (v := ?_) rfl (by kernel_rfl) (by kernel_rfl) (by kernel_rfl) (fun _ _ _ h => h) (by rfl) ?_ HC.out ?_
  rotate_left
  · intro W hW; obtain ⟨⟨c0, c1, c3, c4, c5⟩, v0, v1, v2⟩ := HL.out W hW; go_simp <;> with_reducible rfl
  simp only [Act.put, List.setIfInBounds_toArray, List.set_cons_zero, List.set_cons_succ]
  refine takeH (i := 23) (v := ?_) rfl (by kernel_rfl) (by kernel_rfl) (by kernel_rfl) (fun _ _ _ h => h) (by rfl) ?_ HC.out ?_
  rotate_left
  · intro W hW; obtain ⟨⟨c0, c1, c3, c4, c5⟩, v0, v1, v2⟩ := HL.out W hW; go_simp <;> with_reducible rfl
  simp only [Act.put, List.setIfInBounds_toArray, List.set_cons_zero, List.set_cons_succ]
  refine oneH (i := 24) rfl (by kernel_rfl) (by rfl) (fun K hK => ?_)
  go_simp
  go_at_call 8
  refine (evWakes_any _).mono ?_
  rintro e9 y9 ⟨rfl, b9⟩
  have HC2 := Lib.hid (HC.out.trans (b9.mono HC.out.size))
  clear HC b9
  have HC := HC2
  clear HC2
  refine hK.out _ _ HC.out (fun _ => ?_)
  clear hK K
  refine takeH (i := 25) (v := ?_) rfl (by kernel_rfl) (by kernel_rfl) (by kernel_rfl) (fun _ _ _ h => h) (by rfl) ?_ HC.out ?_
  rotate_left
  · intro W hW; obtain ⟨⟨c0, c1, c3, c4, c5⟩, v0, v1, v2⟩ := HL.out W hW; go_simp <;> with_reducible rfl
  simp only [Act.put, List.setIfInBounds_toArray, List.set_cons_zero, List.set_cons_succ]
  refine takeH (i := 26) (v := ?_) rfl (by kernel_rfl) (by kernel_rfl) (by kernel_rfl) (fun _ _ _ h => h) (by rfl) ?_ HC.out ?_
  rotate_left
  · intro W hW; obtain ⟨⟨c0, c1, c3, c4, c5⟩, v0, v1, v2⟩ := HL.out W hW; go_simp <;> with_reducible rfl
  simp only [Act.put, List.setIfInBounds_toArray, List.set_cons_zero, List.set_cons_succ]
  refine wpAnyH_done (by kernel_rfl) ?_ _
  have HB9 := Lib.hid (B.out.trans (HC.out.mono B.out.size))
  clear HC HL C E B qf
  go_wp2_with fail
  go_ret
  exact ⟨rfl, HB9.out⟩

theorem eventTells_any (x : Cw) (e : Ev) (ls : List Ev) (A : Option Addr) (n c : Nat) (A2 : Option Addr) (m c2 : Nat) (w : World) (hr : RdX w w.heap.size A n x.l) (hq : RdE w w.heap.size A2 m ls) (hk0 : (Lit.int .u8 e.kind).wf = true) (hk : ∀ e ∈ ls, (Lit.int .u8 e.kind).wf = true) :
    Calls Try.prog 3 #[.agg #[.slice A n c, .int .i64 x.fl, .int .i64 x.dr, .int .i64 x.nw, .bool x.tg], .agg #[.int .u8 e.kind, .int .i64 e.a, .int .i64 e.b], .slice A2 m c2] w (TruePost w) := by
  by_cases hm : (70 : Int) < (n : Int)
  · exact tells_great x e A n c A2 m c2 w hr hm
  · by_cases h4 : (40 : Int) < (m : Int)
    · exact tells_long x e A n c A2 m c2 w hr hm h4
    · exact tells_on x e A n c A2 m c2 w hr ls hq hk0 hk (by omega) (by omega)

end Go.Proofs.Ytoiegffnmjlkdaa
