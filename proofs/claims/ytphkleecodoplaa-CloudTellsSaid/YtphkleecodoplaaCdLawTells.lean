/-
  The walk of the statement CloudTells: what is done to clouds, and told of them, is as the document's own answers tell. Conditions: those that each theorem names.
-/
import Derived.Test.YtphkleecodoplaaCdRefDo5
import Derived.Test.YtphkleecodoplaaCdRefDo7
import Derived.Test.YtphkleecodoplaaCdRefDo8
import Derived.Test.YtphkleecodoplaaHand
import Derived.BigQuiet
import Derived.Deep.DeepCutAuto
namespace Go.Proofs.Ytphkleecodoplaa
open Go.RowKit Go.Shelf

section
variable {x : Cw} {q : Ak} {A : Option Addr} {n c : Nat} {w : World}
theorem rdo_any (hr : RdX w w.heap.size A n x.l) (hn : n ≤ 1000) :
    Calls Try.prog 10 #[.agg #[.slice A n c, .int .i64 x.fl, .int .i64 x.dr, .int .i64 x.nw, .bool x.tg], .agg #[.int .u8 q.kind, .int .i64 q.call, .int .i64 q.a, .int .i64 q.b, .int .i64 q.c, .int .i64 q.d]] w (DoPost x q (doP x q).1 (doP x q).2.1 (doP x q).2.2 w) := by
  cases hR : right x with
  | false =>
    by_cases hk1 : q.kind = 1
    · rw [show doP x q = (x.l, 3, 0) by rw [doP, hR, if_neg (by simp), if_pos hk1]]
      exact rdo_bad1 hr hn hR hk1
    · rw [show doP x q = (x.l, 3, q.a) by rw [doP, hR, if_neg (by simp), if_neg hk1]]
      exact rdo_bad hr hn hR hk1
  | true =>
    by_cases hk1 : q.kind = 1
    · rw [launch_none hR hk1]
      exact rdo_1 hr hn hR hk1 rfl
    · by_cases hko : q.kind = 2 ∨ q.kind = 3 ∨ q.kind = 4 ∨ q.kind = 5 ∨ q.kind = 6
      · rw [doP_one hR hko]
        exact rdo_k hr hn hR hk1 hko rfl
      · rw [show doP x q = (x.l, 3, q.a) by rw [doP, hR, if_pos rfl, if_neg hk1, if_neg hko]]
        exact rdo_other hr hn hR hk1 hko

end

section
variable {l l' L : List Bx} {fl dr nw fl' dr' nw' : Int} {tg tg' : Bool} {q : Ak} {n N : Nat}
theorem rdoL {K I : Int} (h : doP ⟨l, fl, dr, nw, tg⟩ q = (L, K, I)) (hN : L.length = N) (hn : n ≤ 1000) (W : World) (A : Option Addr) (c : Nat) (hr : RdX W W.heap.size A n l) :
    Calls Try.prog 10 #[.agg #[.slice A n c, .int .i64 fl, .int .i64 dr, .int .i64 nw, .bool tg], .agg #[.int .u8 q.kind, .int .i64 q.call, .int .i64 q.a, .int .i64 q.b, .int .i64 q.c, .int .i64 q.d]] W fun e w' =>
      ∃ A' c', e = .returned (.tuple #[.agg #[.slice A' N c', .int .i64 fl, .int .i64 dr, .int .i64 nw, .bool tg], .agg #[.int .i64 q.call, .int .u8 q.kind, .int .u8 K, .int .i64 I, .slice none 0 0, .bool false]]) ∧ RdX w' w'.heap.size A' N L ∧ Below W.heap.size W w' := by
  have hd := rdo_any (x := ⟨l, fl, dr, nw, tg⟩) (q := q) (w := W) (c := c) hr hn
  rw [h] at hd
  refine hd.mono ?_
  rintro e w' ⟨A', m, c', rfl, h2, h3⟩
  obtain rfl : m = N := by rw [← hN]; exact h2.len.symm
  exact ⟨A', c', rfl, h2, h3⟩
theorem crightL {b : Bool} (h : right ⟨l, fl, dr, nw, tg⟩ = b) (W : World) (A : Option Addr) (c : Nat) (hr : RdX W W.heap.size A n l) :
    Calls Try.prog 13 #[.agg #[.slice A n c, .int .i64 fl, .int .i64 dr, .int .i64 nw, .bool tg]] W (BoolPost b W) := h ▸ right_any A n c ⟨l, fl, dr, nw, tg⟩ W.heap.size W hr (Nat.le_refl _)
theorem csameL {b : Bool} (h : sameCw ⟨l, fl, dr, nw, tg⟩ ⟨l', fl', dr', nw', tg'⟩ = b) (hn : n ≤ 1000) (W : World) (A : Option Addr) (c : Nat) (A' : Option Addr) (c' : Nat) (hr : RdX W W.heap.size A n l) (hr' : RdX W W.heap.size A' N l') :
    Calls Try.prog 21 #[.agg #[.slice A n c, .int .i64 fl, .int .i64 dr, .int .i64 nw, .bool tg], .agg #[.slice A' N c', .int .i64 fl', .int .i64 dr', .int .i64 nw', .bool tg']] W (BoolPost b W) :=
  h ▸ same_any A A' n c N c' ⟨l, fl, dr, nw, tg⟩ ⟨l', fl', dr', nw', tg'⟩ W.heap.size W.heap.size W hr hr' (Nat.le_refl _) (Nat.le_refl _) hn
theorem rsameL {b : Bool} (h : sameCw ⟨l, fl, dr, nw, tg⟩ ⟨l', fl', dr', nw', tg'⟩ = b) (hn : n ≤ 1000) (W : World) (A : Option Addr) (c : Nat) (A' : Option Addr) (c' : Nat) (hr : RdX W W.heap.size A n l) (hr' : RdX W W.heap.size A' N l') :
    Calls Try.prog 11 #[.agg #[.slice A n c, .int .i64 fl, .int .i64 dr, .int .i64 nw, .bool tg], .agg #[.slice A' N c', .int .i64 fl', .int .i64 dr', .int .i64 nw', .bool tg']] W (BoolPost b W) :=
  h ▸ refSame_any A A' n c N c' ⟨l, fl, dr, nw, tg⟩ ⟨l', fl', dr', nw', tg'⟩ W.heap.size W.heap.size W hr hr' (Nat.le_refl _) (Nat.le_refl _) hn
theorem cfindL {r : Int} {id : Int} (h : placeI (find l id) = r) (hn : n ≤ 1000) (W : World) (A : Option Addr) (c : Nat) (hr : RdX W W.heap.size A n l) :
    Calls Try.prog 17 #[.agg #[.slice A n c, .int .i64 fl, .int .i64 dr, .int .i64 nw, .bool tg], .int .i64 id] W fun e w' => e = .returned (.int .i64 r) ∧ Below W.heap.size W w' :=
  h ▸ find_any A n c ⟨l, fl, dr, nw, tg⟩ id W.heap.size W hr (Nat.le_refl _) hn
theorem cownL (hn : n ≤ 1000) (W : World) (A : Option Addr) (c : Nat) (hr : RdX W W.heap.size A n l) :
    Calls Try.prog 22 #[.agg #[.slice A n c, .int .i64 fl, .int .i64 dr, .int .i64 nw, .bool tg]] W fun e w' =>
      ∃ A' c', e = .returned (.agg #[.slice A' n c', .int .i64 fl, .int .i64 dr, .int .i64 nw, .bool tg]) ∧ RdX w' w'.heap.size A' n l ∧ Below W.heap.size W w' := by
  refine (own_anyX A n c ⟨l, fl, dr, nw, tg⟩ W.heap.size W hr (Nat.le_refl _) hn).mono ?_
  rintro e w' ⟨A', c', rfl, h2, h3⟩
  exact ⟨A', c', rfl, RdX.of_own h2, h3⟩
end
theorem grows_do (x : Cw) (q : Ak) : (doP x q).1.length ≤ x.l.length + 1 := (grows (did x q)).2

set_option maxRecDepth 100000 in
set_option maxHeartbeats 16000000 in
theorem tells_long1 (x y : Cw) (q p : Ak) (id : Int) (A : Option Addr) (n c : Nat) (B : Option Addr) (m d : Nat) (w : World) (hr : RdX w w.heap.size A n x.l) (hr' : RdX w w.heap.size B m y.l) (hn : ¬ n ≤ 70) :
    Calls Try.prog 3 #[.agg #[.slice A n c, .int .i64 x.fl, .int .i64 x.dr, .int .i64 x.nw, .bool x.tg], .agg #[.slice B m d, .int .i64 y.fl, .int .i64 y.dr, .int .i64 y.nw, .bool y.tg], .agg #[.int .u8 q.kind, .int .i64 q.call, .int .i64 q.a, .int .i64 q.b, .int .i64 q.c, .int .i64 q.d], .agg #[.int .u8 p.kind, .int .i64 p.call, .int .i64 p.a, .int .i64 p.b, .int .i64 p.c, .int .i64 p.d], .int .i64 id] w (TruePost w) := by
  have two := whole_two (W := w) (t := 24) (u := 24) (x := #[.slice A n c, .int .i64 x.fl, .int .i64 x.dr, .int .i64 x.nw, .bool x.tg]) (y := #[.slice B m d, .int .i64 y.fl, .int .i64 y.dr, .int .i64 y.nw, .bool y.tg])
  have tw2 := whole_two (W := (w.alloc (.cells #[.slice A n c, .int .i64 x.fl, .int .i64 x.dr, .int .i64 x.nw, .bool x.tg] 24)).alloc (.cells #[.slice B m d, .int .i64 y.fl, .int .i64 y.dr, .int .i64 y.nw, .bool y.tg] 24)) (t := 26) (u := 26) (x := #[.int .u8 q.kind, .int .i64 q.call, .int .i64 q.a, .int .i64 q.b, .int .i64 q.c, .int .i64 q.d]) (y := #[.int .u8 p.kind, .int .i64 p.call, .int .i64 p.a, .int .i64 p.b, .int .i64 p.c, .int .i64 p.d])
  obtain ⟨V, hV⟩ : ∃ V, ((((w.alloc (.cells #[.slice A n c, .int .i64 x.fl, .int .i64 x.dr, .int .i64 x.nw, .bool x.tg] 24)).alloc (.cells #[.slice B m d, .int .i64 y.fl, .int .i64 y.dr, .int .i64 y.nw, .bool y.tg] 24)).alloc (.cells #[.int .u8 q.kind, .int .i64 q.call, .int .i64 q.a, .int .i64 q.b, .int .i64 q.c, .int .i64 q.d] 26)).alloc (.cells #[.int .u8 p.kind, .int .i64 p.call, .int .i64 p.a, .int .i64 p.b, .int .i64 p.c, .int .i64 p.d] 26)) = V := ⟨_, rfl⟩
  rw [hV] at tw2
  have C := Lib.hid (two.1.under tw2.2.2)
  have D := Lib.hid (two.2.1.under tw2.2.2)
  have Q := Lib.hid (show Whole V (w.heap.size + 1 + 1) 26 #[.int .u8 q.kind, .int .i64 q.call, .int .i64 q.a, .int .i64 q.b, .int .i64 q.c, .int .i64 q.d] from by have := tw2.1; rwa [World.size_alloc, World.size_alloc] at this)
  have P := Lib.hid (show Whole V (w.heap.size + 1 + 1 + 1) 26 #[.int .u8 p.kind, .int .i64 p.call, .int .i64 p.a, .int .i64 p.b, .int .i64 p.c, .int .i64 p.d] from by have := tw2.2.1; rwa [World.size_alloc, World.size_alloc] at this)
  have BB := Lib.hid (two.2.2.trans (tw2.2.2.mono two.2.2.size))
  have R := Lib.hid (hr.up BB.out)
  have S := Lib.hid (hr'.up BB.out)
  clear two tw2 hr hr'
  have d1 : decide ((70 : Int) < (n : Int)) = true := decide_eq_true (by omega)
  clear hn
  skip
  go_enter Try.func3, Try.ntmps3
  have vC_0 := C.out.cell 0
  simp only [List.getElem?_toArray, List.getElem?_cons_zero] at vC_0
  have vD_0 := D.out.cell 0
  simp only [List.getElem?_toArray, List.getElem?_cons_zero] at vD_0
  go_wp2_with fail
  refine (wakes_any _).mono ?_
  rintro e y1 ⟨rfl, b⟩
  clear vC_0 vD_0
  have C_ := Lib.hid (C.out.under b)
  have D_ := Lib.hid (D.out.under b)
  have Q_ := Lib.hid (Q.out.under b)
  have P_ := Lib.hid (P.out.under b)
  have BB_ := Lib.hid (BB.out.trans (b.mono BB.out.size))
  have R_ := Lib.hid (R.out.up b)
  have S_ := Lib.hid (S.out.up b)
  clear C D Q P BB R S
  have C := C_
  have D := D_
  have Q := Q_
  have P := P_
  have BB := BB_
  have R := R_
  have S := S_
  clear C_ D_ Q_ P_ BB_ R_ S_
  go_wp2_with fail
  go_ret
  exact ⟨rfl, BB.out⟩

set_option maxRecDepth 100000 in
set_option maxHeartbeats 16000000 in
theorem tells_long2 (x y : Cw) (q p : Ak) (id : Int) (A : Option Addr) (n c : Nat) (B : Option Addr) (m d : Nat) (w : World) (hr : RdX w w.heap.size A n x.l) (hr' : RdX w w.heap.size B m y.l) (hn : n ≤ 70) (hm : ¬ m ≤ 70) :
    Calls Try.prog 3 #[.agg #[.slice A n c, .int .i64 x.fl, .int .i64 x.dr, .int .i64 x.nw, .bool x.tg], .agg #[.slice B m d, .int .i64 y.fl, .int .i64 y.dr, .int .i64 y.nw, .bool y.tg], .agg #[.int .u8 q.kind, .int .i64 q.call, .int .i64 q.a, .int .i64 q.b, .int .i64 q.c, .int .i64 q.d], .agg #[.int .u8 p.kind, .int .i64 p.call, .int .i64 p.a, .int .i64 p.b, .int .i64 p.c, .int .i64 p.d], .int .i64 id] w (TruePost w) := by
  have two := whole_two (W := w) (t := 24) (u := 24) (x := #[.slice A n c, .int .i64 x.fl, .int .i64 x.dr, .int .i64 x.nw, .bool x.tg]) (y := #[.slice B m d, .int .i64 y.fl, .int .i64 y.dr, .int .i64 y.nw, .bool y.tg])
  have tw2 := whole_two (W := (w.alloc (.cells #[.slice A n c, .int .i64 x.fl, .int .i64 x.dr, .int .i64 x.nw, .bool x.tg] 24)).alloc (.cells #[.slice B m d, .int .i64 y.fl, .int .i64 y.dr, .int .i64 y.nw, .bool y.tg] 24)) (t := 26) (u := 26) (x := #[.int .u8 q.kind, .int .i64 q.call, .int .i64 q.a, .int .i64 q.b, .int .i64 q.c, .int .i64 q.d]) (y := #[.int .u8 p.kind, .int .i64 p.call, .int .i64 p.a, .int .i64 p.b, .int .i64 p.c, .int .i64 p.d])
  obtain ⟨V, hV⟩ : ∃ V, ((((w.alloc (.cells #[.slice A n c, .int .i64 x.fl, .int .i64 x.dr, .int .i64 x.nw, .bool x.tg] 24)).alloc (.cells #[.slice B m d, .int .i64 y.fl, .int .i64 y.dr, .int .i64 y.nw, .bool y.tg] 24)).alloc (.cells #[.int .u8 q.kind, .int .i64 q.call, .int .i64 q.a, .int .i64 q.b, .int .i64 q.c, .int .i64 q.d] 26)).alloc (.cells #[.int .u8 p.kind, .int .i64 p.call, .int .i64 p.a, .int .i64 p.b, .int .i64 p.c, .int .i64 p.d] 26)) = V := ⟨_, rfl⟩
  rw [hV] at tw2
  have C := Lib.hid (two.1.under tw2.2.2)
  have D := Lib.hid (two.2.1.under tw2.2.2)
  have Q := Lib.hid (show Whole V (w.heap.size + 1 + 1) 26 #[.int .u8 q.kind, .int .i64 q.call, .int .i64 q.a, .int .i64 q.b, .int .i64 q.c, .int .i64 q.d] from by have := tw2.1; rwa [World.size_alloc, World.size_alloc] at this)
  have P := Lib.hid (show Whole V (w.heap.size + 1 + 1 + 1) 26 #[.int .u8 p.kind, .int .i64 p.call, .int .i64 p.a, .int .i64 p.b, .int .i64 p.c, .int .i64 p.d] from by have := tw2.2.1; rwa [World.size_alloc, World.size_alloc] at this)
  have BB := Lib.hid (two.2.2.trans (tw2.2.2.mono two.2.2.size))
  have R := Lib.hid (hr.up BB.out)
  have S := Lib.hid (hr'.up BB.out)
  clear two tw2 hr hr'
  have d1 : decide ((70 : Int) < (n : Int)) = false := decide_eq_false (by omega)
  have d2 : decide ((70 : Int) < (m : Int)) = true := decide_eq_true (by omega)
  clear hn hm
  skip
  go_enter Try.func3, Try.ntmps3
  have vC_0 := C.out.cell 0
  simp only [List.getElem?_toArray, List.getElem?_cons_zero] at vC_0
  have vD_0 := D.out.cell 0
  simp only [List.getElem?_toArray, List.getElem?_cons_zero] at vD_0
  go_wp2_with fail
  refine (wakes_any _).mono ?_
  rintro e y1 ⟨rfl, b⟩
  clear vC_0 vD_0
  have C_ := Lib.hid (C.out.under b)
  have D_ := Lib.hid (D.out.under b)
  have Q_ := Lib.hid (Q.out.under b)
  have P_ := Lib.hid (P.out.under b)
  have BB_ := Lib.hid (BB.out.trans (b.mono BB.out.size))
  have R_ := Lib.hid (R.out.up b)
  have S_ := Lib.hid (S.out.up b)
  clear C D Q P BB R S
  have C := C_
  have D := D_
  have Q := Q_
  have P := P_
  have BB := BB_
  have R := R_
  have S := S_
  clear C_ D_ Q_ P_ BB_ R_ S_
  go_wp2_with fail
  go_ret
  exact ⟨rfl, BB.out⟩

set_option maxRecDepth 100000 in
set_option maxHeartbeats 16000000 in
theorem tells_ok (x y : Cw) (q p : Ak) (id : Int) (A : Option Addr) (n c : Nat) (B : Option Addr) (m d : Nat) (w : World) (hr : RdX w w.heap.size A n x.l) (hr' : RdX w w.heap.size B m y.l) (hn : n ≤ 70) (hm : m ≤ 70) {L1 L2 : List Bx} {K1 I1 K2 I2 : Int} {N1 N2 : Nat} (hk : (Lit.int .u8 q.kind).wf = true) (hkp : (Lit.int .u8 p.kind).wf = true) (h1 : doP x q = (L1, K1, I1)) (hN1 : L1.length = N1) (h2 : doP ⟨L1, x.fl, x.dr, x.nw, x.tg⟩ p = (L2, K2, I2)) (hN2 : L2.length = N2) :
    Calls Try.prog 3 #[.agg #[.slice A n c, .int .i64 x.fl, .int .i64 x.dr, .int .i64 x.nw, .bool x.tg], .agg #[.slice B m d, .int .i64 y.fl, .int .i64 y.dr, .int .i64 y.nw, .bool y.tg], .agg #[.int .u8 q.kind, .int .i64 q.call, .int .i64 q.a, .int .i64 q.b, .int .i64 q.c, .int .i64 q.d], .agg #[.int .u8 p.kind, .int .i64 p.call, .int .i64 p.a, .int .i64 p.b, .int .i64 p.c, .int .i64 p.d], .int .i64 id] w (TruePost w) := by
  have hl := hr.len
  have g1 := grows_do x q
  rw [h1] at g1
  have g2 := grows_do ⟨L1, x.fl, x.dr, x.nw, x.tg⟩ p
  rw [h2] at g2
  dsimp only at g1 g2
  have hNa : N1 ≤ 71 := by omega
  have hNb : N2 ≤ 72 := by omega
  have two := whole_two (W := w) (t := 24) (u := 24) (x := #[.slice A n c, .int .i64 x.fl, .int .i64 x.dr, .int .i64 x.nw, .bool x.tg]) (y := #[.slice B m d, .int .i64 y.fl, .int .i64 y.dr, .int .i64 y.nw, .bool y.tg])
  have tw2 := whole_two (W := (w.alloc (.cells #[.slice A n c, .int .i64 x.fl, .int .i64 x.dr, .int .i64 x.nw, .bool x.tg] 24)).alloc (.cells #[.slice B m d, .int .i64 y.fl, .int .i64 y.dr, .int .i64 y.nw, .bool y.tg] 24)) (t := 26) (u := 26) (x := #[.int .u8 q.kind, .int .i64 q.call, .int .i64 q.a, .int .i64 q.b, .int .i64 q.c, .int .i64 q.d]) (y := #[.int .u8 p.kind, .int .i64 p.call, .int .i64 p.a, .int .i64 p.b, .int .i64 p.c, .int .i64 p.d])
  obtain ⟨V, hV⟩ : ∃ V, ((((w.alloc (.cells #[.slice A n c, .int .i64 x.fl, .int .i64 x.dr, .int .i64 x.nw, .bool x.tg] 24)).alloc (.cells #[.slice B m d, .int .i64 y.fl, .int .i64 y.dr, .int .i64 y.nw, .bool y.tg] 24)).alloc (.cells #[.int .u8 q.kind, .int .i64 q.call, .int .i64 q.a, .int .i64 q.b, .int .i64 q.c, .int .i64 q.d] 26)).alloc (.cells #[.int .u8 p.kind, .int .i64 p.call, .int .i64 p.a, .int .i64 p.b, .int .i64 p.c, .int .i64 p.d] 26)) = V := ⟨_, rfl⟩
  rw [hV] at tw2
  have C := Lib.hid (two.1.under tw2.2.2)
  have D := Lib.hid (two.2.1.under tw2.2.2)
  have Q := Lib.hid (show Whole V (w.heap.size + 1 + 1) 26 #[.int .u8 q.kind, .int .i64 q.call, .int .i64 q.a, .int .i64 q.b, .int .i64 q.c, .int .i64 q.d] from by have := tw2.1; rwa [World.size_alloc, World.size_alloc] at this)
  have P := Lib.hid (show Whole V (w.heap.size + 1 + 1 + 1) 26 #[.int .u8 p.kind, .int .i64 p.call, .int .i64 p.a, .int .i64 p.b, .int .i64 p.c, .int .i64 p.d] from by have := tw2.2.1; rwa [World.size_alloc, World.size_alloc] at this)
  have BB := Lib.hid (two.2.2.trans (tw2.2.2.mono two.2.2.size))
  have R := Lib.hid (hr.up BB.out)
  have S := Lib.hid (hr'.up BB.out)
  clear two tw2 hr hr'
  obtain ⟨RB, hRB⟩ : ∃ RB, right x = RB := ⟨_, rfl⟩
  obtain ⟨h0, hh0⟩ : ∃ h0 : Int, (hN x.l : Int) = h0 := ⟨_, rfl⟩
  obtain ⟨r, hrr⟩ : ∃ r, placeI (find x.l id) = r := ⟨_, rfl⟩
  obtain ⟨sb, hsb⟩ : ∃ sb, sameCw x y = sb := ⟨_, rfl⟩
  obtain ⟨sc, hsc⟩ : ∃ sc, sameCw ⟨L1, x.fl, x.dr, x.nw, x.tg⟩ ⟨L2, x.fl, x.dr, x.nw, x.tg⟩ = sc := ⟨_, rfl⟩
  have HD1 := Lib.hid (fun W A c hr => doL (l := x.l) (fl := x.fl) (dr := x.dr) (nw := x.nw) (tg := x.tg) (n := n) h1 hN1 hk (by omega) W A c hr)
  have HE1 := Lib.hid (fun W A c hr => rdoL (l := x.l) (fl := x.fl) (dr := x.dr) (nw := x.nw) (tg := x.tg) (n := n) h1 hN1 (by omega) W A c hr)
  have HS1 := Lib.hid (fun W A c A' c' hr hr' => sameL (l := L1) (l' := L1) (fl := x.fl) (dr := x.dr) (nw := x.nw) (tg := x.tg) (n := N1) (N := N1) (sameCw_eq rfl) (by omega) W A c A' c' hr hr')
  have HD2 := Lib.hid (fun W A c hr => doL (l := L1) (fl := x.fl) (dr := x.dr) (nw := x.nw) (tg := x.tg) (n := N1) h2 hN2 hkp (by omega) W A c hr)
  have HE2 := Lib.hid (fun W A c hr => rdoL (l := L1) (fl := x.fl) (dr := x.dr) (nw := x.nw) (tg := x.tg) (n := N1) h2 hN2 (by omega) W A c hr)
  have HS2 := Lib.hid (fun W A c A' c' hr hr' => sameL (l := L2) (l' := L2) (fl := x.fl) (dr := x.dr) (nw := x.nw) (tg := x.tg) (n := N2) (N := N2) (sameCw_eq rfl) (by omega) W A c A' c' hr hr')
  have HR1 := Lib.hid (crightL (l := x.l) (fl := x.fl) (dr := x.dr) (nw := x.nw) (tg := x.tg) (n := n) hRB)
  have HR2 := Lib.hid (rightL (l := x.l) (fl := x.fl) (dr := x.dr) (nw := x.nw) (tg := x.tg) (n := n) hRB)
  have HH1 := Lib.hid (fun W A c hr => hL (l := x.l) (fl := x.fl) (dr := x.dr) (nw := x.nw) (tg := x.tg) (n := n) hh0 (by omega) W A c hr)
  have HH2 := Lib.hid (fun W A c hr => rhL (l := x.l) (fl := x.fl) (dr := x.dr) (nw := x.nw) (tg := x.tg) (n := n) hh0 (by omega) W A c hr)
  have HF1 := Lib.hid (fun W A c hr => cfindL (l := x.l) (fl := x.fl) (dr := x.dr) (nw := x.nw) (tg := x.tg) (n := n) (id := id) hrr (by omega) W A c hr)
  have HF2 := Lib.hid (fun W A c hr => findL (l := x.l) (fl := x.fl) (dr := x.dr) (nw := x.nw) (tg := x.tg) (n := n) (id := id) hrr (by omega) W A c hr)
  have HC1 := Lib.hid (fun W A c A' c' hr hr' => csameL (l := x.l) (l' := y.l) (fl := x.fl) (dr := x.dr) (nw := x.nw) (tg := x.tg) (fl' := y.fl) (dr' := y.dr) (nw' := y.nw) (tg' := y.tg) (n := n) (N := m) hsb (by omega) W A c A' c' hr hr')
  have HC2 := Lib.hid (fun W A c A' c' hr hr' => rsameL (l := x.l) (l' := y.l) (fl := x.fl) (dr := x.dr) (nw := x.nw) (tg := x.tg) (fl' := y.fl) (dr' := y.dr) (nw' := y.nw) (tg' := y.tg) (n := n) (N := m) hsb (by omega) W A c A' c' hr hr')
  have HC3 := Lib.hid (fun W A c A' c' hr hr' => csameL (l := L1) (l' := L2) (fl := x.fl) (dr := x.dr) (nw := x.nw) (tg := x.tg) (fl' := x.fl) (dr' := x.dr) (nw' := x.nw) (tg' := x.tg) (n := N1) (N := N2) hsc (by omega) W A c A' c' hr hr')
  have HC4 := Lib.hid (fun W A c A' c' hr hr' => rsameL (l := L1) (l' := L2) (fl := x.fl) (dr := x.dr) (nw := x.nw) (tg := x.tg) (fl' := x.fl) (dr' := x.dr) (nw' := x.nw) (tg' := x.tg) (n := N1) (N := N2) hsc (by omega) W A c A' c' hr hr')
  have HO := Lib.hid (fun W A c hr => cownL (l := x.l) (fl := x.fl) (dr := x.dr) (nw := x.nw) (tg := x.tg) (n := n) (by omega) W A c hr)
  have HS0 := Lib.hid (fun W A c A' c' hr hr' => sameL (l := x.l) (l' := x.l) (fl := x.fl) (dr := x.dr) (nw := x.nw) (tg := x.tg) (n := n) (N := n) (sameCw_eq rfl) (by omega) W A c A' c' hr hr')
  have d1 : decide ((70 : Int) < (n : Int)) = false := decide_eq_false (by omega)
  have d2 : decide ((70 : Int) < (m : Int)) = false := decide_eq_false (by omega)
  have HL := Lib.hid (And.intro hl hn)
  clear hl g1 g2 hNa hNb hRB hh0 hrr hsb hsc h1 h2 hN1 hN2 hn hm hk hkp
  go_enter Try.func3, Try.ntmps3
  have vC_0 := C.out.cell 0
  have vC_1 := C.out.cell 1
  have vC_2 := C.out.cell 2
  have vC_3 := C.out.cell 3
  have vC_4 := C.out.cell 4
  simp only [List.getElem?_toArray, List.getElem?_cons_zero, List.getElem?_cons_succ] at vC_0 vC_1 vC_2 vC_3 vC_4
  have vD_0 := D.out.cell 0
  simp only [List.getElem?_toArray, List.getElem?_cons_zero] at vD_0
  have vQ_0 := Q.out.cell 0
  have vQ_1 := Q.out.cell 1
  have vQ_2 := Q.out.cell 2
  have vQ_3 := Q.out.cell 3
  have vQ_4 := Q.out.cell 4
  have vQ_5 := Q.out.cell 5
  simp only [List.getElem?_toArray, List.getElem?_cons_zero, List.getElem?_cons_succ] at vQ_0 vQ_1 vQ_2 vQ_3 vQ_4 vQ_5
  go_wp2_with fail
  clear hV
  refine (HD1.out _ _ _ R.out).mono ?_
  rintro e y1 ⟨A1, c1, rfl, r2, b⟩
  clear vC_0 vC_1 vC_2 vC_3 vC_4 vD_0 vQ_0 vQ_1 vQ_2 vQ_3 vQ_4 vQ_5
  have C_ := Lib.hid (C.out.under b)
  have D_ := Lib.hid (D.out.under b)
  have Q_ := Lib.hid (Q.out.under b)
  have P_ := Lib.hid (P.out.under b)
  have BB_ := Lib.hid (BB.out.trans (b.mono BB.out.size))
  have R_ := Lib.hid (R.out.up b)
  have S_ := Lib.hid (S.out.up b)
  clear C D Q P BB R S
  have C := C_
  have D := D_
  have Q := Q_
  have P := P_
  have BB := BB_
  have R := R_
  have S := S_
  clear C_ D_ Q_ P_ BB_ R_ S_
  clear HD1 b d1 d2
  have HgX := Lib.hid P.out.ltS
  have two := whole_two (W := y1) (t := 24) (u := 30) (x := #[.slice A1 N1 c1, .int .i64 x.fl, .int .i64 x.dr, .int .i64 x.nw, .bool x.tg]) (y := #[.int .i64 q.call, .int .u8 q.kind, .int .u8 K1, .int .i64 I1, .slice none 0 0, .bool false])
  have C_ := Lib.hid (C.out.under two.2.2)
  have D_ := Lib.hid (D.out.under two.2.2)
  have Q_ := Lib.hid (Q.out.under two.2.2)
  have P_ := Lib.hid (P.out.under two.2.2)
  have BB_ := Lib.hid (BB.out.trans (two.2.2.mono BB.out.size))
  have R_ := Lib.hid (R.out.up two.2.2)
  have S_ := Lib.hid (S.out.up two.2.2)
  clear C D Q P BB R S
  have C := C_
  have D := D_
  have Q := Q_
  have P := P_
  have BB := BB_
  have R := R_
  have S := S_
  clear C_ D_ Q_ P_ BB_ R_ S_
  have X := Lib.hid two.1
  have T := Lib.hid two.2.1
  have RX := Lib.hid (r2.up two.2.2)
  clear two r2
  have vC_0 := C.out.cell 0
  have vC_1 := C.out.cell 1
  have vC_2 := C.out.cell 2
  have vC_3 := C.out.cell 3
  have vC_4 := C.out.cell 4
  simp only [List.getElem?_toArray, List.getElem?_cons_zero, List.getElem?_cons_succ] at vC_0 vC_1 vC_2 vC_3 vC_4
  have vQ_0 := Q.out.cell 0
  have vQ_1 := Q.out.cell 1
  have vQ_2 := Q.out.cell 2
  have vQ_3 := Q.out.cell 3
  have vQ_4 := Q.out.cell 4
  have vQ_5 := Q.out.cell 5
  simp only [List.getElem?_toArray, List.getElem?_cons_zero, List.getElem?_cons_succ] at vQ_0 vQ_1 vQ_2 vQ_3 vQ_4 vQ_5
  go_wp2_with fail
  refine (HE1.out _ _ _ R.out).mono ?_
  rintro e y2 ⟨A2, c2, rfl, r2, b⟩
  clear vC_0 vC_1 vC_2 vC_3 vC_4 vQ_0 vQ_1 vQ_2 vQ_3 vQ_4 vQ_5
  have C_ := Lib.hid (C.out.under b)
  have D_ := Lib.hid (D.out.under b)
  have Q_ := Lib.hid (Q.out.under b)
  have P_ := Lib.hid (P.out.under b)
  have BB_ := Lib.hid (BB.out.trans (b.mono BB.out.size))
  have R_ := Lib.hid (R.out.up b)
  have S_ := Lib.hid (S.out.up b)
  have X_ := Lib.hid (X.out.under b)
  have T_ := Lib.hid (T.out.under b)
  have RX_ := Lib.hid (RX.out.up b)
  clear C D Q P BB R S X T RX
  have C := C_
  have D := D_
  have Q := Q_
  have P := P_
  have BB := BB_
  have R := R_
  have S := S_
  have X := X_
  have T := T_
  have RX := RX_
  clear C_ D_ Q_ P_ BB_ R_ S_ X_ T_ RX_
  clear HE1 b
  have HgY := Lib.hid T.out.ltS
  have two := whole_two (W := y2) (t := 24) (u := 30) (x := #[.slice A2 N1 c2, .int .i64 x.fl, .int .i64 x.dr, .int .i64 x.nw, .bool x.tg]) (y := #[.int .i64 q.call, .int .u8 q.kind, .int .u8 K1, .int .i64 I1, .slice none 0 0, .bool false])
  have C_ := Lib.hid (C.out.under two.2.2)
  have D_ := Lib.hid (D.out.under two.2.2)
  have Q_ := Lib.hid (Q.out.under two.2.2)
  have P_ := Lib.hid (P.out.under two.2.2)
  have BB_ := Lib.hid (BB.out.trans (two.2.2.mono BB.out.size))
  have R_ := Lib.hid (R.out.up two.2.2)
  have S_ := Lib.hid (S.out.up two.2.2)
  have X_ := Lib.hid (X.out.under two.2.2)
  have T_ := Lib.hid (T.out.under two.2.2)
  have RX_ := Lib.hid (RX.out.up two.2.2)
  clear C D Q P BB R S X T RX
  have C := C_
  have D := D_
  have Q := Q_
  have P := P_
  have BB := BB_
  have R := R_
  have S := S_
  have X := X_
  have T := T_
  have RX := RX_
  clear C_ D_ Q_ P_ BB_ R_ S_ X_ T_ RX_
  have Y := Lib.hid two.1
  have U := Lib.hid two.2.1
  have RY := Lib.hid (r2.up two.2.2)
  clear two r2
  have vX_0 := X.out.cell 0
  have vX_1 := X.out.cell 1
  have vX_2 := X.out.cell 2
  have vX_3 := X.out.cell 3
  have vX_4 := X.out.cell 4
  simp only [List.getElem?_toArray, List.getElem?_cons_zero, List.getElem?_cons_succ] at vX_0 vX_1 vX_2 vX_3 vX_4
  have vY_0 := Y.out.cell 0
  have vY_1 := Y.out.cell 1
  have vY_2 := Y.out.cell 2
  have vY_3 := Y.out.cell 3
  have vY_4 := Y.out.cell 4
  simp only [List.getElem?_toArray, List.getElem?_cons_zero, List.getElem?_cons_succ] at vY_0 vY_1 vY_2 vY_3 vY_4
  go_wp2_with fail
  refine (HS1.out _ _ _ _ _ RX.out RY.out).mono ?_
  rintro e y3 ⟨rfl, b⟩
  clear vX_0 vX_1 vX_2 vX_3 vX_4 vY_0 vY_1 vY_2 vY_3 vY_4
  have C_ := Lib.hid (C.out.under b)
  have D_ := Lib.hid (D.out.under b)
  have Q_ := Lib.hid (Q.out.under b)
  have P_ := Lib.hid (P.out.under b)
  have BB_ := Lib.hid (BB.out.trans (b.mono BB.out.size))
  have R_ := Lib.hid (R.out.up b)
  have S_ := Lib.hid (S.out.up b)
  have X_ := Lib.hid (X.out.under b)
  have T_ := Lib.hid (T.out.under b)
  have RX_ := Lib.hid (RX.out.up b)
  have Y_ := Lib.hid (Y.out.under b)
  have U_ := Lib.hid (U.out.under b)
  have RY_ := Lib.hid (RY.out.up b)
  clear C D Q P BB R S X T RX Y U RY
  have C := C_
  have D := D_
  have Q := Q_
  have P := P_
  have BB := BB_
  have R := R_
  have S := S_
  have X := X_
  have T := T_
  have RX := RX_
  have Y := Y_
  have U := U_
  have RY := RY_
  clear C_ D_ Q_ P_ BB_ R_ S_ X_ T_ RX_ Y_ U_ RY_
  clear HS1 b
  have vT_0 := T.out.cell 0
  have vT_1 := T.out.cell 1
  have vT_2 := T.out.cell 2
  have vT_3 := T.out.cell 3
  have vT_4 := T.out.cell 4
  have vT_5 := T.out.cell 5
  simp only [List.getElem?_toArray, List.getElem?_cons_zero, List.getElem?_cons_succ] at vT_0 vT_1 vT_2 vT_3 vT_4 vT_5
  have vU_0 := U.out.cell 0
  have vU_1 := U.out.cell 1
  have vU_2 := U.out.cell 2
  have vU_3 := U.out.cell 3
  have vU_4 := U.out.cell 4
  have vU_5 := U.out.cell 5
  simp only [List.getElem?_toArray, List.getElem?_cons_zero, List.getElem?_cons_succ] at vU_0 vU_1 vU_2 vU_3 vU_4 vU_5
  go_wp2_with fail
  refine (tellL _).mono ?_
  rintro e y4 ⟨rfl, b⟩
  clear vT_0 vT_1 vT_2 vT_3 vT_4 vT_5 vU_0 vU_1 vU_2 vU_3 vU_4 vU_5
  have C_ := Lib.hid (C.out.under b)
  have D_ := Lib.hid (D.out.under b)
  have Q_ := Lib.hid (Q.out.under b)
  have P_ := Lib.hid (P.out.under b)
  have BB_ := Lib.hid (BB.out.trans (b.mono BB.out.size))
  have R_ := Lib.hid (R.out.up b)
  have S_ := Lib.hid (S.out.up b)
  have X_ := Lib.hid (X.out.under b)
  have T_ := Lib.hid (T.out.under b)
  have RX_ := Lib.hid (RX.out.up b)
  have Y_ := Lib.hid (Y.out.under b)
  have U_ := Lib.hid (U.out.under b)
  have RY_ := Lib.hid (RY.out.up b)
  clear C D Q P BB R S X T RX Y U RY
  have C := C_
  have D := D_
  have Q := Q_
  have P := P_
  have BB := BB_
  have R := R_
  have S := S_
  have X := X_
  have T := T_
  have RX := RX_
  have Y := Y_
  have U := U_
  have RY := RY_
  clear C_ D_ Q_ P_ BB_ R_ S_ X_ T_ RX_ Y_ U_ RY_
  clear b
  have vY_0 := Y.out.cell 0
  have vY_1 := Y.out.cell 1
  have vY_2 := Y.out.cell 2
  have vY_3 := Y.out.cell 3
  have vY_4 := Y.out.cell 4
  simp only [List.getElem?_toArray, List.getElem?_cons_zero, List.getElem?_cons_succ] at vY_0 vY_1 vY_2 vY_3 vY_4
  have vP_0 := P.out.cell 0
  have vP_1 := P.out.cell 1
  have vP_2 := P.out.cell 2
  have vP_3 := P.out.cell 3
  have vP_4 := P.out.cell 4
  have vP_5 := P.out.cell 5
  simp only [List.getElem?_toArray, List.getElem?_cons_zero, List.getElem?_cons_succ] at vP_0 vP_1 vP_2 vP_3 vP_4 vP_5
  go_wp2_with fail
  refine (HD2.out _ _ _ RY.out).mono ?_
  rintro e y5 ⟨A3, c3, rfl, r2, b⟩
  clear vY_0 vY_1 vY_2 vY_3 vY_4 vP_0 vP_1 vP_2 vP_3 vP_4 vP_5
  have C_ := Lib.hid (C.out.under b)
  have D_ := Lib.hid (D.out.under b)
  have Q_ := Lib.hid (Q.out.under b)
  have P_ := Lib.hid (P.out.under b)
  have BB_ := Lib.hid (BB.out.trans (b.mono BB.out.size))
  have R_ := Lib.hid (R.out.up b)
  have S_ := Lib.hid (S.out.up b)
  have X_ := Lib.hid (X.out.under b)
  have T_ := Lib.hid (T.out.under b)
  have RX_ := Lib.hid (RX.out.up b)
  have Y_ := Lib.hid (Y.out.under b)
  have U_ := Lib.hid (U.out.under b)
  have RY_ := Lib.hid (RY.out.up b)
  clear C D Q P BB R S X T RX Y U RY
  have C := C_
  have D := D_
  have Q := Q_
  have P := P_
  have BB := BB_
  have R := R_
  have S := S_
  have X := X_
  have T := T_
  have RX := RX_
  have Y := Y_
  have U := U_
  have RY := RY_
  clear C_ D_ Q_ P_ BB_ R_ S_ X_ T_ RX_ Y_ U_ RY_
  have HgU := Lib.hid U.out.ltS
  clear HD2 b
  have vX_0 := X.out.cell 0
  have vX_1 := X.out.cell 1
  have vX_2 := X.out.cell 2
  have vX_3 := X.out.cell 3
  have vX_4 := X.out.cell 4
  simp only [List.getElem?_toArray, List.getElem?_cons_zero, List.getElem?_cons_succ] at vX_0 vX_1 vX_2 vX_3 vX_4
  have vT_0 := T.out.cell 0
  have vT_1 := T.out.cell 1
  have vT_2 := T.out.cell 2
  have vT_3 := T.out.cell 3
  have vT_4 := T.out.cell 4
  have vT_5 := T.out.cell 5
  simp only [List.getElem?_toArray, List.getElem?_cons_zero, List.getElem?_cons_succ] at vT_0 vT_1 vT_2 vT_3 vT_4 vT_5
  have f0 := X.out.frozen 0
  have f1 := X.out.frozen 1
  have f2 := X.out.frozen 2
  have f3 := X.out.frozen 3
  have f4 := X.out.frozen 4
  have g0 := T.out.frozen 0
  have g1 := T.out.frozen 1
  have g2 := T.out.frozen 2
  have g3 := T.out.frozen 3
  have g4 := T.out.frozen 4
  have g5 := T.out.frozen 5
  go_upto_region 8 with fail
  clear vX_0 vX_1 vX_2 vX_3 vX_4 vT_0 vT_1 vT_2 vT_3 vT_4 vT_5
  clear f0 f1 f2 f3 f4 g0 g1 g2 g3 g4 g5 RX
  have hne := And.intro HgX.out (And.intro HgY.out HgU.out)
  have k0 := kept5 X.out (.slice A3 N2 c3) (.int .i64 x.fl) (.int .i64 x.dr) (.int .i64 x.nw) (.bool x.tg)
  have k1 := kept6 (k0.2.far _ _ _ (by omega) T.out) (.int .i64 p.call) (.int .u8 p.kind) (.int .u8 K2) (.int .i64 I2) (.slice none 0 0) (.bool false)
  have X_ := (k1.2.far _ _ _ (by omega) k0.1)
  have T_ := k1.1
  have C_ := (k1.2.far _ _ _ (by omega) (k0.2.far _ _ _ (by omega) C.out))
  have D_ := (k1.2.far _ _ _ (by omega) (k0.2.far _ _ _ (by omega) D.out))
  have Q_ := (k1.2.far _ _ _ (by omega) (k0.2.far _ _ _ (by omega) Q.out))
  have P_ := (k1.2.far _ _ _ (by omega) (k0.2.far _ _ _ (by omega) P.out))
  have Y_ := (k1.2.far _ _ _ (by omega) (k0.2.far _ _ _ (by omega) Y.out))
  have U_ := (k1.2.far _ _ _ (by omega) (k0.2.far _ _ _ (by omega) U.out))
  have R_ := (k1.2.rows _ _ _ (k0.2.rows _ _ _ R.out))
  have S_ := (k1.2.rows _ _ _ (k0.2.rows _ _ _ S.out))
  have RY_ := (k1.2.rows _ _ _ (k0.2.rows _ _ _ RY.out))
  have r2_ := (k1.2.rows _ _ _ (k0.2.rows _ _ _ r2))
  have BB_ := (k1.2.bel _ _ (by omega) (k0.2.bel _ _ (by omega) BB.out))
  obtain ⟨W5, hW⟩ : ∃ W, (((((((((((y5.setCell ⟨y1.heap.size, 0, none⟩ (.slice A3 N2 c3)).setCell ⟨y1.heap.size, 1, none⟩ (.int .i64 x.fl)).setCell ⟨y1.heap.size, 2, none⟩ (.int .i64 x.dr)).setCell ⟨y1.heap.size, 3, none⟩ (.int .i64 x.nw)).setCell ⟨y1.heap.size, 4, none⟩ (.bool x.tg)).setCell ⟨(y1.heap.size + 1), 0, none⟩ (.int .i64 p.call)).setCell ⟨(y1.heap.size + 1), 1, none⟩ (.int .u8 p.kind)).setCell ⟨(y1.heap.size + 1), 2, none⟩ (.int .u8 K2)).setCell ⟨(y1.heap.size + 1), 3, none⟩ (.int .i64 I2)).setCell ⟨(y1.heap.size + 1), 4, none⟩ (.slice none 0 0)).setCell ⟨(y1.heap.size + 1), 5, none⟩ (.bool false)) = W := ⟨_, rfl⟩
  rw [hW] at X_ T_ C_ D_ Q_ P_ Y_ U_ R_ S_ RY_ r2_ BB_ ⊢
  clear hW hne k0 k1 X T C D Q P Y U R S RY r2 BB
  have X := Lib.hid X_
  clear X_
  have T := Lib.hid T_
  clear T_
  have C := Lib.hid C_
  clear C_
  have D := Lib.hid D_
  clear D_
  have Q := Lib.hid Q_
  clear Q_
  have P := Lib.hid P_
  clear P_
  have Y := Lib.hid Y_
  clear Y_
  have U := Lib.hid U_
  clear U_
  have R := Lib.hid R_
  clear R_
  have S := Lib.hid S_
  clear S_
  have RY := Lib.hid RY_
  clear RY_
  have RX := Lib.hid r2_
  clear r2_
  have BB := Lib.hid BB_
  clear BB_
  have vY_0 := Y.out.cell 0
  have vY_1 := Y.out.cell 1
  have vY_2 := Y.out.cell 2
  have vY_3 := Y.out.cell 3
  have vY_4 := Y.out.cell 4
  simp only [List.getElem?_toArray, List.getElem?_cons_zero, List.getElem?_cons_succ] at vY_0 vY_1 vY_2 vY_3 vY_4
  have vP_0 := P.out.cell 0
  have vP_1 := P.out.cell 1
  have vP_2 := P.out.cell 2
  have vP_3 := P.out.cell 3
  have vP_4 := P.out.cell 4
  have vP_5 := P.out.cell 5
  simp only [List.getElem?_toArray, List.getElem?_cons_zero, List.getElem?_cons_succ] at vP_0 vP_1 vP_2 vP_3 vP_4 vP_5
  go_wp2_with fail
  refine (HE2.out _ _ _ RY.out).mono ?_
  rintro e y6 ⟨A4, c4, rfl, r2, b⟩
  clear vY_0 vY_1 vY_2 vY_3 vY_4 vP_0 vP_1 vP_2 vP_3 vP_4 vP_5
  have C_ := Lib.hid (C.out.under b)
  have D_ := Lib.hid (D.out.under b)
  have Q_ := Lib.hid (Q.out.under b)
  have P_ := Lib.hid (P.out.under b)
  have Y_ := Lib.hid (Y.out.under b)
  have U_ := Lib.hid (U.out.under b)
  have X_ := Lib.hid (X.out.under b)
  have T_ := Lib.hid (T.out.under b)
  have R_ := Lib.hid (R.out.up b)
  have S_ := Lib.hid (S.out.up b)
  have RY_ := Lib.hid (RY.out.up b)
  have RX_ := Lib.hid (RX.out.up b)
  have BB_ := Lib.hid (BB.out.trans (b.mono BB.out.size))
  clear C D Q P Y U X T R S RY RX BB
  have C := C_
  have D := D_
  have Q := Q_
  have P := P_
  have Y := Y_
  have U := U_
  have X := X_
  have T := T_
  have R := R_
  have S := S_
  have RY := RY_
  have RX := RX_
  have BB := BB_
  clear C_ D_ Q_ P_ Y_ U_ X_ T_ R_ S_ RY_ RX_ BB_
  have HgZ := Lib.hid U.out.ltS
  clear HE2 b
  have one := whole_one (W := y6) (t := 24) (x := #[.slice A4 N2 c4, .int .i64 x.fl, .int .i64 x.dr, .int .i64 x.nw, .bool x.tg])
  have C_ := Lib.hid (C.out.under one.2)
  have D_ := Lib.hid (D.out.under one.2)
  have Q_ := Lib.hid (Q.out.under one.2)
  have P_ := Lib.hid (P.out.under one.2)
  have Y_ := Lib.hid (Y.out.under one.2)
  have U_ := Lib.hid (U.out.under one.2)
  have X_ := Lib.hid (X.out.under one.2)
  have T_ := Lib.hid (T.out.under one.2)
  have R_ := Lib.hid (R.out.up one.2)
  have S_ := Lib.hid (S.out.up one.2)
  have RY_ := Lib.hid (RY.out.up one.2)
  have RX_ := Lib.hid (RX.out.up one.2)
  have BB_ := Lib.hid (BB.out.trans (one.2.mono BB.out.size))
  clear C D Q P Y U X T R S RY RX BB
  have C := C_
  have D := D_
  have Q := Q_
  have P := P_
  have Y := Y_
  have U := U_
  have X := X_
  have T := T_
  have R := R_
  have S := S_
  have RY := RY_
  have RX := RX_
  have BB := BB_
  clear C_ D_ Q_ P_ Y_ U_ X_ T_ R_ S_ RY_ RX_ BB_
  have Z := Lib.hid one.1
  have RZ := Lib.hid (r2.up one.2)
  clear one r2
  have vU_0 := U.out.cell 0
  have vU_1 := U.out.cell 1
  have vU_2 := U.out.cell 2
  have vU_3 := U.out.cell 3
  have vU_4 := U.out.cell 4
  have vU_5 := U.out.cell 5
  simp only [List.getElem?_toArray, List.getElem?_cons_zero, List.getElem?_cons_succ] at vU_0 vU_1 vU_2 vU_3 vU_4 vU_5
  have g0 := U.out.frozen 0
  have g1 := U.out.frozen 1
  have g2 := U.out.frozen 2
  have g3 := U.out.frozen 3
  have g4 := U.out.frozen 4
  have g5 := U.out.frozen 5
  go_upto_region 9 with fail
  clear vU_0 vU_1 vU_2 vU_3 vU_4 vU_5
  clear g0 g1 g2 g3 g4 g5
  have HgUo := HgU
  clear HgU
  have HgU := Lib.hid (And.intro HgUo.out HgZ.out)
  clear HgUo HgZ
  have hne := And.intro HgX.out (And.intro HgY.out HgU.out)
  have k0 := kept6 U.out (.int .i64 p.call) (.int .u8 p.kind) (.int .u8 K2) (.int .i64 I2) (.slice none 0 0) (.bool false)
  have U_ := k0.1
  have C_ := (k0.2.far _ _ _ (by omega) C.out)
  have D_ := (k0.2.far _ _ _ (by omega) D.out)
  have Q_ := (k0.2.far _ _ _ (by omega) Q.out)
  have P_ := (k0.2.far _ _ _ (by omega) P.out)
  have Y_ := (k0.2.far _ _ _ (by omega) Y.out)
  have X_ := (k0.2.far _ _ _ (by omega) X.out)
  have T_ := (k0.2.far _ _ _ (by omega) T.out)
  have Z_ := (k0.2.far _ _ _ (by omega) Z.out)
  have R_ := (k0.2.rows _ _ _ R.out)
  have S_ := (k0.2.rows _ _ _ S.out)
  have RY_ := (k0.2.rows _ _ _ RY.out)
  have RX_ := (k0.2.rows _ _ _ RX.out)
  have RZ_ := (k0.2.rows _ _ _ RZ.out)
  have BB_ := (k0.2.bel _ _ (by omega) BB.out)
  obtain ⟨W6, hW⟩ : ∃ W, (((((((y6.alloc (.cells #[.slice A4 N2 c4, .int .i64 x.fl, .int .i64 x.dr, .int .i64 x.nw, .bool x.tg] 24)).setCell ⟨(y2.heap.size + 1), 0, none⟩ (.int .i64 p.call)).setCell ⟨(y2.heap.size + 1), 1, none⟩ (.int .u8 p.kind)).setCell ⟨(y2.heap.size + 1), 2, none⟩ (.int .u8 K2)).setCell ⟨(y2.heap.size + 1), 3, none⟩ (.int .i64 I2)).setCell ⟨(y2.heap.size + 1), 4, none⟩ (.slice none 0 0)).setCell ⟨(y2.heap.size + 1), 5, none⟩ (.bool false)) = W := ⟨_, rfl⟩
  rw [hW] at U_ C_ D_ Q_ P_ Y_ X_ T_ Z_ R_ S_ RY_ RX_ RZ_ BB_ ⊢
  clear hW hne k0 U C D Q P Y X T Z R S RY RX RZ BB
  have U := Lib.hid U_
  clear U_
  have C := Lib.hid C_
  clear C_
  have D := Lib.hid D_
  clear D_
  have Q := Lib.hid Q_
  clear Q_
  have P := Lib.hid P_
  clear P_
  have Y := Lib.hid Y_
  clear Y_
  have X := Lib.hid X_
  clear X_
  have T := Lib.hid T_
  clear T_
  have Z := Lib.hid Z_
  clear Z_
  have R := Lib.hid R_
  clear R_
  have S := Lib.hid S_
  clear S_
  have RY := Lib.hid RY_
  clear RY_
  have RX := Lib.hid RX_
  clear RX_
  have RZ := Lib.hid RZ_
  clear RZ_
  have BB := Lib.hid BB_
  clear BB_
  have e1 : (RB != RB) = false := by cases RB <;> rfl
  have e1b : (RB == RB) = true := by cases RB <;> rfl
  have e2 : (h0 != h0) = false := by simp
  have e3 : (r != r) = false := by simp
  have HC := Lib.hid ((Below.refl W6.heap.size W6).drew)
  have HL2 := Lib.hid (fun W (hW : Below W6.heap.size W6 W) => And.intro (cells5 (C.out.under hW)) (And.intro (cells5 (X.out.under hW)) (And.intro (cells5 (Z.out.under hW)) (And.intro (cells6 (T.out.under hW)) (cells6 (U.out.under hW))))))
  refine wp_region_held_drew (S := fun W => Below W6.heap.size W6 W) (by kernel_rfl) HC.out (fun _ => ?_)
  refine takeH (i := 0) (v := ?_) rfl (by kernel_rfl) (by kernel_rfl) (by kernel_rfl) (fun _ _ _ h => h) (by rfl) ?_ HC.out ?_
  rotate_left
  · intro W hW; obtain ⟨⟨c0, c1, c2, c3, c4⟩, ⟨x0, x1, x2, x3, x4⟩, ⟨z0, z1, z2, z3, z4⟩, ⟨t0, t1, t2, t3, t4, t5⟩, ⟨u0, u1, u2, u3, u4, u5⟩⟩ := HL2.out W hW; go_simp <;> with_reducible rfl
  simp only [Act.put, List.setIfInBounds_toArray, List.set_cons_zero, List.set_cons_succ]
  refine takeH (i := 1) (v := ?_) rfl (by kernel_rfl) (by kernel_rfl) (by kernel_rfl) (fun _ _ _ h => h) (by rfl) ?_ HC.out ?_
  rotate_left
  · intro W hW; obtain ⟨⟨c0, c1, c2, c3, c4⟩, ⟨x0, x1, x2, x3, x4⟩, ⟨z0, z1, z2, z3, z4⟩, ⟨t0, t1, t2, t3, t4, t5⟩, ⟨u0, u1, u2, u3, u4, u5⟩⟩ := HL2.out W hW; go_simp <;> with_reducible rfl
  simp only [Act.put, List.setIfInBounds_toArray, List.set_cons_zero, List.set_cons_succ]
  refine oneH (i := 2) rfl (by kernel_rfl) (by rfl) (fun K hK => ?_)
  go_simp
  go_at_call 11
  refine (HS2.out _ _ _ _ _ (RX.out.up HC.out) (RZ.out.up HC.out)).mono ?_
  rintro e v9_1 ⟨rfl, b9⟩
  have HC2 := Lib.hid (HC.out.trans (b9.mono HC.out.size))
  clear HC b9
  have HC := HC2
  clear HC2
  refine hK.out _ _ HC.out (fun _ => ?_)
  clear hK K
  refine takeH (i := 3) (v := ?_) rfl (by kernel_rfl) (by kernel_rfl) (by kernel_rfl) (fun _ _ _ h => h) (by rfl) ?_ HC.out ?_
  rotate_left
  · intro W hW; obtain ⟨⟨c0, c1, c2, c3, c4⟩, ⟨x0, x1, x2, x3, x4⟩, ⟨z0, z1, z2, z3, z4⟩, ⟨t0, t1, t2, t3, t4, t5⟩, ⟨u0, u1, u2, u3, u4, u5⟩⟩ := HL2.out W hW; go_simp <;> with_reducible rfl
  simp only [Act.put, List.setIfInBounds_toArray, List.set_cons_zero, List.set_cons_succ]
  refine takeH (i := 4) (v := ?_) rfl (by kernel_rfl) (by kernel_rfl) (by kernel_rfl) (fun _ _ _ h => h) (by rfl) ?_ HC.out ?_
  rotate_left
  · intro W hW; obtain ⟨⟨c0, c1, c2, c3, c4⟩, ⟨x0, x1, x2, x3, x4⟩, ⟨z0, z1, z2, z3, z4⟩, ⟨t0, t1, t2, t3, t4, t5⟩, ⟨u0, u1, u2, u3, u4, u5⟩⟩ := HL2.out W hW; go_simp <;> with_reducible rfl
  simp only [Act.put, List.setIfInBounds_toArray, List.set_cons_zero, List.set_cons_succ]
  refine takeH (i := 5) (v := ?_) rfl (by kernel_rfl) (by kernel_rfl) (by kernel_rfl) (fun _ _ _ h => h) (by rfl) ?_ HC.out ?_
  rotate_left
  · intro W hW; obtain ⟨⟨c0, c1, c2, c3, c4⟩, ⟨x0, x1, x2, x3, x4⟩, ⟨z0, z1, z2, z3, z4⟩, ⟨t0, t1, t2, t3, t4, t5⟩, ⟨u0, u1, u2, u3, u4, u5⟩⟩ := HL2.out W hW; go_simp <;> with_reducible rfl
  simp only [Act.put, List.setIfInBounds_toArray, List.set_cons_zero, List.set_cons_succ]
  refine takeH (i := 6) (v := ?_) rfl (by kernel_rfl) (by kernel_rfl) (by kernel_rfl) (fun _ _ _ h => h) (by rfl) ?_ HC.out ?_
  rotate_left
  · intro W hW; obtain ⟨⟨c0, c1, c2, c3, c4⟩, ⟨x0, x1, x2, x3, x4⟩, ⟨z0, z1, z2, z3, z4⟩, ⟨t0, t1, t2, t3, t4, t5⟩, ⟨u0, u1, u2, u3, u4, u5⟩⟩ := HL2.out W hW; go_simp <;> with_reducible rfl
  simp only [Act.put, List.setIfInBounds_toArray, List.set_cons_zero, List.set_cons_succ]
  refine oneH (i := 7) rfl (by kernel_rfl) (by rfl) (fun K hK => ?_)
  go_simp
  go_at_call 12
  refine (tellL _).mono ?_
  rintro e v9_2 ⟨rfl, b9⟩
  have HC2 := Lib.hid (HC.out.trans (b9.mono HC.out.size))
  clear HC b9
  have HC := HC2
  clear HC2
  refine hK.out _ _ HC.out (fun _ => ?_)
  clear hK K
  refine takeH (i := 8) (v := ?_) rfl (by kernel_rfl) (by kernel_rfl) (by kernel_rfl) (fun _ _ _ h => h) (by rfl) ?_ HC.out ?_
  rotate_left
  · intro W hW; obtain ⟨⟨c0, c1, c2, c3, c4⟩, ⟨x0, x1, x2, x3, x4⟩, ⟨z0, z1, z2, z3, z4⟩, ⟨t0, t1, t2, t3, t4, t5⟩, ⟨u0, u1, u2, u3, u4, u5⟩⟩ := HL2.out W hW; go_simp <;> with_reducible rfl
  simp only [Act.put, List.setIfInBounds_toArray, List.set_cons_zero, List.set_cons_succ]
  refine takeH (i := 9) (v := ?_) rfl (by kernel_rfl) (by kernel_rfl) (by kernel_rfl) (fun _ _ _ h => h) (by rfl) ?_ HC.out ?_
  rotate_left
  · intro W hW; obtain ⟨⟨c0, c1, c2, c3, c4⟩, ⟨x0, x1, x2, x3, x4⟩, ⟨z0, z1, z2, z3, z4⟩, ⟨t0, t1, t2, t3, t4, t5⟩, ⟨u0, u1, u2, u3, u4, u5⟩⟩ := HL2.out W hW; go_simp <;> with_reducible rfl
  simp only [Act.put, List.setIfInBounds_toArray, List.set_cons_zero, List.set_cons_succ]
  refine takeH (i := 10) (v := ?_) rfl (by kernel_rfl) (by kernel_rfl) (by kernel_rfl) (fun _ _ _ h => h) (by rfl) ?_ HC.out ?_
  rotate_left
  · intro W hW; obtain ⟨⟨c0, c1, c2, c3, c4⟩, ⟨x0, x1, x2, x3, x4⟩, ⟨z0, z1, z2, z3, z4⟩, ⟨t0, t1, t2, t3, t4, t5⟩, ⟨u0, u1, u2, u3, u4, u5⟩⟩ := HL2.out W hW; go_simp <;> with_reducible rfl
  simp only [Act.put, List.setIfInBounds_toArray, List.set_cons_zero, List.set_cons_succ]
  refine takeH (i := 11) (v := ?_) rfl (by kernel_rfl) (by kernel_rfl) (by kernel_rfl) (fun _ _ _ h => h) (by rfl) ?_ HC.out ?_
  rotate_left
  · intro W hW; obtain ⟨⟨c0, c1, c2, c3, c4⟩, ⟨x0, x1, x2, x3, x4⟩, ⟨z0, z1, z2, z3, z4⟩, ⟨t0, t1, t2, t3, t4, t5⟩, ⟨u0, u1, u2, u3, u4, u5⟩⟩ := HL2.out W hW; go_simp <;> with_reducible rfl
  simp only [Act.put, List.setIfInBounds_toArray, List.set_cons_zero, List.set_cons_succ]
  refine takeH (i := 13) (v := ?_) rfl (by kernel_rfl) (by kernel_rfl) (by kernel_rfl) (fun _ _ _ h => h) (by rfl) ?_ HC.out ?_
  rotate_left
  · intro W hW; obtain ⟨⟨c0, c1, c2, c3, c4⟩, ⟨x0, x1, x2, x3, x4⟩, ⟨z0, z1, z2, z3, z4⟩, ⟨t0, t1, t2, t3, t4, t5⟩, ⟨u0, u1, u2, u3, u4, u5⟩⟩ := HL2.out W hW; go_simp <;> with_reducible rfl
  simp only [Act.put, List.setIfInBounds_toArray, List.set_cons_zero, List.set_cons_succ]
  refine oneH (i := 12) rfl (by kernel_rfl) (by rfl) (fun K hK => ?_)
  go_simp
  go_at_call 13
  refine (HR1.out _ _ _ (R.out.up HC.out)).mono ?_
  rintro e v9_3 ⟨rfl, b9⟩
  have HC2 := Lib.hid (HC.out.trans (b9.mono HC.out.size))
  clear HC b9
  have HC := HC2
  clear HC2
  refine hK.out _ _ HC.out (fun _ => ?_)
  clear hK K
  refine oneH (i := 14) rfl (by kernel_rfl) (by rfl) (fun K hK => ?_)
  go_simp
  go_at_call 14
  refine (HR2.out _ _ _ (R.out.up HC.out)).mono ?_
  rintro e v9_4 ⟨rfl, b9⟩
  have HC2 := Lib.hid (HC.out.trans (b9.mono HC.out.size))
  clear HC b9
  have HC := HC2
  clear HC2
  refine hK.out _ _ HC.out (fun _ => ?_)
  clear hK K
  refine takeH (i := 15) (v := ?_) rfl (by kernel_rfl) (by kernel_rfl) (by kernel_rfl) (fun _ _ _ h => h) (by rfl) ?_ HC.out ?_
  rotate_left
  · intro W hW; obtain ⟨⟨c0, c1, c2, c3, c4⟩, ⟨x0, x1, x2, x3, x4⟩, ⟨z0, z1, z2, z3, z4⟩, ⟨t0, t1, t2, t3, t4, t5⟩, ⟨u0, u1, u2, u3, u4, u5⟩⟩ := HL2.out W hW; go_simp <;> with_reducible rfl
  simp only [Act.put, List.setIfInBounds_toArray, List.set_cons_zero, List.set_cons_succ]
  refine takeH (i := 16) (v := ?_) rfl (by kernel_rfl) (by kernel_rfl) (by kernel_rfl) (fun _ _ _ h => h) (by rfl) ?_ HC.out ?_
  rotate_left
  · intro W hW; obtain ⟨⟨c0, c1, c2, c3, c4⟩, ⟨x0, x1, x2, x3, x4⟩, ⟨z0, z1, z2, z3, z4⟩, ⟨t0, t1, t2, t3, t4, t5⟩, ⟨u0, u1, u2, u3, u4, u5⟩⟩ := HL2.out W hW; go_simp <;> with_reducible rfl
  simp only [Act.put, List.setIfInBounds_toArray, List.set_cons_zero, List.set_cons_succ]
  refine takeH (i := 17) (v := ?_) rfl (by kernel_rfl) (by kernel_rfl) (by kernel_rfl) (fun _ _ _ h => h) (by rfl) ?_ HC.out ?_
  rotate_left
  · intro W hW; obtain ⟨⟨c0, c1, c2, c3, c4⟩, ⟨x0, x1, x2, x3, x4⟩, ⟨z0, z1, z2, z3, z4⟩, ⟨t0, t1, t2, t3, t4, t5⟩, ⟨u0, u1, u2, u3, u4, u5⟩⟩ := HL2.out W hW; go_simp <;> with_reducible rfl
  simp only [Act.put, List.setIfInBounds_toArray, List.set_cons_zero, List.set_cons_succ]
  refine takeH (i := 18) (v := ?_) rfl (by kernel_rfl) (by kernel_rfl) (by kernel_rfl) (fun _ _ _ h => h) (by rfl) ?_ HC.out ?_
  rotate_left
  · intro W hW; obtain ⟨⟨c0, c1, c2, c3, c4⟩, ⟨x0, x1, x2, x3, x4⟩, ⟨z0, z1, z2, z3, z4⟩, ⟨t0, t1, t2, t3, t4, t5⟩, ⟨u0, u1, u2, u3, u4, u5⟩⟩ := HL2.out W hW; go_simp <;> with_reducible rfl
  simp only [Act.put, List.setIfInBounds_toArray, List.set_cons_zero, List.set_cons_succ]
  refine takeH (i := 20) (v := ?_) rfl (by kernel_rfl) (by kernel_rfl) (by kernel_rfl) (fun _ _ _ h => h) (by rfl) ?_ HC.out ?_
  rotate_left
  · intro W hW; obtain ⟨⟨c0, c1, c2, c3, c4⟩, ⟨x0, x1, x2, x3, x4⟩, ⟨z0, z1, z2, z3, z4⟩, ⟨t0, t1, t2, t3, t4, t5⟩, ⟨u0, u1, u2, u3, u4, u5⟩⟩ := HL2.out W hW; go_simp <;> with_reducible rfl
  simp only [Act.put, List.setIfInBounds_toArray, List.set_cons_zero, List.set_cons_succ]
  refine oneH (i := 19) rfl (by kernel_rfl) (by rfl) (fun K hK => ?_)
  go_simp
  go_at_call 15
  refine (HH1.out _ _ _ (R.out.up HC.out)).mono ?_
  rintro e v9_5 ⟨rfl, b9⟩
  have HC2 := Lib.hid (HC.out.trans (b9.mono HC.out.size))
  clear HC b9
  have HC := HC2
  clear HC2
  refine hK.out _ _ HC.out (fun _ => ?_)
  clear hK K
  refine oneH (i := 21) rfl (by kernel_rfl) (by rfl) (fun K hK => ?_)
  go_simp
  go_at_call 16
  refine (HH2.out _ _ _ (R.out.up HC.out)).mono ?_
  rintro e v9_6 ⟨rfl, b9⟩
  have HC2 := Lib.hid (HC.out.trans (b9.mono HC.out.size))
  clear HC b9
  have HC := HC2
  clear HC2
  refine hK.out _ _ HC.out (fun _ => ?_)
  clear hK K
  refine takeH (i := 22) (v := ?_) rfl (by kernel_rfl) (by kernel_rfl) (by kernel_rfl) (fun _ _ _ h => h) (by rfl) ?_ HC.out ?_
  rotate_left
  · intro W hW; obtain ⟨⟨c0, c1, c2, c3, c4⟩, ⟨x0, x1, x2, x3, x4⟩, ⟨z0, z1, z2, z3, z4⟩, ⟨t0, t1, t2, t3, t4, t5⟩, ⟨u0, u1, u2, u3, u4, u5⟩⟩ := HL2.out W hW; go_simp <;> with_reducible rfl
  simp only [Act.put, List.setIfInBounds_toArray, List.set_cons_zero, List.set_cons_succ]
  refine takeH (i := 23) (v := ?_) rfl (by kernel_rfl) (by kernel_rfl) (by kernel_rfl) (fun _ _ _ h => h) (by rfl) ?_ HC.out ?_
  rotate_left
  · intro W hW; obtain ⟨⟨c0, c1, c2, c3, c4⟩, ⟨x0, x1, x2, x3, x4⟩, ⟨z0, z1, z2, z3, z4⟩, ⟨t0, t1, t2, t3, t4, t5⟩, ⟨u0, u1, u2, u3, u4, u5⟩⟩ := HL2.out W hW; go_simp <;> with_reducible rfl
  simp only [Act.put, List.setIfInBounds_toArray, List.set_cons_zero, List.set_cons_succ]
  refine takeH (i := 24) (v := ?_) rfl (by kernel_rfl) (by kernel_rfl) (by kernel_rfl) (fun _ _ _ h => h) (by rfl) ?_ HC.out ?_
  rotate_left
  · intro W hW; obtain ⟨⟨c0, c1, c2, c3, c4⟩, ⟨x0, x1, x2, x3, x4⟩, ⟨z0, z1, z2, z3, z4⟩, ⟨t0, t1, t2, t3, t4, t5⟩, ⟨u0, u1, u2, u3, u4, u5⟩⟩ := HL2.out W hW; go_simp <;> with_reducible rfl
  simp only [Act.put, List.setIfInBounds_toArray, List.set_cons_zero, List.set_cons_succ]
  refine takeH (i := 25) (v := ?_) rfl (by kernel_rfl) (by kernel_rfl) (by kernel_rfl) (fun _ _ _ h => h) (by rfl) ?_ HC.out ?_
  rotate_left
  · intro W hW; obtain ⟨⟨c0, c1, c2, c3, c4⟩, ⟨x0, x1, x2, x3, x4⟩, ⟨z0, z1, z2, z3, z4⟩, ⟨t0, t1, t2, t3, t4, t5⟩, ⟨u0, u1, u2, u3, u4, u5⟩⟩ := HL2.out W hW; go_simp <;> with_reducible rfl
  simp only [Act.put, List.setIfInBounds_toArray, List.set_cons_zero, List.set_cons_succ]
  refine takeH (i := 26) (v := ?_) rfl (by kernel_rfl) (by kernel_rfl) (by kernel_rfl) (fun _ _ _ h => h) (by rfl) ?_ HC.out ?_
  rotate_left
  · intro W hW; obtain ⟨⟨c0, c1, c2, c3, c4⟩, ⟨x0, x1, x2, x3, x4⟩, ⟨z0, z1, z2, z3, z4⟩, ⟨t0, t1, t2, t3, t4, t5⟩, ⟨u0, u1, u2, u3, u4, u5⟩⟩ := HL2.out W hW; go_simp <;> with_reducible rfl
  simp only [Act.put, List.setIfInBounds_toArray, List.set_cons_zero, List.set_cons_succ]
  refine takeH (i := 28) (v := ?_) rfl (by kernel_rfl) (by kernel_rfl) (by kernel_rfl) (fun _ _ _ h => h) (by rfl) ?_ HC.out ?_
  rotate_left
  · intro W hW; obtain ⟨⟨c0, c1, c2, c3, c4⟩, ⟨x0, x1, x2, x3, x4⟩, ⟨z0, z1, z2, z3, z4⟩, ⟨t0, t1, t2, t3, t4, t5⟩, ⟨u0, u1, u2, u3, u4, u5⟩⟩ := HL2.out W hW; go_simp <;> with_reducible rfl
  simp only [Act.put, List.setIfInBounds_toArray, List.set_cons_zero, List.set_cons_succ]
  refine takeH (i := 29) (v := ?_) rfl (by kernel_rfl) (by kernel_rfl) (by kernel_rfl) (fun _ _ _ h => h) (by rfl) ?_ HC.out ?_
  rotate_left
  · intro W hW; obtain ⟨⟨c0, c1, c2, c3, c4⟩, ⟨x0, x1, x2, x3, x4⟩, ⟨z0, z1, z2, z3, z4⟩, ⟨t0, t1, t2, t3, t4, t5⟩, ⟨u0, u1, u2, u3, u4, u5⟩⟩ := HL2.out W hW; go_simp <;> with_reducible rfl
  simp only [Act.put, List.setIfInBounds_toArray, List.set_cons_zero, List.set_cons_succ]
  refine oneH (i := 27) rfl (by kernel_rfl) (by rfl) (fun K hK => ?_)
  go_simp
  go_at_call 17
  refine (HF1.out _ _ _ (R.out.up HC.out)).mono ?_
  rintro e v9_7 ⟨rfl, b9⟩
  have HC2 := Lib.hid (HC.out.trans (b9.mono HC.out.size))
  clear HC b9
  have HC := HC2
  clear HC2
  refine hK.out _ _ HC.out (fun _ => ?_)
  clear hK K
  refine oneH (i := 30) rfl (by kernel_rfl) (by rfl) (fun K hK => ?_)
  go_simp
  go_at_call 18
  refine (HF2.out _ _ _ (R.out.up HC.out)).mono ?_
  rintro e v9_8 ⟨rfl, b9⟩
  have HC2 := Lib.hid (HC.out.trans (b9.mono HC.out.size))
  clear HC b9
  have HC := HC2
  clear HC2
  refine hK.out _ _ HC.out (fun _ => ?_)
  clear hK K
  refine takeH (i := 31) (v := ?_) rfl (by kernel_rfl) (by kernel_rfl) (by kernel_rfl) (fun _ _ _ h => h) (by rfl) ?_ HC.out ?_
  rotate_left
  · intro W hW; obtain ⟨⟨c0, c1, c2, c3, c4⟩, ⟨x0, x1, x2, x3, x4⟩, ⟨z0, z1, z2, z3, z4⟩, ⟨t0, t1, t2, t3, t4, t5⟩, ⟨u0, u1, u2, u3, u4, u5⟩⟩ := HL2.out W hW; go_simp <;> with_reducible rfl
  simp only [Act.put, List.setIfInBounds_toArray, List.set_cons_zero, List.set_cons_succ]
  refine takeH (i := 32) (v := ?_) rfl (by kernel_rfl) (by kernel_rfl) (by kernel_rfl) (fun _ _ _ h => h) (by rfl) ?_ HC.out ?_
  rotate_left
  · intro W hW; obtain ⟨⟨c0, c1, c2, c3, c4⟩, ⟨x0, x1, x2, x3, x4⟩, ⟨z0, z1, z2, z3, z4⟩, ⟨t0, t1, t2, t3, t4, t5⟩, ⟨u0, u1, u2, u3, u4, u5⟩⟩ := HL2.out W hW; go_simp <;> with_reducible rfl
  simp only [Act.put, List.setIfInBounds_toArray, List.set_cons_zero, List.set_cons_succ]
  refine wpAnyH_done (by kernel_rfl) ?_ _
  have b := HC.out
  have C_ := Lib.hid (C.out.under b)
  have D_ := Lib.hid (D.out.under b)
  have Q_ := Lib.hid (Q.out.under b)
  have P_ := Lib.hid (P.out.under b)
  have Y_ := Lib.hid (Y.out.under b)
  have U_ := Lib.hid (U.out.under b)
  have X_ := Lib.hid (X.out.under b)
  have T_ := Lib.hid (T.out.under b)
  have R_ := Lib.hid (R.out.up b)
  have S_ := Lib.hid (S.out.up b)
  have RY_ := Lib.hid (RY.out.up b)
  have RX_ := Lib.hid (RX.out.up b)
  have BB_ := Lib.hid (BB.out.trans (b.mono BB.out.size))
  have Z_ := Lib.hid (Z.out.under b)
  have RZ_ := Lib.hid (RZ.out.up b)
  clear C D Q P Y U X T R S RY RX BB Z RZ
  have C := C_
  have D := D_
  have Q := Q_
  have P := P_
  have Y := Y_
  have U := U_
  have X := X_
  have T := T_
  have R := R_
  have S := S_
  have RY := RY_
  have RX := RX_
  have BB := BB_
  have Z := Z_
  have RZ := RZ_
  clear C_ D_ Q_ P_ Y_ U_ X_ T_ R_ S_ RY_ RX_ BB_ Z_ RZ_
  clear b HC HL2
  clear e1 e1b e2 e3 HS2 HR1 HR2 HH1 HH2 HF1 HF2
  have vC_0 := C.out.cell 0
  simp only [List.getElem?_toArray, List.getElem?_cons_zero] at vC_0
  go_wp2_with fail
  clear vC_0
  go_loopw [16] (fun i wr => ∃ j : Nat, i = .int .i64 (j : Int) ∧ j ≤ n ∧ Whole wr w.heap.size 24 #[.slice A n c, .int .i64 x.fl, .int .i64 x.dr, .int .i64 x.nw, .bool x.tg] ∧ Whole wr (w.heap.size + 1) 24 #[.slice B m d, .int .i64 y.fl, .int .i64 y.dr, .int .i64 y.nw, .bool y.tg] ∧ Whole wr y2.heap.size 24 #[.slice A2 N1 c2, .int .i64 x.fl, .int .i64 x.dr, .int .i64 x.nw, .bool x.tg] ∧ Whole wr y6.heap.size 24 #[.slice A4 N2 c4, .int .i64 x.fl, .int .i64 x.dr, .int .i64 x.nw, .bool x.tg] ∧ RdX wr wr.heap.size A n x.l ∧ RdX wr wr.heap.size B m y.l ∧ RdX wr wr.heap.size A2 N1 L1 ∧ RdX wr wr.heap.size A4 N2 L2 ∧ Below w.heap.size w wr) (fun i _ => n - (intOf i).toNat)
  case atStart => exact ⟨0, rfl, Nat.zero_le _, C.out, D.out, Y.out, Z.out, R.out, S.out, RY.out, RZ.out, BB.out⟩
  case round =>
    clear C D Y Z R S RY RZ BB Q P X T U RX
    obtain ⟨j, rfl, hj, hC, hD, hY, hZ, hR, hS, hRY, hRZ, hBB⟩ := hrel
    have C := Lib.hid hC
    clear hC
    have D := Lib.hid hD
    clear hD
    have Y := Lib.hid hY
    clear hY
    have Z := Lib.hid hZ
    clear hZ
    have R := Lib.hid hR
    clear hR
    have S := Lib.hid hS
    clear hS
    have RY := Lib.hid hRY
    clear hRY
    have RZ := Lib.hid hRZ
    clear hRZ
    have BB := Lib.hid hBB
    clear hBB
    rcases Nat.lt_or_eq_of_le hj with hlt | hjn
    ·
      have hji : (j : Int) < (n : Int) := by omega
      have hj70 : (j : Int) ≤ 70 := by have := HL.out.2; omega
      obtain ⟨u, hu⟩ : ∃ u, x.l[j]? = some u := ⟨_, List.getElem?_eq_getElem (by have := HL.out.1; omega)⟩
      obtain ⟨b, off, e5, hbl, hc⟩ := R.out.2 (by omega)
      subst e5
      have HU := Lib.hid (fun W (hW : Below wr.heap.size wr W) => bxAt_of fun i hi => (hW.cell (p := ⟨b, off + j * 11 + i, none⟩) hbl).trans ((hc j u hu).all i hi))
      have H1 := Lib.hid (fun W => counted_any u W)
      have H2 := Lib.hid (fun W => rcounted_any u W)
      obtain ⟨E, hE⟩ : ∃ E, cnt u = E := ⟨_, rfl⟩
      rw [hE] at H1 H2
      have e1 : (E != E) = false := by cases E <;> rfl
      have e1b : (E == E) = true := by cases E <;> rfl
      have HLt := Lib.hid hlt
      clear hE hu hc hbl hlt hj
      have vC_0 := C.out.cell 0
      simp only [List.getElem?_toArray, List.getElem?_cons_zero] at vC_0
      go_wp2_with fail
      clear vC_0
      have HC := Lib.hid ((Below.refl wr.heap.size wr).drew)
      have HL2 := Lib.hid (fun W (hW : Below wr.heap.size wr W) => And.intro (cells5 (C.out.under hW)) (HU.out W hW))
      refine wp_region_held_drew (S := fun W => Below wr.heap.size wr W) (by kernel_rfl) HC.out (fun _ => ?_)
      refine takeH (i := 0) (v := ?_) rfl (by kernel_rfl) (by kernel_rfl) (by kernel_rfl) (fun _ _ _ h => h) (by rfl) ?_ HC.out ?_
      rotate_left
      · intro W hW; obtain ⟨⟨c0, c1, c2, c3, c4⟩, ⟨k0, k1, k2, k3, k4, k5, k6, k7, k8, k9, k10⟩⟩ := HL2.out W hW; go_simp <;> with_reducible rfl
      simp only [Act.put, List.setIfInBounds_toArray, List.set_cons_zero, List.set_cons_succ]
      refine takeH (i := 1) (v := ?_) rfl (by kernel_rfl) (by kernel_rfl) (by kernel_rfl) (fun _ _ _ h => h) (by rfl) ?_ HC.out ?_
      rotate_left
      · intro W hW; obtain ⟨⟨c0, c1, c2, c3, c4⟩, ⟨k0, k1, k2, k3, k4, k5, k6, k7, k8, k9, k10⟩⟩ := HL2.out W hW; go_simp <;> with_reducible rfl
      simp only [Act.put, List.setIfInBounds_toArray, List.set_cons_zero, List.set_cons_succ]
      refine takeH (i := 2) (v := ?_) rfl (by kernel_rfl) (by kernel_rfl) (by kernel_rfl) (fun _ _ _ h => h) (by rfl) ?_ HC.out ?_
      rotate_left
      · intro W hW; obtain ⟨⟨c0, c1, c2, c3, c4⟩, ⟨k0, k1, k2, k3, k4, k5, k6, k7, k8, k9, k10⟩⟩ := HL2.out W hW; go_simp <;> with_reducible rfl
      simp only [Act.put, List.setIfInBounds_toArray, List.set_cons_zero, List.set_cons_succ]
      refine takeH (i := 3) (v := ?_) rfl (by kernel_rfl) (by kernel_rfl) (by kernel_rfl) (fun _ _ _ h => h) (by rfl) ?_ HC.out ?_
      rotate_left
      · intro W hW; obtain ⟨⟨c0, c1, c2, c3, c4⟩, ⟨k0, k1, k2, k3, k4, k5, k6, k7, k8, k9, k10⟩⟩ := HL2.out W hW; go_simp <;> with_reducible rfl
      simp only [Act.put, List.setIfInBounds_toArray, List.set_cons_zero, List.set_cons_succ]
      refine takeH (i := 4) (v := ?_) rfl (by kernel_rfl) (by kernel_rfl) (by kernel_rfl) (fun _ _ _ h => h) (by rfl) ?_ HC.out ?_
      rotate_left
      · intro W hW; obtain ⟨⟨c0, c1, c2, c3, c4⟩, ⟨k0, k1, k2, k3, k4, k5, k6, k7, k8, k9, k10⟩⟩ := HL2.out W hW; go_simp <;> with_reducible rfl
      simp only [Act.put, List.setIfInBounds_toArray, List.set_cons_zero, List.set_cons_succ]
      refine takeH (i := 6) (v := ?_) rfl (by kernel_rfl) (by kernel_rfl) (by kernel_rfl) (fun _ _ _ h => h) (by rfl) ?_ HC.out ?_
      rotate_left
      · intro W hW; obtain ⟨⟨c0, c1, c2, c3, c4⟩, ⟨k0, k1, k2, k3, k4, k5, k6, k7, k8, k9, k10⟩⟩ := HL2.out W hW; go_simp <;> with_reducible rfl
      simp only [Act.put, List.setIfInBounds_toArray, List.set_cons_zero, List.set_cons_succ]
      refine takeH (i := 7) (v := ?_) rfl (by kernel_rfl) (by kernel_rfl) (by kernel_rfl) (fun _ _ _ h => h) (by rfl) ?_ HC.out ?_
      rotate_left
      · intro W hW; obtain ⟨⟨c0, c1, c2, c3, c4⟩, ⟨k0, k1, k2, k3, k4, k5, k6, k7, k8, k9, k10⟩⟩ := HL2.out W hW; go_simp <;> with_reducible rfl
      simp only [Act.put, List.setIfInBounds_toArray, List.set_cons_zero, List.set_cons_succ]
      refine takeH (i := 8) (v := ?_) rfl (by kernel_rfl) (by kernel_rfl) (by kernel_rfl) (fun _ _ _ h => h) (by rfl) ?_ HC.out ?_
      rotate_left
      · intro W hW; obtain ⟨⟨c0, c1, c2, c3, c4⟩, ⟨k0, k1, k2, k3, k4, k5, k6, k7, k8, k9, k10⟩⟩ := HL2.out W hW; go_simp <;> with_reducible rfl
      simp only [Act.put, List.setIfInBounds_toArray, List.set_cons_zero, List.set_cons_succ]
      refine takeH (i := 9) (v := ?_) rfl (by kernel_rfl) (by kernel_rfl) (by kernel_rfl) (fun _ _ _ h => h) (by rfl) ?_ HC.out ?_
      rotate_left
      · intro W hW; obtain ⟨⟨c0, c1, c2, c3, c4⟩, ⟨k0, k1, k2, k3, k4, k5, k6, k7, k8, k9, k10⟩⟩ := HL2.out W hW; go_simp <;> with_reducible rfl
      simp only [Act.put, List.setIfInBounds_toArray, List.set_cons_zero, List.set_cons_succ]
      refine takeH (i := 10) (v := ?_) rfl (by kernel_rfl) (by kernel_rfl) (by kernel_rfl) (fun _ _ _ h => h) (by rfl) ?_ HC.out ?_
      rotate_left
      · intro W hW; obtain ⟨⟨c0, c1, c2, c3, c4⟩, ⟨k0, k1, k2, k3, k4, k5, k6, k7, k8, k9, k10⟩⟩ := HL2.out W hW; go_simp <;> with_reducible rfl
      simp only [Act.put, List.setIfInBounds_toArray, List.set_cons_zero, List.set_cons_succ]
      refine oneH (i := 5) rfl (by kernel_rfl) (by rfl) (fun K hK => ?_)
      go_simp
      go_at_call 19
      refine (H1.out _).mono ?_
      rintro e v14_1 ⟨rfl, b9⟩
      have HC2 := Lib.hid (HC.out.trans (b9.mono HC.out.size))
      clear HC b9
      have HC := HC2
      clear HC2
      refine hK.out _ _ HC.out (fun _ => ?_)
      clear hK K
      refine oneH (i := 11) rfl (by kernel_rfl) (by rfl) (fun K hK => ?_)
      go_simp
      go_at_call 20
      refine (H2.out _).mono ?_
      rintro e v14_2 ⟨rfl, b9⟩
      have HC2 := Lib.hid (HC.out.trans (b9.mono HC.out.size))
      clear HC b9
      have HC := HC2
      clear HC2
      refine hK.out _ _ HC.out (fun _ => ?_)
      clear hK K
      refine takeH (i := 12) (v := ?_) rfl (by kernel_rfl) (by kernel_rfl) (by kernel_rfl) (fun _ _ _ h => h) (by rfl) ?_ HC.out ?_
      rotate_left
      · intro W hW; obtain ⟨⟨c0, c1, c2, c3, c4⟩, ⟨k0, k1, k2, k3, k4, k5, k6, k7, k8, k9, k10⟩⟩ := HL2.out W hW; go_simp <;> with_reducible rfl
      simp only [Act.put, List.setIfInBounds_toArray, List.set_cons_zero, List.set_cons_succ]
      refine wpAnyH_done (by kernel_rfl) ?_ _
      have b := HC.out
      have C_ := Lib.hid (C.out.under b)
      have D_ := Lib.hid (D.out.under b)
      have Y_ := Lib.hid (Y.out.under b)
      have Z_ := Lib.hid (Z.out.under b)
      have R_ := Lib.hid (R.out.up b)
      have S_ := Lib.hid (S.out.up b)
      have RY_ := Lib.hid (RY.out.up b)
      have RZ_ := Lib.hid (RZ.out.up b)
      have BB_ := Lib.hid (BB.out.trans (b.mono BB.out.size))
      clear C D Y Z R S RY RZ BB
      have C := C_
      have D := D_
      have Y := Y_
      have Z := Z_
      have R := R_
      have S := S_
      have RY := RY_
      have RZ := RZ_
      have BB := BB_
      clear C_ D_ Y_ Z_ R_ S_ RY_ RZ_ BB_
      clear b HC HL2
      clear H1 H2 HU e1 e1b
      go_wp2_with fail
      go_roundw
      case rel => exact ⟨j + 1, by go_num, by have := HLt.out; omega, C.out, D.out, Y.out, Z.out, R.out, S.out, RY.out, RZ.out, BB.out⟩
      case measure => have := HLt.out; simp [intOf]; omega
    ·
      have dj : decide (j < n) = false := decide_eq_false (by omega)
      clear hj hjn
      have vC_0 := C.out.cell 0
      simp only [List.getElem?_toArray, List.getElem?_cons_zero] at vC_0
      go_wp2_with fail
      clear vC_0
      clear dj
      have e1 : (sb == sb) = true := by cases sb <;> rfl
      have e2 : (sc == sc) = true := by cases sc <;> rfl
      have HC := Lib.hid ((Below.refl wr.heap.size wr).drew)
      have HL2 := Lib.hid (fun W (hW : Below wr.heap.size wr W) => And.intro (cells5 (C.out.under hW)) (And.intro (cells5 (D.out.under hW)) (And.intro (cells5 (Y.out.under hW)) (cells5 (Z.out.under hW)))))
      refine wp_region_held_drew (S := fun W => Below wr.heap.size wr W) (by kernel_rfl) HC.out (fun _ => ?_)
      refine takeH (i := 0) (v := ?_) rfl (by kernel_rfl) (by kernel_rfl) (by kernel_rfl) (fun _ _ _ h => h) (by rfl) ?_ HC.out ?_
      rotate_left
      · intro W hW; obtain ⟨⟨c0, c1, c2, c3, c4⟩, ⟨d0, d1, d2, d3, d4⟩, ⟨y0, y1, y2, y3, y4⟩, ⟨z0, z1, z2, z3, z4⟩⟩ := HL2.out W hW; go_simp <;> with_reducible rfl
      simp only [Act.put, List.setIfInBounds_toArray, List.set_cons_zero, List.set_cons_succ]
      refine takeH (i := 1) (v := ?_) rfl (by kernel_rfl) (by kernel_rfl) (by kernel_rfl) (fun _ _ _ h => h) (by rfl) ?_ HC.out ?_
      rotate_left
      · intro W hW; obtain ⟨⟨c0, c1, c2, c3, c4⟩, ⟨d0, d1, d2, d3, d4⟩, ⟨y0, y1, y2, y3, y4⟩, ⟨z0, z1, z2, z3, z4⟩⟩ := HL2.out W hW; go_simp <;> with_reducible rfl
      simp only [Act.put, List.setIfInBounds_toArray, List.set_cons_zero, List.set_cons_succ]
      refine takeH (i := 3) (v := ?_) rfl (by kernel_rfl) (by kernel_rfl) (by kernel_rfl) (fun _ _ _ h => h) (by rfl) ?_ HC.out ?_
      rotate_left
      · intro W hW; obtain ⟨⟨c0, c1, c2, c3, c4⟩, ⟨d0, d1, d2, d3, d4⟩, ⟨y0, y1, y2, y3, y4⟩, ⟨z0, z1, z2, z3, z4⟩⟩ := HL2.out W hW; go_simp <;> with_reducible rfl
      simp only [Act.put, List.setIfInBounds_toArray, List.set_cons_zero, List.set_cons_succ]
      refine takeH (i := 4) (v := ?_) rfl (by kernel_rfl) (by kernel_rfl) (by kernel_rfl) (fun _ _ _ h => h) (by rfl) ?_ HC.out ?_
      rotate_left
      · intro W hW; obtain ⟨⟨c0, c1, c2, c3, c4⟩, ⟨d0, d1, d2, d3, d4⟩, ⟨y0, y1, y2, y3, y4⟩, ⟨z0, z1, z2, z3, z4⟩⟩ := HL2.out W hW; go_simp <;> with_reducible rfl
      simp only [Act.put, List.setIfInBounds_toArray, List.set_cons_zero, List.set_cons_succ]
      refine oneH (i := 2) rfl (by kernel_rfl) (by rfl) (fun K hK => ?_)
      go_simp
      go_at_call 21
      refine (HC1.out _ _ _ _ _ (R.out.up HC.out) (S.out.up HC.out)).mono ?_
      rintro e v16_1 ⟨rfl, b9⟩
      have HC2 := Lib.hid (HC.out.trans (b9.mono HC.out.size))
      clear HC b9
      have HC := HC2
      clear HC2
      refine hK.out _ _ HC.out (fun _ => ?_)
      clear hK K
      refine oneH (i := 5) rfl (by kernel_rfl) (by rfl) (fun K hK => ?_)
      go_simp
      go_at_call 11
      refine (HC2.out _ _ _ _ _ (R.out.up HC.out) (S.out.up HC.out)).mono ?_
      rintro e v16_2 ⟨rfl, b9⟩
      have HC2 := Lib.hid (HC.out.trans (b9.mono HC.out.size))
      clear HC b9
      have HC := HC2
      clear HC2
      refine hK.out _ _ HC.out (fun _ => ?_)
      clear hK K
      refine takeH (i := 6) (v := ?_) rfl (by kernel_rfl) (by kernel_rfl) (by kernel_rfl) (fun _ _ _ h => h) (by rfl) ?_ HC.out ?_
      rotate_left
      · intro W hW; obtain ⟨⟨c0, c1, c2, c3, c4⟩, ⟨d0, d1, d2, d3, d4⟩, ⟨y0, y1, y2, y3, y4⟩, ⟨z0, z1, z2, z3, z4⟩⟩ := HL2.out W hW; go_simp <;> with_reducible rfl
      simp only [Act.put, List.setIfInBounds_toArray, List.set_cons_zero, List.set_cons_succ]
      refine takeH (i := 7) (v := ?_) rfl (by kernel_rfl) (by kernel_rfl) (by kernel_rfl) (fun _ _ _ h => h) (by rfl) ?_ HC.out ?_
      rotate_left
      · intro W hW; obtain ⟨⟨c0, c1, c2, c3, c4⟩, ⟨d0, d1, d2, d3, d4⟩, ⟨y0, y1, y2, y3, y4⟩, ⟨z0, z1, z2, z3, z4⟩⟩ := HL2.out W hW; go_simp <;> with_reducible rfl
      simp only [Act.put, List.setIfInBounds_toArray, List.set_cons_zero, List.set_cons_succ]
      refine takeH (i := 8) (v := ?_) rfl (by kernel_rfl) (by kernel_rfl) (by kernel_rfl) (fun _ _ _ h => h) (by rfl) ?_ HC.out ?_
      rotate_left
      · intro W hW; obtain ⟨⟨c0, c1, c2, c3, c4⟩, ⟨d0, d1, d2, d3, d4⟩, ⟨y0, y1, y2, y3, y4⟩, ⟨z0, z1, z2, z3, z4⟩⟩ := HL2.out W hW; go_simp <;> with_reducible rfl
      simp only [Act.put, List.setIfInBounds_toArray, List.set_cons_zero, List.set_cons_succ]
      refine takeH (i := 9) (v := ?_) rfl (by kernel_rfl) (by kernel_rfl) (by kernel_rfl) (fun _ _ _ h => h) (by rfl) ?_ HC.out ?_
      rotate_left
      · intro W hW; obtain ⟨⟨c0, c1, c2, c3, c4⟩, ⟨d0, d1, d2, d3, d4⟩, ⟨y0, y1, y2, y3, y4⟩, ⟨z0, z1, z2, z3, z4⟩⟩ := HL2.out W hW; go_simp <;> with_reducible rfl
      simp only [Act.put, List.setIfInBounds_toArray, List.set_cons_zero, List.set_cons_succ]
      refine takeH (i := 11) (v := ?_) rfl (by kernel_rfl) (by kernel_rfl) (by kernel_rfl) (fun _ _ _ h => h) (by rfl) ?_ HC.out ?_
      rotate_left
      · intro W hW; obtain ⟨⟨c0, c1, c2, c3, c4⟩, ⟨d0, d1, d2, d3, d4⟩, ⟨y0, y1, y2, y3, y4⟩, ⟨z0, z1, z2, z3, z4⟩⟩ := HL2.out W hW; go_simp <;> with_reducible rfl
      simp only [Act.put, List.setIfInBounds_toArray, List.set_cons_zero, List.set_cons_succ]
      refine takeH (i := 12) (v := ?_) rfl (by kernel_rfl) (by kernel_rfl) (by kernel_rfl) (fun _ _ _ h => h) (by rfl) ?_ HC.out ?_
      rotate_left
      · intro W hW; obtain ⟨⟨c0, c1, c2, c3, c4⟩, ⟨d0, d1, d2, d3, d4⟩, ⟨y0, y1, y2, y3, y4⟩, ⟨z0, z1, z2, z3, z4⟩⟩ := HL2.out W hW; go_simp <;> with_reducible rfl
      simp only [Act.put, List.setIfInBounds_toArray, List.set_cons_zero, List.set_cons_succ]
      refine oneH (i := 10) rfl (by kernel_rfl) (by rfl) (fun K hK => ?_)
      go_simp
      go_at_call 21
      refine (HC3.out _ _ _ _ _ (RY.out.up HC.out) (RZ.out.up HC.out)).mono ?_
      rintro e v16_3 ⟨rfl, b9⟩
      have HC2 := Lib.hid (HC.out.trans (b9.mono HC.out.size))
      clear HC b9
      have HC := HC2
      clear HC2
      refine hK.out _ _ HC.out (fun _ => ?_)
      clear hK K
      refine oneH (i := 13) rfl (by kernel_rfl) (by rfl) (fun K hK => ?_)
      go_simp
      go_at_call 11
      refine (HC4.out _ _ _ _ _ (RY.out.up HC.out) (RZ.out.up HC.out)).mono ?_
      rintro e v16_4 ⟨rfl, b9⟩
      have HC2 := Lib.hid (HC.out.trans (b9.mono HC.out.size))
      clear HC b9
      have HC := HC2
      clear HC2
      refine hK.out _ _ HC.out (fun _ => ?_)
      clear hK K
      refine takeH (i := 14) (v := ?_) rfl (by kernel_rfl) (by kernel_rfl) (by kernel_rfl) (fun _ _ _ h => h) (by rfl) ?_ HC.out ?_
      rotate_left
      · intro W hW; obtain ⟨⟨c0, c1, c2, c3, c4⟩, ⟨d0, d1, d2, d3, d4⟩, ⟨y0, y1, y2, y3, y4⟩, ⟨z0, z1, z2, z3, z4⟩⟩ := HL2.out W hW; go_simp <;> with_reducible rfl
      simp only [Act.put, List.setIfInBounds_toArray, List.set_cons_zero, List.set_cons_succ]
      refine takeH (i := 15) (v := ?_) rfl (by kernel_rfl) (by kernel_rfl) (by kernel_rfl) (fun _ _ _ h => h) (by rfl) ?_ HC.out ?_
      rotate_left
      · intro W hW; obtain ⟨⟨c0, c1, c2, c3, c4⟩, ⟨d0, d1, d2, d3, d4⟩, ⟨y0, y1, y2, y3, y4⟩, ⟨z0, z1, z2, z3, z4⟩⟩ := HL2.out W hW; go_simp <;> with_reducible rfl
      simp only [Act.put, List.setIfInBounds_toArray, List.set_cons_zero, List.set_cons_succ]
      refine takeH (i := 16) (v := ?_) rfl (by kernel_rfl) (by kernel_rfl) (by kernel_rfl) (fun _ _ _ h => h) (by rfl) ?_ HC.out ?_
      rotate_left
      · intro W hW; obtain ⟨⟨c0, c1, c2, c3, c4⟩, ⟨d0, d1, d2, d3, d4⟩, ⟨y0, y1, y2, y3, y4⟩, ⟨z0, z1, z2, z3, z4⟩⟩ := HL2.out W hW; go_simp <;> with_reducible rfl
      simp only [Act.put, List.setIfInBounds_toArray, List.set_cons_zero, List.set_cons_succ]
      refine takeH (i := 17) (v := ?_) rfl (by kernel_rfl) (by kernel_rfl) (by kernel_rfl) (fun _ _ _ h => h) (by rfl) ?_ HC.out ?_
      rotate_left
      · intro W hW; obtain ⟨⟨c0, c1, c2, c3, c4⟩, ⟨d0, d1, d2, d3, d4⟩, ⟨y0, y1, y2, y3, y4⟩, ⟨z0, z1, z2, z3, z4⟩⟩ := HL2.out W hW; go_simp <;> with_reducible rfl
      simp only [Act.put, List.setIfInBounds_toArray, List.set_cons_zero, List.set_cons_succ]
      refine takeH (i := 19) (v := ?_) rfl (by kernel_rfl) (by kernel_rfl) (by kernel_rfl) (fun _ _ _ h => h) (by rfl) ?_ HC.out ?_
      rotate_left
      · intro W hW; obtain ⟨⟨c0, c1, c2, c3, c4⟩, ⟨d0, d1, d2, d3, d4⟩, ⟨y0, y1, y2, y3, y4⟩, ⟨z0, z1, z2, z3, z4⟩⟩ := HL2.out W hW; go_simp <;> with_reducible rfl
      simp only [Act.put, List.setIfInBounds_toArray, List.set_cons_zero, List.set_cons_succ]
      refine oneH (i := 18) rfl (by kernel_rfl) (by rfl) (fun K hK => ?_)
      go_simp
      go_at_call 22
      refine (HO.out _ _ _ (R.out.up HC.out)).mono ?_
      rintro e v16_5 ⟨A9, c9, rfl, r9, b9⟩
      have HC2 := Lib.hid (HC.out.trans (b9.mono HC.out.size))
      clear HC b9
      have HC := HC2
      clear HC2
      refine hK.out _ _ HC.out (fun _ => ?_)
      clear hK K
      refine oneH (i := 20) rfl (by kernel_rfl) (by rfl) (fun K hK => ?_)
      go_simp
      go_at_call 11
      refine (HS0.out _ _ _ _ _ r9 (R.out.up HC.out)).mono ?_
      rintro e v16_6 ⟨rfl, b9⟩
      have HC2 := Lib.hid (HC.out.trans (b9.mono HC.out.size))
      clear HC b9
      have HC := HC2
      clear HC2
      refine hK.out _ _ HC.out (fun _ => ?_)
      clear hK K
      refine takeH (i := 21) (v := ?_) rfl (by kernel_rfl) (by kernel_rfl) (by kernel_rfl) (fun _ _ _ h => h) (by rfl) ?_ HC.out ?_
      rotate_left
      · intro W hW; obtain ⟨⟨c0, c1, c2, c3, c4⟩, ⟨d0, d1, d2, d3, d4⟩, ⟨y0, y1, y2, y3, y4⟩, ⟨z0, z1, z2, z3, z4⟩⟩ := HL2.out W hW; go_simp <;> with_reducible rfl
      simp only [Act.put, List.setIfInBounds_toArray, List.set_cons_zero, List.set_cons_succ]
      refine takeH (i := 22) (v := ?_) rfl (by kernel_rfl) (by kernel_rfl) (by kernel_rfl) (fun _ _ _ h => h) (by rfl) ?_ HC.out ?_
      rotate_left
      · intro W hW; obtain ⟨⟨c0, c1, c2, c3, c4⟩, ⟨d0, d1, d2, d3, d4⟩, ⟨y0, y1, y2, y3, y4⟩, ⟨z0, z1, z2, z3, z4⟩⟩ := HL2.out W hW; go_simp <;> with_reducible rfl
      simp only [Act.put, List.setIfInBounds_toArray, List.set_cons_zero, List.set_cons_succ]
      refine oneH (i := 23) rfl (by kernel_rfl) (by rfl) (fun K hK => ?_)
      go_simp
      go_at_call 8
      refine (wakes_any _).mono ?_
      rintro e v16_7 ⟨rfl, b9⟩
      have HC2 := Lib.hid (HC.out.trans (b9.mono HC.out.size))
      clear HC b9
      have HC := HC2
      clear HC2
      refine hK.out _ _ HC.out (fun _ => ?_)
      clear hK K
      refine takeH (i := 24) (v := ?_) rfl (by kernel_rfl) (by kernel_rfl) (by kernel_rfl) (fun _ _ _ h => h) (by rfl) ?_ HC.out ?_
      rotate_left
      · intro W hW; obtain ⟨⟨c0, c1, c2, c3, c4⟩, ⟨d0, d1, d2, d3, d4⟩, ⟨y0, y1, y2, y3, y4⟩, ⟨z0, z1, z2, z3, z4⟩⟩ := HL2.out W hW; go_simp <;> with_reducible rfl
      simp only [Act.put, List.setIfInBounds_toArray, List.set_cons_zero, List.set_cons_succ]
      refine takeH (i := 25) (v := ?_) rfl (by kernel_rfl) (by kernel_rfl) (by kernel_rfl) (fun _ _ _ h => h) (by rfl) ?_ HC.out ?_
      rotate_left
      · intro W hW; obtain ⟨⟨c0, c1, c2, c3, c4⟩, ⟨d0, d1, d2, d3, d4⟩, ⟨y0, y1, y2, y3, y4⟩, ⟨z0, z1, z2, z3, z4⟩⟩ := HL2.out W hW; go_simp <;> with_reducible rfl
      simp only [Act.put, List.setIfInBounds_toArray, List.set_cons_zero, List.set_cons_succ]
      refine wpAnyH_done (by kernel_rfl) ?_ _
      have b := HC.out
      have C_ := Lib.hid (C.out.under b)
      have D_ := Lib.hid (D.out.under b)
      have Y_ := Lib.hid (Y.out.under b)
      have Z_ := Lib.hid (Z.out.under b)
      have R_ := Lib.hid (R.out.up b)
      have S_ := Lib.hid (S.out.up b)
      have RY_ := Lib.hid (RY.out.up b)
      have RZ_ := Lib.hid (RZ.out.up b)
      have BB_ := Lib.hid (BB.out.trans (b.mono BB.out.size))
      clear C D Y Z R S RY RZ BB
      have C := C_
      have D := D_
      have Y := Y_
      have Z := Z_
      have R := R_
      have S := S_
      have RY := RY_
      have RZ := RZ_
      have BB := BB_
      clear C_ D_ Y_ Z_ R_ S_ RY_ RZ_ BB_
      clear b HC HL2
      go_wp2_with fail
      go_ret
      exact ⟨rfl, BB.out⟩

theorem cloudTells_any (x y : Cw) (q p : Ak) (id : Int) (A : Option Addr) (n c : Nat) (B : Option Addr) (m d : Nat) (w : World) (hr : RdX w w.heap.size A n x.l) (hr' : RdX w w.heap.size B m y.l) (hk : (Lit.int .u8 q.kind).wf = true) (hkp : (Lit.int .u8 p.kind).wf = true) :
    Calls Try.prog 3 #[.agg #[.slice A n c, .int .i64 x.fl, .int .i64 x.dr, .int .i64 x.nw, .bool x.tg], .agg #[.slice B m d, .int .i64 y.fl, .int .i64 y.dr, .int .i64 y.nw, .bool y.tg], .agg #[.int .u8 q.kind, .int .i64 q.call, .int .i64 q.a, .int .i64 q.b, .int .i64 q.c, .int .i64 q.d], .agg #[.int .u8 p.kind, .int .i64 p.call, .int .i64 p.a, .int .i64 p.b, .int .i64 p.c, .int .i64 p.d], .int .i64 id] w (TruePost w) := by
  by_cases hn : n ≤ 70
  · by_cases hm : m ≤ 70
    · exact tells_ok x y q p id A n c B m d w hr hr' hn hm hk hkp (h1 := rfl) (hN1 := rfl) (h2 := rfl) (hN2 := rfl)
    · exact tells_long2 x y q p id A n c B m d w hr hr' hn hm
  · exact tells_long1 x y q p id A n c B m d w hr hr' hn

end Go.Proofs.Ytphkleecodoplaa
