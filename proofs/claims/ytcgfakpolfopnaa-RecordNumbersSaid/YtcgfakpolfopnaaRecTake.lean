/-
  The walk of 'Take' of package record. Conditions: those that each theorem names.
-/
import Derived.Test.YtcgfakpolfopnaaRecPut
namespace Go.Proofs.Ytcgfakpolfopnaa
open Go.RowKit Go.Shelf

/-- A scope in which the run jumps ahead to one label: what holds there. -/
theorem wp_scope_fwd {P : Program} {a : Act} {w : World} {Q : Exit → Act → World → Prop} {c rest : Code} (l : Nat) (J : Act → World → Prop) (hf : findLabel c l = some rest)
    (first : c.wp P (Exit.jump l J Q) a w) (tail : ∀ a w, J a w → rest.wp P (Exit.jump l (fun _ _ => False) Q) a w) : (Code.scope c).wp P Q a w := by
  refine wp_scope_jumps l J (fun _ _ => 0) hf first (fun a w hJ => wp_mono (tail a w hJ) ?_)
  rintro (_ | _ | l | _ | _ | _) a1 w1 h
  all_goals first | exact h | exact h.2.elim

/-- The record whose bytes they are, all of them. -/
def takenL : List Nat → Option (Nat × List Nat)
  | [] => none
  | k :: l => if k < 17 ∧ mayB k (ints l) = true then some (k, l) else none
def takenRec (bs : List Nat) : Option (Nat × List Nat) := if (takeRow bs).2.2 = 0 ∧ behindRow bs = [] then takenL (takeRow bs).2.1 else none

/-- What Take answers if there is no record; and if there is one. -/
def NoRec (w : World) (e : Ending) (w' : World) : Prop := e = .returned (.tuple #[.agg #[.int .u8 0, .slice none 0 0], .int .i64 11]) ∧ Below w.heap.size w w'
def YesRec (k : Nat) (zs : List Int) (w : World) (e : Ending) (w' : World) : Prop :=
  ∃ A c, e = .returned (.tuple #[.agg #[.int .u8 (k : Int), .slice A zs.length c], .int .i64 0]) ∧ w'.ownsRow w.heap.size 3 1 (.slice A zs.length c) zs.length (iv zs) ∧ Below w.heap.size w w'
def TakeRecIs (r : Option (Nat × List Nat)) (w : World) (e : Ending) (w' : World) : Prop :=
  match r with
  | none => NoRec w e w'
  | some (k, l) => YesRec k (ints l) w e w'

/-- Where the run stands at the label. -/
def TakeAt (w : World) (r : Option (Nat × List Nat)) (a' : Act) (w' : World) : Prop :=
  ∃ u0 u1 u3 u4 u5 u6 u7 u8 u9 u10 u11 u12 u13 u14 u15 u16 u17 u18 u19 u20 u21 u22 u23 u24 u25 u26 u27 u28 u29 u30 u31 u32 u33 u34 u35 u36 u37 u38 u39 u40 u41 : Value, a' = { tmps := #[u0, u1, .pointer (some ⟨w.heap.size, 0, none⟩), u3, u4, u5, u6, u7, u8, u9, u10, u11, u12, u13, u14, u15, u16, u17, u18, u19, u20, u21, u22, u23, u24, u25, u26, u27, u28, u29, u30, u31, u32, u33, u34, u35, u36, u37, u38, u39, u40, u41], defers := [] } ∧ r = none ∧ Whole w' w.heap.size 24 #[.int .u8 0, .slice none 0 0] ∧ Below w.heap.size w w'

/-- 'x[k:]' of integers, as the model cuts it: the address under one name. -/
theorem run_restI (A : Option Addr) (n c k : Nat) (hk : k ≤ n) : ∃ A', (∀ w : World, (Instr.slice 22 (.slice A n c) (some (.int .i64 (k : Int))) none none).run Try.prog w = .ok (.slice A' (n - k) (c - k)) w) ∧
    ((k < n ∧ n ≤ c) → ∀ b off, A = some ⟨b, off, none⟩ → A' = some ⟨b, off + k, none⟩) := by
  obtain ⟨i0, hi, hz0, hz1, hz2⟩ := info_parts info_int
  refine ⟨if c = k then A else A.map (·.add (k * 1)), fun w => ?_, ?_⟩
  · have hz : (sizeOf (Try.prog.elem 22)).run Try.prog w = .ok 1 w := by
      have he : Try.prog.elem 22 = 3 := by kernel_rfl
      simp [he, Go.sizeOf, typeInfo, hi, hz1]
    have h63 : (k : Int).toNat = k := by omega
    rw [run_slice_l (P := Try.prog) w 22 A n c Try.underlying22 .i64 (k : Int) (by omega) (by omega), hz, h63]
    rfl
  · rintro ⟨h1, h2⟩ b off rfl
    rw [if_neg (by omega), Nat.mul_one, Option.map_some, Addr.add_lit]

theorem own_under {w w' : World} {base : Nat} {e : TypeId} {size n : Nat} {v : Value} {xs : List Value} (h : w.ownsRow base e size v n xs) (hb : Below w.heap.size w w') : w'.ownsRow base e size v n xs := by
  refine h.kept (row := none) ⟨hb.os, hb.tape, hb.output, hb.size, fun i hi _ => hb.block i hi⟩ ?_
  rcases h.2 with ⟨rfl, _⟩ | ⟨g, cap, cur, rfl, _⟩
  · exact .inl rfl
  · exact .inr (by simp [Value.ownBlock])

theorem own_cap {w : World} {base : Nat} {e : TypeId} {n c : Nat} {A : Option Addr} {xs : List Value} (h : w.ownsRow base e 1 (.slice A n c) n xs) : n ≤ c := by
  rcases h.2 with ⟨h1, h2⟩ | ⟨g, cap, cur, h1, _, _, h2, _⟩
  · omega
  · injection h1 with _ _ h3
    omega

set_option maxRecDepth 100000 in
set_option maxHeartbeats 1000000 in
theorem takeRec_is (A : Option Addr) (n c : Nat) (bs : List Nat) (B : Nat) (w : World) (hr : Rd w B A n (bv bs)) (hB : B ≤ w.heap.size) (hb : ∀ x ∈ bs, x < 256) (hn : n ≤ 140737488355328) (hc : n ≤ c) {r : Option (Nat × List Nat)} (hR : takenRec bs = r) :
    Calls Try.prog 13 #[.slice A n c] w (TakeRecIs r w) := by
  obtain ⟨L, hL⟩ : ∃ L, (takeRow bs).2.1 = L := ⟨_, rfl⟩
  obtain ⟨E, hE⟩ : ∃ E, (takeRow bs).2.2 = E := ⟨_, rfl⟩
  obtain ⟨R, hRR⟩ : ∃ R, behindRow bs = R := ⟨_, rfl⟩
  have HT : Hid (∀ W : World, Below w.heap.size w W → Calls Try.prog 29 #[.slice A n c] W (RowIs L R E W)) := fun W hW =>
    takes_is A n c bs w.heap.size W ((hr.more hB).below hW) hW.size hb (by omega) hc hL hE hRR
  have hLen : E = 0 → L.length ≤ 40 := fun h => by have := (takeRow_only hb (hE.trans h)).2.1; rwa [hL] at this
  rw [takenRec, hL, hE, hRR] at hR
  have HR := Lib.hid hR
  have HLen := Lib.hid hLen
  clear hL hE hRR hr hB hb hn hc hR hLen
  have hb0 : Below w.heap.size w (w.alloc (.cells #[.int .u8 0, .slice none 0 0] 24)) := (Below.refl _ w).alloc (Nat.le_refl _) _
  have hb1 := hb0.alloc hb0.size (.cells #[.int .u8 0, .slice none 0 0] 24)
  have x0 := (Whole.new w 24 #[.int .u8 0, .slice none 0 0]).alloc (.cells #[.int .u8 0, .slice none 0 0] 24)
  have x1 := Whole.new (w.alloc (.cells #[.int .u8 0, .slice none 0 0] 24)) 24 #[.int .u8 0, .slice none 0 0]
  simp only [World.size_alloc] at x1
  have HB1 := Lib.hid hb1
  have X0 := Lib.hid x0
  have X1 := Lib.hid x1
  clear hb0 hb1 x0 x1
  go_enter Try.func13, Try.ntmps13
  go_wp2_with fail
  refine wp_scope_fwd 0 (TakeAt w r) rfl ?first ?tail
  case tail =>
    rintro a' w' ⟨u0, u1, u3, u4, u5, u6, u7, u8, u9, u10, u11, u12, u13, u14, u15, u16, u17, u18, u19, u20, u21, u22, u23, u24, u25, u26, u27, u28, u29, u30, u31, u32, u33, u34, u35, u36, u37, u38, u39, u40, u41, rfl, rfl, hw, hb⟩
    have q0 := hw.cell 0
    have q1 := hw.cell 1
    have f0 := hw.frozen 0
    have f1 := hw.frozen 1
    have Hw := Lib.hid hw
    have Hb := Lib.hid hb
    clear hw hb
    simp only [List.getElem?_toArray, List.getElem?_cons_zero, List.getElem?_cons_succ] at q0 q1
    go_wp2_with fail
    simp only [Exit.jump]
    have hw2 := (Hw.out.set 0 (.int .u8 0)).set 1 (.slice none 0 0)
    have p0 := hw2.cell 0
    have p1 := hw2.cell 1
    simp at p0 p1
    refine bodyPost_ret (v := .tuple #[.agg #[.int .u8 0, .slice none 0 0], .int .i64 11]) (by simp [results, Try.results13, go_sem, p0, p1]) rfl ⟨rfl, ?_⟩
    exact (Hb.out.setCell (p := ⟨w.heap.size, 0, none⟩) (Nat.le_refl _) _).setCell (p := ⟨w.heap.size, 1, none⟩) (Nat.le_refl _) _
  case first =>
    go_wp2_with fail
    refine (HT.out _ HB1.out).mono ?_
    rintro e w1 ⟨A1, c1, A2, c2, rfl, o1, o2, b1⟩
    have y0 := X0.out.under b1
    have y1 := X1.out.under b1
    have b1' := HB1.out.trans (b1.mono HB1.out.size)
    have Y0 := Lib.hid y0
    have Y1 := Lib.hid y1
    have B1 := Lib.hid b1'
    have O1 := Lib.hid o1
    clear y0 y1 b1 b1' o1 o2
    by_cases hE : E = 0
    · subst hE
      cases R with
      | cons x R =>
        have HrN := Lib.hid (show r = none by rw [← HR.out, if_neg (fun h => by cases h.2)])
        have hlt : (0 : Int) < ((R.length + 1 : Nat) : Int) := by omega
        clear HR
        go_wp2_with fail
        refine wp_goto ⟨rfl, _, _, _, _, _, _, _, _, _, _, _, _, _, _, _, _, _, _, _, _, _, _, _, _, _, _, _, _, _, _, _, _, _, _, _, _, _, _, _, _, _, rfl, HrN.out, Y0.out, B1.out⟩
      | nil =>
        cases L with
        | nil =>
          have HrN := Lib.hid (show r = none by rw [← HR.out, if_pos ⟨rfl, rfl⟩]; rfl)
          clear HR
          go_wp2_with fail
          refine wp_goto ⟨rfl, _, _, _, _, _, _, _, _, _, _, _, _, _, _, _, _, _, _, _, _, _, _, _, _, _, _, _, _, _, _, _, _, _, _, _, _, _, _, _, _, _, rfl, HrN.out, Y0.out, B1.out⟩
        | cons k t =>
          have hne : (((t.length + 1 : Nat) : Int) == 0) = false := by rw [beq_eq_false_iff_ne]; omega
          obtain ⟨g, cap, hv, hg1, hg2⟩ := O1.out.form (by simp)
          injection hv with hA _ hcap
          subst hA
          have hcell : w1.cell? ⟨g, 0, none⟩ = some (.int .i64 (k : Int)) := by
            rw [O1.out.cellAt 0 (by simp)]
            simp [iv, ints]
          have htl : t.length ≤ 39 := by have := HLen.out rfl; simp at this; omega
          have hg0 : w.heap.size + 1 + 1 ≤ g := by simpa using hg1
          have hgne0 : (⟨w.heap.size + 1, 0, none⟩ : Addr) ≠ ⟨g, 0, none⟩ := fun e => by injection e; omega
          have hgne1 : (⟨w.heap.size + 1, 1, none⟩ : Addr) ≠ ⟨g, 0, none⟩ := fun e => by injection e; omega
          by_cases hk : k < 17
          · obtain ⟨A', hA1, hA2⟩ := run_restI (some ⟨g, 0, none⟩) (t.length + 1) c1 1 (by omega)
            have e1 : ((1 : Nat) : Int) = 1 := rfl
            rw [e1] at hA1
            rw [Nat.add_sub_cancel] at hA1
            have hwrap : IntKind.u8.wrap (k : Int) = k := by rw [IntKind.wrap_u8]; omega
            have hge : decide ((17 : Int) ≤ (k : Int)) = false := by simp; omega
            have hRd : Rd w1.drew w1.heap.size A' t.length (iv (ints t)) := by
              have h1 := (Rd.of_own O1.out).cut (k := 1) (by simp) A' (fun h => hA2 ⟨by simpa using h, by have := own_cap O1.out; simpa using this⟩)
              have h2 : Rd w1 w1.heap.size A' t.length (iv (ints t)) := by simpa [iv, ints] using h1
              exact h2
            have HRd := Lib.hid hRd
            have HW := Lib.hid hwrap
            have HTL := Lib.hid htl
            clear hRd hA2 hcap htl e1
            have hwf : IntKind.u8.wrap (k : Int) = k := HW.out
            have HA1 := Lib.hid hA1
            have hA1 := HA1.out
            go_wp2_with fail
            have HOf := Lib.hid (of_any k A' t.length (c1 - 1) (ints t) w1.heap.size w1.drew HRd.out (Nat.le_refl _) (by have := HTL.out; omega))
            go_region_held3 (fun W => W.cell? ⟨g, 0, none⟩ = some (.int .i64 (k : Int))) (first | (with_reducible exact S4.out) | (with_reducible exact S3.out) | go_keep)
              (first | (go_at_call 23; refine (HOf.out).mono ?_; rintro e w3 ⟨A3, c3, rfl, o3, b3⟩; have O3 := Lib.hid o3; have B3 := Lib.hid b3; have S3 := Lib.hid ((b3.cell (p := ⟨g, 0, none⟩) hg2).trans hcell); have Y03 := Lib.hid (Whole.under (w := w1.drew) Y0.out b3); have Y13 := Lib.hid (Whole.under (w := w1.drew) Y1.out b3); have q0 := Y13.out.cell 0; have q1 := Y13.out.cell 1; have f0 := Y13.out.frozen 0; have f1 := Y13.out.frozen 1; have S4 := Lib.hid ((World.cell?_setCell_other _ ⟨w.heap.size + 1, 1, none⟩ ⟨g, 0, none⟩ (.slice A3 (ints t).length c3) hgne1).trans ((World.cell?_setCell_other w3 ⟨w.heap.size + 1, 0, none⟩ ⟨g, 0, none⟩ (.int .u8 (k : Int)) hgne0).trans S3.out)); clear o3 b3))
            have hlt2 : w.heap.size + 1 < w1.heap.size := Y1.out.lt
            have z0 := (Y03.out.far (p := ⟨w.heap.size + 1, 0, none⟩) (by simp) (.int .u8 (k : Int))).far (p := ⟨w.heap.size + 1, 1, none⟩) (by simp) (.slice A3 (ints t).length c3)
            have z1 := (Y13.out.set 0 (.int .u8 (k : Int))).set 1 (.slice A3 (ints t).length c3)
            have hne3 : (Value.slice A3 (ints t).length c3).ownBlock ≠ some (w.heap.size + 1) := fun e => by have h1 := (O3.out.lt _ e).1; have h2 : w1.heap.size ≤ w.heap.size + 1 := h1; omega
            have z3 := ownsRow_setCell_other (ownsRow_setCell_other (a := ⟨w.heap.size + 1, 0, none⟩) O3.out hne3 (.int .u8 (k : Int))) (a := ⟨w.heap.size + 1, 1, none⟩) hne3 (.slice A3 (ints t).length c3)
            have zb : Below w.heap.size w ((w3.setCell ⟨w.heap.size + 1, 0, none⟩ (.int .u8 (k : Int))).setCell ⟨w.heap.size + 1, 1, none⟩ (.slice A3 (ints t).length c3)) :=
              ((B1.out.drew.trans (B3.out.mono B1.out.size)).setCell (p := ⟨w.heap.size + 1, 0, none⟩) (Nat.le_succ _) _).setCell (p := ⟨w.heap.size + 1, 1, none⟩) (Nat.le_succ _) _
            clear q0 q1 f0 f1
            have hfin : (#[Value.int .u8 0, Value.slice none 0 0].setIfInBounds 0 (.int .u8 (k : Int))).setIfInBounds 1 (.slice A3 (ints t).length c3) = #[.int .u8 (k : Int), .slice A3 (ints t).length c3] := rfl
            rw [hfin] at z1
            clear hfin
            rename_i hHeld
            clear hHeld
            obtain ⟨W4, hW4⟩ : ∃ W4, (w3.setCell ⟨w.heap.size + 1, 0, none⟩ (.int .u8 (k : Int))).setCell ⟨w.heap.size + 1, 1, none⟩ (.slice A3 (ints t).length c3) = W4 := ⟨_, rfl⟩
            rw [hW4] at z0 z1 z3 zb ⊢
            clear S4 S3 Y03 Y13 O3 hW4 B3 hne3
            have p0 := z1.cell 0
            have p1 := z1.cell 1
            simp only [List.getElem?_toArray, List.getElem?_cons_zero, List.getElem?_cons_succ] at p0 p1
            have hRt : Calls Try.prog 16 #[.agg #[.int .u8 (k : Int), .slice A3 (ints t).length c3]] W4 (BoolPost (mayB k (ints t)) W4) := right_rec k (by omega) A3 _ c3 (ints t) _ W4 (Rd.of_own z3) (Nat.le_refl _)
            have HRt := Lib.hid hRt
            have Z0 := Lib.hid z0
            have Z1 := Lib.hid z1
            have Z3 := Lib.hid z3
            have ZB := Lib.hid zb
            clear hRt z0 z1 z3 zb
            by_cases hm : mayB k (ints t) = true
            · have HrY := Lib.hid (show r = some (k, t) by rw [← HR.out, if_pos (by simp)]; exact if_pos ⟨hk, hm⟩)
              rw [hm] at HRt
              clear hm HR
              go_wp2_with fail
              refine (HRt.out).mono ?_
              rintro e w5 ⟨rfl, b5⟩
              have y5 := Z0.out.under b5
              have y6 := Z1.out.under b5
              have b5' := ZB.out.trans (b5.mono ZB.out.size)
              have o5 := own_under Z3.out b5
              have Y5 := Lib.hid y5
              have Y6 := Lib.hid y6
              have B5 := Lib.hid b5'
              have O5 := Lib.hid o5
              have q0 := y5.cell 0
              have q1 := y5.cell 1
              have f0 := y5.frozen 0
              have f1 := y5.frozen 1
              have p0 := y6.cell 0
              have p1 := y6.cell 1
              simp only [List.getElem?_toArray, List.getElem?_cons_zero, List.getElem?_cons_succ] at q0 q1 p0 p1
              clear b5 y5 y6 b5' o5
              go_wp2_with fail
              simp only [Exit.jump]
              have hw2 := (Y5.out.set 0 (.int .u8 (k : Int))).set 1 (.slice A3 (ints t).length c3)
              have r0 := hw2.cell 0
              have r1 := hw2.cell 1
              simp at r0 r1
              have hne5 : (Value.slice A3 (ints t).length c3).ownBlock ≠ some w.heap.size := fun e => by have h1 := (O5.out.lt _ e).1; have h2 : w1.heap.size ≤ w.heap.size := h1; omega
              rw [HrY.out]
              refine bodyPost_ret (v := .tuple #[.agg #[.int .u8 (k : Int), .slice A3 (ints t).length c3], .int .i64 0]) (by simp [results, Try.results13, go_sem, r0, r1]) rfl ⟨A3, c3, rfl, ?_, ?_⟩
              · exact own_weaker (ownsRow_setCell_other (ownsRow_setCell_other (a := ⟨w.heap.size, 0, none⟩) O5.out hne5 _) (a := ⟨w.heap.size, 1, none⟩) hne5 _) B1.out.size
              · exact (B5.out.setCell (p := ⟨w.heap.size, 0, none⟩) (Nat.le_refl _) _).setCell (p := ⟨w.heap.size, 1, none⟩) (Nat.le_refl _) _
            · have hmf : mayB k (ints t) = false := by simpa using hm
              have HrN := Lib.hid (show r = none by rw [← HR.out, if_pos (by simp)]; exact if_neg (fun h => hm h.2))
              rw [hmf] at HRt
              clear hm hmf HR
              go_wp2_with fail
              refine (HRt.out).mono ?_
              rintro e w5 ⟨rfl, b5⟩
              have y5 := Z0.out.under b5
              have b5' := ZB.out.trans (b5.mono ZB.out.size)
              have Y5 := Lib.hid y5
              have B5 := Lib.hid b5'
              clear b5 y5 b5'
              go_wp2_with fail
              refine wp_goto ⟨rfl, _, _, _, _, _, _, _, _, _, _, _, _, _, _, _, _, _, _, _, _, _, _, _, _, _, _, _, _, _, _, _, _, _, _, _, _, _, _, _, _, _, rfl, HrN.out, Y5.out, B5.out⟩
          · have HrN := Lib.hid (show r = none by rw [← HR.out, if_pos (by simp)]; exact if_neg (fun h => hk h.1))
            have hge : (17 : Int) ≤ (k : Int) := by omega
            clear HR hk
            go_wp2_with fail
            refine wp_goto ⟨rfl, _, _, _, _, _, _, _, _, _, _, _, _, _, _, _, _, _, _, _, _, _, _, _, _, _, _, _, _, _, _, _, _, _, _, _, _, _, _, _, _, _, rfl, HrN.out, Y0.out, B1.out⟩
    · have hEb : ((E : Int) != 0) = true := by simp; exact hE
      have HrN := Lib.hid (show r = none by rw [← HR.out, if_neg (fun h => hE h.1)])
      clear hE
      go_wp2_with fail
      refine wp_goto ⟨rfl, _, _, _, _, _, _, _, _, _, _, _, _, _, _, _, _, _, _, _, _, _, _, _, _, _, _, _, _, _, _, _, _, _, _, _, _, _, _, _, _, _, rfl, HrN.out, Y0.out, B1.out⟩

end Go.Proofs.Ytcgfakpolfopnaa
