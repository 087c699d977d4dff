/-
  The walk of what the statements of package conf all end with: what the document says of two floors. Conditions: those that each theorem names.
-/
import Derived.Test.YtdjieigmncoooaaDoorRefCf
import Derived.Test.YtdjieigmncoooaaDoorRefSameC
import Derived.Test.YtdjieigmncoooaaDoorRefOf
namespace Go.Proofs.YtdjieigmncoooaaDoor
open Go.RowKit Go.Shelf

def cfA : Cf := ⟨3, 50, 0, 0, 0, 0, 0, 0, 1, 1, 1, 0, 1, false, none, 0, 0, []⟩
def cfB : Cf := ⟨2, 100, 0, 0, 0, 0, 0, 0, 1, 1, 1, 0, 1, false, none, 0, 0, []⟩
set_option maxRecDepth 100000 in
theorem lies_nil (x : Cf) (hA : x.n = 0) (hc : x.c = 0) (hm : x.ms = []) (w : World) (B : Nat) : Lies x w B := by
  refine ⟨?_, by omega, by rw [hc]; exact Nat.zero_le _⟩
  rw [hA, hm]
  exact Rd.nil_ _ _ _

set_option maxRecDepth 100000 in
theorem rowA_any (w : World) (h : Has cfA w) : Calls Tryd.prog 9 #[cfA.v] w fun e w' => ∃ A c, e = .returned (.tuple #[.slice A 14 c, .int .i64 0]) ∧ w'.ownsRow w.heap.size 3 1 (.slice A 14 c) 14 (iv (rowOf cfA)) ∧ Below w.heap.size w w' := by
  refine (row_any cfA w h).mono ?_
  rintro e w' ⟨A, n, c, rfl, ho, hb⟩
  have hm : may cfA = true := rfl
  rw [hm, if_pos rfl] at ho
  have hn : n = 14 := by have := ho.1; rw [iv_length, rowOf_len] at this; simp [cfA] at this; omega
  subst hn
  exact ⟨A, c, by rw [hm]; rfl, ho, hb⟩

set_option maxRecDepth 100000 in
/-- What comes of the row told back. -/
theorem ofA_any (A : Option Addr) (c : Nat) (base : Nat) (w : World) (ho : w.ownsRow base 3 1 (.slice A 14 c) 14 (iv (rowOf cfA))) (hT : Tab w) : Calls Tryd.prog 11 #[.slice A 14 c] w fun e w' => ∃ y : Cf, e = .returned (.tuple #[y.v, .int .i64 0]) ∧ sameC y cfA = true ∧ Lies y w' w'.heap.size ∧ Below w.heap.size w w' := by
  refine (of_any A 14 c (rowOf cfA) w.heap.size w (Rd.of_own ho) (Nat.le_refl _) (own_cap ho) (own_maxC ho) (by omega) hT).mono ?_
  rintro e w' ⟨y, rfl, hy, hb⟩
  have hr : isRow (rowOf cfA) = true := rfl
  obtain ⟨h1, h2⟩ := hy.1 hr
  refine ⟨y, by rw [hr]; rfl, ?_, ⟨Rd.of_own h2, own_cap h2, own_maxC h2⟩, hb⟩
  rw [h1]
  rfl

set_option maxRecDepth 100000 in
theorem chkA (W : World) (h : Has cfA W) : Calls Tryd.prog 15 #[cfA.v] W (IntPost 0 W) := by
  have := check_any cfA W h
  rwa [show er (may cfA) = 0 from rfl] at this
set_option maxRecDepth 100000 in
theorem flA (W : World) (h : Has cfA W) : Calls Tryd.prog 17 #[cfA.v] W (IntPost 2 W) := by
  have := floorC_any cfA W h
  rwa [show floorOf cfA = 2 from rfl] at this
set_option maxRecDepth 100000 in
theorem boA (W : World) (h : Has cfA W) : Calls Tryd.prog 19 #[cfA.v] W (IntPost 3 W) := by
  have := boundC_any cfA W h
  rwa [show boundOf cfA = 3 from rfl] at this
set_option maxRecDepth 100000 in
theorem chkB (W : World) (h : Has cfB W) : Calls Tryd.prog 15 #[cfB.v] W (IntPost 70 W) := by
  have := check_any cfB W h
  rwa [show er (may cfB) = 70 from rfl] at this
set_option maxRecDepth 100000 in
theorem flB (W : World) (h : Has cfB W) : Calls Tryd.prog 17 #[cfB.v] W (IntPost 0 W) := by
  have := floorC_any cfB W h
  rwa [show floorOf cfB = 0 from rfl] at this
set_option maxRecDepth 100000 in
theorem chk0 (W : World) (h : Has cf0 W) : Calls Tryd.prog 15 #[cf0.v] W (IntPost 70 W) := by
  have := check_any cf0 W h
  rwa [show er (may cf0) = 70 from rfl] at this

/-- The three groups in their boxes. -/
structure Wk (y : Cf) (w W : World) (b : Nat) : Prop where
  two : Two cfA cfB w W
  box : Whole W b 24 y.cells
  tab : Tab W
  lies : Lies y W W.heap.size
set_option maxRecDepth 100000 in
theorem Wk.under {y : Cf} {w W W' : World} {b : Nat} (h : Wk y w W b) (hb : Below W.heap.size W W') : Wk y w W' b := ⟨h.two.under hb, h.box.under hb, h.tab.under hb, (h.lies.below hb).more hb.size⟩
set_option maxRecDepth 100000 in
theorem Wk.hasA {y : Cf} {w W : World} {b : Nat} (h : Wk y w W b) : Has cfA W := ⟨lies_nil cfA rfl rfl rfl _ _, h.tab⟩
set_option maxRecDepth 100000 in
theorem Wk.hasB {y : Cf} {w W : World} {b : Nat} (h : Wk y w W b) : Has cfB W := ⟨lies_nil cfB rfl rfl rfl _ _, h.tab⟩
set_option maxRecDepth 100000 in
theorem Wk.has0 {y : Cf} {w W : World} {b : Nat} (h : Wk y w W b) : Has cf0 W := ⟨lies_nil cf0 rfl rfl rfl _ _, h.tab⟩

set_option maxRecDepth 100000 in
set_option maxHeartbeats 4000000 in
theorem wakes_any (w : World) (hT : Tab w) : Calls Tryd.prog 8 #[] w (TruePost w) := by
  have hTw := Two.new cfA cfB w
  have hT1 := hT.under hTw.2.2
  have HRow := Lib.hid (rowA_any _ ⟨lies_nil cfA rfl rfl rfl _ _, hT1⟩)
  have HTw := Lib.hid hTw
  have HT1 := Lib.hid hT1
  clear hT hTw hT1
  go_enter Tryd.func8, Tryd.ntmps8
  go_wp2_with fail
  refine (HRow.out).mono ?_
  as_aux_lemma =>
    rintro e w1 ⟨A, c, rfl, ho, b1⟩
    have HTw1 := Lib.hid (HTw.out.under b1)
    have HT2 := Lib.hid (HT1.out.under b1)
    have HO := Lib.hid ho
    have HOf := Lib.hid (ofA_any A c _ w1 ho HT2.out)
    clear ho b1 HRow HTw HT1
    go_wp2_with fail
    refine (HOf.out).mono ?_
    as_aux_lemma =>
      rintro e w2 ⟨y, rfl, hs, hl, b2⟩
      have HTw2 := Lib.hid (HTw1.out.under b2)
      have HT3 := Lib.hid (HT2.out.under b2)
      have HSm := Lib.hid hs
      have HN : Hid (y.n ≤ 1000) := Lib.hid (by
        have h1 := hl.len
        have h2 := (sameC_iff.1 hs).2.2
        rw [h2] at h1
        simp [cfA] at h1
        omega)
      have HLy := Lib.hid hl
      obtain ⟨W3, hW3⟩ : ∃ W3, w2.alloc (.cells y.cells 24) = W3 := ⟨_, rfl⟩
      have hb3 : Below w2.heap.size w2 W3 := by rw [← hW3]; exact (Below.refl _ _).alloc (Nat.le_refl _) _
      have HK3 : Hid (Wk y w W3 w2.heap.size) := Lib.hid ⟨HTw2.out.under hb3, by rw [← hW3]; exact Whole.new w2 _ _, HT3.out.under hb3, (HLy.out.below hb3).more hb3.size⟩
      clear hs hl b2 HTw1 HT2 HOf hb3 HTw2 HT3 HLy HO
      obtain ⟨c0, c1, c2, c3, c4, c5, c6, c7, c8, c9, c10, c11, c12, c13, c14⟩ := HK3.out.two.1.conf
      have h0 : w2.alloc (.cells #[.int .i64 y.f0, .int .i64 y.f1, .int .i64 y.f2, .int .i64 y.f3, .int .i64 y.f4, .int .i64 y.f5, .int .i64 y.f6, .int .i64 y.f7, .int .i64 y.f8, .int .i64 y.f9, .int .i64 y.f10, .int .i64 y.f11, .int .i64 y.f12, .bool y.sk, .slice y.A y.n y.c] 24) = W3 := hW3
      clear hW3
      have HSame : Hid (∀ W, Wk y w W w2.heap.size → Calls Tryd.prog 14 #[y.v, cfA.v] W (BoolPost true W)) := Lib.hid (fun W h => by
        have := refSameC_any y cfA W.heap.size W.heap.size W h.lies (lies_nil cfA rfl rfl rfl _ _) (Nat.le_refl _) (Nat.le_refl _) HN.out
        rwa [HSm.out] at this)
      go_wp2_with fail
      refine (chkA _ HK3.out.hasA).mono ?_
      as_aux_lemma =>
        rintro e w4 ⟨rfl, b⟩
        have HK4 := Lib.hid (HK3.out.under b)
        clear b HK3 c0 c1 c2 c3 c4 c5 c6 c7 c8 c9 c10 c11 c12 c13 c14 h0
        obtain ⟨c0, c1, c2, c3, c4, c5, c6, c7, c8, c9, c10, c11, c12, c13, c14⟩ := HK4.out.two.1.conf
        go_wp2_with fail
        refine (flA _ HK4.out.hasA).mono ?_
        as_aux_lemma =>
          rintro e w5 ⟨rfl, b⟩
          have HK5 := Lib.hid (HK4.out.under b)
          clear b HK4 c0 c1 c2 c3 c4 c5 c6 c7 c8 c9 c10 c11 c12 c13 c14
          obtain ⟨c0, c1, c2, c3, c4, c5, c6, c7, c8, c9, c10, c11, c12, c13, c14⟩ := HK5.out.two.1.conf
          go_wp2_with fail
          refine (boA _ HK5.out.hasA).mono ?_
          as_aux_lemma =>
            rintro e w6 ⟨rfl, b⟩
            have HK6 := Lib.hid (HK5.out.under b)
            clear b HK5 c0 c1 c2 c3 c4 c5 c6 c7 c8 c9 c10 c11 c12 c13 c14
            obtain ⟨d0, d1, d2, d3, d4, d5, d6, d7, d8, d9, d10, d11, d12, d13, d14⟩ := HK6.out.two.2.1.conf
            go_wp2_with fail
            refine (chkB _ HK6.out.hasB).mono ?_
            as_aux_lemma =>
              rintro e w7 ⟨rfl, b⟩
              have HK7 := Lib.hid (HK6.out.under b)
              clear b HK6 d0 d1 d2 d3 d4 d5 d6 d7 d8 d9 d10 d11 d12 d13 d14
              obtain ⟨d0, d1, d2, d3, d4, d5, d6, d7, d8, d9, d10, d11, d12, d13, d14⟩ := HK7.out.two.2.1.conf
              go_wp2_with fail
              refine (flB _ HK7.out.hasB).mono ?_
              as_aux_lemma =>
                rintro e w8 ⟨rfl, b⟩
                have HK8 := Lib.hid (HK7.out.under b)
                clear b HK7 d0 d1 d2 d3 d4 d5 d6 d7 d8 d9 d10 d11 d12 d13 d14
                obtain ⟨c0, c1, c2, c3, c4, c5, c6, c7, c8, c9, c10, c11, c12, c13, c14⟩ := HK8.out.two.1.conf
                obtain ⟨e0, e1, e2, e3, e4, e5, e6, e7, e8, e9, e10, e11, e12, e13, e14⟩ := HK8.out.box.conf
                go_wp2_with fail
                refine (HSame.out _ HK8.out).mono ?_
                as_aux_lemma =>
                  rintro e w9 ⟨rfl, b⟩
                  have HK9 := Lib.hid (HK8.out.under b)
                  clear b HK8 c0 c1 c2 c3 c4 c5 c6 c7 c8 c9 c10 c11 c12 c13 c14 e0 e1 e2 e3 e4 e5 e6 e7 e8 e9 e10 e11 e12 e13 e14
                  go_wp2_with fail
                  refine (chk0 _ HK9.out.has0).mono ?_
                  as_aux_lemma =>
                    rintro e w10 ⟨rfl, b⟩
                    have HK10 := Lib.hid (HK9.out.under b)
                    clear b HK9 
                    go_wp2_with fail
                    go_ret
                    exact ⟨rfl, HK10.out.two.2.2⟩

end Go.Proofs.YtdjieigmncoooaaDoor
