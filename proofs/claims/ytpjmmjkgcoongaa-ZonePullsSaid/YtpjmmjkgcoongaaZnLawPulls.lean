/-
  The walk of the statement 'ZonePulls': it answers true, and nothing that was there turns. Conditions: none.
-/
import Derived.Test.YtpjmmjkgcoongaaZnWakes
import Derived.Laws.AppendOwnNone
namespace Go.Proofs.Ytpjmmjkgcoongaa
open Go.RowKit Go.Shelf

theorem zonePulls_out (A : Option Addr) (n c : Nat) (A1 : Option Addr) (n1 c1 : Nat) (w : World) (h : ¬ (n ≤ 400 ∧ n1 ≤ 400)) :
    Calls Try.prog 6 #[.slice A n c, .slice A1 n1 c1] w fun e w' => e = .returned (.bool true) ∧ Below w.heap.size w w' := by
  by_cases h0 : (400 : Int) < (n : Int)
  · go_enter Try.func6, Try.ntmps6
    go_wp2_with fail
    refine (wakes_any _).mono ?_
    rintro e w1 ⟨rfl, hb⟩
    go_wp2_with fail
    go_ret
    exact ⟨rfl, hb⟩
  · have h1 : (400 : Int) < (n1 : Int) := by omega
    go_enter Try.func6, Try.ntmps6
    go_wp2_with fail
    refine (wakes_any _).mono ?_
    rintro e w1 ⟨rfl, hb⟩
    go_wp2_with fail
    go_ret
    exact ⟨rfl, hb⟩

/-- What is gone over: each one on, and the other way round. -/
def onL (l : List Int) (k : Nat) : List Int := (l.take k).map (· + 1)
def backL (l : List Int) (k : Nat) : List Int := (l.take k).reverse
theorem onL_succ {l : List Int} {k : Nat} {x : Int} (h : l[k]? = some x) : onL l (k + 1) = onL l k ++ [x + 1] := by
  simp [onL, List.take_add_one, h]
theorem backL_succ {l : List Int} {k : Nat} {x : Int} (h : l[k]? = some x) : backL l (k + 1) = x :: backL l k := by
  simp [backL, List.take_add_one, h]

theorem onL_len {l : List Int} {k : Nat} (h : k ≤ l.length) : (onL l k).length = k := by simp [onL]; omega
theorem backL_len {l : List Int} {k : Nat} (h : k ≤ l.length) : (backL l k).length = k := by simp [backL]; omega
theorem onL_all {l : List Int} {k : Nat} (h : l.length = k) : onL l k = l.map (· + 1) := by rw [onL, List.take_of_length_le (by omega)]
theorem backL_all {l : List Int} {k : Nat} (h : l.length = k) : backL l k = l.reverse := by rw [backL, List.take_of_length_le (by omega)]

/-- What holds between two rounds: two rows of one's own that share no block. -/
structure PullsAt (w : World) (l : List Int) (k : Nat) (v u : Value) (wr : World) : Prop where
  on : wr.ownsRow w.heap.size 3 1 v k (iv (onL l k))
  back : wr.ownsRow w.heap.size 3 1 u k (iv (backL l k))
  apart : ∀ g, v.ownBlock = some g → u.ownBlock ≠ some g
  below : Below w.heap.size w wr

theorem own_one (w : World) (u : Value) (e : TypeId) : (w.alloc (.cells #[u] e)).ownsRow w.heap.size e 1 (.slice (some ⟨w.heap.size, 0, none⟩) 1 1) 1 [u] :=
  ⟨rfl, .inr ⟨_, 1, #[u], rfl, Nat.le_refl _, heap_alloc_new w _, Nat.le_refl _, by decide, rfl, rfl⟩⟩

/-- What is where a round has put its number to both rows. -/
theorem pulls_step {w : World} {l : List Int} {k : Nat} {v u : Value} {wr : World} (h : PullsAt w l k v u wr) {x : Int} (hx : l[k]? = some x) (hk : k ≤ 400) :
    ∃ v1 w1, (Builtin.append_ #[29, 29] 29 #[v, .slice (some ⟨wr.heap.size, 0, none⟩) 1 1]).run Try.prog (wr.alloc (.cells #[.int .i64 (x + 1)] 3)) = .ok v1 w1 ∧ Below w.heap.size w w1 ∧
      ∃ u1 w2, (Builtin.append_ #[29, 29] 29 #[.slice (some ⟨w1.heap.size, 0, none⟩) 1 1, u]).run Try.prog (w1.alloc (.cells #[.int .i64 x] 3)) = .ok u1 w2 ∧ PullsAt w l (k + 1) v1 u1 w2 := by
  have hs := h.below.size
  have hlk : k < l.length := (List.getElem?_eq_some_iff.1 hx).1
  obtain ⟨v1, w1, r1, o1, g1⟩ := run_appI (wr.alloc (.cells #[.int .i64 (x + 1)] 3)) w.heap.size v k (iv (onL l k)) (h.on.alloc _) (wr.alloc (.cells #[.int .i64 (x + 1)] 3)).heap.size (some ⟨wr.heap.size, 0, none⟩) 1 1 [x + 1] (rd_lit1 (by simp) (by simp)) (by omega) (by simp; omega)
  have b1 : Below w.heap.size w w1 := (h.below.alloc hs _).trans (below_row (h.on.alloc _) g1 (by simp; omega))
  have ou : w1.ownsRow w.heap.size 3 1 u k (iv (backL l k)) := by
    refine (h.back.alloc _).kept g1 ?_
    cases e : u.ownBlock with
    | none => exact .inl rfl
    | some g =>
      right
      intro e1
      exact h.apart g e1.symm e
  obtain ⟨A2, c2, rfl⟩ := own_form h.back
  obtain ⟨u1, w2, r2, o2, g2⟩ := run_appI (w1.alloc (.cells #[.int .i64 x] 3)) w1.heap.size (.slice (some ⟨w1.heap.size, 0, none⟩) 1 1) 1 [.int .i64 x] (own_one w1 _ _) w1.heap.size A2 k c2 (backL l k) ((Rd.of_own ou).alloc (Nat.le_refl _) _) (by omega) (by simp)
  have b2 : Below w1.heap.size w1 w2 := ((Below.refl _ w1).alloc (Nat.le_refl _) _).trans (below_row (own_one w1 _ _) g2 (by simp))
  refine ⟨v1, w1, r1, b1, u1, w2, r2, ?_, ?_, ?_, b1.trans (b2.mono b1.size)⟩
  · have h9 : w1.ownsRow w.heap.size 3 1 v1 (k + 1) (iv (onL l (k + 1))) := by rw [onL_succ hx]; simpa [iv] using o1
    exact own_under h9 b2
  · have h9 : w2.ownsRow w1.heap.size 3 1 u1 (k + 1) (iv (backL l (k + 1))) := by
      rw [backL_succ hx, Nat.add_comm k 1]; simpa [iv] using o2
    exact own_weaker h9 b1.size
  · intro g e1 e2
    have h1 := (o1.lt g e1).2
    have h2 := (o2.lt g e2).1
    omega

/-- 'append(append([]int{}, l...), m...)'. -/
theorem run_twoI (w : World) (B : Nat) (A1 A2 : Option Addr) (m1 c1 m2 c2 : Nat) (a b : List Int) (h1 : Rd w B A1 m1 (iv a)) (h2 : Rd w B A2 m2 (iv b)) (hB : B ≤ w.heap.size) (hm : m1 + m2 ≤ 1000000) :
    ∃ v1 W1 A3 c3 W2, (Builtin.append_ #[29, 29] 29 #[.slice (some ⟨w.heap.size, 0, none⟩) 0 0, .slice A1 m1 c1]).run Try.prog (w.alloc (.cells #[] 3)) = .ok v1 W1 ∧
      (Builtin.append_ #[29, 29] 29 #[v1, .slice A2 m2 c2]).run Try.prog W1 = .ok (.slice A3 (m1 + m2) c3) W2 ∧ Rd W2 W2.heap.size A3 (m1 + m2) (iv (a ++ b)) ∧ Below w.heap.size w W2 ∧ m1 + m2 ≤ c3 := by
  have ho := World.ownsRow_made (base := w.heap.size) (e := 3) (size := 1) w #[] 0 (Nat.le_refl _) (Nat.zero_le _) rfl
  obtain ⟨v1, W1, r1, o1, g1⟩ := run_appI (w.alloc (.cells #[] 3)) w.heap.size _ 0 [] ho B A1 m1 c1 a (h1.alloc hB _) (by omega) (by simp)
  have b1 : Below w.heap.size w W1 := ((Below.refl _ w).alloc (Nat.le_refl _) _).trans (below_row ho g1 (by simp))
  obtain ⟨v2, W2, r2, o2, g2⟩ := run_appI W1 w.heap.size v1 (0 + m1) _ o1 B A2 m2 c2 b (h2.below (b1.mono hB)) (by omega) b1.size
  have b2 : Below w.heap.size w W2 := b1.trans (below_row o1 g2 b1.size)
  have e : iv a ++ iv b = iv (a ++ b) := by simp [iv]
  rw [Nat.zero_add, List.nil_append, e] at o2
  obtain ⟨A3, c3, rfl⟩ := own_form o2
  exact ⟨v1, W1, A3, c3, W2, r1, r2, Rd.of_own o2, b2, own_cap o2⟩

set_option maxRecDepth 100000 in
set_option maxHeartbeats 1000000 in
theorem zonePulls_in (A : Option Addr) (n c : Nat) (l : List Int) (A1 : Option Addr) (n1 c1 : Nat) (m : List Int) (w : World) (hr : Rd w w.heap.size A n (iv l)) (hc : n ≤ c) (hr1 : Rd w w.heap.size A1 n1 (iv m)) (hc1 : n1 ≤ c1) (h0 : n ≤ 400) (h1 : n1 ≤ 400) :
    Calls Try.prog 6 #[.slice A n c, .slice A1 n1 c1] w fun e w' => e = .returned (.bool true) ∧ Below w.heap.size w w' := by
  have hl : l.length = n := by have := hr.1; rwa [iv_length] at this
  have HR := Lib.hid hr
  have HR1 := Lib.hid hr1
  have HL := Lib.hid hl
  have i0 : ¬ (400 : Int) < (n : Int) := by omega
  have i1 : ¬ (400 : Int) < (n1 : Int) := by omega
  clear hr hr1 hl
  go_enter Try.func6, Try.ntmps6
  go_wp2_with fail
  go_loopw [5, 6, 7] (fun v u i wr => ∃ k : Nat, i = .int .i64 (k : Int) ∧ k ≤ n ∧ PullsAt w l k v u wr) (fun _ _ i _ => n - (intOf i).toNat)
  case atStart => exact ⟨0, rfl, Nat.zero_le _, World.ownsRow_nil _ _ _ _, World.ownsRow_nil _ _ _ _, fun g e => by simp [Value.ownBlock] at e, Below.refl _ _⟩
  case round =>
    obtain ⟨k, rfl, hk, hP⟩ := hrel
    rcases Nat.eq_or_lt_of_le hk with rfl | hlt
    · obtain ⟨A5, c5, rfl⟩ := own_form hP.on
      obtain ⟨A6, c6, rfl⟩ := own_form hP.back
      have hlm : m.length = n1 := by have := HR1.out.1; rwa [iv_length] at this
      have hb := hP.below
      obtain ⟨v1, W1, A8, c8, W2, r1, r2, R8, b2, hc8⟩ := run_twoI wr w.heap.size A A1 k c n1 c1 l m (HR.out.below hb) (HR1.out.below hb) hb.size (by omega)
      have bl1 := sx_bd l
      have bl2 := sy_bd l
      have hl : l.length = k := HL.out
      have PB := Lib.hid (pull_any A8 (k + n1) c8 (l ++ m) W2.heap.size W2 R8 (Nat.le_refl _) (by omega) hc8)
      have PL := Lib.hid (fun W (h : Below wr.heap.size wr W) => pull_any A k c l w.heap.size W (HR.out.below (hb.trans (h.mono hb.size))) (Nat.le_trans hb.size h.size) (by omega) hc)
      have PM := Lib.hid (fun W (h : Below wr.heap.size wr W) => pull_any A1 n1 c1 m w.heap.size W (HR1.out.below (hb.trans (h.mono hb.size))) (Nat.le_trans hb.size h.size) (by omega) hc1)
      have PO := Lib.hid (fun W (h : Below wr.heap.size wr W) => pull_any A5 k c5 (onL l k) wr.heap.size W ((Rd.of_own hP.on).below h) h.size (by omega) (own_cap hP.on))
      have PK := Lib.hid (fun W (h : Below wr.heap.size wr W) => pull_any A6 k c6 (backL l k) wr.heap.size W ((Rd.of_own hP.back).below h) h.size (by omega) (own_cap hP.back))
      have NL := Lib.hid (fun W (h : Below wr.heap.size wr W) => next_any A k c l w.heap.size W (HR.out.below (hb.trans (h.mono hb.size))) (Nat.le_trans hb.size h.size) (by omega))
      have NK := Lib.hid (fun W (h : Below wr.heap.size wr W) => next_any A6 k c6 (backL l k) wr.heap.size W ((Rd.of_own hP.back).below h) h.size (by omega))
      rw [sx_app, sy_app] at PB
      rw [onL_all hl, sx_on, sy_on] at PO
      rw [backL_all hl, sx_rev, sy_rev] at PK NK
      obtain ⟨P, hP1⟩ : ∃ P, sx l = P := ⟨_, rfl⟩
      obtain ⟨Q, hQ1⟩ : ∃ Q, sy l = Q := ⟨_, rfl⟩
      have bm1 := sx_bd m
      have bm2 := sy_bd m
      obtain ⟨P2, hP2⟩ : ∃ P2, sx m = P2 := ⟨_, rfl⟩
      obtain ⟨Q2, hQ2⟩ : ∃ Q2, sy m = Q2 := ⟨_, rfl⟩
      rw [hP1] at PB PL PO PK NL NK bl1
      rw [hQ1] at PB PL PO PK NL NK bl2
      rw [hP2] at PB PM bm1
      rw [hQ2] at PB PM bm2
      have g1 : -400 ≤ P := by omega
      have g2 : P ≤ 400 := by omega
      have g3 : -400 ≤ Q := by omega
      have g4 : Q ≤ 400 := by omega
      have g5 : -400 ≤ P2 := by omega
      have g6 : P2 ≤ 400 := by omega
      have g7 : -400 ≤ Q2 := by omega
      have g8 : Q2 ≤ 400 := by omega
      obtain ⟨N, hN⟩ : ∃ N, nx P Q 4 = N := ⟨_, rfl⟩
      rw [hN] at NL NK
      have E1 := Lib.hid r1
      have E2 := Lib.hid r2
      have HB := Lib.hid hb
      have B2 := Lib.hid b2
      clear r1 r2 R8 b2 hb hP hl hlm bl1 bl2 bm1 bm2 hP1 hQ1 hP2 hQ2 hN hc8
      go_wp2_with (first | (at_builtin; refine wpList_app (by rfl) _ _ _ rfl _ _ _ _ rfl rfl E1.out ?_; clear E1) | (at_builtin; refine wpList_app (by rfl) _ _ _ rfl _ _ _ _ rfl rfl E2.out ?_; clear E2))
      refine (PB.out).mono ?_
      rintro e w3 ⟨⟨x3, y3, rfl, hx, hy⟩, hb⟩
      have B3 := Lib.hid (B2.out.trans (hb.mono B2.out.size))
      have X3 := Lib.hid hx
      have Y3 := Lib.hid hy
      clear hx hy hb
      go_wp2_with fail
      refine (PL.out _ B3.out).mono ?_
      rintro e w4 ⟨⟨x4, y4, rfl, hx, hy⟩, hb⟩
      have B4 := Lib.hid (B3.out.trans (hb.mono B3.out.size))
      have X4 := Lib.hid hx
      have Y4 := Lib.hid hy
      clear hx hy hb
      go_wp2_with fail
      refine (PM.out _ B4.out).mono ?_
      rintro e w5 ⟨⟨x5, y5, rfl, hx, hy⟩, hb⟩
      have B5 := Lib.hid (B4.out.trans (hb.mono B4.out.size))
      have X5 := Lib.hid hx
      have Y5 := Lib.hid hy
      clear hx hy hb
      obtain ⟨r9, s9, ha9, hr9, hs9⟩ := run_caddW (P := Try.prog) w5 23 X4.out Y4.out X5.out Y5.out (by omega) (by omega)
      have o1 := ord_eq X3.out hr9 rfl
      have o2 := ord_eq Y3.out hs9 rfl
      clear hr9 hs9
      go_wp2_with fail
      clear ha9 o1 o2
      refine (PO.out _ B5.out).mono ?_
      rintro e w6 ⟨⟨x6, y6, rfl, hx, hy⟩, hb⟩
      have B6 := Lib.hid (B5.out.trans (hb.mono B5.out.size))
      have X6 := Lib.hid hx
      have Y6 := Lib.hid hy
      clear hx hy hb
      go_wp2_with fail
      refine (PL.out _ B6.out).mono ?_
      rintro e w7 ⟨⟨x7, y7, rfl, hx, hy⟩, hb⟩
      have B7 := Lib.hid (B6.out.trans (hb.mono B6.out.size))
      have X7 := Lib.hid hx
      have Y7 := Lib.hid hy
      clear hx hy hb
      go_wp2_with fail
      refine (turn_yes X7.out Y7.out (by omega) (by omega) (by omega) (by omega) _).mono ?_
      rintro e wq ⟨⟨x8, y8, rfl, hx, hy⟩, rfl⟩
      have o1 := ord_eq X6.out hx rfl
      have o2 := ord_eq Y6.out hy rfl
      clear hx hy
      go_wp2_with fail
      clear o1 o2
      refine (PK.out _ B7.out).mono ?_
      rintro e w9 ⟨⟨x9, y9, rfl, hx, hy⟩, hb⟩
      have B9 := Lib.hid (B7.out.trans (hb.mono B7.out.size))
      have X9 := Lib.hid hx
      have Y9 := Lib.hid hy
      clear hx hy hb
      go_wp2_with fail
      refine (PL.out _ B9.out).mono ?_
      rintro e w10 ⟨⟨x10, y10, rfl, hx, hy⟩, hb⟩
      have B10 := Lib.hid (B9.out.trans (hb.mono B9.out.size))
      have X10 := Lib.hid hx
      have Y10 := Lib.hid hy
      clear hx hy hb
      have o1 := ord_eq X9.out X10.out rfl
      have o2 := ord_eq Y9.out Y10.out rfl
      go_wp2_with fail
      clear o1 o2
      refine (NK.out _ B10.out).mono ?_
      rintro e w11 ⟨rfl, hb⟩
      have B11 := Lib.hid (B10.out.trans (hb.mono B10.out.size))
      clear hb
      go_wp2_with fail
      refine (NL.out _ B11.out).mono ?_
      rintro e w12 ⟨rfl, hb⟩
      have B12 := Lib.hid (B11.out.trans (hb.mono B11.out.size))
      clear hb
      go_wp2_with fail
      refine (wakes_any _).mono ?_
      rintro e w13 ⟨rfl, hb⟩
      go_wp2_with fail
      go_ret
      exact ⟨rfl, HB.out.trans ((B12.out.trans (hb.mono B12.out.size)).mono HB.out.size)⟩
    · obtain ⟨b, off, rfl, hbl, hcs⟩ := HR.out.2 (by omega)
      obtain ⟨x, hx⟩ : ∃ x, l[k]? = some x := ⟨_, List.getElem?_eq_getElem (by rw [HL.out]; exact hlt)⟩
      have hcell := (hP.below.cell (p := ⟨b, off + k, none⟩) hbl).trans (hcs k hlt)
      rw [show (iv l)[k]? = some (.int .i64 x) by simp [iv, hx]] at hcell
      have hlt2 : (k : Int) < (n : Int) := by omega
      have HP := Lib.hid hP
      have HX := Lib.hid hx
      clear hcs hP hx
      by_cases hx0 : x < 0
      · go_wp2_with fail
        refine (wakes_any _).mono ?_
        rintro e w1 ⟨rfl, d1⟩
        go_wp2_with fail
        go_ret
        exact ⟨rfl, HP.out.below.trans (d1.mono HP.out.below.size)⟩
      · by_cases hx3 : 3 < x
        · have hx1 : 0 ≤ x := by omega
          clear hx0
          go_wp2_with fail
          refine (wakes_any _).mono ?_
          rintro e w1 ⟨rfl, d1⟩
          go_wp2_with fail
          go_ret
          exact ⟨rfl, HP.out.below.trans (d1.mono HP.out.below.size)⟩
        · have hx1 : 0 ≤ x := by omega
          have hx2 : x ≤ 3 := by omega
          clear hx0 hx3
          obtain ⟨v1, w1, r1, bw1, u1, w2, r2, hP2⟩ := pulls_step HP.out HX.out (by omega)
          have hcell1 := (bw1.cell (p := ⟨b, off + k, none⟩) hbl).trans (((HP.out.below.cell (p := ⟨b, off + k, none⟩) hbl).symm).trans hcell)
          have E1 := Lib.hid r1
          have E2 := Lib.hid r2
          have HP2 := Lib.hid hP2
          clear r1 r2 hP2 bw1
          go_wp2_with (first | (at_builtin; refine wpList_app (by rfl) _ _ _ rfl _ _ _ _ rfl rfl E1.out ?_; clear E1) | (at_builtin; refine wpList_app (by rfl) _ _ _ rfl _ _ _ _ rfl rfl E2.out ?_; clear E2))
          go_roundw
          case rel => exact ⟨k + 1, by go_num, by omega, HP2.out⟩
          case measure => simp [intOf]; omega

theorem zonePulls_walk (A : Option Addr) (n c : Nat) (l : List Int) (A1 : Option Addr) (n1 c1 : Nat) (m : List Int) (w : World) (hr : Rd w w.heap.size A n (iv l)) (hc : n ≤ c) (hr1 : Rd w w.heap.size A1 n1 (iv m)) (hc1 : n1 ≤ c1) :
    Calls Try.prog 6 #[.slice A n c, .slice A1 n1 c1] w fun e w' => e = .returned (.bool true) ∧ Below w.heap.size w w' := by
  by_cases h : n ≤ 400 ∧ n1 ≤ 400
  · exact zonePulls_in A n c l A1 n1 c1 m w hr hc hr1 hc1 h.1 h.2
  · exact zonePulls_out A n c A1 n1 c1 w h

end Go.Proofs.Ytpjmmjkgcoongaa
