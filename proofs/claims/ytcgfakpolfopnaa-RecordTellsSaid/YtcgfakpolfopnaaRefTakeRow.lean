/-
  The walk of the document's own 'TakeRow' of numbers. Conditions: those that each theorem names.
-/
import Derived.Test.YtcgfakpolfopnaaRefRow
import Derived.Test.YtcgfakpolfopnaaRecTake
namespace Go.Proofs.Ytcgfakpolfopnaa
open Go.RowKit Go.Shelf

/-- Rows of elements of two types are two blocks. -/
theorem own_apart {w w' : World} {b1 b2 n1 n2 : Nat} {v1 v2 : Value} {xs1 xs2 : List Value} {e1 e2 : TypeId} (h1 : w.ownsRow b1 e1 1 v1 n1 xs1) (h2 : w.ownsRow b2 e2 1 v2 n2 xs2) (hne : e1 ≠ e2) (hg : w.grownBy w' v2.ownBlock) : w'.ownsRow b1 e1 1 v1 n1 xs1 := by
  refine h1.kept hg ?_
  rcases h1.2 with ⟨rfl, _⟩ | ⟨g, cap, cur, rfl, _, hc, _⟩
  · exact .inl rfl
  · right
    intro e
    rcases h2.2 with ⟨rfl, _⟩ | ⟨g2, cap2, cur2, rfl, _, hc2, _⟩
    · simp [Value.ownBlock] at e
    · simp only [Value.ownBlock, Option.some.injEq] at e
      subst e
      rw [hc] at hc2
      injection hc2 with h3
      injection h3 with _ h4
      exact hne h4

/-- What holds at each number that has been taken: pre: the numbers; rem: the bytes that are left. -/
structure TkAt (w : World) (bs : List Nat) (M j : Nat) (v : Value) (A' : Option Addr) (m c' : Nat) (pre rem : List Nat) (K : Nat) (W : World) : Prop where
  le : j ≤ M
  len : pre.length = j
  own : W.ownsRow w.heap.size 3 1 v j (iv (ints pre))
  rest : W.ownsRow w.heap.size 5 1 (.slice A' m c') m (bv rem)
  left : rem = bs.drop K
  same : takes M bs = (K + (takes (M - j) rem).1, pre ++ (takes (M - j) rem).2.1, (takes (M - j) rem).2.2)
  below : Below w.heap.size w W

theorem TkAt.look {w : World} {bs : List Nat} {M j : Nat} {v : Value} {A' : Option Addr} {m c' : Nat} {pre rem : List Nat} {K : Nat} {W : World} (h : TkAt w bs M j v A' m c' pre rem K W) (hj : j < M) {N L E : Nat} (hF : first rem = (N, L, E)) :
    (E ≠ 0 → (takes M bs).2.2 = E) ∧ (E = 0 → takes M bs = (K + L + (takes (M - (j + 1)) (rem.drop L)).1, (pre ++ [N]) ++ (takes (M - (j + 1)) (rem.drop L)).2.1, (takes (M - (j + 1)) (rem.drop L)).2.2)) := by
  obtain ⟨q, hq⟩ : ∃ q, M - j = q + 1 := ⟨M - j - 1, by omega⟩
  have hq2 : M - (j + 1) = q := by omega
  have hs := h.same
  rw [hq] at hs
  simp only [takes, hF] at hs
  rw [hq2]
  constructor
  · intro hE
    rw [if_neg hE] at hs
    rw [hs]
  · intro hE
    rw [if_pos hE] at hs
    rw [hs]
    simp [Nat.add_assoc]
theorem ints_snoc (l : List Nat) (x : Nat) : iv (ints (l ++ [x])) = iv (ints l) ++ [.int .i64 (x : Int)] := by simp [iv, ints]

set_option maxRecDepth 100000 in
set_option maxHeartbeats 1000000 in
theorem refTakeRow_is (A : Option Addr) (n c : Nat) (bs : List Nat) (B : Nat) (w : World) (hr : Rd w B A n (bv bs)) (hB : B ≤ w.heap.size) (hb : ∀ x ∈ bs, x < 256) (hn : n ≤ 1000000) (hc : n ≤ c) {E : Nat} {l rest : List Nat}
    (hL : (takeRow bs).2.1 = l) (hE : (takeRow bs).2.2 = E) (hR : behindRow bs = rest) :
    Calls Try.prog 30 #[.slice A n c] w (RowIs l rest E w) := by
  obtain ⟨N, K0, E0, hF⟩ : ∃ N K E, first bs = (N, K, E) := ⟨_, _, _, rfl⟩
  obtain ⟨bs1, hbs1⟩ : ∃ bs1, behind bs = bs1 := ⟨_, rfl⟩
  have HT := Lib.hid (refTake_is A n c bs B w hr hB hb hn hc (N := N) (E := E0) (rest := bs1) (by rw [hF]) (by rw [hF]) hbs1)
  have hlen : bs.length = n := by have := hr.1; rwa [bv_length] at this
  have HB256 := Lib.hid hb
  have Hlen := Lib.hid hlen
  clear hr hb hlen
  by_cases hE0 : E0 = 0
  · subst hE0
    have hb1 : bs1 = bs.drop K0 := by rw [← hbs1, behind, hF, if_pos rfl]
    by_cases h40 : 40 < N
    · have ht : takeRow bs = (0, [], 11) := by unfold takeRow; rw [hF, if_neg (by simp), if_pos h40]
      have hl0 : l = [] := by rw [← hL, ht]
      have hE11 : E = 11 := by rw [← hE, ht]
      have hr0 : rest = [] := by rw [← hR, behindRow, ht, if_neg (by simp)]
      subst hl0; subst hE11; subst hr0
      have h40' : (40 : Int) < (N : Int) := by omega
      clear hL hE hR hF hbs1 hb1 ht h40
      go_enter Try.func30, Try.ntmps30
      go_wp2_with fail
      refine (HT.out).mono ?_
      rintro e w1 ⟨A1, c1, rfl, o1, b1⟩
      have B1 := Lib.hid b1
      clear o1 b1
      go_wp2_with fail
      go_ret3
      exact rowIs_nil B1.out
    · have hN40 : N ≤ 40 := by omega
      have h40' : ¬ (40 : Int) < (N : Int) := by omega
      have d40 : decide ((40 : Int) < (N : Int)) = false := by simpa using h40'
      have htr : takeRow bs = if (takes N bs1).2.2 ≠ 0 then (0, [], (takes N bs1).2.2) else (K0 + (takes N bs1).1, (takes N bs1).2.1, 0) := by
        unfold takeRow; rw [hF, if_neg (by simp), if_neg h40, hb1]
      have HTR := Lib.hid htr
      have HL := Lib.hid hL
      have HE := Lib.hid hE
      have HR := Lib.hid hR
      have Hb1 := Lib.hid hb1
      have hb1l : bs1.length ≤ n := by rw [hb1, List.length_drop, Hlen.out]; omega
      have hb1b : ∀ x ∈ bs1, x < 256 := by rw [hb1]; exact fun x hx => HB256.out x (List.mem_of_mem_drop hx)
      have Hb1l := Lib.hid hb1l
      have Hb1b := Lib.hid hb1b
      clear hL hE hR hF hbs1 hb1 htr h40 hb1l hb1b
      go_enter Try.func30, Try.ntmps30
      go_wp2_with fail
      refine (HT.out).mono ?_
      rintro e w1 ⟨A1, c1, rfl, o1, b1⟩
      have hI0 : TkAt w bs1 N 0 (.slice none 0 0) A1 bs1.length c1 [] bs1 0 w1 := ⟨by omega, rfl, World.ownsRow_nil _ _ _ _, o1, rfl, by simp, b1⟩
      have HI0 := Lib.hid hI0
      clear o1 b1 hI0
      go_wp2_with fail
      go_loopw [0, 7, 8] (fun b v i wr => ∃ (j m c' K : Nat) (A' : Option Addr) (pre rem : List Nat), i = .int .i64 (j : Int) ∧ b = .slice A' m c' ∧ TkAt w bs1 N j v A' m c' pre rem K wr) (fun _ _ i _ => N - (intOf i).toNat)
      case atStart => exact ⟨0, bs1.length, c1, 0, A1, [], bs1, rfl, rfl, HI0.out⟩
      case round =>
        obtain ⟨j, m, c', K, A', pre, rem, rfl, rfl, hI⟩ := hrel
        clear HI0
        have hjN := hI.le
        obtain ⟨Av, cv, rfl⟩ := own_form hI.own
        have HI := Lib.hid hI
        clear hI
        by_cases hj : j < N
        · have hI2 : (j : Int) < (N : Int) := by omega
          obtain ⟨X, L, E1, hF1⟩ : ∃ X L E1, first rem = (X, L, E1) := ⟨_, _, _, rfl⟩
          obtain ⟨rem1, hrem1⟩ : ∃ rem1, behind rem = rem1 := ⟨_, rfl⟩
          have hrb : ∀ x ∈ rem, x < 256 := by rw [HI.out.left]; exact fun x hx => Hb1b.out x (List.mem_of_mem_drop hx)
          have hml : rem.length = m := by have := HI.out.rest.1; simpa [bv_length] using this
          have hmn : m ≤ 1000000 := by rw [← hml, HI.out.left, List.length_drop]; have := Hb1l.out; omega
          have HT1 := Lib.hid (refTake_is A' m c' rem wr.heap.size wr (Rd.of_own HI.out.rest) (Nat.le_refl _) hrb hmn (own_cap HI.out.rest) (N := X) (E := E1) (rest := rem1) (by rw [hF1]) (by rw [hF1]) hrem1)
          have hlook := HI.out.look hj hF1
          by_cases hE1 : E1 = 0
          · subst hE1
            have hr1 : rem1 = rem.drop L := by rw [← hrem1, behind, hF1, if_pos rfl]
            have HLk := Lib.hid (hlook.2 rfl)
            have HR1 := Lib.hid hr1
            clear hF1 hrem1 hrb hml hlook hr1
            go_wp2_with fail
            refine (HT1.out).mono ?_
            rintro e w3 ⟨A3, c3, rfl, o3, b3⟩
            obtain ⟨v4, W4, e4, o4, g4⟩ := run_appI (w3.alloc (.cells #[.int .i64 (X : Int)] 3)) w.heap.size _ j _ ((own_stays HI.out.own b3).alloc _) (w3.heap.size + 1) (some ⟨w3.heap.size, 0, none⟩) 1 1 [(X : Int)] (rd_lit w3 (iv [(X : Int)]) 3 1 rfl) (by omega) (by have := (HI.out.below.trans (b3.mono HI.out.below.size)).size; simp; omega)
            have o3' := own_weaker o3 HI.out.below.size
            have o5 := own_apart (o3'.alloc (.cells #[.int .i64 (X : Int)] 3)) ((own_stays HI.out.own b3).alloc (.cells #[.int .i64 (X : Int)] 3)) (by decide) g4
            have bb : Below w.heap.size w W4 := ((HI.out.below.trans (b3.mono HI.out.below.size)).alloc (HI.out.below.trans (b3.mono HI.out.below.size)).size _).trans (below_row ((own_stays HI.out.own b3).alloc _) g4 (by have := (HI.out.below.trans (b3.mono HI.out.below.size)).size; simp; omega))
            obtain ⟨A4, c4, rfl⟩ := own_form o4
            have hS : TkAt w bs1 N (j + 1) (.slice A4 (j + 1) c4) A3 rem1.length c3 (pre ++ [X]) rem1 (K + L) W4 :=
              ⟨by omega, by simp [HI.out.len], by rw [ints_snoc]; exact o4, o5, by rw [HR1.out, HI.out.left, List.drop_drop], by rw [HR1.out]; exact HLk.out, bb⟩
            have HS := Lib.hid hS
            have E4 := Lib.hid e4
            clear o3 b3 e4 o4 g4 o3' o5 bb hS
            go_wp2_with (at_builtin; refine wpList_app (by rfl) _ _ _ rfl _ _ _ _ rfl rfl E4.out ?_; clear E4)
            go_roundw
            case rel => exact ⟨j + 1, _, _, _, _, _, _, by go_num, rfl, HS.out⟩
            case measure => simp [intOf]; omega
          · have hEb : ((E1 : Int) != 0) = true := by simp; exact hE1
            have htk := hlook.1 hE1
            have hfin : l = [] ∧ rest = [] ∧ E = E1 := by
              have h1 := HTR.out
              rw [htk, if_pos hE1] at h1
              exact ⟨by rw [← HL.out, h1], by rw [← HR.out, behindRow, h1, if_neg hE1], by rw [← HE.out, h1]⟩
            obtain ⟨rfl, rfl, rfl⟩ := hfin
            clear hF1 hrem1 hrb hml hlook htk hE1
            go_wp2_with fail
            refine (HT1.out).mono ?_
            rintro e w3 ⟨A3, c3, rfl, o3, b3⟩
            have B3 := Lib.hid (HI.out.below.trans (b3.mono HI.out.below.size))
            clear o3 b3
            go_wp2_with fail
            go_ret3
            exact rowIs_nil B3.out
        · obtain rfl : N = j := by omega
          have hs := HI.out.same
          rw [Nat.sub_self] at hs
          simp only [takes, Nat.add_zero, List.append_nil] at hs
          have h1 := HTR.out
          rw [hs, if_neg (by simp)] at h1
          have hl1 : l = pre := by rw [← HL.out, h1]
          have hE1 : E = 0 := by rw [← HE.out, h1]
          have hr1 : rest = rem := by
            rw [← HR.out, behindRow, h1, if_pos rfl, HI.out.left, Hb1.out, List.drop_drop]
          have hpl := HI.out.len
          have hml : rem.length = m := by have := HI.out.rest.1; simpa [bv_length] using this
          subst hl1; subst hE1; subst hr1
          have Hpl := Lib.hid hpl
          have Hml := Lib.hid hml
          clear hs h1 hpl hml
          go_wp2_with fail
          go_ret3
          refine ⟨Av, cv, A', c', by rw [Hpl.out, Hml.out]; rfl, ?_, ?_, HI.out.below⟩
          · rw [Hpl.out]; exact HI.out.own
          · rw [Hml.out]; exact HI.out.rest
  · have ht : takeRow bs = (0, [], E0) := by unfold takeRow; rw [hF, if_pos hE0]
    have hl0 : l = [] := by rw [← hL, ht]
    have hEE : E = E0 := by rw [← hE, ht]
    have hr0 : rest = [] := by rw [← hR, behindRow, ht, if_neg hE0]
    subst hl0; subst hEE; subst hr0
    have hEb : ((E : Int) != 0) = true := by simp; exact hE0
    clear hL hE hR hF hbs1 ht hE0
    go_enter Try.func30, Try.ntmps30
    go_wp2_with fail
    refine (HT.out).mono ?_
    rintro e w1 ⟨A1, c1, rfl, o1, b1⟩
    have B1 := Lib.hid b1
    clear o1 b1
    go_wp2_with fail
    go_ret3
    exact rowIs_nil B1.out

end Go.Proofs.Ytcgfakpolfopnaa
