/-
  The walks of 'must', 'number', 'base', 'lookAtOne', 'each' and 'own' of package call. Conditions: those that each theorem names.
-/
import Derived.Test.YtgajnmjifhemgaaClRow
import Derived.WalkLawsBesides
namespace Go.Proofs.Ytgajnmjifhemgaa
open Go.RowKit Go.Shelf

theorem wrapI_mid {n : Int} (h0 : -9000000000000000 ≤ n) (h1 : n ≤ 9000000000000000) : IntKind.i64.wrap n = n := by
  simp only [IntKind.wrap, IntKind.bits, IntKind.signed]
  simp
  split <;> omega

set_option maxRecDepth 100000 in
theorem must_yes (w : World) : Calls Try.prog 46 #[.bool true] w fun e w' => e = .returned (.tuple #[]) ∧ w' = w := by
  go_enter Try.func46, Try.ntmps46
  go_wp2_with fail
  go_end0
  exact ⟨rfl, rfl⟩
set_option maxRecDepth 100000 in
theorem must_no (w : World) : Calls Try.prog 46 #[.bool false] w fun e w' => e = .panicked boom ∧ w' = w := by
  go_enter Try.func46, Try.ntmps46
  go_wp2_with fail
  exact ⟨rfl, rfl, rfl⟩
theorem must_any (b : Bool) (w : World) : Calls Try.prog 46 #[.bool b] w fun e w' => w' = w ∧ ((b = true ∧ e = .returned (.tuple #[])) ∨ (b = false ∧ e = .panicked boom)) := by
  cases b with
  | true => exact (must_yes w).mono (by rintro e w' ⟨rfl, rfl⟩; exact ⟨rfl, .inl ⟨rfl, rfl⟩⟩)
  | false => exact (must_no w).mono (by rintro e w' ⟨rfl, rfl⟩; exact ⟨rfl, .inr ⟨rfl, rfl⟩⟩)

set_option maxRecDepth 100000 in
theorem number_any (n : Int) (w : World) : Calls Try.prog 41 #[.int .i64 n] w fun e w' => e = .returned (.bool (isNum n)) ∧ w' = w := by
  unfold isNum
  cases h : decide (0 ≤ n) with
  | true =>
    go_enter Try.func41, Try.ntmps41
    go_wp2_with fail
    go_ret
    exact ⟨by simp, rfl⟩
  | false =>
    go_enter Try.func41, Try.ntmps41
    go_wp2_with fail
    go_ret
    exact ⟨by simp, rfl⟩

set_option maxRecDepth 100000 in
theorem base_any (ep nx : Int) (A : Option Addr) (n k : Nat) (h0 : 0 ≤ ep) (h1 : ep ≤ 524288) (w : World) : Calls Try.prog 30 #[.agg #[.int .i64 ep, .int .i64 nx, .slice A n k]] w fun e w' => e = .returned (.int .i64 (ep * 1048576)) ∧ w' = w.alloc (.cells #[.int .i64 ep, .int .i64 nx, .slice A n k] 24) := by
  have hw := wrapI_mid (n := ep * 1048576) (by omega) (by omega)
  go_enter Try.func30, Try.ntmps30
  go_wp2_with fail
  go_ret
  exact ⟨rfl, rfl⟩

set_option maxRecDepth 100000 in
theorem each_any (A : Option Addr) (n c : Nat) (w : World) :
    Calls Try.prog 47 #[.slice A n c] w fun e w' => e = .returned (.func (.func 48) #[] #[.pointer (some ⟨w.heap.size, 0, none⟩)]) ∧ w' = w.alloc (.cells #[.slice A n c] 22) := by
  go_enter Try.func47, Try.ntmps47
  go_wp2
  go_ret
  exact ⟨rfl, rfl⟩

set_option maxRecDepth 100000 in
set_option maxHeartbeats 1000000 in
/-- One call, whatever its number and the others are. -/
theorem lookAtOne_any (x : Cl) (w : World) : Calls Try.prog 45 #[.agg #[.int .i64 x.id, .int .u8 x.kind, .int .i64 x.key, .int .i64 x.sent]] w (EndsIf (oneB x) w) := by
  obtain ⟨id, kind, key, sent⟩ := x
  have HB := Lib.hid ((Below.refl _ w).alloc (Nat.le_refl _) (.cells #[.int .i64 id, .int .u8 kind, .int .i64 key, .int .i64 sent] 31))
  have HN := Lib.hid (fun b W => must_any b W)
  have HK := Lib.hid (fun n W => number_any n W)
  cases h1 : decide (1 ≤ kind) with
  | false =>
    have hr : oneB ⟨id, kind, key, sent⟩ = false := by simp only [oneB, kindB, h1, Bool.false_and]
    rw [hr]
    clear hr
    go_enter Try.func45, Try.ntmps45
    go_wp2_with fail
    refine (HN.out _ _).mono ?_
    rintro e w1 ⟨rfl, ⟨h, rfl⟩ | ⟨h, rfl⟩⟩
    · cases h
    · go_wp2_with fail
      exact ⟨rfl, HB.out, .inr ⟨rfl, rfl⟩⟩
  | true =>
    cases h2 : decide (kind < 8) with
    | false =>
      have hr : oneB ⟨id, kind, key, sent⟩ = false := by simp only [oneB, kindB, h2, Bool.and_false, Bool.false_and]
      rw [hr]
      clear hr
      go_enter Try.func45, Try.ntmps45
      go_wp2_with fail
      refine (HN.out _ _).mono ?_
      rintro e w1 ⟨rfl, ⟨h, rfl⟩ | ⟨h, rfl⟩⟩
      · cases h
      · go_wp2_with fail
        exact ⟨rfl, HB.out, .inr ⟨rfl, rfl⟩⟩
    | true =>
      have hr : oneB ⟨id, kind, key, sent⟩ = (isNum key && isNum sent) := by simp only [oneB, kindB, h1, h2, Bool.true_and]
      rw [hr]
      clear hr
      go_enter Try.func45, Try.ntmps45
      go_wp2_with fail
      refine (HN.out _ _).mono ?_
      rintro e w1 ⟨rfl, ⟨_, rfl⟩ | ⟨h, rfl⟩⟩
      rotate_left
      · cases h
      go_wp2_with fail
      refine (HK.out _ _).mono ?_
      rintro e w1 ⟨rfl, rfl⟩
      cases h3 : isNum key with
      | false =>
        go_wp2_with fail
        refine (HN.out _ _).mono ?_
        rintro e w1 ⟨rfl, ⟨h, rfl⟩ | ⟨h, rfl⟩⟩
        · cases h
        · go_wp2_with fail
          exact ⟨rfl, HB.out, .inr ⟨rfl, rfl⟩⟩
      | true =>
        go_wp2_with fail
        refine (HK.out _ _).mono ?_
        rintro e w1 ⟨rfl, rfl⟩
        go_wp2_with fail
        refine (HN.out _ _).mono ?_
        rintro e w1 ⟨rfl, ⟨h, rfl⟩ | ⟨h, rfl⟩⟩
        · go_wp2_with fail
          go_end0
          exact ⟨HB.out, .inl ⟨by first | (rw [h]; rfl) | (rw [h3, h]; rfl), rfl⟩⟩
        · go_wp2_with fail
          exact ⟨rfl, HB.out, .inr ⟨by first | rfl | (rw [h3, h]; rfl), rfl⟩⟩

set_option maxRecDepth 100000 in
set_option maxHeartbeats 1000000 in
/-- Calls in memory of their own. -/
theorem own_anyC (c : Cs) (A : Option Addr) (n k : Nat) (B : Nat) (w : World) (hr : RdC w B A n c.l) (hB : B ≤ w.heap.size) (hn : n ≤ 1000) :
    Calls Try.prog 26 #[.agg #[.int .i64 c.ep, .int .i64 c.nx, .slice A n k]] w (CsPost c w) := by
  obtain ⟨ep, nx, l⟩ := c
  simp only at hr
  obtain ⟨hb, h1, h2⟩ := two_new w 24 24 #[.int .i64 ep, .int .i64 nx, .slice A n k] #[.int .i64 0, .int .i64 0, .slice none 0 0]
  have hl := hr.len
  obtain ⟨A2, c2, W2, hrun, ho, hg, hwh⟩ := calls_app ((w.alloc (.cells #[.int .i64 ep, .int .i64 nx, .slice A n k] 24)).alloc (.cells #[.int .i64 0, .int .i64 0, .slice none 0 0] 24)) w.heap.size (.slice none 0 0) [] (CallsAt.nil_ _ _) B A n k l (hr.below (hb.mono hB)) (by simp; omega) (by simp; omega)
  simp only [List.length_nil, Nat.zero_add, List.nil_append] at hrun ho
  have g1 := hwh _ _ _ h1 (by decide)
  have g2 := hwh _ _ _ h2 (by decide)
  have hb2 : Below w.heap.size w W2 := hb.grown hg hb.size (by simp [Value.ownBlock])
  obtain ⟨p0, p1, p2⟩ := cells3 g1
  have q2 := g1.frozen 2
  obtain ⟨r0, r1, r2⟩ := cells3 g2
  have z0 := g2.frozen 0
  have z1 := g2.frozen 1
  have z2 := g2.frozen 2
  have HR := Lib.hid hrun
  have HO := Lib.hid ho
  have HB := Lib.hid hb2
  have G1 := Lib.hid g1
  have G2 := Lib.hid g2
  have HL := Lib.hid hl
  clear hr hb h1 h2 hrun ho hg hwh g1 g2 hb2 hB hn hl
  go_enter Try.func26, Try.ntmps26
  go_wp2_with (at_builtin; refine wpList_app (by rfl) _ _ 22 rfl _ _ _ W2 (by rfl) (by rfl) HR.out ?_)
  have k1 := Only.set W2 w.heap.size 2 (.slice A2 n c2)
  obtain ⟨e2, k2⟩ := put3 (k1.far G2.out (by omega)) (.int .i64 ep) (.int .i64 nx) (.slice A2 n c2)
  obtain ⟨y0, y1, y2⟩ := cells3 e2
  refine bodyPost_ret (v := .agg #[.int .i64 ep, .int .i64 nx, .slice A2 n c2]) (by simp [results, Try.results26, go_sem, y0, y1, y2]) rfl ⟨A2, c2, by rw [HL.out], ?_, k2.bel (k1.bel HB.out (Nat.le_refl _)) (by omega)⟩
  rw [HL.out]
  exact (HO.out.only k1 G1.out (by decide)).only k2 (k1.far G2.out (by omega)) (by decide)

end Go.Proofs.Ytgajnmjifhemgaa
