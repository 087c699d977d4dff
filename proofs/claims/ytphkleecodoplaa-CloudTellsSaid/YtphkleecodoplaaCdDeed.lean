/-
  What each deed of package cloud does, as plain data says. Conditions: those that each theorem names.
-/
import Derived.Test.YtphkleecodoplaaCdDeeds
namespace Go.Proofs.Ytphkleecodoplaa
open Go.RowKit Go.Shelf

/-- What is told of a box that is found, not late. -/
def tcode (x : Cw) (k : Int) (y : Bx) : Int :=
  if (k = 3 ∨ k = 5 ∨ k = 6) ∧ (cnt y = true ∧ (hN x.l : Int) - 1 < x.fl) then 3 else if k = 4 ∧ y.on = false then 2 else 1
set_option maxRecDepth 100000 in
theorem codeOf_eq (x : Cw) (q : Ak) (y : Bx) : codeOf x q y = if q.call < y.fen then 5 else tcode x q.kind y := rfl

set_option maxRecDepth 100000 in
theorem oneP_found {x : Cw} {q : Ak} {tc : Bx → Int} {ty : Bx → Bx} (h1 : ∀ y, tc y = tcode x q.kind y) (h2 : ∀ y, tcode x q.kind y = 1 → ty y = touched x.nw x.dr q.kind y) (h3 : ∀ y, tcode x q.kind y ≠ 1 → ty y = y) : foundP x q tc ty = oneP x q := by
  unfold foundP oneP
  cases hf : find x.l q.a with
  | none => rfl
  | some j =>
    simp only
    cases hx : x.l[j]? with
    | none => rfl
    | some y =>
      simp only [codeOf_eq, h1 y]
      by_cases hs : q.call < y.fen
      · simp [hs]
      · simp only [if_neg hs]
        by_cases ht : tcode x q.kind y = 1
        · simp only [if_pos ht, h2 y ht]
        · simp only [if_neg ht, h3 y ht, set_same hx]

set_option maxRecDepth 100000 in
theorem tcode_bar {x : Cw} {k : Int} {y : Bx} (hk : k = 3 ∨ k = 5 ∨ k = 6) : tcode x k y = if barred x y = true then 3 else 1 := by
  have h4 : ¬ (k = 4 ∧ y.on = false) := by rintro ⟨h, _⟩; omega
  unfold tcode
  rw [if_neg h4]
  by_cases hb : barred x y = true
  · rw [if_pos hb]
    simp only [barred, Bool.and_eq_true, decide_eq_true_eq] at hb
    rw [if_pos ⟨hk, hb⟩]
  · rw [if_neg hb]
    simp only [barred, Bool.and_eq_true, decide_eq_true_eq] at hb
    rw [if_neg (fun h => hb h.2)]

section
variable {W : World} {base Cb n c lo b1 b2 b3 b4 b5 b6 b7 b8 : Nat} {A : Option Addr} {x : Cw} {q : Ak}

set_option maxRecDepth 100000 in
theorem deed_of_found {f : Nat} {lb : Array Value} {p : Nat} (tc : Bx → Int) (ty : Bx → Bx) (h : Clu W base Cb A n c x) (hn : n ≤ 1000) (hr : right x = true) (hk : q.kind = 2 ∨ q.kind = 3 ∨ q.kind = 4 ∨ q.kind = 5 ∨ q.kind = 6)
    (hP : W.cell? ⟨p, 0, none⟩ = some (.func (.func f) #[] lb)) (hf : ∀ args w, (callFunc f args).run Try.prog w = .ok (.enter f args) w)
    (hin : ∀ g j y W', A = some ⟨g, 0, none⟩ → x.l[j]? = some y → Below W.heap.size W W' → Calls Try.prog f (#[.pointer (some ⟨Cb, 0, none⟩), .pointer (some ⟨g, j * 11, none⟩)] ++ lb) W' (TouchPost base Cb g n c x j (tc y) (ty y) W'))
    (h1 : ∀ y, tc y = tcode x q.kind y) (h2 : ∀ y, tcode x q.kind y = 1 → ty y = touched x.nw x.dr q.kind y) (h3 : ∀ y, tcode x q.kind y ≠ 1 → ty y = y) :
    Calls Try.prog 47 #[.pointer (some ⟨Cb, 0, none⟩), .agg #[.int .u8 q.kind, .int .i64 q.call, .int .i64 q.a, .int .i64 q.b, .int .i64 q.c, .int .i64 q.d], .pointer (some ⟨p, 0, none⟩)] W (DeedPost base Cb x (doP x q).1 (doP x q).2.1 (doP x q).2.2 W) := by
  have e : doP x q = ((foundP x q tc ty).1, (foundP x q tc ty).2, q.a) := by
    rw [oneP_found h1 h2 h3, doP, if_pos hr, if_neg (by omega), if_pos hk]
  rw [e]
  refine (found1_any (q := q) h hn hP hf tc ty hin).mono ?_
  rintro e W' ⟨rfl, h', b'⟩
  exact ⟨rfl, ⟨_, _, _, h'⟩, Below.but b'⟩

set_option maxRecDepth 100000 in
theorem right_nums (hr : right x = true) : isNum x.dr = true ∧ isNum x.nw = true := by
  simp only [right, Bool.and_eq_true] at hr
  exact ⟨hr.1.2.1.2, hr.1.2.2⟩

set_option maxRecDepth 100000 in
theorem deed_any (h : Clu W base Cb A n c x) (hn : n ≤ 1000) (hr : right x = true) (hF : DeedFns lo b1 b2 b3 b4 b5 b6 b7 b8 W) (hk : q.kind = 1 ∨ q.kind = 2 ∨ q.kind = 3 ∨ q.kind = 4 ∨ q.kind = 5 ∨ q.kind = 6) :
    ∃ f lb, deedV b1 b3 b4 b6 b8 q.kind = .func (.func f) #[] lb ∧ (∀ args w, (callFunc f args).run Try.prog w = .ok (.enter f args) w) ∧
      Calls Try.prog f (#[.pointer (some ⟨Cb, 0, none⟩), .agg #[.int .u8 q.kind, .int .i64 q.call, .int .i64 q.a, .int .i64 q.b, .int .i64 q.c, .int .i64 q.d]] ++ lb) W (DeedPost base Cb x (doP x q).1 (doP x q).2.1 (doP x q).2.2 W) := by
  have n1 : ∀ {k : Int}, (k = 2 ∨ k = 3 ∨ k = 4 ∨ k = 5 ∨ k = 6) → ¬ k = 1 := fun h => by omega
  have bar : ∀ {k : Int}, q.kind = k → (k = 3 ∨ k = 5 ∨ k = 6) → (∀ y, (if barred x y = true then 3 else 1) = tcode x q.kind y) ∧ (∀ y, tcode x q.kind y = 1 → (if barred x y = true then y else touched x.nw x.dr k y) = touched x.nw x.dr q.kind y) ∧ (∀ y, tcode x q.kind y ≠ 1 → (if barred x y = true then y else touched x.nw x.dr k y) = y) := by
    rintro k rfl hk
    refine ⟨fun y => (tcode_bar hk).symm, fun y hy => ?_, fun y hy => ?_⟩
    · rw [tcode_bar hk] at hy
      by_cases hb : barred x y = true
      · rw [if_pos hb] at hy; omega
      · rw [if_neg hb]
    · rw [tcode_bar hk] at hy
      by_cases hb : barred x y = true
      · rw [if_pos hb]
      · rw [if_neg hb] at hy; exact absurd rfl hy
  rcases hk with hk | hk | hk | hk | hk | hk
  · refine ⟨35, #[], by rw [hk]; rfl, enters_of Try.func35 (by kernel_rfl) rfl, ?_⟩
    have e : doP x q = launchP x q := by rw [doP, if_pos hr, if_pos hk]
    rw [e]
    exact launch_any h hn
  · refine ⟨47, #[.pointer (some ⟨b1, 0, none⟩)], by rw [hk]; rfl, enters_of Try.func47 (by kernel_rfl) rfl, ?_⟩
    refine deed_of_found (f := 37) (lb := #[]) (fun _ => 1) (touched x.nw x.dr 2) h hn hr (.inl hk) (hF.f1.cell 0) (enters_of Try.func37 (by kernel_rfl) rfl) ?_ ?_ ?_ ?_
    · rintro g j y W' rfl hx hb
      exact start_any (h.under hb) hx rfl
    · intro y; rw [hk]; simp [tcode]
    · intro y _; rw [hk]
    · intro y hy; rw [hk] at hy; simp [tcode] at hy
  · refine ⟨47, #[.pointer (some ⟨b3, 0, none⟩)], by rw [hk]; rfl, enters_of Try.func47 (by kernel_rfl) rfl, ?_⟩
    obtain ⟨q1, q2, q3⟩ := bar hk (.inl rfl)
    refine deed_of_found (f := 49) (lb := #[.pointer (some ⟨b2, 0, none⟩)]) (fun y => if barred x y = true then 3 else 1) (fun y => if barred x y = true then y else touched x.nw x.dr 3 y) h hn hr (.inr (.inl hk)) (hF.f3.cell 0) (enters_of Try.func49 (by kernel_rfl) rfl) ?_ q1 q2 q3
    rintro g j y W' rfl hx hb
    exact taking1_any (f := 39) (lb := #[]) (h.under hb) hx rfl hn ((hF.under hb).f2.cell 0) (enters_of Try.func39 (by kernel_rfl) rfl) (fun W2 hb2 => stop_any ((h.under hb).under hb2) hx rfl)
  · refine ⟨47, #[.pointer (some ⟨b4, 0, none⟩)], by rw [hk]; rfl, enters_of Try.func47 (by kernel_rfl) rfl, ?_⟩
    refine deed_of_found (f := 40) (lb := #[]) (fun y => if y.on = true then 1 else 2) (fun y => if y.on = true then touched x.nw x.dr 4 y else y) h hn hr (.inr (.inr (.inl hk))) (hF.f4.cell 0) (enters_of Try.func40 (by kernel_rfl) rfl) ?_ ?_ ?_ ?_
    · rintro g j y W' rfl hx hb
      exact join_any (h.under hb) hx rfl
    · intro y; rw [hk]; cases hy : y.on <;> simp [tcode, hy]
    · intro y hy
      rw [hk] at hy ⊢
      cases ho : y.on with
      | true => rfl
      | false => simp [tcode, ho] at hy
    · intro y hy
      rw [hk] at hy
      cases ho : y.on with
      | true => simp [tcode, ho] at hy
      | false => rfl
  · refine ⟨47, #[.pointer (some ⟨b6, 0, none⟩)], by rw [hk]; rfl, enters_of Try.func47 (by kernel_rfl) rfl, ?_⟩
    obtain ⟨q1, q2, q3⟩ := bar hk (.inr (.inl rfl))
    obtain ⟨hd, hw⟩ := right_nums hr
    refine deed_of_found (f := 49) (lb := #[.pointer (some ⟨b5, 0, none⟩)]) (fun y => if barred x y = true then 3 else 1) (fun y => if barred x y = true then y else touched x.nw x.dr 5 y) h hn hr (.inr (.inr (.inr (.inl hk)))) (hF.f6.cell 0) (enters_of Try.func49 (by kernel_rfl) rfl) ?_ q1 q2 q3
    rintro g j y W' rfl hx hb
    exact taking1_any (f := 41) (lb := #[]) (h.under hb) hx rfl hn ((hF.under hb).f5.cell 0) (enters_of Try.func41 (by kernel_rfl) rfl) (fun W2 hb2 => leave_any ((h.under hb).under hb2) hx rfl hd hw)
  · refine ⟨47, #[.pointer (some ⟨b8, 0, none⟩)], by rw [hk]; rfl, enters_of Try.func47 (by kernel_rfl) rfl, ?_⟩
    obtain ⟨q1, q2, q3⟩ := bar hk (.inr (.inr rfl))
    refine deed_of_found (f := 49) (lb := #[.pointer (some ⟨b7, 0, none⟩)]) (fun y => if barred x y = true then 3 else 1) (fun y => if barred x y = true then y else touched x.nw x.dr 6 y) h hn hr (.inr (.inr (.inr (.inr hk)))) (hF.f8.cell 0) (enters_of Try.func49 (by kernel_rfl) rfl) ?_ q1 q2 q3
    rintro g j y W' rfl hx hb
    exact taking1_any (f := 42) (lb := #[]) (h.under hb) hx rfl hn ((hF.under hb).f7.cell 0) (enters_of Try.func42 (by kernel_rfl) rfl) (fun W2 hb2 => end_any ((h.under hb).under hb2) hx rfl)
end

end Go.Proofs.Ytphkleecodoplaa
