/-
  What the walks of stage 9's statements share: the calls as they meet them, heads of rows, rows that grow. Conditions: those that each theorem names.
-/
import Derived.Test.YtdoaakohgmohkaaPgWakes
import Derived.Test.YtdoaakohgmohkaaPgSame
namespace Go.Proofs.Ytdoaakohgmohkaa
open Go.RowKit Go.Shelf

section
variable {x : Cw} {n : Nat}
set_option maxRecDepth 100000 in
theorem greatL {b : Bool} (h : decide ((60 : Int) < (n : Int)) = b) (fl dr nw : Int) (tg : Bool) (W : World) (A : Option Addr) (c : Nat) :
    Calls Try.prog 7 #[.agg #[.slice A n c, .int .i64 fl, .int .i64 dr, .int .i64 nw, .bool tg]] W (BoolPost b W) := by
  go_enter Try.func7, Try.ntmps7
  go_wp2_with fail
  go_ret
  exact ⟨rfl, (Below.refl _ _).alloc (Nat.le_refl _) _⟩
set_option maxRecDepth 100000 in
theorem ofL (h : right x = true) {b : Int} {P : List Sn} {M : Bool} {k : Nat} (hP : pageOf (shown x.l) b = P) (hM : moreOf (shown x.l) b = M) (hk : P.length = k) (hn : n ≤ 1000) (W : World) (A : Option Addr) (c : Nat) (hr : RdX W W.heap.size A n x.l) :
    Calls Try.prog 10 #[.agg #[.slice A n c, .int .i64 x.fl, .int .i64 x.dr, .int .i64 x.nw, .bool x.tg], .int .i64 b] W fun e w' => ∃ A' c', e = .returned (.tuple #[.slice A' k c', .bool M]) ∧ RdSn w' w'.heap.size A' k P ∧ Below W.heap.size W w' := by
  subst hP; subst hM; subst hk
  refine (of_any A n c x b W hr hn h).mono ?_
  rintro e w' ⟨A', c', rfl, h2, h3⟩
  exact ⟨A', c', rfl, RdSn.of_own h2, h3⟩
set_option maxRecDepth 100000 in
theorem allL (h : right x = true) {S : List Sn} {k : Nat} (hS : shown x.l = S) (hk : S.length = k) (hn : n ≤ 1000) (W : World) (A : Option Addr) (c : Nat) (hr : RdX W W.heap.size A n x.l) :
    Calls Try.prog 14 #[.agg #[.slice A n c, .int .i64 x.fl, .int .i64 x.dr, .int .i64 x.nw, .bool x.tg]] W fun e w' => ∃ A' c', e = .returned (.slice A' k c') ∧ RdSn w' w'.heap.size A' k S ∧ Below W.heap.size W w' := by
  subst hS; subst hk
  refine (all_any A n c x W hr hn h).mono ?_
  rintro e w' ⟨A', c', rfl, h2, h3⟩
  exact ⟨A', c', rfl, RdSn.of_own h2, h3⟩
set_option maxRecDepth 100000 in
theorem answerL (h : right x = true) {b : Int} {P : List Sn} {M : Bool} {k : Nat} (hP : pageOf (shown x.l) b = P) (hM : moreOf (shown x.l) b = M) (hk : P.length = k) (hn : n ≤ 1000) (call : Int) (W : World) (A : Option Addr) (c : Nat) (hr : RdX W W.heap.size A n x.l) :
    Calls Try.prog 16 #[.agg #[.slice A n c, .int .i64 x.fl, .int .i64 x.dr, .int .i64 x.nw, .bool x.tg], .agg #[.int .u8 7, .int .i64 call, .int .i64 b, .int .i64 0, .int .i64 0, .int .i64 0]] W fun e w' => ∃ A' c', e = .returned (.agg #[.int .i64 call, .int .u8 7, .int .u8 1, .int .i64 b, .slice A' k c', .bool M]) ∧ RdSn w' w'.heap.size A' k P ∧ Below W.heap.size W w' := by
  subst hP; subst hM; subst hk
  refine (answer_any A n c x call b 0 0 0 W hr hn h).mono ?_
  rintro e w' ⟨A', c', rfl, h2, h3⟩
  exact ⟨A', c', rfl, RdSn.of_own h2, h3⟩
end
set_option maxRecDepth 100000 in
theorem sameSL {n : Nat} {l m : List Sn} (h : l = m) (hn : n ≤ 1000) (W : World) (A : Option Addr) (c : Nat) (A' : Option Addr) (c' : Nat) (hr : RdSn W W.heap.size A n l) (hr' : RdSn W W.heap.size A' n m) :
    Calls Try.prog 13 #[.slice A n c, .slice A' n c'] W (BoolPost true W) := by
  subst h
  exact same_yes A A' n c c' l W hr hr' hn

set_option maxRecDepth 100000 in
theorem run_headN (A : Option Addr) (n c k : Nat) (hk : k ≤ c) (w : World) : (Instr.slice 28 (.slice A n c) none (some (.int .i64 (k : Int))) none).run Try.prog w = .ok (.slice A k c) w := by
  obtain ⟨i0, hi, hz0, hz1, hz2⟩ := info_parts info_sn
  have hz : (sizeOf (Try.prog.elem 28)).run Try.prog w = .ok 7 w := by
    have he : Try.prog.elem 28 = 35 := by kernel_rfl
    simp [he, Go.sizeOf, typeInfo, hi, hz1]
  have h63 : (k : Int).toNat = k := by omega
  rw [run_slice_h (P := Try.prog) w 28 A n c Try.underlying28 .i64 (k : Int) (by omega) (by omega), hz, h63]
  have e : ∀ o : Option Addr, o.map (fun a => a.add (0 * 7)) = o := fun o => by cases o <;> simp [Addr.add]
  simp only [Result.andThen_ok, sliced, e, Nat.sub_zero, ite_self]
set_option maxRecDepth 100000 in
theorem RdSn.take {W : World} {B n : Nat} {A : Option Addr} {l : List Sn} (h : RdSn W B A n l) {k : Nat} (hk : k ≤ n) : RdSn W B A k (l.take k) := by
  refine ⟨by rw [List.length_take, h.1]; omega, fun h0 => ?_⟩
  obtain ⟨b, off, e, hb, hc⟩ := h.2 (by omega)
  refine ⟨b, off, e, hb, fun j x hx => hc j x ?_⟩
  rw [List.getElem?_take] at hx
  split at hx
  · exact hx
  · cases hx
set_option maxRecDepth 100000 in
theorem own_capN {w : World} {base : Nat} {e : TypeId} {s n c : Nat} {A : Option Addr} {xs : List Value} (h : w.ownsRow base e s (.slice A n c) n xs) : n ≤ c := by
  rcases h.2 with ⟨h1, h2⟩ | ⟨g, cap, cur, h1, _, _, _, h2, h3, _⟩
  · injection h1 with _ h3 h4; omega
  · injection h1 with _ _ h4; omega

set_option maxRecDepth 100000 in
/-- One more, of what is shown, behind a row of one's own: its literal is made, and put there. -/
theorem run_moreN (w : World) (base : Nat) (A : Option Addr) (n c : Nat) (S : List Sn) (hown : w.ownsRow base 35 7 (.slice A n c) n (flatN S)) (x : Sn) (hm : n ≤ 1000) (hbase : base ≤ w.heap.size) :
    ∃ A1 c1 w1, (Builtin.append_ #[28, 28] 28 #[.slice A n c, .slice (some ⟨w.heap.size, 0, none⟩) 1 1]).run Try.prog (w.alloc (.cells #[.int .i64 x.id, .int .i64 x.tok, .int .i64 x.ver, .int .i64 x.zone, .bool x.on, .bool x.well, .bool x.inn] 35)) = .ok (.slice A1 (n + 1) c1) w1 ∧
      w1.ownsRow base 35 7 (.slice A1 (n + 1) c1) (n + 1) (flatN (S ++ [x])) ∧ Below base w w1 := by
  have hbu : Below w.heap.size w (w.alloc (.cells #[.int .i64 x.id, .int .i64 x.tok, .int .i64 x.ver, .int .i64 x.zone, .bool x.on, .bool x.well, .bool x.inn] 35)) := (Below.refl _ _).alloc (Nat.le_refl _) _
  obtain ⟨A1, c1, w1, h1, h2, h3⟩ := run_oneN w base A n c S hown x hm hbase w.heap.size rfl
  exact ⟨A1, c1, w1, h1, h2, (hbu.mono hbase).trans (below_row (own_under hown hbu) h3 (by simp; omega))⟩

set_option maxRecDepth 100000 in
theorem restOf_take {S : List Sn} {j : Nat} {s : Sn} (h : S[j]? = some s) (b : Int) : restOf (S.take (j + 1)) b = restOf (S.take j) b ++ if b < s.id then [s] else [] := by
  have hj : j < S.length := (List.getElem?_eq_some_iff.1 h).1
  rw [List.getElem?_eq_getElem hj] at h
  rw [List.take_succ_eq_append_getElem hj, Option.some.inj h, restOf_snoc]
set_option maxRecDepth 100000 in
theorem take_min3 {R : List Sn} {N k : Nat} (hN : R.length = N) (hk : k = min N 3) : R.take k = R.take 3 := by
  rw [List.take_eq_take_iff]
  omega
set_option maxRecDepth 100000 in
theorem restOf_le (S : List Sn) (b : Int) : (restOf S b).length ≤ S.length := List.length_filter_le _ _

end Go.Proofs.Ytdoaakohgmohkaa
