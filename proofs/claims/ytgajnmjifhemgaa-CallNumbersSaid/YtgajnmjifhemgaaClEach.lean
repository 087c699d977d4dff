/-
  The walk of the iterator that 'each' of package call hands back: the calls of a row, in order; a round may leave it, or panic. Conditions: those that each theorem names.
-/
import Derived.Test.YtgajnmjifhemgaaClSmall
import Derived.Test.YtgajnmjifhemgaaPanicRange
import Derived.Test.YtgajnmjifhemgaaScope2
namespace Go.Proofs.Ytgajnmjifhemgaa
open Go.RowKit Go.Shelf
attribute [local go_sem] Oper.semAt_some

/-- Where the iterator stands. -/
def IterC (l Bn n₀ : Nat) (A : Option Addr) (n c : Nat) (xs : List Cl) (J : List Cl → World → Prop) (a' : Act) (w' : World) : Prop :=
  ∃ (pre : List Cl) (u4 u5 u6 u7 u8 u9 u10 u11 u12 u13 u14 u15 u16 u17 : Value), a' = { tmps := #[.func (.yield l) #[] #[], .pointer (some ⟨Bn, 0, none⟩), undef, .int .i64 (pre.length : Int), u4, u5, u6, u7, u8, u9, u10, u11, u12, u13, u14, u15, u16, u17], defers := [] } ∧ pre.length ≤ n ∧ w'.cell? ⟨Bn, 0, none⟩ = some (.slice A n c) ∧ RdC w' n₀ A n xs ∧ J pre w'

set_option maxRecDepth 100000 in
set_option maxHeartbeats 1000000 in
theorem eachC1_in (m l Bn n₀ : Nat) (A : Option Addr) (n c : Nat) (xs : List Cl) (hn : n ≤ 1000000) (J : List Cl → World → Prop) (Jx : World → Prop) (Jp : List PanicEntry → World → Prop)
    (hY : ∀ (pre : List Cl) (x : Cl) W, J pre W → xs[pre.length]? = some x → YieldAt Fence.wide (m - 1) Try.prog l #[.agg #[.int .i64 x.id, .int .u8 x.kind, .int .i64 x.key, .int .i64 x.sent]] W fun e W' =>
      (e = .returned (.bool true) ∧ J (pre ++ [x]) W' ∧ KpB n₀ Bn W W') ∨ (e = .returned (.bool false) ∧ Jx W') ∨ (∃ ch, e = .panicked ch ∧ Jp ch W'))
    (W : World) (hBn : W.cell? ⟨Bn, 0, none⟩ = some (.slice A n c)) (hr : RdC W n₀ A n xs) (h0 : J [] W) :
    CallsIn Fence.wide m Try.prog 48 #[.func (.yield l) #[] #[], .pointer (some ⟨Bn, 0, none⟩)] W fun e W' => (∃ v, e = .returned v ∧
      ((∃ ys : List Cl, ys.length = n ∧ J ys W') ∨ Jx W')) ∨ (∃ ch, e = .panicked ch ∧ Jp ch W') := by
  have HY := Lib.hid hY
  clear hY
  have Hr := Lib.hid hr
  clear hr
  refine callsIn_of_wp Try.func48 rfl trivial ?_ rfl
  simp only [Try.ntmps48, List.size_toArray, List.length_cons, List.length_nil, Nat.reduceAdd, Nat.reduceSub, Array.replicate_succ, Array.replicate_zero, List.push_toArray, List.append_toArray, List.nil_append, List.cons_append]
  gi_wp2_with fail
  refine wpIn_wide.2 (wp_scope_back_behind 0 (IterC l Bn n₀ A n c xs J)
    (fun a' _ => n - (intOf (a'.tmps.getD 3 undef)).toNat) rfl (wpIn_wide (n := m).1 ?ahead) (fun a' w' hJ' => wpIn_wide (n := m).1 ?pass))
  case ahead =>
    gi_wp2_with fail
    exact ⟨[], _, _, _, _, _, _, _, _, _, _, _, _, _, _, rfl, Nat.zero_le _, hBn, Hr.out, h0⟩
  case pass =>
    obtain ⟨pre, u4, u5, u6, u7, u8, u9, u10, u11, u12, u13, u14, u15, u16, u17, rfl, hle, hBn', hr', hJp⟩ := hJ'
    clear hBn
    have Hr' := Lib.hid hr'
    have HJ := Lib.hid hJp
    clear hr' hJp h0 Hr
    by_cases hltn : pre.length < n
    rotate_left
    · have hge : decide (pre.length < n) = false := by simp; omega
      have HE := Lib.hid (show pre.length = n by omega)
      clear hle
      gi_wp2_with fail
      refine ⟨fun _ h => (by cases h), ?_⟩
      gi_wp2_with fail
      simp only [Exit.jump]
      go_end0
      exact .inl ⟨_, rfl, .inl ⟨pre, HE.out, HJ.out⟩⟩
    · have hlt : (pre.length : Int) < (n : Int) := by omega
      obtain ⟨x, hx⟩ : ∃ x, xs[pre.length]? = some x := ⟨_, List.getElem?_eq_getElem (by rw [Hr'.out.1]; exact hltn)⟩
      obtain ⟨fn, tmps, assign, body, hy, hR⟩ := HY.out pre x w' HJ.out hx
      obtain ⟨b, off, rfl, hb, hc⟩ := Hr'.out.at_ (by omega)
      obtain ⟨c0, c1, c2, c3⟩ := hc pre.length x hx
      have HR := Lib.hid hR
      clear hR hc hx
      gi_wp2_with fail
      refine ⟨fun h => (by cases h), HR.out.mono ?_⟩
      rintro e W3 (⟨rfl, hJ3, hk3⟩ | ⟨rfl, hJx3⟩ | ⟨ch, rfl, hJp3⟩)
      · have HJ3 := Lib.hid hJ3
        have HK3 := Lib.hid hk3
        clear hJ3 hk3 c0 c1 c2 c3
        gi_wp2_with fail
        refine wpIn_goto ?_
        have hb3 : W3.cell? ⟨Bn, 0, none⟩ = some (.slice (some ⟨b, off, none⟩) n c) := (World.cell?_of_block (a := ⟨Bn, 0, none⟩) HK3.out.2).trans hBn'
        have el : ((pre.length : Int) + 1) = ((pre ++ [x]).length : Int) := by simp
        rw [el]
        refine ⟨rfl, ⟨pre ++ [x], _, _, _, _, _, _, _, _, _, _, _, _, _, _, rfl, by simp; omega, hb3, Hr'.out.below HK3.out.1, HJ3.out⟩, ?_⟩
        simp [intOf]; omega
      · have HJx := Lib.hid hJx3
        clear hJx3 c0 c1 c2 c3
        gi_wp2_with fail
        simp only [Exit.jump]
        go_end0
        exact .inl ⟨_, rfl, .inr HJx.out⟩
      · have HJp := Lib.hid hJp3
        clear hJp3 c0 c1 c2 c3
        gi_wp2_with fail
        simp only [Exit.jump]
        exact ⟨rfl, .inr ⟨ch, rfl, HJp.out⟩⟩

/-- A call, as the iterator hands it over. -/
def encC (x : Cl) : Array Value := #[.agg #[.int .i64 x.id, .int .u8 x.kind, .int .i64 x.key, .int .i64 x.sent]]
def OkC_ (xs : List Cl) (pre : List Cl) (x : Cl) (_ : World) : Prop := xs[pre.length]? = some x

/-- The iterator hands over the calls, in order. -/
theorem eachC_mem (m Bn n₀ : Nat) (A : Option Addr) (n c : Nat) (xs : List Cl) (hn : n ≤ 1000000) (w : World) (hBl : Bn < w.heap.size) (hn₀ : n₀ ≤ w.heap.size) (hBn : w.cell? ⟨Bn, 0, none⟩ = some (.slice A n c)) (hr : RdC w n₀ A n xs) :
    SeqMem m Try.prog 48 #[.pointer (some ⟨Bn, 0, none⟩)] encC (OkC_ xs) (KpB n₀ Bn) (fun ys => ys.length = n) w := fun l J Jx W hW _ hY h0 =>
  (eachC1_in m l Bn n₀ A n c xs hn J Jx (fun _ _ => False) (fun pre x V hV hk => (hY pre x V hV hk).mono (fun e V' h => h.elim .inl fun h => .inr (.inl h))) W ((hW.cell (p := ⟨Bn, 0, none⟩) hBl).trans hBn) (hr.below (hW.mono hn₀)) h0).mono (by
    rintro e W' (⟨v, rfl, h⟩ | ⟨_, _, h⟩)
    · exact ⟨⟨v, rfl⟩, h⟩
    · exact h.elim)
/-- .. and a round's panic goes up through it. -/
theorem eachC_memP (m Bn n₀ : Nat) (A : Option Addr) (n c : Nat) (xs : List Cl) (hn : n ≤ 1000000) (w : World) (hBl : Bn < w.heap.size) (hn₀ : n₀ ≤ w.heap.size) (hBn : w.cell? ⟨Bn, 0, none⟩ = some (.slice A n c)) (hr : RdC w n₀ A n xs) :
    SeqMemP m Try.prog 48 #[.pointer (some ⟨Bn, 0, none⟩)] encC (OkC_ xs) (KpB n₀ Bn) (fun ys => ys.length = n) w := fun l J Jp W hW _ hY h0 =>
  (eachC1_in m l Bn n₀ A n c xs hn J (fun _ => False) Jp (fun pre x V hV hk => (hY pre x V hV hk).mono (fun e V' h => h.elim .inl fun h => .inr (.inr h))) W ((hW.cell (p := ⟨Bn, 0, none⟩) hBl).trans hBn) (hr.below (hW.mono hn₀)) h0).mono (by
    rintro e W' (⟨v, rfl, h | h⟩ | h)
    · exact .inl ⟨v, rfl, h⟩
    · exact h.elim
    · exact .inr h)

theorem keepsFrom_alloc (B : Nat) (W : World) (o : Obj) : KeepsFrom B W (W.alloc o) := (keeps_under ((Below.refl _ W).alloc (Nat.le_refl _) o)).from _
theorem keepsFrom_t {B : Nat} {A C D : World} (h : KeepsFrom B A C) (k : KeepsFrom B C D) : KeepsFrom B A D := h.trans k
theorem keepsFrom_under {W W' : World} (B : Nat) (h : Below W.heap.size W W') : KeepsFrom B W W' := (keeps_under h).from _
theorem kpB_under {n₀ Bn : Nat} {W W' : World} (h : Below W.heap.size W W') (h0 : n₀ ≤ W.heap.size) (h1 : Bn < W.heap.size) : KpB n₀ Bn W W' := ⟨h.mono h0, h.block _ h1⟩
theorem kpB_only {n₀ Bn g : Nat} {W W' : World} (h : Only g W W') (h0 : n₀ ≤ g) (h1 : Bn ≠ g) (h2 : Bn < W.heap.size) : KpB n₀ Bn W W' := ⟨h.bel (Below.refl _ _) h0, h.grown.block Bn h2 (by simpa using h1)⟩

end Go.Proofs.Ytgajnmjifhemgaa
